package tests

import (
	"math"
	"slices"
	"testing"

	"loop.example/g01097/impl"
)

// The tests of this file are for promise 6: moves from one placement to another one.

// plainMoves returns the keys that are moved: again and again, the first one is looked for whose cell in the other placement is empty.
func plainMoves(from []int, to []int) ([]int, bool) {
	taken := map[int]bool{}
	for _, cell := range from {
		taken[cell] = true
	}
	there := make([]bool, len(from))
	var moved []int
	for i := 0; i < len(from); {
		if from[i] != to[i] && !there[i] && !taken[to[i]] {
			taken[from[i]], taken[to[i]], there[i] = false, true, true
			moved = append(moved, i)
			i = 0
			continue
		}
		i++
	}
	for i := range from {
		if from[i] != to[i] && !there[i] {
			return nil, false
		}
	}
	return moved, true
}

// somePlacements returns placements of keys: the least and the greatest one, and such that are reached from them by moving keys.
func somePlacements(pairs [][2]int) [][]int {
	least, ok := leastPlacement(pairs)
	if !ok {
		return nil
	}
	greatest, _ := greatestPlacement(pairs)
	all := [][]int{least, greatest}
	for number, start := range [][]int{least, greatest, least} {
		place := slices.Clone(start)
		for _, i := range scatteredNumbers(30*(number+1), max(len(pairs), 1), number) {
			if i < len(pairs) {
				if other := pairs[i][0] + pairs[i][1] - place[i]; !slices.Contains(place, other) {
					place[i] = other
				}
			}
		}
		all = append(all, place)
	}
	return all
}

// checkMoves checks MovesBetween two placements, and that each of the moves leads to a placement.
func checkMoves(t *testing.T, c cellCase, from []int, to []int) ([]int, bool) {
	t.Helper()
	want, exists := plainMoves(from, to)
	moved, ok := impl.MovesBetween(c.seed, c.keys, c.cells, from, to)
	if ok != exists || !slices.Equal(moved, want) {
		t.Fatal("the moves between", from, "and", to, "of", c.name(), "are", want, exists, "not", moved, ok)
	}
	if !ok {
		return nil, false
	}
	place := slices.Clone(from)
	for _, i := range moved {
		if slices.Contains(place, to[i]) || from[i] == to[i] {
			t.Fatal("each key of", c.name(), "moves into an empty cell", from, to, moved)
		}
		place[i] = to[i]
		if is, fine := impl.IsPlacement(c.seed, c.keys, c.cells, place); !fine || !is {
			t.Fatal("each move of", c.name(), "leads to a placement", from, to, moved, place)
		}
	}
	if !slices.Equal(place, to) {
		t.Fatal("the moves of", c.name(), "end in the other placement", from, to, moved)
	}
	return moved, true
}

func TestMovesBetweenAllPlacements(t *testing.T) {
	moved, stuck, none := 0, 0, 0
	for _, c := range smallCases() {
		all := allPlacements(c.pairs())
		for _, from := range all {
			for _, to := range all {
				moves, ok := checkMoves(t, c, from, to)
				switch {
				case !ok:
					stuck++
				case len(moves) == 0:
					none++
				default:
					moved++
				}
			}
		}
	}
	if moved < 1000 || stuck < 100 || none < 500 {
		t.Error("each kind of answer must have been met", moved, stuck, none)
	}
}

func TestMovesBetweenPlacementsOfManyKeys(t *testing.T) {
	longest, unordered, stuck := 0, 0, 0
	for _, c := range cellCases() {
		all := somePlacements(c.pairs())
		for _, from := range all {
			for _, to := range all {
				moves, ok := checkMoves(t, c, from, to)
				if !ok {
					stuck++
					continue
				}
				longest = max(longest, len(moves))
				if !slices.IsSorted(moves) {
					unordered++
				}
			}
		}
	}
	if longest < 20 || unordered < 100 || stuck < 20 {
		t.Error("many keys must move, not all in order, and some be stuck", longest, unordered, stuck)
	}
}

// sortedCase returns the case of keys with given pairs of cells, and the order in which they stand.
func sortedCase(seed int, cells int, pairs ...[2]int) (cellCase, []int) {
	var keys []string
	for i, pair := range pairs {
		// Equal pairs get different keys.
		earlier := 0
		for _, other := range pairs[:i] {
			if other == pair {
				earlier++
			}
		}
		keys = append(keys, keysWith(seed, cells, pair[0], pair[1], earlier+1)[earlier])
	}
	sorted := slices.Sorted(slices.Values(keys))
	var order []int
	for _, key := range sorted {
		order = append(order, slices.Index(keys, key))
	}
	return cellCase{seed: seed, keys: sorted, cells: cells}, order
}

// inOrder returns a list in an order that is told by indices.
func inOrder(list []int, order []int) []int {
	var other []int
	for _, i := range order {
		other = append(other, list[i])
	}
	return other
}

// mustNotMove checks that there are no moves between placements.
func mustNotMove(t *testing.T, what string, c cellCase, from []int, to []int) {
	t.Helper()
	moved, ok := impl.MovesBetween(c.seed, c.keys, c.cells, from, to)
	mustFailList(t, what, moved, ok)
}

func TestMovesInARingAreRefused(t *testing.T) {
	c, order := sortedCase(6, 6, [2]int{0, 1}, [2]int{0, 1})
	mustNotMove(t, "two keys that change places", c, inOrder([]int{0, 1}, order), inOrder([]int{1, 0}, order))
	c, order = sortedCase(6, 6, [2]int{0, 1}, [2]int{1, 2}, [2]int{2, 0})
	mustNotMove(t, "three keys in a ring", c, inOrder([]int{0, 1, 2}, order), inOrder([]int{1, 2, 0}, order))
	mustNotMove(t, "three keys in the other ring", c, inOrder([]int{1, 2, 0}, order), inOrder([]int{0, 1, 2}, order))
	// One more key could move, but two are in a ring.
	c, order = sortedCase(6, 6, [2]int{0, 1}, [2]int{1, 0}, [2]int{3, 4})
	mustNotMove(t, "a ring beside a key that can move", c, inOrder([]int{0, 1, 3}, order), inOrder([]int{1, 0, 4}, order))
	checkMoves(t, c, inOrder([]int{0, 1, 3}, order), inOrder([]int{0, 1, 4}, order))
}

func TestMovesOfAChain(t *testing.T) {
	// Each key but the last one can move only when the next one has.
	c, order := sortedCase(6, 6, [2]int{0, 1}, [2]int{1, 2}, [2]int{2, 3}, [2]int{3, 4}, [2]int{5, 5})
	from, to := inOrder([]int{0, 1, 2, 3, 5}, order), inOrder([]int{1, 2, 3, 4, 5}, order)
	var want, back []int
	for _, key := range []int{3, 2, 1, 0} {
		want = append(want, slices.Index(order, key))
		back = append([]int{slices.Index(order, key)}, back...)
	}
	if moved, ok := checkMoves(t, c, from, to); !ok || !slices.Equal(moved, want) {
		t.Error("the chain moves from its end", moved, ok)
	}
	if moved, ok := checkMoves(t, c, to, from); !ok || !slices.Equal(moved, back) {
		t.Error("the chain moves back from its beginning", moved, ok)
	}
	if moved, ok := checkMoves(t, c, from, from); !ok || len(moved) != 0 {
		t.Error("nothing moves within a placement", moved, ok)
	}
}

func TestLeastKeyMovesFirst(t *testing.T) {
	// All three can move at once; the first two change to cells that nobody has.
	c, order := sortedCase(6, 6, [2]int{0, 1}, [2]int{2, 3}, [2]int{4, 5})
	if moved, ok := checkMoves(t, c, inOrder([]int{0, 2, 4}, order), inOrder([]int{1, 3, 5}, order)); !ok || !slices.Equal(moved, []int{0, 1, 2}) {
		t.Error("the keys move in order", moved, ok)
	}
	// A key that becomes free to move comes before later ones that were so already.
	keys := keysWith(6, 6, 0, 1, 1)
	keys = append(keys, behind(keysWith(6, 6, 1, 2, 40), keys[0]))
	keys = append(keys, behind(keysWith(6, 6, 3, 4, 40), keys[1]))
	late := cellCase{seed: 6, keys: keys, cells: 6}
	if moved, ok := checkMoves(t, late, []int{0, 1, 3}, []int{1, 2, 4}); !ok || !slices.Equal(moved, []int{1, 0, 2}) {
		t.Error("the first key moves as soon as it can", moved, ok)
	}
}

// behind returns the first of some sorted keys that is greater than another one.
func behind(keys []string, key string) string {
	return keys[slices.IndexFunc(keys, func(other string) bool { return other > key })]
}

func TestMovesOfNoKeys(t *testing.T) {
	for _, list := range [][]int{nil, {}} {
		if moved, ok := impl.MovesBetween(3, nil, 5, list, nil); !ok || len(moved) != 0 {
			t.Error("without keys nothing moves", moved, ok)
		}
	}
	mustNotMove(t, "a cell for no keys", cellCase{seed: 3, cells: 5}, []int{0}, nil)
	mustNotMove(t, "a cell for no keys in the end", cellCase{seed: 3, cells: 5}, nil, []int{0})
}

func TestMovesRefuse(t *testing.T) {
	c, order := sortedCase(6, 6, [2]int{0, 1}, [2]int{2, 3}, [2]int{2, 4}, [2]int{5, 5})
	good, other := inOrder([]int{0, 3, 2, 5}, order), inOrder([]int{1, 3, 4, 5}, order)
	checkMoves(t, c, good, other)
	bad := [][]int{nil, good[:3], append(slices.Clone(good), 1), inOrder([]int{0, 2, 2, 5}, order), inOrder([]int{1, 2, 2, 5}, order), make([]int, 1000)}
	for i := range good {
		for _, n := range []int{math.MinInt, -1, 6, 63, 64, math.MaxInt, good[(i+1)%4]} {
			spoiled := slices.Clone(good)
			spoiled[i] = n
			bad = append(bad, spoiled)
		}
	}
	for _, list := range bad {
		mustNotMove(t, "from no placement", c, list, good)
		mustNotMove(t, "to no placement", c, good, list)
		mustNotMove(t, "from and to no placement", c, list, list)
	}
	for _, n := range outsideSeeds {
		mustNotMove(t, "a wrong seed", cellCase{seed: n, keys: c.keys, cells: c.cells}, good, other)
		mustNotMove(t, "a wrong seed without keys", cellCase{seed: n, cells: c.cells}, nil, nil)
	}
	for _, n := range outsideCells {
		mustNotMove(t, "a wrong number of cells", cellCase{seed: c.seed, keys: c.keys, cells: n}, good, other)
		mustNotMove(t, "a wrong number of cells without keys", cellCase{seed: c.seed, cells: n}, nil, nil)
	}
	for _, list := range badLists() {
		zeros := make([]int, len(list))
		mustNotMove(t, "no keys", cellCase{keys: list, cells: 1}, zeros, zeros)
		mustNotMove(t, "no keys and empty placements", cellCase{keys: list, cells: 1}, nil, nil)
	}
}
