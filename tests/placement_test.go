package tests

import (
	"math"
	"slices"
	"strconv"
	"testing"

	"loop.example/g01097/impl"
)

// The tests of this file are for promise 6: cells, groups of keys, placements and crowds.

// outsideCells are numbers of cells that no keys have.
var outsideCells = []int{math.MinInt, -1, 0, impl.MaxCells + 1, math.MaxInt}

// plainCells returns the first and the second cell of each key.
func plainCells(seed int, keys []string, cells int) [][2]int {
	firsts, seconds := plainPlaces(seed, 0, keys, cells), plainPlaces(seed, 1, keys, cells)
	pairs := make([][2]int, len(keys))
	for i := range pairs {
		pairs[i] = [2]int{firsts[i], seconds[i]}
	}
	return pairs
}

// haveCommonCell reports whether two keys have a common cell.
func haveCommonCell(a [2]int, b [2]int) bool {
	return a[0] == b[0] || a[0] == b[1] || a[1] == b[0] || a[1] == b[1]
}

// plainGroups returns the groups of keys: two of them are in the same one if they have a common cell, as long as this changes anything.
func plainGroups(pairs [][2]int) [][]int {
	of := make([]int, len(pairs))
	for i := range of {
		of[i] = i
	}
	for changed := true; changed; {
		changed = false
		for i := range pairs {
			for k := range i {
				if of[i] != of[k] && haveCommonCell(pairs[i], pairs[k]) {
					of[i], of[k] = min(of[i], of[k]), min(of[i], of[k])
					changed = true
				}
			}
		}
	}
	var groups [][]int
	for first := range pairs {
		var group []int
		for i := range pairs {
			if of[i] == first {
				group = append(group, i)
			}
		}
		if group != nil {
			groups = append(groups, group)
		}
	}
	return groups
}

// cellsAmong returns the different cells of the keys with some indices.
func cellsAmong(pairs [][2]int, list []int) []int {
	var all []int
	for _, i := range list {
		all = append(all, pairs[i][0], pairs[i][1])
	}
	slices.Sort(all)
	return slices.Compact(all)
}

// isPlainPlacement reports whether a list has for each key one of its cells, all of them different.
func isPlainPlacement(pairs [][2]int, list []int) bool {
	if len(list) != len(pairs) || haveEqual(list) {
		return false
	}
	for i, cell := range list {
		if cell != pairs[i][0] && cell != pairs[i][1] {
			return false
		}
	}
	return true
}

// isPlainCrowd reports whether a list tells increasing indices of keys that have fewer cells than there are of them.
func isPlainCrowd(pairs [][2]int, list []int) bool {
	for k, i := range list {
		if i < 0 || i >= len(pairs) || k > 0 && list[k-1] >= i {
			return false
		}
	}
	return len(list) > 0 && len(cellsAmong(pairs, list)) < len(list)
}

// allPlacements returns all placements, found by trying all cells, in lexicographic order.
func allPlacements(pairs [][2]int) [][]int {
	all := [][]int{{}}
	for _, pair := range pairs {
		var longer [][]int
		for _, list := range all {
			for _, cell := range cellsAmong([][2]int{pair}, []int{0}) {
				if !slices.Contains(list, cell) {
					longer = append(longer, append(slices.Clone(list), cell))
				}
			}
		}
		all = longer
	}
	return all
}

// makeRoom lets a key have one of its cells, and lets the key that has it have another one, if need be; a cell that is tried is tried no more.
func makeRoom(pairs [][2]int, i int, owners *[impl.MaxCells]int, tried *[impl.MaxCells]bool) bool {
	for _, cell := range pairs[i] {
		if tried[cell] {
			continue
		}
		tried[cell] = true
		if owners[cell] < 0 || makeRoom(pairs, owners[cell], owners, tried) {
			owners[cell] = i
			return true
		}
	}
	return false
}

// plainMost returns the greatest number of keys that can have cells of their own: the keys come one by one, and others make room for them.
func plainMost(pairs [][2]int) int {
	var owners [impl.MaxCells]int
	for cell := range owners {
		owners[cell] = -1
	}
	most := 0
	for i := range pairs {
		if makeRoom(pairs, i, &owners, &[impl.MaxCells]bool{}) {
			most++
		}
	}
	return most
}

// placementBy returns the placement in which each key, in order, has the cell that choose prefers, if the others can be placed then.
func placementBy(pairs [][2]int, choose func(a int, b int) int) ([]int, bool) {
	if plainMost(pairs) < len(pairs) {
		return nil, false
	}
	settled := slices.Clone(pairs)
	var list []int
	for i, pair := range pairs {
		cell := choose(pair[0], pair[1])
		settled[i] = [2]int{cell, cell}
		if plainMost(settled) < len(pairs) {
			cell = pair[0] + pair[1] - cell
			settled[i] = [2]int{cell, cell}
		}
		list = append(list, cell)
	}
	return list, true
}

// leastPlacement returns the lexicographically least placement.
func leastPlacement(pairs [][2]int) ([]int, bool) {
	return placementBy(pairs, func(a int, b int) int { return min(a, b) })
}

// greatestPlacement returns the lexicographically greatest placement.
func greatestPlacement(pairs [][2]int) ([]int, bool) {
	return placementBy(pairs, func(a int, b int) int { return max(a, b) })
}

// cellCase tells keys with cells.
type cellCase struct {
	seed  int
	keys  []string
	cells int
}

// pairs returns the cells of its keys.
func (c cellCase) pairs() [][2]int {
	return plainCells(c.seed, c.keys, c.cells)
}

// name tells a case in few words.
func (c cellCase) name() string {
	return strconv.Itoa(len(c.keys)) + " keys among " + strconv.Itoa(c.cells) + " cells for the seed " + strconv.Itoa(c.seed)
}

// smallCases returns cases of few keys, so that all lists of them can be looked at.
func smallCases() []cellCase {
	var all []cellCase
	for _, keys := range [][]string{nil, {"a"}, {"a", "b"}, {"!", "}", "}}}}}}}}}}}}"}, {"a", "b", "c", "d"}, manyKeys(5), manyKeys(6), manyKeys(7)} {
		for seed := range 20 {
			for _, cells := range []int{1, 2, 3, 4, 5, 6, 7, 8, 10, 14} {
				all = append(all, cellCase{seed: 7 * seed, keys: keys, cells: cells})
			}
		}
	}
	return all
}

// fullCases returns cases of the most keys that have a placement, in as many cells as keys and in more.
func fullCases() []cellCase {
	most := manyKeys(impl.MaxKeys)
	all := []cellCase{{seed: 504, keys: manyKeys(30), cells: 30}, {seed: 46, keys: manyKeys(30), cells: 33}, {seed: 8996, keys: manyKeys(25), cells: 25}}
	for cells, seed := range map[int]int{40: 4437, 41: 5543, 42: 9081, 43: 301, 48: 5, 52: 6, 60: 25, 63: 22, 64: 11} {
		all = append(all, cellCase{seed: seed, keys: most, cells: cells}, cellCase{seed: seed, keys: most, cells: cells - 1})
	}
	return all
}

// cellCases returns cases of all kinds.
func cellCases() []cellCase {
	all := append(smallCases(), fullCases()...)
	for _, keys := range keyLists() {
		for _, seed := range []int{0, 1, 2, 3, 5, 28, 77, 5000, impl.MaxSeed} {
			for _, cells := range []int{1, 2, 3, 7, 13, 16, 23, 31, 40, 50, impl.MaxCells - 1, impl.MaxCells} {
				all = append(all, cellCase{seed: seed, keys: keys, cells: cells})
			}
		}
	}
	return all
}

func TestLimitsOfCuckooTables(t *testing.T) {
	limits := [3]int{impl.MaxCells, impl.MaxStash, impl.MaxMoves}
	if limits != [3]int{64, 4, 40} {
		t.Error("the document names other numbers than", limits)
	}
}

func TestCellsOf(t *testing.T) {
	same := 0
	for _, seed := range someSeeds {
		for cells := 1; cells <= impl.MaxCells; cells++ {
			for _, key := range anyKeys() {
				want := plainCells(seed, []string{key}, cells)[0]
				first, second, ok := impl.CellsOf(seed, key, cells)
				if !ok || first != want[0] || second != want[1] {
					t.Fatalf("CellsOf(%d, %s, %d) = %d, %d, %v; want %v", seed, key, cells, first, second, ok, want)
				}
				if first == second && cells > 1 {
					same++
				}
			}
		}
	}
	if same < 100 {
		t.Error("some keys must have the same cell twice", same)
	}
	// The least and the greatest hash are those of the keys h and g for the seed 273 and the part 0.
	if first, _, ok := impl.CellsOf(273, "h", impl.MaxCells); !ok || first != 0 {
		t.Error("the first cell of h is the first of all", first, ok)
	}
	if first, _, ok := impl.CellsOf(273, "g", impl.MaxCells); !ok || first != impl.MaxCells-1 {
		t.Error("the first cell of g is the last of all", first, ok)
	}
}

func TestCellsOfRefuses(t *testing.T) {
	refuse := func(what string, seed int, key string, cells int) {
		first, second, ok := impl.CellsOf(seed, key, cells)
		mustFail(t, "CellsOf "+what, [2]int{first, second}, ok)
	}
	for _, n := range outsideSeeds {
		refuse("the seed "+strconv.Itoa(n), n, "k", 9)
	}
	for _, n := range outsideCells {
		refuse("so many cells: "+strconv.Itoa(n), 0, "k", n)
	}
	for _, key := range badKeys() {
		refuse("no key", 0, key, 9)
	}
}

func TestKeyGroups(t *testing.T) {
	most, joined := 0, 0
	for _, c := range cellCases() {
		want := plainGroups(c.pairs())
		groups, ok := impl.KeyGroups(c.seed, c.keys, c.cells)
		if !ok || !sameLists(groups, want) {
			t.Fatal("the groups of", c.name(), "are", want, "not", groups, ok)
		}
		most = max(most, len(groups))
		for _, group := range groups {
			if len(group) > 3 && len(groups) > 3 {
				joined++
			}
		}
	}
	if most < 12 || joined < 100 {
		t.Error("there must be many groups, and groups of many keys", most, joined)
	}
}

func TestGroupsHaveNoCommonCells(t *testing.T) {
	for _, c := range cellCases() {
		groups, ok := impl.KeyGroups(c.seed, c.keys, c.cells)
		if !ok {
			t.Fatal("there are groups of", c.name())
		}
		var seenKeys, seenCells []int
		for _, group := range groups {
			seenKeys = append(seenKeys, group...)
			seenCells = append(seenCells, cellsAmong(c.pairs(), group)...)
		}
		if len(seenKeys) != len(c.keys) || haveEqual(seenKeys) || haveEqual(seenCells) {
			t.Fatal("each key of", c.name(), "and each cell is in one group", groups)
		}
	}
}

func TestGroupsOfAChain(t *testing.T) {
	// The first and the last key of a chain hang together only by all that are between them.
	var keys []string
	for cell := range 9 {
		keys = append(keys, keysWith(4, 12, cell, cell+1, 1)...)
	}
	alone := keysWith(4, 12, 11, 11, 1)[0]
	keys = append(keys, alone)
	slices.Sort(keys)
	at := slices.Index(keys, alone)
	chain := without([]int{0, 1, 2, 3, 4, 5, 6, 7, 8, 9}, at)
	want := [][]int{chain, {at}}
	if at == 0 {
		want = [][]int{{at}, chain}
	}
	if groups, ok := impl.KeyGroups(4, keys, 12); !ok || !sameLists(groups, want) {
		t.Error("the groups of a chain and a key alone are", want, "not", groups, ok)
	}
	if most, ok := impl.MostPlaced(4, keys, 12); !ok || most != 10 {
		t.Error("all keys of the chain have a placement", most, ok)
	}
}

func TestPlacementsByDefinition(t *testing.T) {
	placed, crowded := 0, 0
	for _, c := range smallCases() {
		pairs := c.pairs()
		all := allPlacements(pairs)
		place, ok := impl.PlaceKeys(c.seed, c.keys, c.cells)
		if ok != (len(all) > 0) || ok && !slices.Equal(place, all[0]) {
			t.Fatal("the placements of", c.name(), "are", all, "but the least one is told to be", place, ok)
		}
		crowds, most := 0, 0
		for parts := range 1 << len(pairs) {
			var list []int
			var named [][2]int
			for i, pair := range pairs {
				if parts>>i&1 == 1 {
					list, named = append(list, i), append(named, pair)
				}
			}
			if len(allPlacements(named)) > 0 {
				most = max(most, len(list))
			}
			is, fine := impl.IsCrowd(c.seed, c.keys, c.cells, list)
			if !fine || is != isPlainCrowd(pairs, list) {
				t.Fatal("the list", list, "is a crowd of", c.name(), is, fine)
			}
			if is {
				crowds++
			}
		}
		if told, fine := impl.MostPlaced(c.seed, c.keys, c.cells); !fine || told != most {
			t.Fatal("of", c.name(), "as many have a placement:", most, "not", told, fine)
		}
		if ok == (crowds > 0) {
			t.Fatal("either there is a placement of", c.name(), "or a crowd", all, crowds)
		}
		if ok {
			placed++
		} else {
			crowded++
		}
	}
	if placed < 200 || crowded < 200 {
		t.Error("both must have been met", placed, crowded)
	}
}

func TestEitherPlacementOrCrowd(t *testing.T) {
	placed, crowded := 0, 0
	for _, c := range cellCases() {
		place, hasPlace := impl.PlaceKeys(c.seed, c.keys, c.cells)
		crowd, hasCrowd := impl.CrowdOf(c.seed, c.keys, c.cells)
		most, told := impl.MostPlaced(c.seed, c.keys, c.cells)
		if hasPlace == hasCrowd || !told || hasPlace != (most == len(c.keys)) {
			t.Fatal("either a placement of", c.name(), "is told or a crowd", place, crowd, most)
		}
		isPlace, fine := impl.IsPlacement(c.seed, c.keys, c.cells, place)
		if !fine || isPlace != hasPlace && len(c.keys) > 0 {
			t.Fatal("a placement of", c.name(), "that is told is one", place, isPlace, fine)
		}
		isCrowd, fine := impl.IsCrowd(c.seed, c.keys, c.cells, crowd)
		if !fine || isCrowd != hasCrowd {
			t.Fatal("a crowd of", c.name(), "that is told is one", crowd, isCrowd, fine)
		}
		if hasPlace {
			placed++
		} else {
			crowded++
			mustFailList(t, "PlaceKeys of "+c.name(), place, hasPlace)
		}
	}
	if placed < 300 || crowded < 300 {
		t.Error("both must have been met", placed, crowded)
	}
}

func TestPlaceKeysAndMostPlaced(t *testing.T) {
	largest, turned := 0, 0
	for _, c := range cellCases() {
		pairs := c.pairs()
		want, exists := leastPlacement(pairs)
		place, ok := impl.PlaceKeys(c.seed, c.keys, c.cells)
		if ok != exists || !slices.Equal(place, want) {
			t.Fatal("the least placement of", c.name(), "is", want, exists, "not", place, ok)
		}
		if ok {
			largest = max(largest, len(place))
		}
		for i, cell := range place {
			if cell != min(pairs[i][0], pairs[i][1]) {
				turned++
			}
		}
		most, ok := impl.MostPlaced(c.seed, c.keys, c.cells)
		if !ok || most != plainMost(pairs) {
			t.Fatal("of", c.name(), "as many have a placement:", plainMost(pairs), "not", most, ok)
		}
		sum := 0
		for _, group := range plainGroups(pairs) {
			sum += min(len(group), len(cellsAmong(pairs, group)))
		}
		if most != sum {
			t.Fatal("the keys of", c.name(), "are placed group by group", most, sum)
		}
	}
	if largest != impl.MaxKeys || turned < 300 {
		t.Error("as many keys as the limit must be placed, and some not in their least cells", largest, turned)
	}
}

func TestMostPlacedNeedsTheGroups(t *testing.T) {
	// Among two cells of one group and six that nobody has, two of three keys are placed; the empty cells of another group do not help.
	keys := append(keysWith(9, 8, 0, 1, 3), keysWith(9, 8, 4, 5, 1)...)
	slices.Sort(keys)
	if most, ok := impl.MostPlaced(9, keys, 8); !ok || most != 3 {
		t.Error("one of three keys in two cells is left out", most, ok)
	}
	same := append(keysWith(9, 8, 3, 3, 2), keysWith(9, 8, 6, 7, 2)...)
	slices.Sort(same)
	if most, ok := impl.MostPlaced(9, same, 8); !ok || most != 3 {
		t.Error("one of two keys in the same only cell is left out", most, ok)
	}
}

func TestCrowdOf(t *testing.T) {
	later, before := 0, 0
	all := cellCases()
	for seed := range 300 {
		all = append(all, cellCase{seed: 3 * seed, keys: manyKeys(13), cells: 16}, cellCase{seed: seed, keys: manyKeys(20), cells: 31}, cellCase{seed: seed, keys: manyKeys(30), cells: 50})
	}
	for _, c := range all {
		pairs := c.pairs()
		groups := plainGroups(pairs)
		at := slices.IndexFunc(groups, func(group []int) bool { return isPlainCrowd(pairs, group) })
		crowd, ok := impl.CrowdOf(c.seed, c.keys, c.cells)
		if at < 0 {
			mustFailList(t, "CrowdOf "+c.name(), crowd, ok)
			continue
		}
		if !ok || !slices.Equal(crowd, groups[at]) {
			t.Fatal("the first crowd among the groups of", c.name(), "is", groups[at], "not", crowd, ok)
		}
		if at > 0 {
			later++
		}
		if slices.ContainsFunc(groups[at+1:], func(group []int) bool { return isPlainCrowd(pairs, group) }) {
			before++
		}
	}
	if later < 100 || before < 15 {
		t.Error("some crowds must come behind other groups, and some before another crowd", later, before)
	}
}

// checkShortLists checks a function that asks about a list against a plain look at it, for all short lists of small numbers.
func checkShortLists(t *testing.T, ask func(seed int, keys []string, cells int, list []int) (bool, bool), isPlain func(pairs [][2]int, list []int) bool) {
	t.Helper()
	found := 0
	for seed := range 12 {
		for _, keys := range [][]string{nil, {"a"}, {"a", "b"}, {"a", "b", "c"}, manyKeys(4)} {
			for _, cells := range []int{1, 2, 3, 5} {
				pairs := plainCells(seed, keys, cells)
				for _, list := range shortLists(5) {
					is, ok := ask(seed, keys, cells, list)
					if !ok || is != isPlain(pairs, list) {
						t.Fatal("the list", list, "is told of the cells", pairs, is, ok)
					}
					if is {
						found++
					}
				}
			}
		}
	}
	if found < 100 {
		t.Error("some lists must be met of which it is told", found)
	}
}

func TestIsPlacementOfAllLists(t *testing.T) {
	checkShortLists(t, impl.IsPlacement, isPlainPlacement)
}

func TestIsPlacementOfSpoiledLists(t *testing.T) {
	for _, c := range cellCases() {
		pairs := c.pairs()
		place, ok := leastPlacement(pairs)
		if !ok {
			for _, pair := range pairs {
				place = append(place, pair[0])
			}
		}
		all := [][]int{nil, {}, place, append(slices.Clone(place), 0), append(slices.Clone(place), c.cells), append(slices.Clone(place), -1), make([]int, 1000)}
		for i := range place {
			for _, n := range []int{math.MinInt, -64, -1, 0, place[0], pairs[i][0], pairs[i][1], c.cells - 1, c.cells, 63, 64, 128, math.MaxInt} {
				spoiled := slices.Clone(place)
				spoiled[i] = n
				all = append(all, spoiled)
			}
			all = append(all, place[:i])
		}
		for _, list := range all {
			if is, ok := impl.IsPlacement(c.seed, c.keys, c.cells, list); !ok || is != isPlainPlacement(pairs, list) {
				t.Fatal("the list", list, "is a placement of", c.name(), is, ok)
			}
		}
	}
}

func TestIsCrowdOfAllLists(t *testing.T) {
	checkShortLists(t, impl.IsCrowd, isPlainCrowd)
}

func TestIsCrowdOfSpoiledLists(t *testing.T) {
	for _, c := range cellCases() {
		pairs := c.pairs()
		var whole []int
		for i := range pairs {
			whole = append(whole, i)
		}
		all := [][]int{nil, {}, whole, make([]int, 1000), append(slices.Clone(whole), len(whole))}
		for _, list := range append(plainGroups(pairs), whole) {
			backwards := slices.Clone(list)
			slices.Reverse(backwards)
			all = append(all, list, backwards)
			for k := range list {
				all = append(all, slices.Delete(slices.Clone(list), k, k+1), slices.Insert(slices.Clone(list), k, list[k]))
			}
			for _, n := range []int{math.MinInt, -1, 0, len(pairs) - 1, len(pairs), impl.MaxKeys, math.MaxInt} {
				all = append(all, append(slices.Clone(list), n), append([]int{n}, list...))
			}
		}
		for _, list := range all {
			if is, ok := impl.IsCrowd(c.seed, c.keys, c.cells, list); !ok || is != isPlainCrowd(pairs, list) {
				t.Fatal("the list", list, "is a crowd of", c.name(), is, ok)
			}
		}
	}
}

func TestPlacementsOfNoKeys(t *testing.T) {
	for _, keys := range [][]string{nil, {}} {
		for _, cells := range []int{1, 7, impl.MaxCells} {
			if groups, ok := impl.KeyGroups(5, keys, cells); !ok || len(groups) != 0 {
				t.Error("no keys have no groups", groups, ok)
			}
			if place, ok := impl.PlaceKeys(5, keys, cells); !ok || len(place) != 0 {
				t.Error("no keys have an empty placement", place, ok)
			}
			if is, ok := impl.IsPlacement(5, keys, cells, nil); !ok || !is {
				t.Error("the empty list is the placement of no keys", is, ok)
			}
			if is, ok := impl.IsPlacement(5, keys, cells, []int{0}); !ok || is {
				t.Error("a list with a cell is no placement of no keys", is, ok)
			}
			crowd, ok := impl.CrowdOf(5, keys, cells)
			mustFailList(t, "CrowdOf no keys", crowd, ok)
			if is, ok := impl.IsCrowd(5, keys, cells, nil); !ok || is {
				t.Error("the empty list is no crowd", is, ok)
			}
			if most, ok := impl.MostPlaced(5, keys, cells); !ok || most != 0 {
				t.Error("none of no keys is placed", most, ok)
			}
		}
	}
}

func TestPlacementsRefuse(t *testing.T) {
	refuse := func(what string, seed int, keys []string, cells int) {
		groups, ok := impl.KeyGroups(seed, keys, cells)
		mustFailList(t, "KeyGroups of "+what, groups, ok)
		place, ok := impl.PlaceKeys(seed, keys, cells)
		mustFailList(t, "PlaceKeys of "+what, place, ok)
		crowd, ok := impl.CrowdOf(seed, keys, cells)
		mustFailList(t, "CrowdOf "+what, crowd, ok)
		most, ok := impl.MostPlaced(seed, keys, cells)
		mustFail(t, "MostPlaced of "+what, most, ok)
		for _, list := range [][]int{nil, {0}, {0, 1}, make([]int, len(keys)), {-1}} {
			is, ok := impl.IsPlacement(seed, keys, cells, list)
			mustFail(t, "IsPlacement of "+what, is, ok)
			is, ok = impl.IsCrowd(seed, keys, cells, list)
			mustFail(t, "IsCrowd of "+what, is, ok)
		}
	}
	for _, keys := range [][]string{nil, {"a"}, {"a", "b"}} {
		for _, n := range outsideSeeds {
			refuse("the seed "+strconv.Itoa(n), n, keys, 1)
		}
		for _, n := range outsideCells {
			refuse("so many cells: "+strconv.Itoa(n), 0, keys, n)
		}
	}
	for _, list := range badLists() {
		refuse("no keys", 0, list, 1)
		refuse("no keys among most cells", 0, list, impl.MaxCells)
	}
}

// arePlainlyPlaced reports whether there is a placement of keys.
func arePlainlyPlaced(seed int, keys []string, cells int) bool {
	return plainMost(plainCells(seed, keys, cells)) == len(keys)
}

// checkFirstCuckooSeed checks FirstCuckooSeed against a look at each seed.
func checkFirstCuckooSeed(t *testing.T, keys []string, cells int, from int, until int) {
	t.Helper()
	seed, ok := impl.FirstCuckooSeed(keys, cells, from, until)
	suits := func(n int) bool { return arePlainlyPlaced(n, keys, cells) }
	mustBeFirst(t, "FirstCuckooSeed of "+strconv.Itoa(len(keys))+" keys, "+strconv.Itoa(cells), from, until, suits, seed, ok)
}

func TestFirstCuckooSeed(t *testing.T) {
	for _, keys := range keyLists() {
		for _, cells := range []int{1, 2, 3, 5, 10, 13, 20, 30, 40, impl.MaxCells - 1, impl.MaxCells} {
			for _, from := range []int{0, 1, 37, 5000, impl.MaxSeed - 4, impl.MaxSeed} {
				for _, count := range []int{0, 1, 2, 5, 30} {
					if from+count <= impl.MaxSeed+1 {
						checkFirstCuckooSeed(t, keys, cells, from, from+count)
					}
				}
			}
			checkFirstCuckooSeed(t, keys, cells, impl.MaxSeed+1, impl.MaxSeed+1)
		}
	}
	if seed, ok := impl.FirstCuckooSeed(nil, 1, 9, 109); !ok || seed != 9 {
		t.Error("without keys each seed has a placement", seed, ok)
	}
	if seed, ok := impl.FirstCuckooSeed([]string{"a"}, 1, impl.MaxSeed, impl.MaxSeed+1); !ok || seed != impl.MaxSeed {
		t.Error("a single key has a placement for each seed", seed, ok)
	}
}

func TestFirstCuckooSeedOfTheWidestRange(t *testing.T) {
	// These keys have a placement in as many cells for the seed 2912, and for none of the 129 seeds before it.
	keys := manyKeys(13)
	for _, from := range []int{2811, 2812, 2813, 2912, 2913} {
		checkFirstCuckooSeed(t, keys, 13, from, from+100)
	}
	if seed, ok := impl.FirstCuckooSeed(keys, 13, 2813, 2913); !ok || seed != 2912 {
		t.Error("the last seed of a hundred is told", seed, ok)
	}
	seed, ok := impl.FirstCuckooSeed(keys, 13, 2812, 2912)
	mustFail(t, "FirstCuckooSeed of a hundred seeds without a placement", seed, ok)
	seed, ok = impl.FirstCuckooSeed(keys, 13, 2812, 2913)
	mustFail(t, "FirstCuckooSeed of a hundred and one seeds", seed, ok)
	// These have one in as many cells for the greatest seed, and for none of the 99 before it.
	var others []string
	for i := range 26 {
		others = append(others, "k"+strconv.Itoa(156+i))
	}
	if seed, ok := impl.FirstCuckooSeed(others, 26, impl.MaxSeed-99, impl.MaxSeed+1); !ok || seed != impl.MaxSeed {
		t.Error("the greatest seed is told", seed, ok)
	}
	seed, ok = impl.FirstCuckooSeed(others, 26, impl.MaxSeed-99, impl.MaxSeed)
	mustFail(t, "FirstCuckooSeed of all but the greatest seed", seed, ok)
}

func TestFirstCuckooSeedRefuses(t *testing.T) {
	for _, r := range badSeedRanges {
		for _, keys := range [][]string{nil, {"a"}} {
			seed, ok := impl.FirstCuckooSeed(keys, 5, r[0], r[1])
			mustFail(t, "FirstCuckooSeed from "+strconv.Itoa(r[0])+" until "+strconv.Itoa(r[1]), seed, ok)
		}
	}
	for _, n := range outsideCells {
		for _, keys := range [][]string{nil, {"a"}} {
			seed, ok := impl.FirstCuckooSeed(keys, n, 3, 50)
			mustFail(t, "FirstCuckooSeed for cells "+strconv.Itoa(n), seed, ok)
		}
	}
	for _, list := range badLists() {
		seed, ok := impl.FirstCuckooSeed(list, impl.MaxCells, 3, 50)
		mustFail(t, "FirstCuckooSeed of no keys", seed, ok)
	}
}

// checkLeastCells checks LeastCells against a look at each number of cells, for each limit, and returns the least one.
func checkLeastCells(t *testing.T, seed int, keys []string) int {
	t.Helper()
	return mustBeLeast(t, "LeastCells for "+strconv.Itoa(seed)+" of "+strconv.Itoa(len(keys))+" keys", impl.MaxCells,
		func(n int) bool { return arePlainlyPlaced(seed, keys, n) },
		func(most int) (int, bool) { return impl.LeastCells(seed, keys, most) })
}

func TestLeastCells(t *testing.T) {
	later := 0
	for _, keys := range keyLists() {
		for _, seed := range someSeeds {
			if least := checkLeastCells(t, seed, keys); least > len(keys)+3 {
				later++
			}
		}
	}
	if later < 10 {
		t.Error("some keys must need more cells", later)
	}
	most := manyKeys(impl.MaxKeys)
	for _, c := range [][2]int{{11, impl.MaxCells}, {22, impl.MaxCells - 1}, {4437, impl.MaxKeys}, {8, impl.MaxCells + 1}} {
		if least := checkLeastCells(t, c[0], most); least != c[1] {
			t.Error("for the seed", c[0], "the keys must need as many cells:", c[1], "not", least)
		}
	}
	if least := checkLeastCells(t, 0, nil); least != 1 {
		t.Error("without keys the least number of cells is 1", least)
	}
}

func TestLeastCellsRefuses(t *testing.T) {
	for _, keys := range [][]string{nil, {"a"}} {
		for _, n := range outsideCells {
			cells, ok := impl.LeastCells(0, keys, n)
			mustFail(t, "LeastCells up to "+strconv.Itoa(n), cells, ok)
		}
		for _, n := range outsideSeeds {
			cells, ok := impl.LeastCells(n, keys, 5)
			mustFail(t, "LeastCells for the seed "+strconv.Itoa(n), cells, ok)
		}
	}
	for _, list := range badLists() {
		cells, ok := impl.LeastCells(0, list, impl.MaxCells)
		mustFail(t, "LeastCells of no keys", cells, ok)
	}
}

func TestExampleOfCells(t *testing.T) {
	for _, key := range anyKeys() {
		if first, second, ok := impl.CellsOf(0, key, 1); !ok || first != 0 || second != 0 {
			t.Error("each key has the cells 0 and 0 of one cell", key, first, second, ok)
		}
	}
	for count := 2; count <= impl.MaxKeys; count++ {
		keys := manyKeys(count)
		for i := range count {
			for k := range i {
				if is, ok := impl.IsCrowd(0, keys, 1, []int{k, i}); !ok || !is {
					t.Error("any two keys of one cell are a crowd", k, i, is, ok)
				}
			}
		}
		if crowd, ok := impl.CrowdOf(0, keys, 1); !ok || len(crowd) != count {
			t.Error("all keys of one cell are a crowd", crowd, ok)
		}
	}
}
