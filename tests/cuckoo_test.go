package tests

import (
	"math"
	"slices"
	"strconv"
	"strings"
	"testing"

	"loop.example/g01097/impl"
)

// The tests of this file are for promise 6: cuckoo tables.

// keysWith returns the first so many keys, in order, with given cells.
func keysWith(seed int, cells int, first int, second int, count int) []string {
	var keys []string
	for n := 0; len(keys) < count; n++ {
		if n == 26*26*26 {
			panic("too few keys have these cells")
		}
		key := string([]byte{'a' + byte(n/26/26), 'a' + byte(n/26%26), 'a' + byte(n%26)})
		if plainCells(seed, []string{key}, cells)[0] == [2]int{first, second} {
			keys = append(keys, key)
		}
	}
	return keys
}

// cloneTable returns an equal table in new memory.
func cloneTable(c impl.Cuckoo) impl.Cuckoo {
	return impl.Cuckoo{Seed: c.Seed, Slots: slices.Clone(c.Slots), Stash: slices.Clone(c.Stash)}
}

// sameTable reports whether two tables are equal.
func sameTable(a impl.Cuckoo, b impl.Cuckoo) bool {
	return a.Seed == b.Seed && slices.Equal(a.Slots, b.Slots) && slices.Equal(a.Stash, b.Stash)
}

// mustFailTable checks that a call failed with the zero table.
func mustFailTable(t *testing.T, what string, c impl.Cuckoo, ok bool) {
	t.Helper()
	if ok || !sameTable(c, impl.Cuckoo{}) {
		t.Errorf("%s: got %v, %v; it must fail with the zero table", what, c, ok)
	}
}

// keysInTable returns all keys of a table, in order.
func keysInTable(c impl.Cuckoo) []string {
	var keys []string
	for _, key := range append(slices.Clone(c.Slots), c.Stash...) {
		if key != "" {
			keys = append(keys, key)
		}
	}
	slices.Sort(keys)
	return keys
}

// cellsIn returns the cells of a key in a table.
func cellsIn(c impl.Cuckoo, key string) [2]int {
	return plainCells(c.Seed, []string{key}, len(c.Slots))[0]
}

// plainFind returns where a key is in a table.
func plainFind(c impl.Cuckoo, key string) (int, bool) {
	for place, other := range append(slices.Clone(c.Slots), c.Stash...) {
		if other == key && key != "" {
			return place, true
		}
	}
	return 0, false
}

// plainInsert returns the table with one more key, and how many keys were thrown out.
func plainInsert(c impl.Cuckoo, key string, moves int) (impl.Cuckoo, int, bool) {
	if _, there := plainFind(c, key); there || len(keysInTable(c)) >= 40 {
		return impl.Cuckoo{}, 0, false
	}
	c = cloneTable(c)
	both := cellsIn(c, key)
	if c.Slots[both[0]] != "" && c.Slots[both[1]] == "" {
		c.Slots[both[1]] = key
		return c, 0, true
	}
	goal := both[0]
	for thrown := 0; ; thrown++ {
		sitting := c.Slots[goal]
		if sitting == "" {
			c.Slots[goal] = key
			return c, thrown, true
		}
		if thrown == moves {
			c.Stash = append(c.Stash, key)
			slices.Sort(c.Stash)
			if len(c.Stash) > 4 {
				return impl.Cuckoo{}, 0, false
			}
			return c, thrown, true
		}
		c.Slots[goal] = key
		if both := cellsIn(c, sitting); both[0] == goal {
			goal = both[1]
		} else {
			goal = both[0]
		}
		key = sitting
	}
}

// plainRemove returns the table without a key.
func plainRemove(c impl.Cuckoo, key string) (impl.Cuckoo, bool) {
	place, there := plainFind(c, key)
	if !there {
		return impl.Cuckoo{}, false
	}
	c = cloneTable(c)
	if place < len(c.Slots) {
		c.Slots[place] = ""
	} else {
		c.Stash = slices.DeleteFunc(c.Stash, func(other string) bool { return other == key })
	}
	return c, true
}

// plainUnstash returns the table in which the keys of the Stash have gone into empty cells.
func plainUnstash(c impl.Cuckoo) impl.Cuckoo {
	rest := cloneTable(c)
	for _, key := range c.Stash {
		both := cellsIn(c, key)
		cell := both[0]
		if rest.Slots[cell] != "" {
			cell = both[1]
		}
		if rest.Slots[cell] == "" {
			rest.Slots[cell] = key
			rest.Stash = slices.DeleteFunc(rest.Stash, func(other string) bool { return other == key })
		}
	}
	return rest
}

// plainTable returns the table into which all keys are put.
func plainTable(seed int, keys []string, cells int, moves int) (impl.Cuckoo, bool) {
	c := impl.Cuckoo{Seed: seed, Slots: make([]string, cells)}
	ok := true
	for _, key := range keys {
		if c, _, ok = plainInsert(c, key, moves); !ok {
			return impl.Cuckoo{}, false
		}
	}
	return c, true
}

// placedTable returns the table with keys in given cells and others in the Stash.
func placedTable(seed int, cells int, slots map[int]string, stash ...string) impl.Cuckoo {
	c := impl.Cuckoo{Seed: seed, Slots: make([]string, cells), Stash: slices.Sorted(slices.Values(stash))}
	for cell, key := range slots {
		c.Slots[cell] = key
	}
	return c
}

// mostKeysTable returns a table with the most keys, four of which are in the Stash if told so.
func mostKeysTable(stashed bool) impl.Cuckoo {
	keys := manyKeys(impl.MaxKeys)
	place, _ := leastPlacement(plainCells(11, keys, impl.MaxCells))
	c := impl.Cuckoo{Seed: 11, Slots: make([]string, impl.MaxCells)}
	for i, cell := range place {
		c.Slots[cell] = keys[i]
	}
	if stashed {
		c.Stash = keys[7:11]
		for _, cell := range place[7:11] {
			c.Slots[cell] = ""
		}
	}
	return c
}

// handTables returns tables that are put together by hand: with keys in their second or only cells, and such that no insertions lead to.
func handTables() []impl.Cuckoo {
	a, b, same := keysWith(3, 8, 2, 5, 9), keysWith(3, 8, 5, 2, 9), keysWith(3, 8, 7, 7, 6)
	return []impl.Cuckoo{
		placedTable(3, 8, nil, a[0]), placedTable(3, 8, nil, a[0], b[0], same[0], same[1]),
		placedTable(3, 8, map[int]string{5: a[0]}), placedTable(3, 8, map[int]string{5: a[0], 2: b[0]}), placedTable(3, 8, map[int]string{2: a[0], 5: b[0]}, a[1], a[2], a[3], a[4]),
		placedTable(3, 8, map[int]string{5: a[3], 2: a[0]}, b[1], same[0]), placedTable(3, 8, map[int]string{7: same[3]}, same[0], same[1], a[0], b[0]),
		placedTable(3, 8, map[int]string{7: same[0]}), placedTable(3, 8, map[int]string{2: a[5], 7: same[0]}, a[1], b[1], b[2], same[4]),
		placedTable(0, 1, map[int]string{0: "b"}, "a", "c"), placedTable(0, 1, nil, "a", "b", "c", "d"), placedTable(0, 1, map[int]string{0: "e"}, "a", "b", "c", "d"),
		mostKeysTable(false), mostKeysTable(true),
	}
}

// builtTables returns tables into which keys have been put.
func builtTables() []impl.Cuckoo {
	var all []impl.Cuckoo
	for _, keys := range keyLists() {
		for _, seed := range []int{0, 2, 77, impl.MaxSeed} {
			for _, cells := range []int{1, 2, 5, 13, 31, 50, impl.MaxCells} {
				for _, moves := range []int{0, 3, impl.MaxMoves} {
					if c, ok := plainTable(seed, keys, cells, moves); ok {
						all = append(all, c)
					}
				}
			}
		}
	}
	return all
}

// someTables returns tables of all kinds.
func someTables() []impl.Cuckoo {
	return append(handTables(), builtTables()...)
}

// badTables returns values that are no cuckoo tables, by what is wrong.
func badTables() map[string]impl.Cuckoo {
	a, b, same := keysWith(3, 8, 2, 5, 9), keysWith(3, 8, 5, 2, 9), keysWith(3, 8, 7, 7, 6)
	bad := map[string]impl.Cuckoo{"the zero value": {}, "no slots": {Seed: 3, Slots: []string{}}, "no slots but a stash": {Seed: 3, Stash: []string{"a"}},
		"one slot too many": {Seed: 3, Slots: make([]string, impl.MaxCells+1)}, "many slots": {Seed: 3, Slots: make([]string, 1000)},
		"a key in a wrong cell":             placedTable(3, 8, map[int]string{3: a[0]}),
		"a key in the first cell":           placedTable(3, 8, map[int]string{0: a[0]}),
		"a key in the last cell":            placedTable(3, 8, map[int]string{7: a[0]}),
		"a key beside its only cell":        placedTable(3, 8, map[int]string{6: same[0]}),
		"one of two keys in a wrong cell":   placedTable(3, 8, map[int]string{2: b[0], 4: a[0]}),
		"a key in both of its cells":        placedTable(3, 8, map[int]string{2: a[0], 5: a[0]}),
		"a key in a cell and the stash":     placedTable(3, 8, map[int]string{2: a[0]}, a[0]),
		"a key in its only cell and there":  placedTable(3, 8, map[int]string{7: same[0]}, same[0], same[1]),
		"a key in the stash twice":          placedTable(3, 8, nil, a[0], a[0]),
		"five keys in the stash":            placedTable(3, 8, nil, a[:5]...),
		"many strings in the stash":         placedTable(3, 8, nil, make([]string, 1000)...),
		"a stash that decreases":            {Seed: 3, Slots: make([]string, 8), Stash: []string{a[1], a[0]}},
		"a stash whose end decreases":       {Seed: 3, Slots: make([]string, 8), Stash: []string{a[0], a[1], a[3], a[2]}},
		"the empty string in the stash":     placedTable(3, 8, nil, ""),
		"the empty string and a key there":  placedTable(3, 8, nil, "", a[0]),
		"the seed -1 of a single empty one": {Seed: -1, Slots: make([]string, 1)},
		"one key too many":                  tooFullTable(0),
		"one key too many with a stash":     tooFullTable(impl.MaxStash),
		"one key too many in the stash":     tooFullTable(1),
	}
	for _, n := range outsideSeeds {
		bad["the seed "+strconv.Itoa(n)] = impl.Cuckoo{Seed: n, Slots: make([]string, 8)}
		bad["the stash with the seed "+strconv.Itoa(n)] = impl.Cuckoo{Seed: n, Slots: make([]string, 1), Stash: []string{"a"}}
	}
	for i, s := range badKeys() {
		if s != "" {
			bad["no key in a cell "+strconv.Itoa(i)] = placedTable(0, 1, map[int]string{0: s})
			bad["no key in all cells "+strconv.Itoa(i)] = impl.Cuckoo{Slots: slices.Repeat([]string{s}, 8)}
		}
		bad["no key in the stash "+strconv.Itoa(i)] = placedTable(0, 1, nil, s)
		bad["no key beside one in the stash "+strconv.Itoa(i)] = placedTable(0, 1, map[int]string{0: "a"}, s, "b")
	}
	return bad
}

// tooFullTable returns a table as full as can be, and one key more in it: so many in the Stash.
func tooFullTable(stashed int) impl.Cuckoo {
	c := impl.Cuckoo{Seed: 11, Slots: make([]string, impl.MaxCells)}
	for cell := range impl.MaxKeys + 1 - stashed {
		// All pairs of a single cell have a key.
		c.Slots[cell] = keysWith(11, impl.MaxCells, cell, cell, 1)[0]
	}
	c.Stash = manyKeys(stashed)
	return c
}

// someMoves are numbers of keys that may be thrown out, the limits among them.
var someMoves = []int{0, 1, 2, 3, 4, 7, 12, impl.MaxMoves - 1, impl.MaxMoves}

// outsideMoves are numbers that tell no moves.
var outsideMoves = []int{math.MinInt, -1, impl.MaxMoves + 1, math.MaxInt}

func TestNewCuckoo(t *testing.T) {
	for _, seed := range someSeeds {
		for cells := 1; cells <= impl.MaxCells; cells++ {
			c, ok := impl.NewCuckoo(seed, cells)
			if !ok || !sameTable(c, impl.Cuckoo{Seed: seed, Slots: make([]string, cells)}) || !impl.IsCuckoo(c) {
				t.Error("all is empty in a new table", seed, cells, c, ok)
			}
			if keys, ok := impl.CuckooKeys(c); !ok || len(keys) != 0 {
				t.Error("no key is in a new table", keys, ok)
			}
		}
	}
	for _, n := range outsideSeeds {
		c, ok := impl.NewCuckoo(n, 5)
		mustFailTable(t, "NewCuckoo for the seed "+strconv.Itoa(n), c, ok)
	}
	for _, n := range outsideCells {
		c, ok := impl.NewCuckoo(5, n)
		mustFailTable(t, "NewCuckoo with cells "+strconv.Itoa(n), c, ok)
	}
}

func TestIsCuckoo(t *testing.T) {
	for _, c := range someTables() {
		if !impl.IsCuckoo(c) {
			t.Error("this is a cuckoo table", c)
		}
	}
	for name, c := range badTables() {
		if impl.IsCuckoo(c) {
			t.Error("this is no cuckoo table:", name)
		}
	}
	for _, stashed := range []int{0, 1, impl.MaxStash} {
		c := tooFullTable(stashed)
		c.Slots[20] = ""
		if !impl.IsCuckoo(c) || len(keysInTable(c)) != impl.MaxKeys {
			t.Error("a table may have the most keys", c)
		}
	}
}

// isPlainTable reports whether each string is where it may be in a table with the seed and one or two slots.
func isPlainTable(c impl.Cuckoo) bool {
	for cell, key := range c.Slots {
		if both := cellsIn(c, key); key != "" && both[0] != cell && both[1] != cell {
			return false
		}
	}
	keys := keysInTable(c)
	return len(slices.Compact(slices.Clone(keys))) == len(keys) && slices.IsSorted(c.Stash) && !slices.Contains(c.Stash, "")
}

func TestIsCuckooOfAllSmallTables(t *testing.T) {
	yes, no := 0, 0
	words := []string{"", "a", "b", "c"}
	for seed := range 25 {
		for n := range 4 * 4 * 4 * 4 * 4 {
			word := func(place int) string { return words[n>>(2*place)&3] }
			all := []impl.Cuckoo{{Seed: seed, Slots: []string{word(0), word(1), word(2)}, Stash: []string{word(3), word(4)}}}
			if n < 4*4*4 {
				all = append(all, impl.Cuckoo{Seed: seed, Slots: []string{word(0), word(1), word(2)}}, impl.Cuckoo{Seed: seed, Slots: []string{word(0), word(1)}, Stash: []string{word(2)}})
			}
			for _, c := range all {
				want := isPlainTable(c)
				if impl.IsCuckoo(c) != want {
					t.Fatal("this is a cuckoo table:", c, want)
				}
				if want {
					yes++
				} else {
					no++
				}
			}
		}
	}
	if yes < 500 || no < 500 {
		t.Error("both answers must have been met", yes, no)
	}
}

func TestCuckooKeysAndFind(t *testing.T) {
	stashed, second := 0, 0
	for _, c := range someTables() {
		want := keysInTable(c)
		keys, ok := impl.CuckooKeys(c)
		if !ok || !slices.Equal(keys, want) {
			t.Fatal("the keys of", c, "are", want, "not", keys, ok)
		}
		for _, key := range append(anyKeys(), keys...) {
			place, there := plainFind(c, key)
			found, ok := impl.CuckooFind(c, key)
			if ok != there || found != place {
				t.Fatal("the key", key, "is in", c, "at", place, there, "not", found, ok)
			}
			if there != slices.Contains(keys, key) {
				t.Fatal("just the keys of a table are found", c, key, there)
			}
			if there && found >= len(c.Slots) {
				stashed++
			}
			if there && found < len(c.Slots) && cellsIn(c, key)[0] != found {
				second++
			}
		}
	}
	if stashed < 100 || second < 100 {
		t.Error("keys must be found in the stash and in second cells", stashed, second)
	}
}

// checkInsert checks CuckooInsert of a key into a table, and returns how many keys were thrown out, or -1 if it is refused.
func checkInsert(t *testing.T, c impl.Cuckoo, key string, moves int) (impl.Cuckoo, int) {
	t.Helper()
	want, count, exists := plainInsert(c, key, moves)
	grown, thrown, ok := impl.CuckooInsert(c, key, moves)
	if ok != exists || !sameTable(grown, want) || thrown != count {
		t.Fatalf("CuckooInsert(%v, %s, %d) = %v, %d, %v; want %v, %d, %v", c, key, moves, grown, thrown, ok, want, count, exists)
	}
	if !ok {
		return impl.Cuckoo{}, -1
	}
	keys := append(keysInTable(c), key)
	slices.Sort(keys)
	if !impl.IsCuckoo(grown) || !slices.Equal(keysInTable(grown), keys) || thrown > moves {
		t.Fatal("the table", grown, "has one more key", key, c)
	}
	place, ok := impl.CuckooFind(grown, key)
	both := cellsIn(c, key)
	if !ok || place < len(c.Slots) && place != both[0] && place != both[1] || place >= len(c.Slots)+len(grown.Stash) {
		t.Fatal("the key", key, "is in one of its cells or in the stash of", grown, place, ok)
	}
	return grown, thrown
}

func TestCuckooInsert(t *testing.T) {
	direct, thrownOut, stashed, refused, full := 0, 0, 0, 0, 0
	for _, c := range someTables() {
		for _, key := range append(anyKeys()[:25], keysInTable(c)...) {
			for _, moves := range someMoves {
				grown, thrown := checkInsert(t, c, key, moves)
				switch {
				case thrown < 0 && len(c.Stash) == impl.MaxStash && !slices.Contains(keysInTable(c), key):
					full++
				case thrown < 0:
					refused++
				case len(grown.Stash) > len(c.Stash):
					stashed++
				case thrown > 0:
					thrownOut++
				default:
					direct++
				}
			}
		}
	}
	if direct < 1000 || thrownOut < 1000 || stashed < 1000 || refused < 1000 || full < 100 {
		t.Error("each kind of answer must have been met", direct, thrownOut, stashed, refused, full)
	}
}

func TestInsertedKeysAreTakenAwayAgain(t *testing.T) {
	for _, c := range someTables() {
		for _, key := range anyKeys()[:25] {
			grown, _, ok := impl.CuckooInsert(c, key, 5)
			if !ok {
				continue
			}
			rest, ok := impl.CuckooRemove(grown, key)
			if !ok || !impl.IsCuckoo(rest) || !slices.Equal(keysInTable(rest), keysInTable(c)) {
				t.Fatal("without the key", key, "the table", grown, "has the keys that it had", c, rest, ok)
			}
			place, found := impl.CuckooFind(rest, key)
			mustFail(t, "CuckooFind of a key that is taken away", place, found)
			again, _, ok := impl.CuckooInsert(grown, key, 5)
			mustFailTable(t, "CuckooInsert of a key that is there", again, ok)
		}
	}
}

func TestInsertIntoEmptyCells(t *testing.T) {
	a, b, same := keysWith(3, 8, 2, 5, 3), keysWith(3, 8, 5, 2, 3), keysWith(3, 8, 7, 7, 3)
	for _, moves := range someMoves {
		c, _ := impl.NewCuckoo(3, 8)
		c, thrown, ok := impl.CuckooInsert(c, a[0], moves)
		if !ok || thrown != 0 || !sameTable(c, placedTable(3, 8, map[int]string{2: a[0]})) {
			t.Error("the first cell is empty", c, thrown, ok)
		}
		c, thrown, ok = impl.CuckooInsert(c, a[1], moves)
		if !ok || thrown != 0 || !sameTable(c, placedTable(3, 8, map[int]string{2: a[0], 5: a[1]})) {
			t.Error("the second cell is empty", c, thrown, ok)
		}
		c, thrown, ok = impl.CuckooInsert(c, same[0], moves)
		if !ok || thrown != 0 || !sameTable(c, placedTable(3, 8, map[int]string{2: a[0], 5: a[1], 7: same[0]})) {
			t.Error("the only cell is empty", c, thrown, ok)
		}
		full := placedTable(3, 8, map[int]string{2: a[0]}, a[1], a[2], b[0], b[1])
		c, thrown, ok = impl.CuckooInsert(full, b[2], moves)
		if !ok || thrown != 0 || !sameTable(c, placedTable(3, 8, map[int]string{2: a[0], 5: b[2]}, a[1], a[2], b[0], b[1])) {
			t.Error("a full stash does not matter where a cell is empty", c, thrown, ok)
		}
	}
}

func TestInsertAlongAChain(t *testing.T) {
	// The new key throws out a, which throws out b, which throws out c, which finds an empty cell: a and c sit in their first cells, b in its second one.
	key := keysWith(5, 6, 0, 1, 2)
	a, b, c := key[0], keysWith(5, 6, 2, 1, 1)[0], keysWith(5, 6, 2, 3, 1)[0]
	start := placedTable(5, 6, map[int]string{0: a, 1: b, 2: c})
	want := map[int]impl.Cuckoo{
		0: placedTable(5, 6, map[int]string{0: a, 1: b, 2: c}, key[1]),
		1: placedTable(5, 6, map[int]string{0: key[1], 1: b, 2: c}, a),
		2: placedTable(5, 6, map[int]string{0: key[1], 1: a, 2: c}, b),
		3: placedTable(5, 6, map[int]string{0: key[1], 1: a, 2: b, 3: c}),
	}
	for moves := range impl.MaxMoves + 1 {
		grown, thrown, ok := impl.CuckooInsert(start, key[1], moves)
		if !ok || thrown != min(moves, 3) || !sameTable(grown, want[min(moves, 3)]) {
			t.Error("with moves", moves, "the table is", want[min(moves, 3)], "not", grown, thrown, ok)
		}
	}
	// The same with a full stash.
	start.Stash = keysWith(5, 6, 5, 5, 4)
	for moves := range impl.MaxMoves + 1 {
		grown, thrown, ok := impl.CuckooInsert(start, key[1], moves)
		if moves < 3 {
			mustFailTable(t, "CuckooInsert without room in the stash", grown, ok)
			mustFail(t, "CuckooInsert without room in the stash", thrown, ok)
			continue
		}
		if !ok || thrown != 3 || !sameTable(grown, placedTable(5, 6, map[int]string{0: key[1], 1: a, 2: b, 3: c}, start.Stash...)) {
			t.Error("with moves", moves, "all have a cell", grown, thrown, ok)
		}
	}
}

func TestKeysAreThrownOutOfTheirOnlyCell(t *testing.T) {
	// The new key throws a out of its only cell, where a goes at once, and the same happens to b in the second cell of the new key, and so on.
	key, a, b := keysWith(5, 6, 0, 1, 1)[0], keysWith(5, 6, 0, 0, 1)[0], keysWith(5, 6, 1, 1, 1)[0]
	start := placedTable(5, 6, map[int]string{0: a, 1: b})
	want := []impl.Cuckoo{
		placedTable(5, 6, map[int]string{0: a, 1: b}, key),
		placedTable(5, 6, map[int]string{0: key, 1: b}, a),
		placedTable(5, 6, map[int]string{0: a, 1: b}, key),
		placedTable(5, 6, map[int]string{0: a, 1: key}, b),
	}
	for moves := range impl.MaxMoves + 1 {
		grown, thrown, ok := impl.CuckooInsert(start, key, moves)
		if !ok || thrown != moves || !sameTable(grown, want[moves%4]) {
			t.Error("with moves", moves, "the table is", want[moves%4], "not", grown, thrown, ok)
		}
	}
	// One that is thrown out of its only cell throws the new key on to an empty cell.
	free := keysWith(5, 6, 1, 4, 1)[0]
	start = placedTable(5, 6, map[int]string{0: a, 1: free})
	for moves := range impl.MaxMoves + 1 {
		grown, thrown, ok := impl.CuckooInsert(start, key, moves)
		if moves >= 3 && (!ok || thrown != 3 || !sameTable(grown, placedTable(5, 6, map[int]string{0: a, 1: key, 4: free}))) {
			t.Error("with moves", moves, "all have a cell", grown, thrown, ok)
		}
		if moves < 3 && (!ok || thrown != moves || len(grown.Stash) != 1) {
			t.Error("with moves", moves, "one key is in the stash", grown, thrown, ok)
		}
	}
}

func TestInsertIntoOneCell(t *testing.T) {
	for moves := range impl.MaxMoves + 1 {
		c, _ := impl.NewCuckoo(0, 1)
		for i, key := range []string{"c", "e", "a", "d", "b"} {
			before := keysInTable(c)
			grown, thrown := checkInsert(t, c, key, moves)
			if i == 0 && thrown != 0 || i > 0 && thrown != moves || len(grown.Stash) != i {
				t.Error("only the first key finds a cell", moves, key, grown, thrown)
			}
			if i > 0 && moves%2 == 0 != slices.Contains(grown.Stash, key) {
				t.Error("the keys throw each other out by turns", moves, key, before, grown)
			}
			c = grown
		}
		grown, thrown, ok := impl.CuckooInsert(c, "f", moves)
		mustFailTable(t, "CuckooInsert into a full table", grown, ok)
		mustFail(t, "CuckooInsert into a full table", thrown, ok)
	}
}

func TestInsertOfMostKeys(t *testing.T) {
	for _, stashed := range []bool{false, true} {
		c := mostKeysTable(stashed)
		for _, key := range []string{"a", "new", "k200"} {
			grown, thrown, ok := impl.CuckooInsert(c, key, impl.MaxMoves)
			mustFailTable(t, "CuckooInsert of one key too many", grown, ok)
			mustFail(t, "CuckooInsert of one key too many", thrown, ok)
			last := keysInTable(c)[30]
			smaller, ok := impl.CuckooRemove(c, last)
			if !ok {
				t.Fatal("this key is in the table", last)
			}
			// There is an empty cell for the key that was taken away.
			if grown, thrown := checkInsert(t, smaller, last, 0); thrown != 0 || len(keysInTable(grown)) != impl.MaxKeys {
				t.Error("there may be the most keys", grown, thrown)
			}
		}
	}
}

func TestCuckooRemove(t *testing.T) {
	stashed := 0
	for _, c := range someTables() {
		for _, key := range append(anyKeys(), keysInTable(c)...) {
			want, there := plainRemove(c, key)
			rest, ok := impl.CuckooRemove(c, key)
			if !there {
				mustFailTable(t, "CuckooRemove of a key that is not there", rest, ok)
				continue
			}
			if !ok || !sameTable(rest, want) || !impl.IsCuckoo(rest) {
				t.Fatal("the table", c, "without", key, "is", want, "not", rest, ok)
			}
			if place, found := impl.CuckooFind(rest, key); found {
				t.Fatal("a key that is taken away is not found", rest, key, place)
			}
			if len(rest.Stash) < len(c.Stash) {
				stashed++
			}
		}
	}
	if stashed < 100 {
		t.Error("keys must have been taken out of the stash", stashed)
	}
}

func TestCuckooUnstash(t *testing.T) {
	moved, stayed := 0, 0
	tables := someTables()
	for _, c := range someTables() {
		// Without some of its keys, a table has room for those of the Stash.
		for _, cell := range []int{0, len(c.Slots) / 2, len(c.Slots) - 1} {
			emptier := cloneTable(c)
			emptier.Slots[cell] = ""
			tables = append(tables, emptier)
		}
	}
	for _, c := range tables {
		want := plainUnstash(c)
		rest, ok := impl.CuckooUnstash(c)
		if !ok || !sameTable(rest, want) {
			t.Fatal("the table", c, "with less in the stash is", want, "not", rest, ok)
		}
		if !impl.IsCuckoo(rest) || !slices.Equal(keysInTable(rest), keysInTable(c)) {
			t.Fatal("the table", rest, "has the same keys as", c)
		}
		if again, ok := impl.CuckooUnstash(rest); !ok || !sameTable(again, rest) {
			t.Fatal("no more keys leave the stash of", rest, again)
		}
		moved += len(c.Stash) - len(rest.Stash)
		stayed += len(rest.Stash)
	}
	if moved < 50 || stayed < 50 {
		t.Error("keys must have left the stash, and others stayed", moved, stayed)
	}
}

func TestUnstashInOrder(t *testing.T) {
	a, same := keysWith(3, 8, 2, 5, 4), keysWith(3, 8, 7, 7, 2)
	rest, ok := impl.CuckooUnstash(placedTable(3, 8, nil, a...))
	if !ok || !sameTable(rest, placedTable(3, 8, map[int]string{2: a[0], 5: a[1]}, a[2], a[3])) {
		t.Error("the first keys leave the stash", rest, ok)
	}
	rest, ok = impl.CuckooUnstash(placedTable(3, 8, map[int]string{2: a[3]}, a[0], a[1], same[0], same[1]))
	if !ok || !sameTable(rest, placedTable(3, 8, map[int]string{2: a[3], 5: a[0], 7: same[0]}, a[1], same[1])) {
		t.Error("keys leave the stash for the second and for the only cell", rest, ok)
	}
	full := placedTable(3, 8, map[int]string{2: a[3], 5: a[0]}, a[1], a[2])
	if rest, ok := impl.CuckooUnstash(full); !ok || !sameTable(rest, full) {
		t.Error("no key leaves the stash", rest, ok)
	}
}

func TestCuckooOf(t *testing.T) {
	built, refused, stashed, placed := 0, 0, 0, 0
	for _, c := range cellCases() {
		for _, moves := range []int{0, 1, 5, impl.MaxMoves} {
			want, exists := plainTable(c.seed, c.keys, c.cells, moves)
			table, ok := impl.CuckooOf(c.seed, c.keys, c.cells, moves)
			if ok != exists || !sameTable(table, want) {
				t.Fatal("the table of", c.name(), "with moves", moves, "is", want, exists, "not", table, ok)
			}
			if !ok {
				refused++
				continue
			}
			built++
			checkBuiltTable(t, c, table)
			if len(table.Stash) > 0 {
				stashed++
			} else {
				placed++
			}
		}
	}
	if built < 500 || refused < 500 || stashed < 100 || placed < 100 {
		t.Error("each kind of table must have been met", built, refused, stashed, placed)
	}
}

// checkBuiltTable checks that a table has just its keys, and that the cells are a placement if its Stash is empty.
func checkBuiltTable(t *testing.T, c cellCase, table impl.Cuckoo) {
	t.Helper()
	var place []int
	for _, key := range c.keys {
		cell, ok := impl.CuckooFind(table, key)
		if !ok {
			t.Fatal("each key of", c.name(), "is found", key, table)
		}
		place = append(place, cell)
	}
	if keys, ok := impl.CuckooKeys(table); !ok || !slices.Equal(keys, c.keys) || !impl.IsCuckoo(table) {
		t.Fatal("the table of", c.name(), "has just the keys", table, keys, ok)
	}
	for _, key := range []string{"new", "k", "k1000", "}"} {
		if cell, ok := impl.CuckooFind(table, key); ok && !slices.Contains(c.keys, key) {
			t.Fatal("no other key than those of", c.name(), "is found", key, cell)
		}
	}
	if is, ok := impl.IsPlacement(c.seed, c.keys, c.cells, place); len(table.Stash) == 0 && (!ok || !is) {
		t.Fatal("the cells of", table, "are a placement", place, is, ok)
	}
	if most, ok := impl.MostPlaced(c.seed, c.keys, c.cells); !ok || most < len(c.keys)-len(table.Stash) {
		t.Fatal("no more keys of", c.name(), "are in cells than have a placement", table, most)
	}
}

func TestCuckooOfMostKeys(t *testing.T) {
	// With the most moves each of these keys finds a cell.
	keys := manyKeys(impl.MaxKeys)
	empty, longest := 0, 0
	for _, seed := range []int{2, 3, 5, 6, 9, 11} {
		table, _ := impl.NewCuckoo(seed, impl.MaxCells)
		for _, key := range keys {
			grown, thrown := checkInsert(t, table, key, impl.MaxMoves)
			if thrown < 0 {
				t.Fatal("there is room for", key, "in", table)
			}
			longest = max(longest, thrown)
			table = grown
		}
		if of, ok := impl.CuckooOf(seed, keys, impl.MaxCells, impl.MaxMoves); !ok || !sameTable(of, table) {
			t.Error("the table is the one behind all insertions", of, table, ok)
		}
		if len(table.Stash) == 0 {
			empty++
		}
	}
	if empty < 3 || longest < 8 {
		t.Error("in some tables all keys must have cells, and many must be thrown out", empty, longest)
	}
}

func TestCuckooOfNoKeys(t *testing.T) {
	for _, cells := range []int{1, 9, impl.MaxCells} {
		for _, moves := range someMoves {
			table, ok := impl.CuckooOf(8, nil, cells, moves)
			if !ok || !sameTable(table, impl.Cuckoo{Seed: 8, Slots: make([]string, cells)}) {
				t.Error("the table of no keys is empty", table, ok)
			}
		}
	}
}

func TestTableCallsRefuse(t *testing.T) {
	for name, c := range badTables() {
		keys, ok := impl.CuckooKeys(c)
		mustFailList(t, "CuckooKeys of "+name, keys, ok)
		rest, ok := impl.CuckooUnstash(c)
		mustFailTable(t, "CuckooUnstash of "+name, rest, ok)
		for _, key := range append([]string{"a", "zzz"}, keysInTable(c)[:min(3, len(keysInTable(c)))]...) {
			place, ok := impl.CuckooFind(c, key)
			mustFail(t, "CuckooFind in "+name, place, ok)
			rest, ok := impl.CuckooRemove(c, key)
			mustFailTable(t, "CuckooRemove from "+name, rest, ok)
			grown, thrown, ok := impl.CuckooInsert(c, key, 3)
			mustFailTable(t, "CuckooInsert into "+name, grown, ok)
			mustFail(t, "CuckooInsert into "+name, thrown, ok)
		}
	}
}

func TestTableCallsRefuseOtherStrings(t *testing.T) {
	for _, c := range handTables() {
		for _, s := range append(badKeys(), strings.Repeat("a", 1<<20)) {
			place, ok := impl.CuckooFind(c, s)
			mustFail(t, "CuckooFind of no key", place, ok)
			rest, ok := impl.CuckooRemove(c, s)
			mustFailTable(t, "CuckooRemove of no key", rest, ok)
			grown, thrown, ok := impl.CuckooInsert(c, s, 3)
			mustFailTable(t, "CuckooInsert of no key", grown, ok)
			mustFail(t, "CuckooInsert of no key", thrown, ok)
		}
		for _, moves := range outsideMoves {
			for _, key := range []string{"a", "new"} {
				grown, thrown, ok := impl.CuckooInsert(c, key, moves)
				mustFailTable(t, "CuckooInsert with moves "+strconv.Itoa(moves), grown, ok)
				mustFail(t, "CuckooInsert with moves "+strconv.Itoa(moves), thrown, ok)
			}
		}
	}
}

func TestCuckooOfRefuses(t *testing.T) {
	for _, keys := range [][]string{nil, {"a"}} {
		for _, n := range outsideSeeds {
			c, ok := impl.CuckooOf(n, keys, 5, 3)
			mustFailTable(t, "CuckooOf the seed "+strconv.Itoa(n), c, ok)
		}
		for _, n := range outsideCells {
			c, ok := impl.CuckooOf(0, keys, n, 3)
			mustFailTable(t, "CuckooOf so many cells: "+strconv.Itoa(n), c, ok)
		}
		for _, n := range outsideMoves {
			c, ok := impl.CuckooOf(0, keys, 5, n)
			mustFailTable(t, "CuckooOf with moves "+strconv.Itoa(n), c, ok)
		}
	}
	for _, list := range badLists() {
		c, ok := impl.CuckooOf(0, list, impl.MaxCells, impl.MaxMoves)
		mustFailTable(t, "CuckooOf no keys", c, ok)
	}
	// Six keys do not fit into one cell and a stash of four.
	c, ok := impl.CuckooOf(0, manyKeys(6), 1, impl.MaxMoves)
	mustFailTable(t, "CuckooOf one key too many for a cell", c, ok)
	if c, ok := impl.CuckooOf(0, manyKeys(5), 1, impl.MaxMoves); !ok || len(c.Stash) != impl.MaxStash {
		t.Error("five keys fit into one cell and the stash", c, ok)
	}
}
