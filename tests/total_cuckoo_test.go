package tests

import (
	"math"
	"slices"
	"strconv"
	"testing"

	"loop.example/g01097/impl"
)

// The tests of this file are for promise 11: what chapter 6 is called with.

// ofCuckoo returns the outcome that is a cuckoo table and a number.
func ofCuckoo(c impl.Cuckoo, n int, ok bool) outcome {
	return outcome{words: [][]string{c.Slots, c.Stash}, numbers: [2]int{c.Seed, n}, ok: ok}
}

// ofTable returns the outcome that is a cuckoo table.
func ofTable(c impl.Cuckoo, ok bool) outcome {
	return ofCuckoo(c, 0, ok)
}

// cuckooExtremes are numbers at and behind the limits of chapter 6, and the least and the greatest ones.
var cuckooExtremes = []int{math.MinInt, math.MinInt + 1, -64, -1, 0, 1, 2, impl.MaxStash, impl.MaxStash + 1, 9, impl.MaxMoves, impl.MaxMoves + 1, 50, impl.MaxCells - 1, impl.MaxCells, impl.MaxCells + 1, 100,
	impl.MaxSeed - 1, impl.MaxSeed, impl.MaxSeed + 1, math.MaxInt - 100, math.MaxInt - 1, math.MaxInt}

func TestCellsOfIsTotal(t *testing.T) {
	for _, key := range totalKeys() {
		for _, seed := range cuckooExtremes {
			for _, cells := range cuckooExtremes {
				call := func() outcome {
					first, second, ok := impl.CellsOf(seed, key, cells)
					return outcome{numbers: [2]int{first, second}, ok: ok}
				}
				checkCall(t, "CellsOf "+strconv.Quote(key[:min(len(key), 20)]), call, call, func() bool { return true })
			}
		}
	}
}

func TestNewCuckooIsTotal(t *testing.T) {
	for _, seed := range cuckooExtremes {
		for _, cells := range cuckooExtremes {
			call := func() outcome { return ofTable(impl.NewCuckoo(seed, cells)) }
			checkCall(t, "NewCuckoo "+strconv.Itoa(seed)+", "+strconv.Itoa(cells), call, call, func() bool { return true })
		}
	}
}

func TestPlacementCallsAreTotal(t *testing.T) {
	calls := map[string]func(keys []string, a int, b int) outcome{
		"KeyGroups":                 func(keys []string, a int, b int) outcome { return ofLists(impl.KeyGroups(a, keys, b)) },
		"PlaceKeys":                 func(keys []string, a int, b int) outcome { return ofList(impl.PlaceKeys(a, keys, b)) },
		"CrowdOf":                   func(keys []string, a int, b int) outcome { return ofList(impl.CrowdOf(a, keys, b)) },
		"MostPlaced":                func(keys []string, a int, b int) outcome { return ofNumber(impl.MostPlaced(a, keys, b)) },
		"LeastCells":                func(keys []string, a int, b int) outcome { return ofNumber(impl.LeastCells(a, keys, b)) },
		"FirstCuckooSeed":           func(keys []string, a int, b int) outcome { return ofNumber(impl.FirstCuckooSeed(keys, 9, a, b)) },
		"FirstCuckooSeed for cells": func(keys []string, a int, b int) outcome { return ofNumber(impl.FirstCuckooSeed(keys, a, 0, b)) },
		"FirstCuckooSeed from a seed": func(keys []string, a int, b int) outcome {
			return ofNumber(impl.FirstCuckooSeed(keys, a, b, impl.MaxSeed+1))
		},
		"CuckooOf":            func(keys []string, a int, b int) outcome { return ofTable(impl.CuckooOf(a, keys, b, 7)) },
		"CuckooOf with moves": func(keys []string, a int, b int) outcome { return ofTable(impl.CuckooOf(2, keys, a, b)) },
	}
	for name, call := range calls {
		for _, keys := range totalKeyLists() {
			for _, a := range cuckooExtremes {
				for _, b := range cuckooExtremes {
					checkTableCall(t, name+" "+strconv.Itoa(a)+", "+strconv.Itoa(b), nil, keys, func(list []int, keys []string) outcome { return call(keys, a, b) })
				}
			}
		}
	}
}

// totalPlaces returns lists of cells or indices: placements and crowds of keys, and other ones.
func totalPlaces(seed int, keys []string, cells int) [][]int {
	all := [][]int{nil, {0, 1}, {1, 0}, make([]int, len(keys)), make([]int, 1000)}
	if impl.AreKeys(keys) && 0 <= seed && seed <= impl.MaxSeed && 1 <= cells && cells <= impl.MaxCells {
		pairs := plainCells(seed, keys, cells)
		all = append(append(all, plainGroups(pairs)...), somePlacements(pairs)...)
	}
	for _, n := range cuckooExtremes {
		all = append(all, []int{n}, []int{0, n}, slices.Repeat([]int{n}, len(keys)))
	}
	return all
}

func TestCheckersOfPlacementsAreTotal(t *testing.T) {
	calls := map[string]func(seed int, keys []string, cells int, list []int) outcome{
		"IsPlacement": func(seed int, keys []string, cells int, list []int) outcome {
			return ofAnswer(impl.IsPlacement(seed, keys, cells, list))
		},
		"IsCrowd": func(seed int, keys []string, cells int, list []int) outcome {
			return ofAnswer(impl.IsCrowd(seed, keys, cells, list))
		},
		"MovesBetween one list": func(seed int, keys []string, cells int, list []int) outcome {
			return ofList(impl.MovesBetween(seed, keys, cells, list, list))
		},
	}
	for name, call := range calls {
		for _, keys := range totalKeyLists() {
			for _, n := range cuckooExtremes {
				for _, c := range []cellCase{{seed: n, keys: keys, cells: 9}, {seed: 11, keys: keys, cells: n}, {seed: n, keys: keys, cells: n}} {
					for _, list := range totalPlaces(c.seed, keys, c.cells) {
						checkTableCall(t, name+" "+strconv.Itoa(c.seed)+", "+strconv.Itoa(c.cells), list, keys, func(list []int, keys []string) outcome { return call(c.seed, keys, c.cells, list) })
					}
				}
			}
		}
	}
}

func TestMovesBetweenIsTotal(t *testing.T) {
	for _, c := range []cellCase{{cells: 1}, {keys: []string{"a"}, cells: 1}, {seed: 11, keys: []string{"a", "b"}, cells: 3}, {seed: 5, keys: manyKeys(7), cells: 14}, {seed: 11, keys: manyKeys(impl.MaxKeys), cells: impl.MaxCells},
		{seed: -1, keys: []string{"a", "b"}, cells: 3}, {seed: 11, keys: []string{"b", "a"}, cells: 3}, {seed: 11, keys: []string{"a", "b"}, cells: math.MinInt}} {
		all := totalPlaces(c.seed, c.keys, c.cells)
		for _, from := range all {
			for _, to := range all {
				keysBefore, fromBefore, toBefore := slices.Clone(c.keys), slices.Clone(from), slices.Clone(to)
				keys, keysKept := withSpare(c.keys, "zz", "", "b")
				first, firstKept := withSpare(from, 1, 0, 3, -5, 2000)
				second, secondKept := withSpare(to, 2, 0, 1, -9, 70)
				checkCall(t, "MovesBetween lists of "+c.name(),
					func() outcome { return ofList(impl.MovesBetween(c.seed, c.keys, c.cells, from, to)) },
					func() outcome { return ofList(impl.MovesBetween(c.seed, keys, c.cells, first, second)) },
					func() bool {
						return keysKept() && firstKept() && secondKept() && slices.Equal(c.keys, keysBefore) && slices.Equal(from, fromBefore) && slices.Equal(to, toBefore)
					})
			}
		}
	}
}

// spareTable returns an equal table with other strings in the spare capacity of its lists, and a function that reports whether all are as they were.
func spareTable(c impl.Cuckoo) (impl.Cuckoo, func() bool) {
	slots, slotsKept := withSpare(c.Slots, "a", "", "zz", "~")
	stash, stashKept := withSpare(c.Stash, "zz", "", "b", "a")
	return impl.Cuckoo{Seed: c.Seed, Slots: slots, Stash: stash}, func() bool { return slotsKept() && stashKept() }
}

// checkCuckooCall checks that a call with a cuckoo table is total, with and without spare capacity.
func checkCuckooCall(t *testing.T, what string, c impl.Cuckoo, call func(c impl.Cuckoo) outcome) {
	t.Helper()
	before := cloneTable(c)
	spared, kept := spareTable(c)
	checkCall(t, what+" with "+strconv.Itoa(len(c.Slots))+" slots and "+strconv.Itoa(len(c.Stash))+" in the stash",
		func() outcome { return call(c) }, func() outcome { return call(spared) },
		func() bool { return kept() && sameTable(c, before) })
}

// totalTables returns some cuckoo tables, and values that are none.
func totalTables() []impl.Cuckoo {
	all := handTables()
	for i, c := range builtTables() {
		if i%11 == 0 {
			all = append(all, c)
		}
	}
	for _, c := range badTables() {
		all = append(all, c)
	}
	for _, n := range cuckooExtremes {
		all = append(all, impl.Cuckoo{Seed: n, Slots: []string{"a"}, Stash: []string{"b", "c"}}, impl.Cuckoo{Seed: n, Slots: make([]string, 8)})
	}
	return all
}

func TestCuckooCallsAreTotal(t *testing.T) {
	plain := map[string]func(c impl.Cuckoo) outcome{
		"IsCuckoo": func(c impl.Cuckoo) outcome { return outcome{on: impl.IsCuckoo(c)} },
		"CuckooKeys": func(c impl.Cuckoo) outcome {
			keys, ok := impl.CuckooKeys(c)
			return outcome{words: [][]string{keys}, ok: ok}
		},
		"CuckooUnstash": func(c impl.Cuckoo) outcome { return ofTable(impl.CuckooUnstash(c)) },
	}
	withKey := map[string]func(c impl.Cuckoo, key string) outcome{
		"CuckooFind":   func(c impl.Cuckoo, key string) outcome { return ofNumber(impl.CuckooFind(c, key)) },
		"CuckooRemove": func(c impl.Cuckoo, key string) outcome { return ofTable(impl.CuckooRemove(c, key)) },
	}
	for _, c := range totalTables() {
		for name, call := range plain {
			checkCuckooCall(t, name, c, call)
		}
		for name, call := range withKey {
			for _, key := range append(totalKeys(), keysInTable(c)[:min(12, len(keysInTable(c)))]...) {
				checkCuckooCall(t, name+" "+strconv.Quote(key[:min(len(key), 20)]), c, func(c impl.Cuckoo) outcome { return call(c, key) })
			}
		}
	}
}

func TestCuckooInsertIsTotal(t *testing.T) {
	for _, c := range totalTables() {
		for _, key := range append(totalKeys(), "new", "k100", "c") {
			for _, moves := range cuckooExtremes {
				checkCuckooCall(t, "CuckooInsert "+strconv.Quote(key[:min(len(key), 20)])+" with moves "+strconv.Itoa(moves), c, func(c impl.Cuckoo) outcome { return ofCuckoo(impl.CuckooInsert(c, key, moves)) })
			}
		}
	}
}

func TestOneListAsBothLists(t *testing.T) {
	// A table may have one list as its Slots and its Stash; the result has two.
	both := []string{"a"}
	c := impl.Cuckoo{Slots: both, Stash: both[:0]}
	checkCuckooCall(t, "CuckooUnstash of one list", c, func(c impl.Cuckoo) outcome { return ofTable(impl.CuckooUnstash(c)) })
	checkCuckooCall(t, "CuckooInsert into one list", c, func(c impl.Cuckoo) outcome { return ofCuckoo(impl.CuckooInsert(c, "b", 1)) })
	grown, thrown, ok := impl.CuckooInsert(c, "b", 1)
	if !ok || thrown != 1 || !sameTable(grown, impl.Cuckoo{Slots: []string{"b"}, Stash: []string{"a"}}) || both[0] != "a" {
		t.Error("a key is put into a table of one list", grown, thrown, ok, both)
	}
	// A placement may be both the first and the last one.
	place := []int{0}
	if moved, ok := impl.MovesBetween(0, []string{"a"}, 1, place, place); !ok || len(moved) != 0 || place[0] != 0 {
		t.Error("nothing moves within one list", moved, ok)
	}
}
