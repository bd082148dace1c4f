package tests

import (
	"math"
	"strconv"
	"testing"

	"loop.example/g01097/impl"
)

// The tests of this file are for promise 5: seeds with different places.

// checkPlainSeed checks PlainSeed against a look at each seed.
func checkPlainSeed(t *testing.T, keys []string, slots int, from int, until int) {
	t.Helper()
	seed, ok := impl.PlainSeed(keys, slots, from, until)
	suits := func(n int) bool { return !haveEqual(plainPlaces(n, 0, keys, slots)) }
	mustBeFirst(t, "PlainSeed of "+strconv.Itoa(len(keys))+" keys, "+strconv.Itoa(slots), from, until, suits, seed, ok)
}

func TestPlainSeed(t *testing.T) {
	for _, keys := range keyLists() {
		for _, slots := range []int{1, 2, 3, 5, 8, 13, 20, 64, 65, 300, 1000, impl.MaxBits - 1, impl.MaxBits} {
			for _, from := range []int{0, 1, 37, 5000, impl.MaxSeed - 4, impl.MaxSeed} {
				for _, count := range []int{0, 1, 2, 5, 60, 100} {
					if from+count <= impl.MaxSeed+1 {
						checkPlainSeed(t, keys, slots, from, from+count)
					}
				}
			}
			checkPlainSeed(t, keys, slots, impl.MaxSeed+1, impl.MaxSeed+1)
		}
	}
}

func TestPlainSeedIsTheFirstWithoutCollision(t *testing.T) {
	later := 0
	for _, keys := range keyLists() {
		for _, slots := range []int{1, 2, 4, 10, 30, 150, 700, impl.MaxBits} {
			for from := 0; from < 2000; from += 97 {
				seed, ok := impl.PlainSeed(keys, slots, from, from+100)
				if ok {
					if _, _, collide := impl.CollisionOf(seed, 0, keys, slots); collide {
						t.Fatal("the first seed has no collision", keys, slots, seed)
					}
				} else {
					seed = from + 100
				}
				for before := from; before < seed; before++ {
					if _, _, collide := impl.CollisionOf(before, 0, keys, slots); !collide {
						t.Fatal("each seed before the first one has a collision", keys, slots, before, seed, ok)
					}
					later++
				}
			}
		}
	}
	if later < 1000 {
		t.Error("some first seeds must come late", later)
	}
}

func TestPlainSeedOfTheWidestRange(t *testing.T) {
	// These keys have different places among 126 for the seed 6053, and for none of the 2000 seeds before it.
	keys := manyKeys(impl.MaxKeys)
	for _, from := range []int{5952, 5953, 5954, 6053, 6054} {
		checkPlainSeed(t, keys, 126, from, from+100)
	}
	if seed, ok := impl.PlainSeed(keys, 126, 5954, 6054); !ok || seed != 6053 {
		t.Error("the last seed of a hundred is told", seed, ok)
	}
	seed, ok := impl.PlainSeed(keys, 126, 5953, 6053)
	mustFail(t, "PlainSeed of a hundred seeds with collisions", seed, ok)
	seed, ok = impl.PlainSeed(keys, 126, 5953, 6054)
	mustFail(t, "PlainSeed of a hundred and one seeds", seed, ok)
	// These have different places for the greatest seed, and for none of the 99 before it.
	if seed, ok := impl.PlainSeed(manyKeys(32), 104, impl.MaxSeed-99, impl.MaxSeed+1); !ok || seed != impl.MaxSeed {
		t.Error("the greatest seed is told", seed, ok)
	}
	seed, ok = impl.PlainSeed(manyKeys(32), 104, impl.MaxSeed-99, impl.MaxSeed)
	mustFail(t, "PlainSeed of all but the greatest seed", seed, ok)
}

func TestPlainSeedOfMostSlots(t *testing.T) {
	// Among one place less than the limit, two of these keys have the same one for the seed 10.
	keys := manyKeys(impl.MaxKeys)
	if seed, ok := impl.PlainSeed(keys, impl.MaxBits, 10, 11); !ok || seed != 10 {
		t.Error("there may be as many slots as the limit", seed, ok)
	}
	seed, ok := impl.PlainSeed(keys, impl.MaxBits-1, 10, 11)
	mustFail(t, "PlainSeed of one slot less", seed, ok)
	seed, ok = impl.PlainSeed(keys, impl.MaxBits+1, 10, 11)
	mustFail(t, "PlainSeed of one slot too many", seed, ok)
	seed, ok = impl.PlainSeed(manyKeys(impl.MaxKeys+1), impl.MaxBits, 10, 110)
	mustFail(t, "PlainSeed of one key too many", seed, ok)
}

func TestPlainSeedOfFewKeys(t *testing.T) {
	for _, from := range []int{0, 9, impl.MaxSeed} {
		for _, slots := range []int{1, 2, impl.MaxBits} {
			if seed, ok := impl.PlainSeed(nil, slots, from, from+1); !ok || seed != from {
				t.Error("without keys each seed will do", from, slots, seed, ok)
			}
			if seed, ok := impl.PlainSeed([]string{"a"}, slots, from, from+1); !ok || seed != from {
				t.Error("for a single key each seed will do", from, slots, seed, ok)
			}
		}
	}
	seed, ok := impl.PlainSeed([]string{"a", "b"}, 1, 0, 100)
	mustFail(t, "PlainSeed of two keys in one slot", seed, ok)
	for from := range 30 {
		seed, ok := impl.PlainSeed(nil, 1, from, from)
		mustFail(t, "PlainSeed of no seeds", seed, ok)
	}
}

func TestPlainSeedRefuses(t *testing.T) {
	for _, r := range badSeedRanges {
		for _, keys := range [][]string{nil, {"a"}} {
			seed, ok := impl.PlainSeed(keys, 5, r[0], r[1])
			mustFail(t, "PlainSeed from "+strconv.Itoa(r[0])+" until "+strconv.Itoa(r[1]), seed, ok)
		}
	}
	for _, n := range []int{math.MinInt, -1, 0, impl.MaxBits + 1, math.MaxInt} {
		for _, keys := range [][]string{nil, {"a"}} {
			seed, ok := impl.PlainSeed(keys, n, 3, 50)
			mustFail(t, "PlainSeed for slots "+strconv.Itoa(n), seed, ok)
		}
	}
	for _, list := range badLists() {
		seed, ok := impl.PlainSeed(list, impl.MaxBits, 3, 50)
		mustFail(t, "PlainSeed of no keys", seed, ok)
	}
}
