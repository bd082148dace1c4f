package tests

import (
	"math"
	"slices"
	"strconv"
	"strings"
	"testing"

	"loop.example/g01097/impl"
)

// The tests of this file are for promise 1: keys and hashes.

func TestIsKey(t *testing.T) {
	for value := range 256 {
		c := string([]byte{byte(value)})
		want := value >= 33 && value <= 125
		for _, s := range []string{c, "a" + c, c + "a", "a" + c + "b", strings.Repeat("x", 11) + c, c + strings.Repeat("x", 11)} {
			if impl.IsKey(s) != want {
				t.Errorf("IsKey(%q) must be %v", s, want)
			}
		}
	}
	for length := range 30 {
		if want := length >= 1 && length <= impl.MaxKey; impl.IsKey(strings.Repeat("k", length)) != want {
			t.Errorf("IsKey of %d bytes must be %v", length, want)
		}
	}
	if impl.IsKey("\u00e9") || impl.IsKey(strings.Repeat("k", 1<<20)) {
		t.Error("these are no keys")
	}
}

// manyKeys returns so many keys.
func manyKeys(count int) []string {
	keys := make([]string, count)
	for i := range keys {
		keys[i] = "k" + strconv.Itoa(100+i)
	}
	return keys
}

// badLists returns lists of strings that are no keys.
func badLists() [][]string {
	return [][]string{{""}, {"a", ""}, {"", "a"}, {"a", "a"}, {"b", "a"}, {"ab", "a"}, {"a", "c", "b"}, {"a", "b", "b"},
		{"a", "b", "a"}, {"a~"}, {"~"}, {" "}, {"a b"}, {"\n"}, {"a", "b\x00"}, {"a", "\xff"}, {strings.Repeat("k", impl.MaxKey+1)},
		{"a", strings.Repeat("b", impl.MaxKey+1)}, {"a", "B"}, {"10", "9", "8"}, manyKeys(impl.MaxKeys + 1),
		slices.Repeat([]string{"a"}, impl.MaxKeys)}
}

func TestAreKeys(t *testing.T) {
	good := [][]string{nil, {}, {"a"}, {"a", "b"}, {"a", "ab", "b"}, {"B", "a"}, {"10", "9"}, {"!", "}"},
		{strings.Repeat("k", impl.MaxKey)}, {"a", strings.Repeat("a", impl.MaxKey), "b"}, manyKeys(impl.MaxKeys - 1), manyKeys(impl.MaxKeys)}
	for _, list := range good {
		if !impl.AreKeys(list) {
			t.Errorf("%q are keys", list)
		}
	}
	for _, list := range badLists() {
		if impl.AreKeys(list) {
			t.Errorf("%q are no keys", list)
		}
	}
}

// plainHash returns the hash of a key, found step by step as the document tells.
func plainHash(seed int, part int, key string) int {
	h := (31*seed + 977*part + 7) % 65521
	for _, c := range []byte(key) {
		h = (263*h + int(c)) % 65521
	}
	square := h * h % 65521
	fourth := square * square % 65521
	eighth := fourth * fourth % 65521
	return eighth * square % 65521 * h % 65521
}

func TestHashOf(t *testing.T) {
	known := []struct {
		seed, part int
		key        string
		hash       int
	}{
		{0, 0, "a", 59494}, {0, 0, "k", 58900}, {1, 0, "a", 39589}, {0, 1, "a", 25756}, {9999, 9, "}", 14843},
		{9999, 9, "}}}}}}}}}}}}", 64380}, {17, 5, "!}AZaz09", 42091}, {2500, 3, "key", 50801},
		{273, 0, "h", 0}, {273, 0, "g", 65520},
	}
	for _, k := range known {
		if hash, ok := impl.HashOf(k.seed, k.part, k.key); !ok || hash != k.hash {
			t.Errorf("HashOf(%d, %d, %s) = %d, %v; want %d", k.seed, k.part, k.key, hash, ok, k.hash)
		}
	}
	for seed := 0; seed <= impl.MaxSeed; seed += 101 {
		for part := range 10 {
			for _, key := range []string{"!", "}", "a", "ab", "ba", "key", strings.Repeat("!", impl.MaxKey), "abcdefghijkl"} {
				if hash, ok := impl.HashOf(seed, part, key); !ok || hash != plainHash(seed, part, key) {
					t.Fatalf("HashOf(%d, %d, %s) = %d, %v", seed, part, key, hash, ok)
				}
			}
		}
	}
}

func TestPlaceOf(t *testing.T) {
	for seed := 0; seed <= impl.MaxSeed; seed += 1111 {
		for _, places := range []int{1, 2, 3, 7, 64, 65, 1000, impl.MaxBits - 1, impl.MaxBits} {
			for _, key := range manyKeys(impl.MaxKeys) {
				for part := range 10 {
					want := plainHash(seed, part, key) * places / 65521
					if place, ok := impl.PlaceOf(seed, part, key, places); !ok || place != want {
						t.Fatalf("PlaceOf(%d, %d, %s, %d) = %d, %v; want %d", seed, part, key, places, place, ok, want)
					}
				}
			}
		}
	}
	if place, ok := impl.PlaceOf(273, 0, "h", impl.MaxBits); !ok || place != 0 {
		t.Error("the least hash has the first place", place)
	}
	if place, ok := impl.PlaceOf(273, 0, "g", impl.MaxBits); !ok || place != impl.MaxBits-1 {
		t.Error("the greatest hash has the last place", place)
	}
}

// plainPlaces returns the places of keys.
func plainPlaces(seed int, part int, keys []string, places int) []int {
	list := make([]int, len(keys))
	for i, key := range keys {
		list[i] = plainHash(seed, part, key) * places / 65521
	}
	return list
}

func TestLoadsOf(t *testing.T) {
	for _, keys := range [][]string{nil, {}, {"a"}, {"a", "b"}, manyKeys(13), manyKeys(impl.MaxKeys)} {
		for _, places := range []int{1, 2, 3, 10, 63, 64} {
			for _, seed := range []int{0, 1, impl.MaxSeed} {
				for _, part := range []int{0, 4, 9} {
					want := make([]int, places)
					for _, place := range plainPlaces(seed, part, keys, places) {
						want[place]++
					}
					if loads, ok := impl.LoadsOf(seed, part, keys, places); !ok || !slices.Equal(loads, want) {
						t.Fatalf("LoadsOf(%d, %d, %q, %d) = %v, %v", seed, part, keys, places, loads, ok)
					}
				}
			}
		}
	}
}

// plainCollision returns the first pair of indices of equal places.
func plainCollision(places []int) (int, int, bool) {
	for i := range places {
		for k := i + 1; k < len(places); k++ {
			if places[i] == places[k] {
				return i, k, true
			}
		}
	}
	return 0, 0, false
}

func TestCollisionOf(t *testing.T) {
	found, none, late := 0, 0, 0
	for seed := range 300 {
		for _, keys := range [][]string{nil, {"a"}, {"a", "b"}, {"a", "b", "c", "d"}, manyKeys(8), manyKeys(impl.MaxKeys)} {
			for _, places := range []int{1, 5, 16, 400, impl.MaxBits} {
				list := plainPlaces(seed, seed%10, keys, places)
				i, k, want := plainCollision(list)
				a, b, ok := impl.CollisionOf(seed, seed%10, keys, places)
				if ok != want || a != i || b != k {
					t.Fatalf("CollisionOf(%d, %d, %q, %d) = %d, %d, %v; want %d, %d, %v", seed, seed%10, keys, places, a, b, ok, i, k, want)
				}
				if !want {
					none++
				} else if _, _, sooner := plainCollision(list[:k]); sooner {
					late++ // another pair is complete before the first one is
				} else {
					found++
				}
			}
		}
	}
	if found == 0 || none == 0 || late == 0 {
		t.Error("each kind of answer must have been met", found, none, late)
	}
}

func TestCollisionOfLimit(t *testing.T) {
	keys := manyKeys(impl.MaxKeys)
	for seed := range impl.MaxSeed + 1 {
		i, k, most := plainCollision(plainPlaces(seed, 0, keys, impl.MaxBits))
		if _, _, more := plainCollision(plainPlaces(seed, 0, keys, impl.MaxBits+1)); !most || !more {
			continue
		}
		if a, b, ok := impl.CollisionOf(seed, 0, keys, impl.MaxBits); !ok || a != i || b != k {
			t.Error("the keys collide among the most places", a, b, ok)
		}
		a, b, ok := impl.CollisionOf(seed, 0, keys, impl.MaxBits+1)
		mustFail(t, "CollisionOf among one place too many", [2]int{a, b}, ok)
		return
	}
	t.Error("no seed lets keys collide")
}

// mustFailHashes checks that all functions of hashes fail for the keys, one of them alone if single.
func mustFailHashes(t *testing.T, seed int, part int, keys []string, single bool, places int) {
	t.Helper()
	what := strconv.Itoa(seed) + ", " + strconv.Itoa(part) + ", " + strconv.Itoa(places)
	if single {
		place, ok := impl.PlaceOf(seed, part, keys[0], places)
		mustFail(t, "PlaceOf "+what, place, ok)
	}
	loads, ok := impl.LoadsOf(seed, part, keys, places)
	if ok || len(loads) != 0 {
		t.Errorf("LoadsOf %s: got %v, %v; it must fail", what, loads, ok)
	}
	i, k, ok := impl.CollisionOf(seed, part, keys, places)
	mustFail(t, "CollisionOf "+what, [2]int{i, k}, ok)
}

func TestHashesRefuse(t *testing.T) {
	two := []string{"a", "b"}
	for _, n := range []int{-1, impl.MaxSeed + 1, math.MinInt, math.MaxInt} {
		hash, ok := impl.HashOf(n, 0, "a")
		mustFail(t, "HashOf of a wrong seed", hash, ok)
		mustFailHashes(t, n, 0, two, true, 1)
		mustFailHashes(t, n, 0, nil, false, 1)
	}
	for _, n := range []int{-1, 10, math.MinInt, math.MaxInt} {
		hash, ok := impl.HashOf(0, n, "a")
		mustFail(t, "HashOf of a wrong part", hash, ok)
		mustFailHashes(t, 0, n, two, true, 1)
		mustFailHashes(t, 0, n, nil, false, 1)
	}
	for _, n := range []int{0, -1, impl.MaxBits + 1, math.MinInt, math.MaxInt} {
		mustFailHashes(t, 0, 0, two, true, n)
		mustFailHashes(t, 0, 0, nil, false, n)
	}
	for _, list := range badLists() {
		mustFailHashes(t, 0, 0, list, false, 1)
	}
	for _, s := range []string{"", " ", "~", "a b", "ab\n", "\x00", "\xff", "\u00e9", strings.Repeat("k", impl.MaxKey+1)} {
		hash, ok := impl.HashOf(0, 0, s)
		mustFail(t, "HashOf of no key", hash, ok)
		mustFailHashes(t, 0, 0, []string{s}, true, 1)
	}
}

func TestLoadsOfLimit(t *testing.T) {
	for _, places := range []int{65, 100, impl.MaxBits} {
		for _, keys := range [][]string{nil, {"a", "b"}} {
			if loads, ok := impl.LoadsOf(0, 0, keys, places); ok || len(loads) != 0 {
				t.Errorf("LoadsOf %d places = %v, %v; it must fail", places, loads, ok)
			}
		}
	}
}

func TestExampleOfHashes(t *testing.T) {
	power := 1
	for range 11 {
		power = power * 1938 % impl.HashPrime
	}
	if hash, ok := impl.HashOf(0, 0, "a"); !ok || hash != power {
		t.Error("the hash of a is that of h = 1938", hash)
	}
}
