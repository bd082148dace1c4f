package tests

import (
	"math"
	"slices"
	"strconv"
	"testing"

	"loop.example/g01097/impl"
)

// The tests of this file are for promise 5: tables by shifts.

// outsideBuckets are numbers of buckets that no table has.
var outsideBuckets = []int{math.MinInt, -1, 0, impl.MaxBuckets + 1, math.MaxInt}

// outsideSlots are numbers of slots that no table has.
var outsideSlots = []int{math.MinInt, -1, 0, impl.MaxSlots + 1, math.MaxInt}

// plainBuckets returns the lists of the indices of the keys in each bucket.
func plainBuckets(seed int, keys []string, buckets int) [][]int {
	lists := make([][]int, buckets)
	for bucket := range lists {
		for i, key := range keys {
			if plainHash(seed, 0, key)*buckets/65521 == bucket {
				lists[bucket] = append(lists[bucket], i)
			}
		}
	}
	return lists
}

// shiftedSlots returns the slots of keys, by their indices, if their bucket has a shift.
func shiftedSlots(seed int, keys []string, list []int, shift int, slots int) []int {
	var all []int
	for _, i := range list {
		all = append(all, (plainHash(seed, 1, keys[i])+shift*(plainHash(seed, 2, keys[i])+1))%slots)
	}
	return all
}

// haveEqual reports whether two numbers of a list are equal.
func haveEqual(list []int) bool {
	seen := map[int]bool{}
	for _, n := range list {
		seen[n] = true
	}
	return len(seen) < len(list)
}

// plainDisplaced returns the table by shifts: bucket by bucket, those with the most keys first, each shift is tried.
func plainDisplaced(seed int, keys []string, buckets int, slots int) (impl.Displaced, bool) {
	d := impl.Displaced{Seed: seed, Buckets: buckets, Slots: slots, Shifts: make([]int, buckets)}
	lists := plainBuckets(seed, keys, buckets)
	var taken []int
	for size := len(keys); size > 0; size-- {
		for bucket, list := range lists {
			if len(list) != size {
				continue
			}
			shift := 0
			for shift <= 999 && haveEqual(append(shiftedSlots(seed, keys, list, shift, slots), taken...)) {
				shift++
			}
			if shift > 999 {
				return impl.Displaced{}, false
			}
			d.Shifts[bucket] = shift
			taken = append(taken, shiftedSlots(seed, keys, list, shift, slots)...)
		}
	}
	return d, true
}

// plainSlot returns the slot of a key.
func plainSlot(d impl.Displaced, key string) int {
	shift := d.Shifts[plainHash(d.Seed, 0, key)*d.Buckets/65521]
	return (plainHash(d.Seed, 1, key) + shift*(plainHash(d.Seed, 2, key)+1)) % d.Slots
}

// plainSlots returns the slots of keys.
func plainSlots(d impl.Displaced, keys []string) []int {
	var all []int
	for _, key := range keys {
		all = append(all, plainSlot(d, key))
	}
	return all
}

// sameDisplaced reports whether two tables are equal.
func sameDisplaced(a impl.Displaced, b impl.Displaced) bool {
	return a.Seed == b.Seed && a.Buckets == b.Buckets && a.Slots == b.Slots && slices.Equal(a.Shifts, b.Shifts)
}

// mustFailDisplaced checks that a call failed with the zero table.
func mustFailDisplaced(t *testing.T, what string, d impl.Displaced, ok bool) {
	t.Helper()
	if ok || !sameDisplaced(d, impl.Displaced{}) {
		t.Errorf("%s: got %v, %v; it must fail with the zero value", what, d, ok)
	}
}

// someDisplaceds returns tables with shifts of any kind, the limits of each number among them.
func someDisplaceds() []impl.Displaced {
	var all []impl.Displaced
	for n, buckets := range []int{1, 2, 3, 7, 16, impl.MaxBuckets - 1, impl.MaxBuckets} {
		for _, slots := range []int{1, 2, 3, 13, 40, impl.MaxSlots - 1, impl.MaxSlots} {
			for _, seed := range []int{0, 31 * slots, impl.MaxSeed} {
				all = append(all, impl.Displaced{Seed: seed, Buckets: buckets, Slots: slots, Shifts: scatteredNumbers(buckets, 1000, n+slots)})
			}
			for _, shift := range []int{0, 1, 998, impl.MaxShift} {
				all = append(all, impl.Displaced{Seed: n, Buckets: buckets, Slots: slots, Shifts: slices.Repeat([]int{shift}, buckets)})
			}
		}
	}
	return all
}

// badDisplaceds returns values that are no tables by shifts, by what is wrong.
func badDisplaceds() map[string]impl.Displaced {
	bad := map[string]impl.Displaced{"the zero value": {}}
	for _, buckets := range []int{1, 2, 9, impl.MaxBuckets} {
		what := " of buckets " + strconv.Itoa(buckets)
		for _, shift := range []int{0, impl.MaxShift} {
			shifts := slices.Repeat([]int{shift}, buckets)
			for _, seed := range outsideSeeds {
				bad["seed "+strconv.Itoa(seed)+what+" and shifts "+strconv.Itoa(shift)] = impl.Displaced{Seed: seed, Buckets: buckets, Slots: 5, Shifts: shifts}
			}
			for _, slots := range outsideSlots {
				bad["slots "+strconv.Itoa(slots)+what+" and shifts "+strconv.Itoa(shift)] = impl.Displaced{Buckets: buckets, Slots: slots, Shifts: shifts}
			}
			for i, other := range otherLengths(buckets, shift) {
				bad["wrong length "+strconv.Itoa(i)+what+" and shifts "+strconv.Itoa(shift)] = impl.Displaced{Buckets: buckets, Slots: 5, Shifts: other}
			}
			for _, n := range []int{math.MinInt, -1, impl.MaxShift + 1, math.MaxInt} {
				for i, other := range putInto(shifts, n) {
					bad["shift "+strconv.Itoa(n)+" at "+strconv.Itoa(i)+what+" and shifts "+strconv.Itoa(shift)] = impl.Displaced{Buckets: buckets, Slots: 5, Shifts: other}
				}
			}
		}
	}
	for _, buckets := range outsideBuckets {
		for _, count := range []int{0, 1, impl.MaxBuckets, impl.MaxBuckets + 1} {
			bad["buckets "+strconv.Itoa(buckets)+" with shifts "+strconv.Itoa(count)] = impl.Displaced{Buckets: buckets, Slots: 5, Shifts: make([]int, count)}
		}
	}
	return bad
}

func TestLimitsOfPerfectHashing(t *testing.T) {
	limits := [4]int{impl.MarkFree, impl.MaxSlots, impl.MaxBuckets, impl.MaxShift}
	if limits != [4]int{3, 64, 24, 999} {
		t.Error("the document names other numbers than", limits)
	}
}

func TestBucketsOf(t *testing.T) {
	for _, keys := range keyLists() {
		for _, seed := range someSeeds {
			for buckets := 1; buckets <= impl.MaxBuckets; buckets++ {
				want := plainBuckets(seed, keys, buckets)
				if lists, ok := impl.BucketsOf(seed, keys, buckets); !ok || !sameLists(lists, want) {
					t.Fatalf("BucketsOf(%d, %q, %d) = %v, %v; want %v", seed, keys, buckets, lists, ok, want)
				}
			}
		}
	}
	if lists, ok := impl.BucketsOf(0, []string{"a", "b"}, 1); !ok || !sameLists(lists, [][]int{{0, 1}}) {
		t.Error("one bucket has all keys", lists, ok)
	}
	// The least and the greatest hash are those of the keys h and g for the seed 273 and the part 0.
	lists, ok := impl.BucketsOf(273, []string{"g", "h"}, impl.MaxBuckets)
	if !ok || len(lists) != impl.MaxBuckets || !slices.Equal(lists[0], []int{1}) || !slices.Equal(lists[impl.MaxBuckets-1], []int{0}) {
		t.Error("these keys have the last and the first bucket", lists, ok)
	}
}

func TestBuildDisplaced(t *testing.T) {
	built, refused, shifted, full := 0, 0, 0, 0
	for _, keys := range keyLists() {
		for _, seed := range []int{0, 1, 77, impl.MaxSeed} {
			for _, buckets := range []int{1, 2, 3, 5, 8, 13, 20, impl.MaxBuckets} {
				for _, slots := range []int{1, 2, 3, 5, 8, 13, 20, 23, 30, 41, 47, 60, impl.MaxSlots - 1, impl.MaxSlots} {
					want, exists := plainDisplaced(seed, keys, buckets, slots)
					d, ok := impl.BuildDisplaced(seed, keys, buckets, slots)
					if ok != exists || !sameDisplaced(d, want) {
						t.Fatalf("BuildDisplaced(%d, %q, %d, %d) = %v, %v; want %v, %v", seed, keys, buckets, slots, d, ok, want, exists)
					}
					if !ok {
						refused++
						continue
					}
					built++
					if slices.Max(d.Shifts) > 5 {
						shifted++
					}
					if slots == len(keys) {
						full++
					}
				}
			}
		}
	}
	if built < 500 || refused < 500 || shifted < 100 || full < 10 {
		t.Error("tables must have been built and refused", built, refused, shifted, full)
	}
}

func TestDisplacedGivesDifferentSlots(t *testing.T) {
	most := 0
	for _, keys := range keyLists() {
		for seed := range 25 {
			for _, size := range [][2]int{{1, 1}, {2, 5}, {5, 20}, {9, 41}, {14, 50}, {20, impl.MaxSlots}, {impl.MaxBuckets, 47}, {impl.MaxBuckets, impl.MaxSlots}} {
				d, ok := impl.BuildDisplaced(seed, keys, size[0], size[1])
				if !ok {
					continue
				}
				seen := make([]bool, size[1])
				for _, key := range keys {
					slot, ok := impl.SlotOf(d, key)
					if !ok || slot < 0 || slot >= size[1] || seen[slot] {
						t.Fatal("each key of", d, "has a slot of its own", key, slot, ok)
					}
					seen[slot] = true
				}
				free, ok := impl.FreeSlots(d, keys)
				if is, fine := impl.IsDisplacedFor(d, keys); !ok || !fine || !is || len(free) != size[1]-len(keys) {
					t.Fatal("a table is one for the keys for which it is built", d, keys, free)
				}
				for i, slot := range free {
					if seen[slot] || i > 0 && free[i-1] >= slot {
						t.Fatal("the free slots are the other ones, in order", d, keys, free)
					}
				}
				most = max(most, len(keys))
			}
		}
	}
	if most != impl.MaxKeys {
		t.Error("there must be a table of the most keys", most)
	}
}

func TestLargerBucketsAreFirst(t *testing.T) {
	// In these tables a bucket with fewer keys stands before one with more, and must make way for it.
	found, equal := 0, 0
	for seed := range 60 {
		for _, count := range []int{4, 7, 10} {
			keys := manyKeys(count)
			lists := plainBuckets(seed, keys, 3)
			d, ok := impl.BuildDisplaced(seed, keys, 3, count+3)
			if !ok {
				continue
			}
			alone := 0
			for haveEqual(shiftedSlots(seed, keys, lists[2], alone, count+3)) {
				alone++
			}
			if len(lists[0]) > 0 && len(lists[0]) < len(lists[2]) && len(lists[1]) < len(lists[2]) {
				if d.Shifts[2] != alone {
					t.Error("the bucket with the most keys gets its shift first", seed, count, d, alone)
				}
				if d.Shifts[0] > 0 {
					found++
				}
			}
			if len(lists[0]) == len(lists[2]) && len(lists[0]) > 0 && d.Shifts[2] != alone {
				equal++ // the last bucket has made way for one with as many keys
			}
		}
	}
	if found < 5 || equal < 1 {
		t.Error("the order of the buckets must have mattered", found, equal)
	}
}

func TestDisplacedWithoutKeys(t *testing.T) {
	for _, buckets := range []int{1, 5, impl.MaxBuckets} {
		for _, slots := range []int{1, 7, impl.MaxSlots} {
			d, ok := impl.BuildDisplaced(4, nil, buckets, slots)
			if !ok || !sameDisplaced(d, impl.Displaced{Seed: 4, Buckets: buckets, Slots: slots, Shifts: make([]int, buckets)}) {
				t.Error("without keys all shifts are 0", d, ok)
			}
			if is, ok := impl.IsDisplacedFor(d, nil); !ok || !is {
				t.Error("a table is one for no keys", d)
			}
			free, ok := impl.FreeSlots(d, []string{})
			if !ok || len(free) != slots || free[0] != 0 || free[slots-1] != slots-1 {
				t.Error("without keys all slots are free", free, ok)
			}
			lists, ok := impl.BucketsOf(4, nil, buckets)
			if !ok || len(lists) != buckets || len(slices.Concat(lists...)) > 0 {
				t.Error("without keys all buckets are empty", lists, ok)
			}
		}
	}
}

func TestDisplacedOfOneSlot(t *testing.T) {
	for buckets := 1; buckets <= impl.MaxBuckets; buckets++ {
		d, ok := impl.BuildDisplaced(7, []string{"a"}, buckets, 1)
		if !ok || !sameDisplaced(d, impl.Displaced{Seed: 7, Buckets: buckets, Slots: 1, Shifts: make([]int, buckets)}) {
			t.Error("a single key takes the only slot", d, ok)
		}
		if free, ok := impl.FreeSlots(d, []string{"a"}); !ok || len(free) != 0 {
			t.Error("no slot is free", free, ok)
		}
		d, ok = impl.BuildDisplaced(7, []string{"a", "b"}, buckets, 1)
		mustFailDisplaced(t, "BuildDisplaced of two keys in one slot", d, ok)
	}
}

func TestIsDisplaced(t *testing.T) {
	for _, d := range someDisplaceds() {
		if !impl.IsDisplaced(d) {
			t.Error("this is a table by shifts", d)
		}
	}
	for name, d := range badDisplaceds() {
		if impl.IsDisplaced(d) {
			t.Error("this is no table by shifts:", name)
		}
	}
}

func TestSlotOf(t *testing.T) {
	for _, d := range someDisplaceds() {
		for _, key := range anyKeys() {
			if slot, ok := impl.SlotOf(d, key); !ok || slot != plainSlot(d, key) {
				t.Fatal("the slot of", key, "in", d, "is", plainSlot(d, key), "not", slot, ok)
			}
		}
	}
}

func TestSlotOfGreatestHashes(t *testing.T) {
	// One more than the hash of the part 2 is the prime itself, or 1.
	checked := 0
	for seed := range impl.MaxSeed + 1 {
		for _, key := range []string{"a", "b", "c", "d", "e", "f", "g", "h"} {
			if step := plainHash(seed, 2, key) + 1; step != 1 && step != impl.HashPrime {
				continue
			}
			d := impl.Displaced{Seed: seed, Buckets: 1, Slots: 61, Shifts: []int{impl.MaxShift}}
			if slot, ok := impl.SlotOf(d, key); !ok || slot != plainSlot(d, key) {
				t.Error("the slot of", key, "in", d, "is", plainSlot(d, key), "not", slot, ok)
			}
			checked++
		}
	}
	if checked == 0 {
		t.Error("some keys must have the least or the greatest hash")
	}
}

func TestIsDisplacedForAndFreeSlots(t *testing.T) {
	yes, no := 0, 0
	lists := append(partsOf([]string{"a", "b", "c", "d", "e"}), keyLists()...)
	for _, d := range someDisplaceds() {
		for _, keys := range lists {
			taken := plainSlots(d, keys)
			want := !haveEqual(taken)
			if is, ok := impl.IsDisplacedFor(d, keys); !ok || is != want {
				t.Fatal("the table", d, "is one for", keys, want, "not", is, ok)
			}
			free, ok := impl.FreeSlots(d, keys)
			if !want {
				mustFailList(t, "FreeSlots with equal slots", free, ok)
				no++
				continue
			}
			var others []int
			for slot := range d.Slots {
				if !slices.Contains(taken, slot) {
					others = append(others, slot)
				}
			}
			if !ok || !slices.Equal(free, others) {
				t.Fatal("the free slots of", d, "for", keys, "are", others, "not", free, ok)
			}
			yes++
		}
	}
	if yes < 1000 || no < 1000 {
		t.Error("both answers must have been met", yes, no)
	}
}

func TestIsDisplacedForOfSpoiledTables(t *testing.T) {
	yes, no := 0, 0
	for _, keys := range [][]string{{"a", "b"}, manyKeys(5), manyKeys(20), manyKeys(impl.MaxKeys)} {
		d, ok := plainDisplaced(3, keys, 20, len(keys)+12)
		if !ok {
			t.Fatal("these keys have a table", keys)
		}
		for bucket := range d.Shifts {
			for shift := range 40 {
				spoiled := d
				spoiled.Shifts = slices.Clone(d.Shifts)
				spoiled.Shifts[bucket] = shift
				want := !haveEqual(plainSlots(spoiled, keys))
				is, ok := impl.IsDisplacedFor(spoiled, keys)
				free, told := impl.FreeSlots(spoiled, keys)
				if !ok || is != want || told != want || told && len(free) != 12 {
					t.Fatal("the table", spoiled, "is one for", keys, want, "not", is, ok, free, told)
				}
				if want {
					yes++
				} else {
					no++
				}
			}
		}
	}
	if yes < 100 || no < 100 {
		t.Error("both answers must have been met", yes, no)
	}
}

func TestBucketsRefuse(t *testing.T) {
	for _, keys := range [][]string{nil, {"a"}} {
		for _, n := range outsideSeeds {
			lists, ok := impl.BucketsOf(n, keys, 3)
			mustFailList(t, "BucketsOf the seed "+strconv.Itoa(n), lists, ok)
			d, ok := impl.BuildDisplaced(n, keys, 3, 5)
			mustFailDisplaced(t, "BuildDisplaced for the seed "+strconv.Itoa(n), d, ok)
		}
		for _, n := range outsideBuckets {
			lists, ok := impl.BucketsOf(0, keys, n)
			mustFailList(t, "BucketsOf so many: "+strconv.Itoa(n), lists, ok)
			d, ok := impl.BuildDisplaced(0, keys, n, 5)
			mustFailDisplaced(t, "BuildDisplaced with buckets "+strconv.Itoa(n), d, ok)
		}
		for _, n := range outsideSlots {
			d, ok := impl.BuildDisplaced(0, keys, 3, n)
			mustFailDisplaced(t, "BuildDisplaced with slots "+strconv.Itoa(n), d, ok)
		}
	}
	for _, list := range badLists() {
		lists, ok := impl.BucketsOf(0, list, 3)
		mustFailList(t, "BucketsOf no keys", lists, ok)
		d, ok := impl.BuildDisplaced(0, list, impl.MaxBuckets, impl.MaxSlots)
		mustFailDisplaced(t, "BuildDisplaced of no keys", d, ok)
	}
}

func TestDisplacedCallsRefuse(t *testing.T) {
	for name, d := range badDisplaceds() {
		for _, key := range []string{"a", "k"} {
			slot, ok := impl.SlotOf(d, key)
			mustFail(t, "SlotOf "+name, slot, ok)
		}
		for _, keys := range [][]string{nil, {"a"}, {"a", "b", "c"}} {
			is, ok := impl.IsDisplacedFor(d, keys)
			mustFail(t, "IsDisplacedFor of "+name, is, ok)
			free, ok := impl.FreeSlots(d, keys)
			mustFailList(t, "FreeSlots of "+name, free, ok)
		}
	}
	d := impl.Displaced{Buckets: 2, Slots: impl.MaxSlots, Shifts: []int{1, 2}}
	for _, key := range badKeys() {
		slot, ok := impl.SlotOf(d, key)
		mustFail(t, "SlotOf no key", slot, ok)
	}
	for _, list := range badLists() {
		is, ok := impl.IsDisplacedFor(d, list)
		mustFail(t, "IsDisplacedFor no keys", is, ok)
		free, ok := impl.FreeSlots(d, list)
		mustFailList(t, "FreeSlots of no keys", free, ok)
	}
}
