package tests

import (
	"math"
	"slices"
	"strconv"
	"testing"

	"loop.example/g01097/impl"
)

// The tests of this file are for promise 5: tables in the order of the keys.

// plainOrdinal returns the ordinal of a key.
func plainOrdinal(o impl.Ordered, key string) int {
	edge := plainEdge(o.Seed, key, o.Segment)
	return (o.Values[edge[0]] + o.Values[edge[1]] + o.Values[edge[2]]) % o.Count
}

// plainOrdered returns the table in the order of the keys: for the steps from the last to the first one, values are tried until the ordinal of the key is its index.
func plainOrdered(seed int, keys []string, segment int) (impl.Ordered, bool) {
	steps, ok := plainOrder(plainHyper(seed, keys, segment))
	if !ok || len(keys) == 0 {
		return impl.Ordered{}, false
	}
	o := impl.Ordered{Seed: seed, Segment: segment, Count: len(keys), Values: make([]int, 3*segment)}
	slices.Reverse(steps)
	for _, step := range steps {
		for plainOrdinal(o, keys[step.Edge]) != step.Edge {
			o.Values[step.Place]++
		}
	}
	return o, true
}

// isPlainOrderedFor reports whether there are as many keys as the table counts, each with its index as its ordinal.
func isPlainOrderedFor(o impl.Ordered, keys []string) bool {
	for i, key := range keys {
		if plainOrdinal(o, key) != i {
			return false
		}
	}
	return len(keys) == o.Count
}

// sameOrdered reports whether two tables are equal.
func sameOrdered(a impl.Ordered, b impl.Ordered) bool {
	return a.Seed == b.Seed && a.Segment == b.Segment && a.Count == b.Count && slices.Equal(a.Values, b.Values)
}

// mustFailOrdered checks that a call failed with the zero table.
func mustFailOrdered(t *testing.T, what string, o impl.Ordered, ok bool) {
	t.Helper()
	if ok || !sameOrdered(o, impl.Ordered{}) {
		t.Errorf("%s: got %v, %v; it must fail with the zero value", what, o, ok)
	}
}

// someOrdereds returns tables with values of any kind, the limits of each number among them.
func someOrdereds() []impl.Ordered {
	var all []impl.Ordered
	for segment := 1; segment <= impl.MaxSegment; segment++ {
		for _, count := range []int{1, 2, 3, 7, 25, impl.MaxKeys - 1, impl.MaxKeys} {
			for _, seed := range []int{0, 100 * segment, impl.MaxSeed} {
				all = append(all, impl.Ordered{Seed: seed, Segment: segment, Count: count, Values: scatteredNumbers(3*segment, count, segment+count)})
			}
			for _, value := range []int{0, count - 1} {
				all = append(all, impl.Ordered{Seed: segment, Segment: segment, Count: count, Values: slices.Repeat([]int{value}, 3*segment)})
			}
		}
	}
	return all
}

// badOrdereds returns values that are no tables in the order of keys, by what is wrong.
func badOrdereds() map[string]impl.Ordered {
	bad := map[string]impl.Ordered{"the zero value": {}}
	for _, segment := range []int{1, 2, 8, impl.MaxSegment} {
		for _, count := range []int{1, 5, impl.MaxKeys} {
			what := " of the segment " + strconv.Itoa(segment) + " and the count " + strconv.Itoa(count)
			values := slices.Repeat([]int{count - 1}, 3*segment)
			for _, seed := range outsideSeeds {
				bad["seed "+strconv.Itoa(seed)+what] = impl.Ordered{Seed: seed, Segment: segment, Count: count, Values: values}
			}
			for i, other := range otherLengths(3*segment, count-1) {
				bad["wrong length "+strconv.Itoa(i)+what] = impl.Ordered{Segment: segment, Count: count, Values: other}
			}
			for _, n := range []int{math.MinInt, -1, count, count + 1, math.MaxInt} {
				for i, other := range putInto(values, n) {
					bad["value "+strconv.Itoa(n)+" at "+strconv.Itoa(i)+what] = impl.Ordered{Segment: segment, Count: count, Values: other}
				}
			}
		}
		for _, count := range []int{math.MinInt, -1, 0, impl.MaxKeys + 1, math.MaxInt} {
			for _, value := range []int{-1, 0, 1} {
				bad["count "+strconv.Itoa(count)+" with values "+strconv.Itoa(value)+" of the segment "+strconv.Itoa(segment)] = impl.Ordered{Segment: segment, Count: count, Values: slices.Repeat([]int{value}, 3*segment)}
			}
		}
	}
	for _, segment := range outsideSegments {
		for _, length := range []int{0, 1, 3, 3 * impl.MaxSegment, 3*impl.MaxSegment + 3} {
			bad["segment "+strconv.Itoa(segment)+" with values "+strconv.Itoa(length)] = impl.Ordered{Segment: segment, Count: 2, Values: make([]int, length)}
		}
	}
	return bad
}

func TestBuildOrdered(t *testing.T) {
	built, refused, most := 0, 0, 0
	for _, keys := range keyLists() {
		for _, seed := range someSeeds {
			for segment := 1; segment <= impl.MaxSegment; segment++ {
				want, exists := plainOrdered(seed, keys, segment)
				o, ok := impl.BuildOrdered(seed, keys, segment)
				if ok != exists || !sameOrdered(o, want) {
					t.Fatalf("BuildOrdered(%d, %q, %d) = %v, %v; want %v, %v", seed, keys, segment, o, ok, want, exists)
				}
				if ok {
					built++
					most = max(most, len(keys))
				} else if len(keys) > 0 {
					refused++
				}
			}
		}
	}
	if built < 500 || refused < 500 || most != impl.MaxKeys {
		t.Error("tables must have been built and refused", built, refused, most)
	}
}

func TestOrderedExistsWithAPeelOrder(t *testing.T) {
	for _, keys := range keyLists()[1:] {
		for seed := range 40 {
			for _, segment := range []int{1, 2, 3, 6, 9, 14, 20, impl.MaxSegment} {
				h, ok := impl.HyperOf(seed, keys, segment)
				if !ok {
					t.Fatal("there is a Hyper of keys", seed, keys, segment)
				}
				_, hasOrder := impl.PeelOrder(h)
				o, exists := impl.BuildOrdered(seed, keys, segment)
				if exists != hasOrder {
					t.Fatal("a table exists just with a peel order", seed, keys, segment, exists, hasOrder)
				}
				if !exists {
					continue
				}
				if is, ok := impl.IsOrderedFor(o, keys); !impl.IsOrdered(o) || !ok || !is {
					t.Fatal("a table is one for the keys for which it is built", o, keys, is, ok)
				}
				for i, key := range keys {
					if ordinal, ok := impl.OrdinalOf(o, key); !ok || ordinal != i {
						t.Fatal("the ordinal of", key, "in", o, "is its index", i, "not", ordinal, ok)
					}
				}
			}
		}
	}
}

func TestOrderedOfMostKeys(t *testing.T) {
	// For the seed 77 there is a peel order of the most keys just with the greatest segment.
	keys := manyKeys(impl.MaxKeys)
	o, ok := impl.BuildOrdered(77, keys, impl.MaxSegment)
	if is, fine := impl.IsOrderedFor(o, keys); !ok || !fine || !is || o.Count != impl.MaxKeys {
		t.Error("there may be as many keys and places as the limits", o, ok)
	}
	for segment := 1; segment < impl.MaxSegment; segment++ {
		o, ok := impl.BuildOrdered(77, keys, segment)
		mustFailOrdered(t, "BuildOrdered without a peel order", o, ok)
	}
	o, ok = impl.BuildOrdered(77, manyKeys(impl.MaxKeys+1), impl.MaxSegment)
	mustFailOrdered(t, "BuildOrdered of one key too many", o, ok)
	o, ok = impl.BuildOrdered(77, keys, impl.MaxSegment+1)
	mustFailOrdered(t, "BuildOrdered for a segment too great", o, ok)
	if o, ok := impl.BuildOrdered(impl.MaxSeed, keys[:20], impl.MaxSegment); !ok || o.Seed != impl.MaxSeed {
		t.Error("the greatest seed has tables", o, ok)
	}
}

func TestOrderedWithTheSegmentOne(t *testing.T) {
	for _, seed := range someSeeds {
		o, ok := impl.BuildOrdered(seed, []string{"k"}, 1)
		if !ok || !sameOrdered(o, impl.Ordered{Seed: seed, Segment: 1, Count: 1, Values: []int{0, 0, 0}}) {
			t.Error("a single key has the ordinal 0", o, ok)
		}
		o, ok = impl.BuildOrdered(seed, []string{"a", "b"}, 1)
		mustFailOrdered(t, "BuildOrdered of two keys with the segment 1", o, ok)
	}
	o := impl.Ordered{Seed: 1, Segment: 1, Count: 5, Values: []int{4, 4, 3}}
	for _, key := range anyKeys() {
		if ordinal, ok := impl.OrdinalOf(o, key); !ok || ordinal != 1 {
			t.Error("with the segment 1 all keys have the same ordinal", key, ordinal, ok)
		}
	}
}

func TestIsOrdered(t *testing.T) {
	for _, o := range someOrdereds() {
		if !impl.IsOrdered(o) {
			t.Error("this is a table in the order of keys", o)
		}
	}
	for name, o := range badOrdereds() {
		if impl.IsOrdered(o) {
			t.Error("this is no table in the order of keys:", name)
		}
	}
}

func TestOrdinalOf(t *testing.T) {
	for _, o := range someOrdereds() {
		for _, key := range anyKeys() {
			if ordinal, ok := impl.OrdinalOf(o, key); !ok || ordinal != plainOrdinal(o, key) {
				t.Fatal("the ordinal of", key, "in", o, "is", plainOrdinal(o, key), "not", ordinal, ok)
			}
		}
	}
}

func TestIsOrderedForOfSmallTables(t *testing.T) {
	yes := 0
	for n := range 1200 {
		count := n%3 + 1
		o := impl.Ordered{Seed: n % 7, Segment: n%2 + 1, Count: count, Values: scatteredNumbers(3*(n%2+1), count, n)}
		for _, keys := range partsOf([]string{"a", "b", "c", "d", "e"}) {
			want := isPlainOrderedFor(o, keys)
			if is, ok := impl.IsOrderedFor(o, keys); !ok || is != want {
				t.Fatal("the table", o, "is one for", keys, want, "not", is, ok)
			}
			if want {
				yes++
			}
		}
	}
	if yes < 100 {
		t.Error("some tables must be ones for keys", yes)
	}
}

func TestIsOrderedForOfSpoiledTables(t *testing.T) {
	yes, no := 0, 0
	for _, keys := range keyLists() {
		for _, segment := range []int{1, 2, 6, 12, 19, impl.MaxSegment} {
			o, ok := plainOrdered(9, keys, segment)
			if !ok {
				continue
			}
			for _, list := range changedKeys(keys) {
				if is, ok := impl.IsOrderedFor(o, list); !ok || is != isPlainOrderedFor(o, list) {
					t.Fatal("the table", o, "is one for", list, is, ok)
				}
			}
			for place := range o.Values {
				for _, value := range []int{0, 1, o.Count / 2, o.Count - 1} {
					if value >= o.Count {
						continue
					}
					spoiled := o
					spoiled.Values = slices.Clone(o.Values)
					spoiled.Values[place] = value
					want := isPlainOrderedFor(spoiled, keys)
					if is, ok := impl.IsOrderedFor(spoiled, keys); !ok || is != want {
						t.Fatal("the table", spoiled, "is one for", keys, want, "not", is, ok)
					}
					if want {
						yes++
					} else {
						no++
					}
				}
			}
		}
	}
	if yes < 100 || no < 100 {
		t.Error("both answers must have been met", yes, no)
	}
}

func TestIsOrderedForOtherCounts(t *testing.T) {
	keys := manyKeys(9)
	o, ok := impl.BuildOrdered(2, keys, 20)
	if !ok {
		t.Fatal("these keys have a table")
	}
	for many := range keys {
		if is, ok := impl.IsOrderedFor(o, keys[:many]); !ok || is {
			t.Error("there are too few keys, though their ordinals are their indices", many, is, ok)
		}
	}
	if is, ok := impl.IsOrderedFor(o, manyKeys(10)); !ok || is {
		t.Error("there is one key too many", is, ok)
	}
	one := impl.Ordered{Segment: 1, Count: 1, Values: []int{0, 0, 0}}
	if is, ok := impl.IsOrderedFor(one, nil); !ok || is {
		t.Error("a table is never one for no keys", is, ok)
	}
}

func TestBuildOrderedRefuses(t *testing.T) {
	for segment := 1; segment <= impl.MaxSegment; segment++ {
		for _, none := range [][]string{nil, {}} {
			o, ok := impl.BuildOrdered(0, none, segment)
			mustFailOrdered(t, "BuildOrdered without keys", o, ok)
		}
	}
	for _, n := range outsideSeeds {
		o, ok := impl.BuildOrdered(n, []string{"a"}, 4)
		mustFailOrdered(t, "BuildOrdered for the seed "+strconv.Itoa(n), o, ok)
	}
	for _, n := range outsideSegments {
		o, ok := impl.BuildOrdered(0, []string{"a"}, n)
		mustFailOrdered(t, "BuildOrdered for the segment "+strconv.Itoa(n), o, ok)
	}
	for _, list := range badLists() {
		o, ok := impl.BuildOrdered(0, list, impl.MaxSegment)
		mustFailOrdered(t, "BuildOrdered of no keys", o, ok)
	}
}

func TestOrderedCallsRefuse(t *testing.T) {
	for name, o := range badOrdereds() {
		for _, key := range []string{"a", "k"} {
			ordinal, ok := impl.OrdinalOf(o, key)
			mustFail(t, "OrdinalOf "+name, ordinal, ok)
		}
		for _, keys := range [][]string{nil, {"a"}, {"a", "b", "c"}} {
			is, ok := impl.IsOrderedFor(o, keys)
			mustFail(t, "IsOrderedFor of "+name, is, ok)
		}
	}
	o := impl.Ordered{Segment: 2, Count: 3, Values: []int{0, 1, 2, 1, 1, 0}}
	for _, key := range badKeys() {
		ordinal, ok := impl.OrdinalOf(o, key)
		mustFail(t, "OrdinalOf no key", ordinal, ok)
	}
	for _, list := range badLists() {
		is, ok := impl.IsOrderedFor(o, list)
		mustFail(t, "IsOrderedFor no keys", is, ok)
	}
}
