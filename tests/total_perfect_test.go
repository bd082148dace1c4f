package tests

import (
	"math"
	"slices"
	"strconv"
	"testing"

	"loop.example/g01097/impl"
)

// The tests of this file are for promise 11: what chapter 5 is called with.

// ofPeeled returns the outcome that is a table by peeling.
func ofPeeled(p impl.Peeled, ok bool) outcome {
	return outcome{lists: [][]int{p.Marks}, numbers: [2]int{p.Seed, p.Segment}, ok: ok}
}

// ofDisplaced returns the outcome that is a table by shifts.
func ofDisplaced(d impl.Displaced, ok bool) outcome {
	return outcome{lists: [][]int{d.Shifts, {d.Buckets, d.Slots}}, numbers: [2]int{d.Seed}, ok: ok}
}

// ofOrdered returns the outcome that is a table in the order of keys.
func ofOrdered(o impl.Ordered, ok bool) outcome {
	return outcome{lists: [][]int{o.Values, {o.Count}}, numbers: [2]int{o.Seed, o.Segment}, ok: ok}
}

// perfectExtremes are numbers at and behind the limits of chapter 5, and the least and the greatest ones.
var perfectExtremes = []int{math.MinInt, math.MinInt + 1, -1, 0, 1, 2, impl.MaxSegment, impl.MaxSegment + 1, impl.MaxSlots, impl.MaxSlots + 1, impl.MaxShift, impl.MaxShift + 1,
	impl.MaxBits, impl.MaxBits + 1, impl.MaxSeed, impl.MaxSeed + 1, math.MaxInt - 100, math.MaxInt - 1, math.MaxInt}

// totalKeyLists returns keys, and lists that are none.
func totalKeyLists() [][]string {
	return append(badLists(), nil, []string{"a"}, []string{"a", "b"}, manyKeys(7), manyKeys(impl.MaxKeys), make([]string, 1000))
}

// checkTableCall checks that a call with a list of numbers and one of keys is total, with and without spare capacity of both.
func checkTableCall(t *testing.T, what string, list []int, keys []string, call func(list []int, keys []string) outcome) {
	t.Helper()
	listBefore, keysBefore := slices.Clone(list), slices.Clone(keys)
	sparedList, listKept := withSpare(list, 1, 0, 3, -5, 2000)
	sparedKeys, keysKept := withSpare(keys, "zz", "", "b")
	checkCall(t, what+" of "+strconv.Itoa(len(list))+" numbers and "+strconv.Itoa(len(keys))+" strings",
		func() outcome { return call(list, keys) }, func() outcome { return call(sparedList, sparedKeys) },
		func() bool {
			return listKept() && keysKept() && slices.Equal(list, listBefore) && slices.Equal(keys, keysBefore)
		})
}

func TestBuildCallsAreTotal(t *testing.T) {
	calls := map[string]func(keys []string, a int, b int) outcome{
		"BuildPeeled":             func(keys []string, a int, b int) outcome { return ofPeeled(impl.BuildPeeled(a, keys, b)) },
		"BucketsOf":               func(keys []string, a int, b int) outcome { return ofLists(impl.BucketsOf(a, keys, b)) },
		"BuildDisplaced":          func(keys []string, a int, b int) outcome { return ofDisplaced(impl.BuildDisplaced(a, keys, b, 64)) },
		"BuildDisplaced in slots": func(keys []string, a int, b int) outcome { return ofDisplaced(impl.BuildDisplaced(0, keys, a, b)) },
		"BuildOrdered":            func(keys []string, a int, b int) outcome { return ofOrdered(impl.BuildOrdered(a, keys, b)) },
		"PlainSeed":               func(keys []string, a int, b int) outcome { return ofNumber(impl.PlainSeed(keys, 64, a, b)) },
		"PlainSeed for slots":     func(keys []string, a int, b int) outcome { return ofNumber(impl.PlainSeed(keys, a, 0, b)) },
		"PlainSeed from a seed":   func(keys []string, a int, b int) outcome { return ofNumber(impl.PlainSeed(keys, a, b, impl.MaxSeed+1)) },
	}
	for name, call := range calls {
		for _, keys := range totalKeyLists() {
			for _, a := range perfectExtremes {
				for _, b := range perfectExtremes {
					checkTableCall(t, name+" "+strconv.Itoa(a)+", "+strconv.Itoa(b), nil, keys, func(list []int, keys []string) outcome { return call(keys, a, b) })
				}
			}
		}
	}
}

// totalKeys returns keys, and strings that are none.
func totalKeys() []string {
	return append(badKeys(), "a", "k", "!", "}", "abcdefghijkl", "}}}}}}}}}}}}")
}

// checkTable checks that calls with a table, told by its list of numbers, are total: with each key, and with each list of keys.
func checkTable(t *testing.T, what string, list []int, single map[string]func(list []int, key string) outcome, many map[string]func(list []int, keys []string) outcome) {
	t.Helper()
	for name, call := range single {
		for _, key := range totalKeys() {
			checkTableCall(t, name+" of "+strconv.Quote(key)+", "+what, list, nil, func(list []int, keys []string) outcome { return call(list, key) })
		}
	}
	for name, call := range many {
		for _, keys := range totalKeyLists() {
			checkTableCall(t, name+", "+what, list, keys, call)
		}
	}
}

// spoiledLists returns a list, and such with extreme numbers or other lengths.
func spoiledLists(list []int) [][]int {
	all := [][]int{list, nil, make([]int, 1000)}
	if len(list) > 0 {
		all = append(all, list[1:], append(slices.Clone(list), 0))
		for _, n := range perfectExtremes {
			all = append(all, putInto(list, n)...)
		}
	}
	return all
}

func TestPeeledCallsAreTotal(t *testing.T) {
	tables := []impl.Peeled{{}, {Segment: 1, Marks: []int{0, 3, 3}}, {Segment: 1, Marks: []int{1, 0, 2}}, {Seed: impl.MaxSeed, Segment: impl.MaxSegment, Marks: scatteredNumbers(72, 4, 1)}}
	for _, keys := range [][]string{{"a", "b"}, manyKeys(7)} {
		p, _ := plainPeeled(3, keys, 9)
		tables = append(tables, p)
	}
	for _, n := range perfectExtremes {
		tables = append(tables, impl.Peeled{Seed: n, Segment: 1, Marks: []int{0, 1, 2}}, impl.Peeled{Seed: 1, Segment: n, Marks: []int{0, 1, 2}}, impl.Peeled{Seed: n, Segment: n})
	}
	for _, p := range tables {
		with := func(marks []int) impl.Peeled { return impl.Peeled{Seed: p.Seed, Segment: p.Segment, Marks: marks} }
		single := map[string]func(marks []int, key string) outcome{
			"IsPeeled":    func(marks []int, key string) outcome { return outcome{on: impl.IsPeeled(with(marks))} },
			"PeeledPlace": func(marks []int, key string) outcome { return ofNumber(impl.PeeledPlace(with(marks), key)) },
			"PeeledIndex": func(marks []int, key string) outcome { return ofNumber(impl.PeeledIndex(with(marks), key)) },
			"UsedOf":      func(marks []int, key string) outcome { return ofRanked(impl.UsedOf(with(marks))) },
			"PackMarks":   func(marks []int, key string) outcome { return ofBits(impl.PackMarks(with(marks))) },
		}
		many := map[string]func(marks []int, keys []string) outcome{
			"IsPeeledFor": func(marks []int, keys []string) outcome { return ofAnswer(impl.IsPeeledFor(with(marks), keys)) },
		}
		for _, marks := range spoiledLists(p.Marks) {
			checkTable(t, strconv.Itoa(p.Seed)+", "+strconv.Itoa(p.Segment), marks, single, many)
		}
	}
}

func TestDisplacedCallsAreTotal(t *testing.T) {
	tables := []impl.Displaced{{}, {Buckets: 1, Slots: 1, Shifts: []int{0}}, {Seed: impl.MaxSeed, Buckets: impl.MaxBuckets, Slots: impl.MaxSlots, Shifts: slices.Repeat([]int{impl.MaxShift}, impl.MaxBuckets)}}
	for _, keys := range [][]string{{"a", "b"}, manyKeys(7)} {
		d, _ := plainDisplaced(3, keys, 5, 20)
		tables = append(tables, d)
	}
	for _, n := range perfectExtremes {
		tables = append(tables, impl.Displaced{Seed: n, Buckets: 2, Slots: 9, Shifts: []int{1, 2}}, impl.Displaced{Buckets: n, Slots: 9, Shifts: []int{1, 2}},
			impl.Displaced{Buckets: 2, Slots: n, Shifts: []int{1, 2}}, impl.Displaced{Seed: n, Buckets: n, Slots: n})
	}
	for _, d := range tables {
		with := func(shifts []int) impl.Displaced {
			return impl.Displaced{Seed: d.Seed, Buckets: d.Buckets, Slots: d.Slots, Shifts: shifts}
		}
		single := map[string]func(shifts []int, key string) outcome{
			"IsDisplaced": func(shifts []int, key string) outcome { return outcome{on: impl.IsDisplaced(with(shifts))} },
			"SlotOf":      func(shifts []int, key string) outcome { return ofNumber(impl.SlotOf(with(shifts), key)) },
		}
		many := map[string]func(shifts []int, keys []string) outcome{
			"IsDisplacedFor": func(shifts []int, keys []string) outcome { return ofAnswer(impl.IsDisplacedFor(with(shifts), keys)) },
			"FreeSlots":      func(shifts []int, keys []string) outcome { return ofList(impl.FreeSlots(with(shifts), keys)) },
		}
		for _, shifts := range spoiledLists(d.Shifts) {
			checkTable(t, strconv.Itoa(d.Seed)+", "+strconv.Itoa(d.Buckets)+", "+strconv.Itoa(d.Slots), shifts, single, many)
		}
	}
}

func TestOrderedCallsAreTotal(t *testing.T) {
	tables := []impl.Ordered{{}, {Segment: 1, Count: 1, Values: []int{0, 0, 0}}, {Segment: 1, Count: 0, Values: []int{0, 0, 0}}, {Seed: impl.MaxSeed, Segment: impl.MaxSegment, Count: impl.MaxKeys, Values: scatteredNumbers(72, 40, 1)}}
	for _, keys := range [][]string{{"a", "b"}, manyKeys(7)} {
		o, _ := plainOrdered(3, keys, 9)
		tables = append(tables, o)
	}
	for _, n := range perfectExtremes {
		tables = append(tables, impl.Ordered{Seed: n, Segment: 1, Count: 3, Values: []int{0, 1, 2}}, impl.Ordered{Segment: n, Count: 3, Values: []int{0, 1, 2}},
			impl.Ordered{Segment: 1, Count: n, Values: []int{0, 0, 0}}, impl.Ordered{Seed: n, Segment: n, Count: n})
	}
	for _, o := range tables {
		with := func(values []int) impl.Ordered {
			return impl.Ordered{Seed: o.Seed, Segment: o.Segment, Count: o.Count, Values: values}
		}
		single := map[string]func(values []int, key string) outcome{
			"IsOrdered": func(values []int, key string) outcome { return outcome{on: impl.IsOrdered(with(values))} },
			"OrdinalOf": func(values []int, key string) outcome { return ofNumber(impl.OrdinalOf(with(values), key)) },
		}
		many := map[string]func(values []int, keys []string) outcome{
			"IsOrderedFor": func(values []int, keys []string) outcome { return ofAnswer(impl.IsOrderedFor(with(values), keys)) },
		}
		for _, values := range spoiledLists(o.Values) {
			checkTable(t, strconv.Itoa(o.Seed)+", "+strconv.Itoa(o.Segment)+", "+strconv.Itoa(o.Count), values, single, many)
		}
	}
}

func TestUnpackMarksIsTotal(t *testing.T) {
	vectors := append(someVectors(), pack(mixed(6, 1)), pack(mixed(12, 2)), pack(mixed(6*impl.MaxSegment, 3)), pack(mixed(6*impl.MaxSegment+6, 4)))
	for _, b := range vectors {
		for _, seed := range perfectExtremes {
			for _, segment := range perfectExtremes {
				checkTableCall(t, "UnpackMarks for "+strconv.Itoa(seed)+" and "+strconv.Itoa(segment)+" from "+strconv.Itoa(b.Size)+" bits", b.Words, nil,
					func(words []int, keys []string) outcome {
						return ofPeeled(impl.UnpackMarks(seed, segment, impl.Bits{Size: b.Size, Words: words}))
					})
			}
		}
	}
}
