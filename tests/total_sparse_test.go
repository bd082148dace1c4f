package tests

import (
	"math"
	"slices"
	"strconv"
	"testing"

	"loop.example/g01097/impl"
)

// The tests of this file are for promise 11: what chapter 3 is called with.

// ofSparse returns the outcome that is a Sparse.
func ofSparse(s impl.Sparse, ok bool) outcome {
	return outcome{lists: [][]int{s.Low.Words, s.High.Words, {s.Low.Size, s.High.Size, s.Width}}, numbers: [2]int{s.Count, s.Limit}, ok: ok}
}

// spareSparse returns an equal Sparse with other numbers in the spare capacity of its words, and a function that reports whether all are as they were.
func spareSparse(s impl.Sparse) (impl.Sparse, func() bool) {
	low, lowKept := withSpare(s.Low.Words, 1, 65535, 5, -9)
	high, highKept := withSpare(s.High.Words, 3, 70000, 2, -1)
	s.Low.Words, s.High.Words = low, high
	return s, func() bool { return lowKept() && highKept() }
}

// goodSparses returns some valid values, without numbers, with widths of 0 and with the most numbers among them.
func goodSparses() []impl.Sparse {
	var all []impl.Sparse
	for _, n := range []sorted{{nil, 1}, {nil, impl.MaxLimit}, {[]int{0}, 1}, {[]int{3, 5, 21}, 24}, {[]int{0, 0, 1, 1}, 2}, {[]int{5, 5, 5, 9}, 16}, {[]int{16}, 17}, {[]int{impl.MaxLimit - 1}, impl.MaxLimit},
		scattered(impl.MaxCount, 40, 1), scattered(impl.MaxCount, impl.MaxLimit, 2), scattered(30, impl.MaxBits+1, 3)} {
		all = append(all, sparse(n.list, n.limit))
	}
	return all
}

// someSparses returns values that are valid, and such that are not.
func someSparses() []impl.Sparse {
	all := goodSparses()
	for _, s := range badSparses() {
		all = append(all, s)
	}
	return all
}

// aroundLimits are numbers at and behind the limits of chapter 3, and the greatest and the least ones.
var aroundLimits = []int{math.MinInt, math.MinInt + 1, -1, 0, 1, 2, 3, 23, 24, 25, impl.MaxCount - 1, impl.MaxCount, impl.MaxCount + 1, impl.MaxLimit - 1, impl.MaxLimit, impl.MaxLimit + 1, 1 << 62, math.MaxInt - 1, math.MaxInt}

func TestSparseCallsAreTotal(t *testing.T) {
	calls := []struct {
		name string
		call func(s impl.Sparse, n int) outcome
	}{
		{"IsSparse", func(s impl.Sparse, n int) outcome { return outcome{on: impl.IsSparse(s)} }},
		{"SparseAt", func(s impl.Sparse, n int) outcome { return ofNumber(impl.SparseAt(s, n)) }},
		{"SparseList", func(s impl.Sparse, n int) outcome { return ofList(impl.SparseList(s)) }},
		{"CountBelow", func(s impl.Sparse, n int) outcome { return ofNumber(impl.CountBelow(s, n)) }},
		{"LastAtMost", func(s impl.Sparse, n int) outcome { return ofNumber(impl.LastAtMost(s, n)) }},
		{"FirstAtLeast", func(s impl.Sparse, n int) outcome { return ofNumber(impl.FirstAtLeast(s, n)) }},
		{"HasNumber", func(s impl.Sparse, n int) outcome {
			has, ok := impl.HasNumber(s, n)
			return outcome{on: has, ok: ok}
		}},
		{"SparseBits", func(s impl.Sparse, n int) outcome { return ofNumber(impl.SparseBits(s)) }},
		{"SliceSparse of all", func(s impl.Sparse, n int) outcome { return ofSparse(impl.SliceSparse(s, 0, s.Count)) }},
		{"SliceSparse from", func(s impl.Sparse, n int) outcome { return ofSparse(impl.SliceSparse(s, n, s.Count)) }},
		{"SliceSparse until", func(s impl.Sparse, n int) outcome { return ofSparse(impl.SliceSparse(s, 0, n)) }},
		{"SliceSparse from the greatest", func(s impl.Sparse, n int) outcome { return ofSparse(impl.SliceSparse(s, math.MaxInt, n)) }},
		{"SliceSparse from the least", func(s impl.Sparse, n int) outcome { return ofSparse(impl.SliceSparse(s, math.MinInt, n)) }},
	}
	for _, c := range calls {
		for _, s := range someSparses() {
			spared, unchanged := spareSparse(s)
			for _, n := range aroundLimits {
				checkCall(t, c.name+" of "+strconv.Itoa(s.Count)+" numbers for "+strconv.Itoa(s.Limit)+", "+strconv.Itoa(n),
					func() outcome { return c.call(s, n) }, func() outcome { return c.call(spared, n) }, unchanged)
			}
		}
	}
}

func TestPairsOfSparsesAreTotal(t *testing.T) {
	calls := map[string]func(a impl.Sparse, b impl.Sparse) outcome{
		"MergeSparse": func(a impl.Sparse, b impl.Sparse) outcome { return ofSparse(impl.MergeSparse(a, b)) },
		"MeetSparse":  func(a impl.Sparse, b impl.Sparse) outcome { return ofList(impl.MeetSparse(a, b)) },
	}
	check := func(name string, a impl.Sparse, b impl.Sparse) {
		first, firstKept := spareSparse(a)
		second, secondKept := spareSparse(b)
		checkCall(t, name+" of "+strconv.Itoa(a.Count)+" and "+strconv.Itoa(b.Count)+" numbers",
			func() outcome { return calls[name](a, b) }, func() outcome { return calls[name](first, second) },
			func() bool { return firstKept() && secondKept() })
	}
	for name := range calls {
		for _, a := range someSparses() {
			for _, b := range goodSparses() {
				check(name, a, b)
				check(name, b, a)
			}
			check(name, a, a)
		}
	}
}

func TestOneSparseAsBothArguments(t *testing.T) {
	list := []int{3, 5, 5, 21}
	s := sparse(list, 24)
	merged, ok := impl.MergeSparse(s, s)
	if !ok || !sameSparse(merged, []int{3, 3, 5, 5, 5, 5, 21, 21}, 24) || !sameSparse(s, list, 24) {
		t.Error("a Sparse is merged with itself", merged, s)
	}
	meet, ok := impl.MeetSparse(s, s)
	if !ok || !slices.Equal(meet, []int{3, 5, 21}) || !sameSparse(s, list, 24) {
		t.Error("a Sparse meets itself", meet, s)
	}
}

func TestNumberListCallsAreTotal(t *testing.T) {
	calls := map[string]func(list []int) outcome{
		"EncodeGamma": func(list []int) outcome { return ofBits(impl.EncodeGamma(list)) },
		"EncodeDelta": func(list []int) outcome { return ofBits(impl.EncodeDelta(list)) },
		"GapsOf":      func(list []int) outcome { return ofList(impl.GapsOf(list)) },
		"FromGaps":    func(list []int) outcome { return ofList(impl.FromGaps(list)) },
	}
	for _, limit := range aroundLimits {
		calls["BuildSparse for "+strconv.Itoa(limit)] = func(list []int) outcome { return ofSparse(impl.BuildSparse(list, limit)) }
	}
	all := append(codeLists(), risingLists()...)
	for _, n := range unsorted() {
		all = append(all, n.list)
	}
	for _, n := range aroundLimits {
		all = append(all, []int{n}, []int{n, n}, []int{1, n}, []int{n, 1}, []int{n, math.MaxInt}, []int{n, math.MinInt}, []int{0, n, n + 1})
	}
	for name, call := range calls {
		for _, list := range all {
			spared, unchanged := withSpare(list, 100, -1, 5, 99999)
			checkCall(t, name+" of "+strconv.Itoa(len(list))+" numbers", func() outcome { return call(list) }, func() outcome { return call(spared) }, unchanged)
		}
	}
}

func TestDecodeCallsAreTotal(t *testing.T) {
	vectors := someVectors()
	for _, f := range families() {
		for _, list := range [][]int{{1}, {5, 9, 2}, {impl.MaxLimit}, powers(), slices.Repeat([]int{1}, impl.MaxCount)} {
			vectors = append(vectors, pack(f.textOf(list)))
		}
		for _, n := range []int{impl.MaxLimit + 1, 1 << 25, 1 << 61} {
			vectors = append(vectors, pack(f.text(n)))
		}
	}
	vectors = append(vectors, pack(gammaText(4000)), pack(gammaText(impl.MaxLimit)), pack(mixed(4096, 9)), pack("1"))
	for _, f := range families() {
		for _, b := range vectors {
			words, unchanged := withSpare(b.Words, 1, 65535, 5, -9)
			spared := impl.Bits{Size: b.Size, Words: words}
			for _, count := range append([]int{len(powers())}, aroundLimits...) {
				checkCall(t, f.name+" codes of "+strconv.Itoa(count)+" numbers in "+strconv.Itoa(b.Size)+" bits",
					func() outcome { return ofList(f.decode(b, count)) }, func() outcome { return ofList(f.decode(spared, count)) }, unchanged)
			}
		}
	}
}

func TestNumberCallsAreTotal(t *testing.T) {
	for _, n := range aroundLimits {
		for _, limit := range aroundLimits {
			width := func() outcome { return ofNumber(impl.WidthFor(n, limit)) }
			checkCall(t, "WidthFor "+strconv.Itoa(n)+" and "+strconv.Itoa(limit), width, width, func() bool { return true })
		}
		for _, f := range families() {
			length := func() outcome { return ofNumber(f.length(n)) }
			checkCall(t, f.name+" length of "+strconv.Itoa(n), length, length, func() bool { return true })
		}
	}
}
