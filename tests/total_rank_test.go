package tests

import (
	"math"
	"slices"
	"strconv"
	"testing"

	"loop.example/g01097/impl"
)

// The tests of this file are for promise 11: what chapter 2 is called with beside vectors and numbers.

// ofRanked returns the outcome that is a Ranked.
func ofRanked(r impl.Ranked, ok bool) outcome {
	return outcome{lists: [][]int{r.Bits.Words, r.Supers, r.Blocks}, numbers: [2]int{r.Bits.Size}, ok: ok}
}

// spareRanked returns an equal Ranked with other numbers in the spare capacity of its lists, and a function that reports whether all are as they were.
func spareRanked(r impl.Ranked) (impl.Ranked, func() bool) {
	words, wordsKept := withSpare(r.Bits.Words, 1, 65535, 5, -9)
	supers, supersKept := withSpare(r.Supers, 0, 64, 70, -1)
	blocks, blocksKept := withSpare(r.Blocks, 0, 16, 17, -3)
	spared := impl.Ranked{Bits: impl.Bits{Size: r.Bits.Size, Words: words}, Supers: supers, Blocks: blocks}
	return spared, func() bool { return wordsKept() && supersKept() && blocksKept() }
}

// goodRankeds returns Rankeds of vectors around the borders of a directory.
func goodRankeds() []impl.Ranked {
	var all []impl.Ranked
	for _, size := range []int{0, 1, 15, 16, 17, 63, 64, 65, 80, 130, 2048, impl.MaxBits} {
		all = append(all, ranked(mixed(size, 6)))
	}
	return all
}

// someRankeds returns valid Rankeds, and such that are not.
func someRankeds() []impl.Ranked {
	all := goodRankeds()
	for _, r := range badRankeds() {
		all = append(all, r)
	}
	return all
}

func TestRankedCallsAreTotal(t *testing.T) {
	calls := []struct {
		name    string
		numbers int
		call    func(r impl.Ranked, n int) outcome
	}{
		{"IsRanked", 0, func(r impl.Ranked, n int) outcome { return outcome{on: impl.IsRanked(r)} }},
		{"OnesOf", 0, func(r impl.Ranked, n int) outcome { return ofNumber(impl.OnesOf(r)) }},
		{"Rank1", 1, func(r impl.Ranked, n int) outcome { return ofNumber(impl.Rank1(r, n)) }},
		{"Rank0", 1, func(r impl.Ranked, n int) outcome { return ofNumber(impl.Rank0(r, n)) }},
		{"Select1", 1, func(r impl.Ranked, n int) outcome { return ofNumber(impl.Select1(r, n)) }},
		{"Select0", 1, func(r impl.Ranked, n int) outcome { return ofNumber(impl.Select0(r, n)) }},
		{"NextOne", 1, func(r impl.Ranked, n int) outcome { return ofNumber(impl.NextOne(r, n)) }},
		{"LastOne", 1, func(r impl.Ranked, n int) outcome { return ofNumber(impl.LastOne(r, n)) }},
		{"PackDirectory", 0, func(r impl.Ranked, n int) outcome { return ofBits(impl.PackDirectory(r)) }},
	}
	for _, c := range calls {
		for _, r := range someRankeds() {
			spared, unchanged := spareRanked(r)
			for _, n := range numberLists(c.numbers) {
				checkCall(t, c.name+" of "+strconv.Itoa(r.Bits.Size)+" bits, "+strconv.Itoa(n[0]),
					func() outcome { return c.call(r, n[0]) }, func() outcome { return c.call(spared, n[0]) }, unchanged)
			}
		}
	}
}

// checkJoin checks that JoinRanked is total for two values.
func checkJoin(t *testing.T, a impl.Ranked, b impl.Ranked) {
	t.Helper()
	first, firstKept := spareRanked(a)
	second, secondKept := spareRanked(b)
	checkCall(t, "JoinRanked of "+strconv.Itoa(a.Bits.Size)+" and "+strconv.Itoa(b.Bits.Size)+" bits",
		func() outcome { return ofRanked(impl.JoinRanked(a, b)) },
		func() outcome { return ofRanked(impl.JoinRanked(first, second)) },
		func() bool { return firstKept() && secondKept() })
}

func TestJoinRankedIsTotal(t *testing.T) {
	for _, r := range someRankeds() {
		for _, good := range goodRankeds() {
			checkJoin(t, r, good)
			checkJoin(t, good, r)
		}
		checkJoin(t, r, r)
	}
}

func TestJoinRankedWithItself(t *testing.T) {
	text := mixed(70, 7)
	r := ranked(text)
	if joined, ok := impl.JoinRanked(r, r); !ok || !sameRanked(joined, text+text) || !sameRanked(r, text) {
		t.Error("a Ranked is joined with itself", joined, r)
	}
}

func TestTreeListCallsAreTotal(t *testing.T) {
	all := [][]int{nil, {}, {-1}, {0}, {-1, 0}, {-1, 1}, {-1, 0, 0}, {math.MinInt}, {math.MaxInt}, {-1, math.MaxInt, 0}, {-1, math.MinInt, 1},
		plainParents(nested(impl.MaxTree)), plainParents(nested(impl.MaxTree + 1)), make([]int, impl.MaxTree), slices.Repeat([]int{-1}, 1000)}
	for _, n := range extremes {
		all = append(all, []int{n}, []int{-1, n}, []int{-1, 0, n}, []int{-1, 0, 1, n, n})
	}
	for _, list := range all {
		spared, unchanged := withSpare(list, -1, 0, 7, -5)
		checkCall(t, "ParenthesesOf "+strconv.Itoa(len(list))+" nodes",
			func() outcome { return ofBits(impl.ParenthesesOf(list)) }, func() outcome { return ofBits(impl.ParenthesesOf(spared)) }, unchanged)
	}
}
