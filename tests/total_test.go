package tests

import (
	"math"
	"slices"
	"strconv"
	"strings"
	"testing"

	"loop.example/g01097/impl"
)

// The tests of this file are for promise 11.

// outcome has a field for each kind of result of the functions.
type outcome struct {
	lists   [][]int
	words   [][]string
	numbers [2]int
	text    string
	on      bool
	ok      bool
}

// sameOutcome reports whether two outcomes are equal.
func sameOutcome(a outcome, b outcome) bool {
	return slices.EqualFunc(a.lists, b.lists, slices.Equal) && slices.EqualFunc(a.words, b.words, slices.Equal) && a.numbers == b.numbers && a.text == b.text && a.on == b.on && a.ok == b.ok
}

// ofBits returns the outcome that is a vector.
func ofBits(b impl.Bits, ok bool) outcome {
	return outcome{lists: [][]int{b.Words}, numbers: [2]int{b.Size}, ok: ok}
}

// ofList returns the outcome that is a list.
func ofList(list []int, ok bool) outcome {
	return outcome{lists: [][]int{list}, ok: ok}
}

// ofNumber returns the outcome that is a number.
func ofNumber(n int, ok bool) outcome {
	return outcome{numbers: [2]int{n}, ok: ok}
}

// withSpare returns a list with other elements in its spare capacity, and a function that reports whether all of them are as they were.
func withSpare[T comparable](list []T, others ...T) ([]T, func() bool) {
	all := append(slices.Clone(list), others...)
	before := slices.Clone(all)
	return all[:len(list)], func() bool { return slices.Equal(all, before) }
}

// callSafely returns the outcome of a call, and reports a panic.
func callSafely(t *testing.T, what string, call func() outcome) (out outcome) {
	t.Helper()
	defer func() {
		if p := recover(); p != nil {
			t.Errorf("%s panics: %v", what, p)
		}
	}()
	return call()
}

// cloneLists returns copies of lists.
func cloneLists[T any](lists [][]T) [][]T {
	clones := slices.Clone(lists)
	for i, list := range clones {
		clones[i] = slices.Clone(list)
	}
	return clones
}

// keepLists returns an outcome with copies of its lists.
func keepLists(out outcome) outcome {
	out.lists, out.words = cloneLists(out.lists), cloneLists(out.words)
	return out
}

// overwrite changes all memory that an outcome gives out, and reports whether each of its lists has memory of its own.
func overwrite(out outcome) bool {
	numbers := overwriteLists(out.lists, func(i int) int { return -77 - i })
	words := overwriteLists(out.words, func(i int) string { return "overwritten " + strconv.Itoa(i) })
	return numbers && words
}

// overwriteLists changes all memory of lists to the mark of their index, and reports whether each of them has memory of its own.
func overwriteLists[T comparable](lists [][]T, mark func(i int) T) bool {
	for i, list := range lists {
		all := list[:cap(list)]
		for k := range all {
			all[k] = mark(i)
		}
	}
	for i, list := range lists {
		if slices.ContainsFunc(list[:cap(list)], func(value T) bool { return value != mark(i) }) {
			return false
		}
	}
	// The list of lists may be given out, too.
	all := lists[:cap(lists)]
	for i := range all {
		all[i] = []T{mark(-1)}
	}
	return true
}

// checkCall makes the same call with arguments with and without spare capacity,
// and checks that it neither panics nor depends on that capacity, changes an argument, or shares memory with one.
func checkCall(t *testing.T, what string, plain func() outcome, spared func() outcome, unchanged func() bool) {
	t.Helper()
	first := callSafely(t, what, plain)
	second := callSafely(t, what, spared)
	if !sameOutcome(first, second) {
		t.Errorf("%s: %v, but %v with spare capacity", what, first, second)
	}
	if !unchanged() {
		t.Errorf("%s changes an argument", what)
	}
	kept := keepLists(first)
	if !overwrite(first) || !overwrite(second) {
		t.Errorf("%s: two lists of the result share memory", what)
	}
	if !unchanged() {
		t.Errorf("%s shares memory with an argument", what)
	}
	if again := callSafely(t, what, plain); !sameOutcome(again, kept) {
		t.Errorf("%s: %v, and then %v", what, kept, again)
	}
}

// extremes are numbers at and behind the limits of chapter 1.
var extremes = []int{math.MinInt, math.MinInt + 1, -1, 0, 1, 15, 16, 17, 24, 25, impl.MaxBits, impl.MaxBits + 1, math.MaxInt - 24, math.MaxInt}

// numberLists returns all lists of so many extremes.
func numberLists(count int) [][3]int {
	lists := [][3]int{{}}
	for i := range count {
		var longer [][3]int
		for _, list := range lists {
			for _, n := range extremes {
				list[i] = n
				longer = append(longer, list)
			}
		}
		lists = longer
	}
	return lists
}

// someVectors returns valid vectors, balanced ones among them, and such that are not.
func someVectors() []impl.Bits {
	all := []impl.Bits{{}, pack("1"), pack("0110"), pack(mixed(16, 1)), pack(mixed(17, 2)), pack(mixed(40, 3)), pack(mixed(impl.MaxBits, 4)),
		pack("10"), pack("110100"), pack("111000101100110010"), pack(nested(impl.MaxTree)), pack(nested(impl.MaxTree + 1)), pack(nested(impl.MaxBits / 2)),
		pack(directoryText("1")), pack(directoryText(mixed(40, 3))), pack(directoryText(mixed(impl.MaxBits, 4)))}
	for _, b := range badVectors() {
		all = append(all, b)
	}
	return all
}

func TestVectorCallsAreTotal(t *testing.T) {
	calls := []struct {
		name    string
		numbers int
		call    func(b impl.Bits, n [3]int) outcome
	}{
		{"IsBits", 0, func(b impl.Bits, n [3]int) outcome { return outcome{on: impl.IsBits(b)} }},
		{"NewBits", 1, func(b impl.Bits, n [3]int) outcome { return ofBits(impl.NewBits(n[0])) }},
		{"BitAt", 1, func(b impl.Bits, n [3]int) outcome {
			on, ok := impl.BitAt(b, n[0])
			return outcome{on: on, ok: ok}
		}},
		{"PutBit on", 1, func(b impl.Bits, n [3]int) outcome { return ofBits(impl.PutBit(b, n[0], true)) }},
		{"PutBit off", 1, func(b impl.Bits, n [3]int) outcome { return ofBits(impl.PutBit(b, n[0], false)) }},
		{"CountBits", 2, func(b impl.Bits, n [3]int) outcome { return ofNumber(impl.CountBits(b, n[0], n[1])) }},
		{"NextBit on", 1, func(b impl.Bits, n [3]int) outcome { return ofNumber(impl.NextBit(b, n[0], true)) }},
		{"NextBit off", 1, func(b impl.Bits, n [3]int) outcome { return ofNumber(impl.NextBit(b, n[0], false)) }},
		{"ReadField", 2, func(b impl.Bits, n [3]int) outcome { return ofNumber(impl.ReadField(b, n[0], n[1])) }},
		{"PutField", 3, func(b impl.Bits, n [3]int) outcome { return ofBits(impl.PutField(b, n[0], n[1], n[2])) }},
		{"CutBits", 2, func(b impl.Bits, n [3]int) outcome { return ofBits(impl.CutBits(b, n[0], n[1])) }},
		{"BitsText", 0, func(b impl.Bits, n [3]int) outcome {
			text, ok := impl.BitsText(b)
			return outcome{text: text, ok: ok}
		}},
		{"BuildRanked", 0, func(b impl.Bits, n [3]int) outcome { return ofRanked(impl.BuildRanked(b)) }},
		{"DirectoryBits", 1, func(b impl.Bits, n [3]int) outcome { return ofNumber(impl.DirectoryBits(n[0])) }},
		{"IsBalanced", 0, func(b impl.Bits, n [3]int) outcome {
			balanced, ok := impl.IsBalanced(b)
			return outcome{on: balanced, ok: ok}
		}},
		{"ExcessAt", 1, func(b impl.Bits, n [3]int) outcome { return ofNumber(impl.ExcessAt(b, n[0])) }},
		{"CloseOf", 1, func(b impl.Bits, n [3]int) outcome { return ofNumber(impl.CloseOf(b, n[0])) }},
		{"OpenOf", 1, func(b impl.Bits, n [3]int) outcome { return ofNumber(impl.OpenOf(b, n[0])) }},
		{"EnclosingOf", 1, func(b impl.Bits, n [3]int) outcome { return ofNumber(impl.EnclosingOf(b, n[0])) }},
		{"DepthOf", 1, func(b impl.Bits, n [3]int) outcome { return ofNumber(impl.DepthOf(b, n[0])) }},
		{"ParentsOf", 0, func(b impl.Bits, n [3]int) outcome { return ofList(impl.ParentsOf(b)) }},
	}
	for _, c := range calls {
		for _, b := range someVectors() {
			words, unchanged := withSpare(b.Words, 1, 65535, 5, -9)
			spared := impl.Bits{Size: b.Size, Words: words}
			for _, n := range numberLists(c.numbers) {
				what := c.name + " of " + strconv.Itoa(b.Size) + " bits"
				for _, number := range n[:c.numbers] {
					what += ", " + strconv.Itoa(number)
				}
				checkCall(t, what, func() outcome { return c.call(b, n) }, func() outcome { return c.call(spared, n) }, unchanged)
			}
		}
	}
}

func TestPairCallsAreTotal(t *testing.T) {
	calls := map[string]func(a impl.Bits, b impl.Bits) outcome{
		"JoinBits":        func(a impl.Bits, b impl.Bits) outcome { return ofBits(impl.JoinBits(a, b)) },
		"XorBits":         func(a impl.Bits, b impl.Bits) outcome { return ofBits(impl.XorBits(a, b)) },
		"UnpackDirectory": func(a impl.Bits, b impl.Bits) outcome { return ofRanked(impl.UnpackDirectory(a, b)) },
	}
	for name, call := range calls {
		for _, a := range someVectors() {
			for _, b := range someVectors() {
				first, unchanged := withSpare(a.Words, 1, 65535, 5, -9)
				second, alsoUnchanged := withSpare(b.Words, 3, 70000, 2, -1)
				checkCall(t, name+" of "+strconv.Itoa(a.Size)+" and "+strconv.Itoa(b.Size)+" bits",
					func() outcome { return call(a, b) },
					func() outcome {
						return call(impl.Bits{Size: a.Size, Words: first}, impl.Bits{Size: b.Size, Words: second})
					},
					func() bool { return unchanged() && alsoUnchanged() })
			}
		}
	}
}

func TestOneVectorAsBothArguments(t *testing.T) {
	text := mixed(23, 1)
	b := pack(text)
	joined, ok := impl.JoinBits(b, b)
	if !ok || !sameBits(joined, text+text) || !sameBits(b, text) {
		t.Error("a vector is joined with itself", joined, b)
	}
	none, ok := impl.XorBits(b, b)
	if !ok || !sameBits(none, strings.Repeat("0", 23)) || !sameBits(b, text) {
		t.Error("no bit is on in just one of a vector and itself", none, b)
	}
}

func TestTextCallsAreTotal(t *testing.T) {
	all := []string{"", "-", "0", "1", "2", "a", "~", " ", "\x00", "\xff\xfe", "0110", "01x", "abcdefghijkl", "abcdefghijklm",
		strings.Repeat("1", impl.MaxBits), strings.Repeat("1", impl.MaxBits+1), strings.Repeat("a", 1<<20)}
	calls := []struct {
		name    string
		numbers int
		call    func(s string, n [3]int) outcome
	}{
		{"ParseBits", 0, func(s string, n [3]int) outcome { return ofBits(impl.ParseBits(s)) }},
		{"IsKey", 0, func(s string, n [3]int) outcome { return outcome{on: impl.IsKey(s)} }},
		{"HashOf", 2, func(s string, n [3]int) outcome { return ofNumber(impl.HashOf(n[0], n[1], s)) }},
		{"PlaceOf", 3, func(s string, n [3]int) outcome { return ofNumber(impl.PlaceOf(n[0], n[1], s, n[2])) }},
	}
	for _, c := range calls {
		for _, s := range all {
			for _, n := range numberLists(c.numbers) {
				call := func() outcome { return c.call(s, n) }
				checkCall(t, c.name+" of "+strconv.Quote(s[:min(len(s), 20)]), call, call, func() bool { return true })
			}
		}
	}
}

func TestListCallsAreTotal(t *testing.T) {
	all := append(badLists(), nil, []string{"a"}, []string{"a", "b"}, manyKeys(impl.MaxKeys), make([]string, 1000))
	calls := []struct {
		name    string
		numbers int
		call    func(list []string, n [3]int) outcome
	}{
		{"AreKeys", 0, func(list []string, n [3]int) outcome { return outcome{on: impl.AreKeys(list)} }},
		{"LoadsOf", 3, func(list []string, n [3]int) outcome {
			return ofList(impl.LoadsOf(n[0], n[1], list, n[2]))
		}},
		{"CollisionOf", 3, func(list []string, n [3]int) outcome {
			i, k, ok := impl.CollisionOf(n[0], n[1], list, n[2])
			return outcome{numbers: [2]int{i, k}, ok: ok}
		}},
	}
	for _, c := range calls {
		for _, list := range all {
			spared, unchanged := withSpare(list, "zz", "", "b")
			for _, n := range numberLists(c.numbers) {
				checkCall(t, c.name+" of "+strconv.Itoa(len(list))+" strings",
					func() outcome { return c.call(list, n) }, func() outcome { return c.call(spared, n) }, unchanged)
			}
		}
	}
}
