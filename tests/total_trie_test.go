package tests

import (
	"math"
	"slices"
	"strconv"
	"strings"
	"testing"

	"loop.example/g01097/impl"
)

// The tests of this file are for promise 11: what chapter 9 is called with.

// ofTrie returns the outcome that is a Trie.
func ofTrie(trie impl.Trie, ok bool) outcome {
	return outcome{lists: [][]int{trie.Shape.Words, trie.Ends.Words}, numbers: [2]int{trie.Shape.Size, trie.Ends.Size}, text: trie.Labels, ok: ok}
}

// ofFront returns the outcome that is a Front.
func ofFront(f impl.Front, ok bool) outcome {
	return outcome{lists: [][]int{f.Keeps}, words: [][]string{f.Tails}, numbers: [2]int{f.Block}, ok: ok}
}

// ofText returns the outcome that is a string.
func ofText(s string, ok bool) outcome {
	return outcome{text: s, ok: ok}
}

// trieExtremes are numbers at and behind the limits of chapter 9, and the least and the greatest ones.
var trieExtremes = []int{math.MinInt, math.MinInt + 1, -16, -1, 0, 1, 2, 3, 4, impl.MaxKey, impl.MaxKey + 1, impl.MaxBlock, impl.MaxBlock + 1, impl.MaxKeys, impl.MaxKeys + 1, 97, 125, 255, 256 + 97,
	impl.MaxKeys * impl.MaxKey, impl.MaxKeys*impl.MaxKey + 1, impl.MaxBits, impl.MaxBits + 1, math.MaxInt - 1, math.MaxInt}

// totalStrings are strings to be asked for: keys, beginnings, and any others.
var totalStrings = []string{"", "a", "ab", "abc", "c", "k", "k100", "!", "}", "~", " ", "\x00", "\xff", "\xff\xfe", "\u00e9", "\u20ac", "a\xc3", "}}}}}}}}}}}}", "}}}}}}}}}}}}}", strings.Repeat("k", 1<<20)}

// spareTrie returns an equal Trie with other numbers in the spare capacity of its words, and a function that reports whether all are as they were.
func spareTrie(trie impl.Trie) (impl.Trie, func() bool) {
	shape, shapeKept := withSpare(trie.Shape.Words, 1, 65535, 5, -9)
	ends, endsKept := withSpare(trie.Ends.Words, 3, 0, 70000, -1)
	spared := impl.Trie{Shape: impl.Bits{Size: trie.Shape.Size, Words: shape}, Ends: impl.Bits{Size: trie.Ends.Size, Words: ends}, Labels: trie.Labels}
	return spared, func() bool { return shapeKept() && endsKept() }
}

// checkTrieCall checks that a call with a Trie is total, with and without spare capacity.
func checkTrieCall(t *testing.T, what string, trie impl.Trie, call func(trie impl.Trie) outcome) {
	t.Helper()
	shape, ends := slices.Clone(trie.Shape.Words), slices.Clone(trie.Ends.Words)
	spared, kept := spareTrie(trie)
	checkCall(t, what, func() outcome { return call(trie) }, func() outcome { return call(spared) }, func() bool {
		return kept() && slices.Equal(trie.Shape.Words, shape) && slices.Equal(trie.Ends.Words, ends)
	})
}

// totalTries returns Tries, and values that are none.
func totalTries() map[string]impl.Trie {
	all := badTries()
	for i, keys := range [][]string{nil, {"a"}, {"a", "ab", "c"}, chain("k", impl.MaxKey), manyKeys(impl.MaxKeys), broadKeys()} {
		all["the Trie "+strconv.Itoa(i)] = plainTrie(keys).trie()
	}
	for _, n := range trieExtremes {
		name := "the number " + strconv.Itoa(n) + " as "
		all[name+"a size of a shape"] = impl.Trie{Shape: impl.Bits{Size: n, Words: []int{11}}, Ends: pack("0111"), Labels: "acb"}
		all[name+"a size of ends"] = impl.Trie{Shape: pack("1101000"), Ends: impl.Bits{Size: n, Words: []int{14}}, Labels: "acb"}
		all[name+"both sizes"] = impl.Trie{Shape: impl.Bits{Size: n}, Ends: impl.Bits{Size: n}}
		all[name+"words"] = impl.Trie{Shape: impl.Bits{Size: 7, Words: []int{n}}, Ends: impl.Bits{Size: 4, Words: []int{n}}, Labels: "acb"}
	}
	return all
}

func TestTrieCallsAreTotal(t *testing.T) {
	calls := map[string]func(trie impl.Trie) outcome{
		"IsTrie":   func(trie impl.Trie) outcome { return outcome{on: impl.IsTrie(trie)} },
		"TrieKeys": func(trie impl.Trie) outcome { return ofWords(impl.TrieKeys(trie)) },
		"NodesOf":  func(trie impl.Trie) outcome { return ofNumber(impl.NodesOf(trie)) },
		"TrieBits": func(trie impl.Trie) outcome { return ofNumber(impl.TrieBits(trie)) },
	}
	withNumber := map[string]func(trie impl.Trie, n int) outcome{
		"ChildOf a node":       func(trie impl.Trie, n int) outcome { return ofNumber(impl.ChildOf(trie, n, 'a')) },
		"ChildOf with a label": func(trie impl.Trie, n int) outcome { return ofNumber(impl.ChildOf(trie, 0, n)) },
		"ChildOf with both":    func(trie impl.Trie, n int) outcome { return ofNumber(impl.ChildOf(trie, n, n)) },
		"ParentOf":             func(trie impl.Trie, n int) outcome { return ofNumber(impl.ParentOf(trie, n)) },
		"LabelsAt":             func(trie impl.Trie, n int) outcome { return ofText(impl.LabelsAt(trie, n)) },
		"PathOf":               func(trie impl.Trie, n int) outcome { return ofText(impl.PathOf(trie, n)) },
		"TrieKeyAt":            func(trie impl.Trie, n int) outcome { return ofText(impl.TrieKeyAt(trie, n)) },
	}
	withString := map[string]func(trie impl.Trie, s string) outcome{
		"FindNode":       func(trie impl.Trie, s string) outcome { return ofNumber(impl.FindNode(trie, s)) },
		"TrieHas":        func(trie impl.Trie, s string) outcome { return ofAnswer(impl.TrieHas(trie, s)) },
		"TrieIndex":      func(trie impl.Trie, s string) outcome { return ofNumber(impl.TrieIndex(trie, s)) },
		"TrieRank":       func(trie impl.Trie, s string) outcome { return ofNumber(impl.TrieRank(trie, s)) },
		"KeysWithPrefix": func(trie impl.Trie, s string) outcome { return ofWords(impl.KeysWithPrefix(trie, s)) },
		"LongestKey":     func(trie impl.Trie, s string) outcome { return ofText(impl.LongestKey(trie, s)) },
	}
	for of, trie := range totalTries() {
		for name, call := range calls {
			checkTrieCall(t, name+" of "+of, trie, call)
		}
		for name, call := range withNumber {
			for _, n := range trieExtremes {
				checkTrieCall(t, name+" "+strconv.Itoa(n)+" of "+of, trie, func(trie impl.Trie) outcome { return call(trie, n) })
			}
		}
		for name, call := range withString {
			for _, s := range totalStrings {
				checkTrieCall(t, name+" "+strconv.Quote(s[:min(len(s), 20)])+" of "+of, trie, func(trie impl.Trie) outcome { return call(trie, s) })
			}
		}
	}
}

func TestBuildCallsOfTriesAreTotal(t *testing.T) {
	for _, keys := range append(totalKeyLists(), chain("k", impl.MaxKey), broadKeys(), []string{strings.Repeat("k", 1<<20)}) {
		checkTableCall(t, "BuildTrie", nil, keys, func(list []int, keys []string) outcome { return ofTrie(impl.BuildTrie(keys)) })
		for _, n := range trieExtremes {
			checkTableCall(t, "BuildFront, block "+strconv.Itoa(n), nil, keys, func(list []int, keys []string) outcome { return ofFront(impl.BuildFront(keys, n)) })
		}
	}
}

// totalFronts returns Fronts, and values that are none.
func totalFronts() map[string]impl.Front {
	all := badFronts()
	for i, keys := range [][]string{nil, {"a"}, {"a", "ab", "c"}, chain("k", impl.MaxKey), manyKeys(impl.MaxKeys), manyKeys(25), broadKeys()} {
		for _, block := range []int{1, 3, impl.MaxBlock} {
			all["the Front "+strconv.Itoa(i)+" with the block "+strconv.Itoa(block)] = plainFront(keys, block)
		}
	}
	for _, n := range trieExtremes {
		name := "the number " + strconv.Itoa(n) + " as "
		all[name+"a block"] = impl.Front{Block: n, Keeps: []int{0, 1, 0}, Tails: []string{"a", "b", "c"}}
		all[name+"a keep"] = impl.Front{Block: 2, Keeps: []int{0, n, 0}, Tails: []string{"a", "b", "c"}}
		all[name+"the first keep"] = impl.Front{Block: 2, Keeps: []int{n, 1, 0}, Tails: []string{"a", "b", "c"}}
		all[name+"all of them"] = impl.Front{Block: n, Keeps: []int{n, n, n}, Tails: []string{"a", "b", "c"}}
		all[name+"a keep without a tail"] = impl.Front{Block: 2, Keeps: []int{n}}
	}
	grown := impl.Front{Block: impl.MaxBlock}
	for i := range impl.MaxKeys {
		// Each string would have all bytes of those before it.
		grown.Keeps, grown.Tails = append(grown.Keeps, i<<16), append(grown.Tails, strings.Repeat("k", 1<<16))
	}
	all["very long strings"] = grown
	return all
}

// spareFront returns an equal Front with other elements in the spare capacity of its lists, and a function that reports whether all are as they were.
func spareFront(f impl.Front) (impl.Front, func() bool) {
	keeps, keepsKept := withSpare(f.Keeps, 0, 1, -5, 99)
	tails, tailsKept := withSpare(f.Tails, "zz", "", "b", "~")
	return impl.Front{Block: f.Block, Keeps: keeps, Tails: tails}, func() bool { return keepsKept() && tailsKept() }
}

// cloneFront returns a Front in other memory.
func cloneFront(f impl.Front) impl.Front {
	return impl.Front{Block: f.Block, Keeps: slices.Clone(f.Keeps), Tails: slices.Clone(f.Tails)}
}

// checkFrontCall checks that a call with two Fronts is total, with and without spare capacity.
func checkFrontCall(t *testing.T, what string, a impl.Front, b impl.Front, call func(a impl.Front, b impl.Front) outcome) {
	t.Helper()
	beforeA, beforeB := cloneFront(a), cloneFront(b)
	firstSpared, firstKept := spareFront(a)
	secondSpared, secondKept := spareFront(b)
	checkCall(t, what, func() outcome { return call(a, b) }, func() outcome { return call(firstSpared, secondSpared) },
		func() bool { return firstKept() && secondKept() && sameFront(a, beforeA) && sameFront(b, beforeB) })
}

func TestFrontCallsAreTotal(t *testing.T) {
	for of, f := range totalFronts() {
		calls := map[string]func(f impl.Front, other impl.Front) outcome{
			"IsFront":    func(f impl.Front, other impl.Front) outcome { return outcome{on: impl.IsFront(f)} },
			"FrontBytes": func(f impl.Front, other impl.Front) outcome { return ofNumber(impl.FrontBytes(f)) },
		}
		for _, n := range trieExtremes {
			calls["FrontKey "+strconv.Itoa(n)] = func(f impl.Front, other impl.Front) outcome { return ofText(impl.FrontKey(f, n)) }
		}
		for _, s := range totalStrings {
			what := strconv.Quote(s[:min(len(s), 20)])
			calls["FrontRank "+what] = func(f impl.Front, other impl.Front) outcome { return ofNumber(impl.FrontRank(f, s)) }
			calls["FrontHas "+what] = func(f impl.Front, other impl.Front) outcome { return ofAnswer(impl.FrontHas(f, s)) }
		}
		for name, call := range calls {
			checkFrontCall(t, name+" of "+of, f, impl.Front{}, call)
		}
	}
}

func TestMergeFrontsIsTotal(t *testing.T) {
	all := totalFronts()
	for ofA, a := range all {
		for ofB, b := range all {
			checkFrontCall(t, "MergeFronts of "+ofA+" and "+ofB, a, b, func(a impl.Front, b impl.Front) outcome { return ofFront(impl.MergeFronts(a, b)) })
		}
	}
}

func TestOneFrontAsBothArguments(t *testing.T) {
	keys := manyKeys(20)
	f := plainFront(keys, 3)
	merged, ok := impl.MergeFronts(f, f)
	if !ok || !sameFront(merged, plainFront(keys, 3)) || !sameFront(f, plainFront(keys, 3)) {
		t.Fatal("a Front is itself, merged with itself", merged, ok, f)
	}
	merged.Keeps[0], merged.Tails[0] = 7, "overwritten"
	if !sameFront(f, plainFront(keys, 3)) {
		t.Error("a merged Front shares no memory with its arguments", f)
	}
}
