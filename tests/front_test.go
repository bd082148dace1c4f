package tests

import (
	"math"
	"slices"
	"strconv"
	"strings"
	"testing"

	"loop.example/g01097/impl"
)

// The tests of this file are for promise 9: front-coded lists, and what they have in common with tries.

// badBlocks are numbers that are no blocks.
var badBlocks = []int{math.MinInt, math.MinInt + 1, -16, -1, 0, impl.MaxBlock + 1, impl.MaxBlock + 2, impl.MaxKeys, math.MaxInt - 1, math.MaxInt}

// plainFront returns the Front of keys with a block.
func plainFront(keys []string, block int) impl.Front {
	f := impl.Front{Block: block}
	for i, key := range keys {
		keep := 0
		if i%block != 0 {
			for keep < len(key) && strings.HasPrefix(keys[i-1], key[:keep+1]) {
				keep++
			}
		}
		f.Keeps = append(f.Keeps, keep)
		f.Tails = append(f.Tails, key[keep:])
	}
	return f
}

// sameFront reports whether two Fronts are equal.
func sameFront(a impl.Front, b impl.Front) bool {
	return a.Block == b.Block && slices.Equal(a.Keeps, b.Keeps) && slices.Equal(a.Tails, b.Tails)
}

// mustFailFront checks that a call failed with the zero Front.
func mustFailFront(t *testing.T, what string, f impl.Front, ok bool) {
	t.Helper()
	if ok || f.Block != 0 || len(f.Keeps) != 0 || len(f.Tails) != 0 {
		t.Errorf("%s: got %v, %v; it must fail with the zero Front", what, f, ok)
	}
}

// mustBuildFront returns the Front of keys with a block, told by the program and checked.
func mustBuildFront(t *testing.T, keys []string, block int) impl.Front {
	t.Helper()
	f, ok := impl.BuildFront(keys, block)
	if want := plainFront(keys, block); !ok || !sameFront(f, want) {
		t.Fatalf("the front of %q with the block %d is %v, not %v, %v", keys, block, want, f, ok)
	}
	return f
}

func TestLimitOfBlocks(t *testing.T) {
	if impl.MaxBlock != 16 {
		t.Error("the limit of blocks is 16, not", impl.MaxBlock)
	}
}

func TestBuildFront(t *testing.T) {
	for _, keys := range trieKeyLists() {
		for block := 1; block <= impl.MaxBlock; block++ {
			if f := mustBuildFront(t, keys, block); !impl.IsFront(f) {
				t.Errorf("the front of %q with the block %d is a Front: %v", keys, block, f)
			}
		}
	}
}

func TestBuildFrontRefuses(t *testing.T) {
	for _, block := range badBlocks {
		for _, keys := range [][]string{nil, {"a"}, {"a", "ab", "c"}, manyKeys(impl.MaxKeys)} {
			f, ok := impl.BuildFront(keys, block)
			mustFailFront(t, "BuildFront with the block "+strconv.Itoa(block), f, ok)
		}
	}
	for _, keys := range badLists() {
		for _, block := range []int{1, 2, 3, impl.MaxBlock, 0, impl.MaxBlock + 1} {
			f, ok := impl.BuildFront(keys, block)
			mustFailFront(t, "BuildFront of "+strings.Join(keys, " "), f, ok)
		}
	}
}

func TestExampleOfFronts(t *testing.T) {
	f := mustBuildFront(t, []string{"a", "ab", "c"}, 2)
	if !sameFront(f, impl.Front{Block: 2, Keeps: []int{0, 1, 0}, Tails: []string{"a", "b", "c"}}) {
		t.Error("the Keeps are 0, 1, 0 and the Tails a, b, c", f)
	}
}

func TestKeysInFronts(t *testing.T) {
	for _, keys := range trieKeyLists() {
		for _, block := range []int{1, 2, 3, 5, 8, impl.MaxBlock} {
			f := mustBuildFront(t, keys, block)
			for i, key := range keys {
				if told, ok := impl.FrontKey(f, i); !ok || told != key {
					t.Fatal("FrontKey", i, "of", keys, "is", key, "not", told, ok)
				}
			}
			for _, i := range []int{math.MinInt, math.MinInt + 1, -1, len(keys), len(keys) + 1, len(keys) + impl.MaxKeys, math.MaxInt - 1, math.MaxInt} {
				key, ok := impl.FrontKey(f, i)
				mustFail(t, "FrontKey "+strconv.Itoa(i)+" of "+strconv.Itoa(len(keys)), key, ok)
			}
			bytes := len(keys)
			for _, tail := range plainFront(keys, block).Tails {
				bytes += len(tail)
			}
			if told, ok := impl.FrontBytes(f); !ok || told != bytes {
				t.Fatal("FrontBytes of", f, "are", bytes, "not", told, ok)
			}
		}
	}
}

// checkInFront checks what a front of keys tells of a string.
func checkInFront(t *testing.T, f impl.Front, keys []string, s string) {
	t.Helper()
	what := strconv.Quote(s[:min(len(s), 30)]) + " in the front of " + strings.Join(keys, " ")
	if rank, ok := impl.FrontRank(f, s); !ok || rank != keysBelow(keys, s) {
		t.Fatal("FrontRank", what, "is", keysBelow(keys, s), "not", rank, ok)
	}
	if has, ok := impl.FrontHas(f, s); !ok || has != slices.Contains(keys, s) {
		t.Fatal("FrontHas", what, "is", slices.Contains(keys, s), "not", has, ok)
	}
}

func TestStringsInFronts(t *testing.T) {
	for i, keys := range sortedKeyLists() {
		for _, block := range []int{1, 2 + i%7, impl.MaxBlock} {
			f := mustBuildFront(t, keys, block)
			for _, s := range askedStrings(keys) {
				checkInFront(t, f, keys, s)
			}
		}
	}
	all := append(allStrings("!abz", 3), allStrings("ab", 5)...)
	for i, keys := range smallKeySets("a", "b", "aa", "ab", "ba", "bb", "aba") {
		f := mustBuildFront(t, keys, 1+i%4)
		for _, s := range all {
			checkInFront(t, f, keys, s)
		}
	}
}

// checkAgreement checks that a trie and a front of the same keys tell the same of a string; what is no query of fronts is told by their keys and ranks.
func checkAgreement(t *testing.T, trie impl.Trie, f impl.Front, s string) {
	t.Helper()
	what := strconv.Quote(s[:min(len(s), 30)])
	member, okMember := impl.TrieHas(trie, s)
	rank, okRank := impl.TrieRank(trie, s)
	frontMember, okFrontMember := impl.FrontHas(f, s)
	frontRank, okFrontRank := impl.FrontRank(f, s)
	if !okMember || !okRank || !okFrontMember || !okFrontRank || member != frontMember || rank != frontRank {
		t.Fatal("a trie and a front must agree on", what, f, member, frontMember, rank, frontRank)
	}
	list, ok := impl.KeysWithPrefix(trie, s)
	if !ok {
		t.Fatal("the beginnings of keys are told", what, f)
	}
	for i := range len(list) + 1 {
		// From the rank of their beginning on, keys begin so, and the first one that does not is behind all of them.
		key, has := impl.FrontKey(f, frontRank+i)
		if begins := has && strings.HasPrefix(key, s); begins != (i < len(list)) || begins && key != list[i] {
			t.Fatal("a trie and a front must agree on the keys that begin with", what, f, list, i, key)
		}
	}
	longest, hasLongest := impl.LongestKey(trie, s)
	want := ""
	for length := min(len(s), impl.MaxKey); length > 0 && want == ""; length-- {
		if has, ok := impl.FrontHas(f, s[:length]); ok && has {
			want = s[:length]
		}
	}
	if longest != want || hasLongest != (want != "") {
		t.Fatal("a trie and a front must agree on the longest key with which a string begins", what, f, longest, want)
	}
}

func TestTriesAndFrontsAgree(t *testing.T) {
	for i, keys := range sortedKeyLists() {
		trie, f := mustBuild(t, keys), mustBuildFront(t, keys, 1+i%impl.MaxBlock)
		for k, s := range askedStrings(keys) {
			if len(keys) < 20 || k%3 == i%3 {
				checkAgreement(t, trie, f, s)
			}
		}
	}
	for i, keys := range smallKeySets("a", "b", "aa", "ab", "ba", "bb", "aba") {
		trie, f := mustBuild(t, keys), mustBuildFront(t, keys, 1+i%3)
		for _, s := range allStrings("!abz", 3) {
			checkAgreement(t, trie, f, s)
		}
	}
}

// frontName returns the text of a Front, by which it can be told from others.
func frontName(f impl.Front) string {
	name := strconv.Itoa(f.Block)
	for i, keep := range f.Keeps {
		name += " " + strconv.Itoa(keep) + strconv.Quote(f.Tails[i])
	}
	return name
}

// smallFronts calls check with all values of a block and a length that have small keeps and short tails.
func smallFronts(block int, length int, check func(f impl.Front)) {
	f := impl.Front{Block: block, Keeps: make([]int, length), Tails: make([]string, length)}
	tails := allStrings("ab", 2)
	var choose func(i int)
	choose = func(i int) {
		if i == length {
			check(f)
			return
		}
		for keep := -1; keep <= 3; keep++ {
			for _, tail := range tails {
				f.Keeps[i], f.Tails[i] = keep, tail
				choose(i + 1)
			}
		}
	}
	choose(0)
}

func TestSmallFronts(t *testing.T) {
	fronts := map[string]bool{}
	for _, keys := range smallKeySets(allStrings("ab", 4)[1:15]...) {
		if len(keys) > 3 {
			continue
		}
		for block := 1; block <= 4; block++ {
			f := plainFront(keys, block)
			if !slices.ContainsFunc(f.Tails, func(tail string) bool { return len(tail) > 2 }) {
				fronts[frontName(f)] = true
			}
		}
	}
	found := 0
	for block := -1; block <= 4; block++ {
		for length := range 4 {
			smallFronts(block, length, func(f impl.Front) {
				want := fronts[frontName(f)]
				if impl.IsFront(f) != want && !hasLongKey(f) {
					t.Fatal("a Front of some keys or not:", f, want)
				}
				if want {
					found++
				}
			})
		}
	}
	if found != len(fronts) || found < 400 {
		t.Error("all of the small Fronts must have been met", found, len(fronts))
	}
}

// hasLongKey reports whether keeps and tails tell a string of more than three bytes, which the small Fronts are not made of.
func hasLongKey(f impl.Front) bool {
	length := 0
	for i, keep := range f.Keeps {
		length = min(length, keep) + len(f.Tails[i])
		if length > 3 {
			return true
		}
	}
	return false
}

// badFronts returns values that are the Front of no keys, by what is wrong.
func badFronts() map[string]impl.Front {
	long := strings.Repeat("k", impl.MaxKey+1)
	bad := map[string]impl.Front{
		"zero":                          {},
		"block 0 with a key":            {Keeps: []int{0}, Tails: []string{"a"}},
		"a keep too few":                {Block: 2, Keeps: []int{0, 1}, Tails: []string{"a", "b", "c"}},
		"a keep too many":               {Block: 2, Keeps: []int{0, 1, 0, 0}, Tails: []string{"a", "b", "c"}},
		"no keeps":                      {Block: 2, Tails: []string{"a", "b", "c"}},
		"no tails":                      {Block: 2, Keeps: []int{0, 1, 0}},
		"a first key that keeps":        {Block: 2, Keeps: []int{1, 0, 0}, Tails: []string{"a", "b", "c"}},
		"a keep beyond the key before":  {Block: 3, Keeps: []int{0, 2, 0}, Tails: []string{"a", "b", "c"}},
		"a keep beyond a far key":       {Block: 5, Keeps: []int{0, 0, 2}, Tails: []string{"ab", "b", "c"}},
		"least keep":                    {Block: 2, Keeps: []int{0, math.MinInt, 0}, Tails: []string{"a", "b", "c"}},
		"greatest keep":                 {Block: 2, Keeps: []int{0, math.MaxInt, 0}, Tails: []string{"a", "b", "c"}},
		"keep -1":                       {Block: 2, Keeps: []int{0, -1, 0}, Tails: []string{"a", "b", "c"}},
		"a keep that is too small":      {Block: 2, Keeps: []int{0, 0, 0}, Tails: []string{"a", "ab", "c"}},
		"half of what is common":        {Block: 4, Keeps: []int{0, 1, 0}, Tails: []string{"ab", "bc", "c"}},
		"a head of a block that keeps":  {Block: 2, Keeps: []int{0, 1, 1}, Tails: []string{"a", "b", "c"}},
		"a block of one key that keeps": {Block: 1, Keeps: []int{0, 1, 0}, Tails: []string{"a", "b", "c"}},
		"an empty tail":                 {Block: 4, Keeps: []int{0, 1, 0}, Tails: []string{"a", "", "c"}},
		"an empty key":                  {Block: 4, Keeps: []int{0, 0}, Tails: []string{"", "a"}},
		"an empty head":                 {Block: 1, Keeps: []int{0, 0}, Tails: []string{"a", ""}},
		"keys out of order":             {Block: 4, Keeps: []int{0, 0}, Tails: []string{"b", "a"}},
		"heads out of order":            {Block: 1, Keeps: []int{0, 0}, Tails: []string{"b", "a"}},
		"equal heads":                   {Block: 1, Keeps: []int{0, 0}, Tails: []string{"a", "a"}},
		"a byte of no key":              {Block: 4, Keeps: []int{0, 1}, Tails: []string{"a", "~"}},
		"a blank":                       {Block: 4, Keeps: []int{0, 0}, Tails: []string{"a", "b c"}},
		"a byte above 127":              {Block: 4, Keeps: []int{0}, Tails: []string{"\xff"}},
		"a key one byte too long":       {Block: 4, Keeps: []int{0}, Tails: []string{long}},
		"a tail one byte too long":      {Block: 4, Keeps: []int{0, impl.MaxKey}, Tails: []string{long[1:], "k"}},
		"a very long tail":              {Block: 4, Keeps: []int{0}, Tails: []string{strings.Repeat("k", 1<<20)}},
		"one key too many":              plainFront(manyKeys(impl.MaxKeys+1), 4),
		"very many keys":                {Block: 4, Keeps: make([]int, 2000), Tails: make([]string, 2000)},
	}
	for _, block := range badBlocks {
		bad["block "+strconv.Itoa(block)] = impl.Front{Block: block, Keeps: []int{0, 1, 0}, Tails: []string{"a", "b", "c"}}
		bad["no keys and block "+strconv.Itoa(block)] = impl.Front{Block: block}
		bad["one key and block "+strconv.Itoa(block)] = impl.Front{Block: block, Keeps: []int{0}, Tails: []string{"a"}}
	}
	return bad
}

func TestIsFrontRefuses(t *testing.T) {
	for name, f := range badFronts() {
		if impl.IsFront(f) {
			t.Error("this is no Front:", name)
		}
	}
	// The Front of keys at the limits is one.
	for _, keys := range [][]string{nil, manyKeys(impl.MaxKeys), {strings.Repeat("k", impl.MaxKey)}, chain("k", impl.MaxKey), broadKeys()} {
		for _, block := range []int{1, impl.MaxBlock} {
			if f := plainFront(keys, block); !impl.IsFront(f) {
				t.Error("this is a Front:", f)
			}
		}
	}
}

func TestNearlyFronts(t *testing.T) {
	for _, keys := range [][]string{{"a", "ab", "c"}, chain("k", impl.MaxKey), manyKeys(impl.MaxKeys), {"car", "card", "care", "cart", "cat", "dog"}} {
		for _, block := range []int{1, 2, 3, impl.MaxBlock} {
			good := plainFront(keys, block)
			for i, keep := range good.Keeps {
				for _, other := range []int{math.MinInt, keep - 2, keep - 1, keep + 1, keep + 2, impl.MaxKey, impl.MaxKey + 1, math.MaxInt} {
					f := impl.Front{Block: block, Keeps: slices.Clone(good.Keeps), Tails: good.Tails}
					f.Keeps[i] = other
					// With other keeps and the same tails, other keys may have a Front: they must be told again by it.
					if impl.IsFront(f) && !sameFront(f, plainFront(keysTold(t, f), block)) {
						t.Fatal("this is no Front:", f)
					}
					if i%block == 0 && impl.IsFront(f) {
						t.Fatal("the first key of a block keeps none", f)
					}
				}
			}
		}
	}
}

// keysTold returns the keys of a Front, told by FrontKey.
func keysTold(t *testing.T, f impl.Front) []string {
	t.Helper()
	keys := make([]string, len(f.Keeps))
	for i := range keys {
		key, ok := impl.FrontKey(f, i)
		if !ok {
			t.Fatal("a Front tells its keys", f, i)
		}
		keys[i] = key
	}
	return keys
}

func TestNoFrontsRefused(t *testing.T) {
	good := plainFront([]string{"a", "ab", "c"}, 2)
	for name, f := range badFronts() {
		what := " of no Front: " + name
		for _, i := range []int{0, 1, 2, -1, math.MinInt, math.MaxInt} {
			key, ok := impl.FrontKey(f, i)
			mustFail(t, "FrontKey"+what, key, ok)
		}
		for _, s := range []string{"", "a", "ab", "c", "\xff", strings.Repeat("k", impl.MaxKey+1)} {
			rank, ok := impl.FrontRank(f, s)
			mustFail(t, "FrontRank"+what, rank, ok)
			has, ok := impl.FrontHas(f, s)
			mustFail(t, "FrontHas"+what, has, ok)
		}
		n, ok := impl.FrontBytes(f)
		mustFail(t, "FrontBytes"+what, n, ok)
		merged, ok := impl.MergeFronts(f, good)
		mustFailFront(t, "MergeFronts, the first one"+what, merged, ok)
		merged, ok = impl.MergeFronts(good, f)
		mustFailFront(t, "MergeFronts, the second one"+what, merged, ok)
		merged, ok = impl.MergeFronts(f, f)
		mustFailFront(t, "MergeFronts, both"+what, merged, ok)
	}
}

// unionOf returns the keys that are in one of two lists or in both.
func unionOf(a []string, b []string) []string {
	all := slices.Concat(a, b)
	slices.Sort(all)
	return slices.Compact(all)
}

// checkMerge checks the merged front of two lists of keys with blocks.
func checkMerge(t *testing.T, a []string, b []string, blockA int, blockB int) {
	t.Helper()
	first, second, all := plainFront(a, blockA), plainFront(b, blockB), unionOf(a, b)
	what := "MergeFronts of " + strings.Join(a, " ") + ", block " + strconv.Itoa(blockA) + ", and " + strings.Join(b, " ") + ", block " + strconv.Itoa(blockB)
	f, ok := impl.MergeFronts(first, second)
	if len(all) > impl.MaxKeys {
		mustFailFront(t, what, f, ok)
		return
	}
	if !ok || !sameFront(f, plainFront(all, blockA)) {
		t.Fatal(what, "is", plainFront(all, blockA), "not", f, ok)
	}
	most := len(all)
	for _, key := range all {
		most += len(key)
	}
	if bytes, ok := impl.FrontBytes(f); !ok || bytes > most {
		t.Fatal(what, "takes at most", most, "bytes, not", bytes, ok)
	}
}

func TestMergeFronts(t *testing.T) {
	lists, merged, refused := sortedKeyLists(), 0, 0
	for i, a := range lists {
		for k, b := range lists {
			checkMerge(t, a, b, 1+(i+k)%impl.MaxBlock, 1+(i*5+k*3)%impl.MaxBlock)
			if len(unionOf(a, b)) > impl.MaxKeys {
				refused++
			} else {
				merged++
			}
		}
	}
	if merged < 100 || refused < 100 {
		t.Error("both kinds of answers must have been met", merged, refused)
	}
	for _, a := range smallKeySets("a", "b", "aa", "ab", "ba") {
		for i, b := range smallKeySets("a", "b", "aa", "ab", "bb") {
			checkMerge(t, a, b, 1+i%4, 1+i%3)
		}
	}
}

func TestMergeFrontsOfAnyBlocks(t *testing.T) {
	a, b := []string{"b", "ba", "bab", "bb", "c"}, []string{"!", "a", "b", "baa", "bab", "bb", "ca", "}}"}
	for blockA := 1; blockA <= impl.MaxBlock; blockA++ {
		for blockB := 1; blockB <= impl.MaxBlock; blockB++ {
			for _, pair := range [][2][]string{{a, b}, {b, a}, {a, a}, {a, nil}, {nil, b}, {nil, nil}, {manyKeys(20), manyKeys(impl.MaxKeys)}} {
				checkMerge(t, pair[0], pair[1], blockA, blockB)
			}
		}
	}
}

func TestMergeFrontsAtTheLimit(t *testing.T) {
	all := manyKeys(impl.MaxKeys + 1)
	for split := range impl.MaxKeys + 1 {
		checkMerge(t, all[:split], all[split:impl.MaxKeys], 3, 4)
		checkMerge(t, all[split:impl.MaxKeys], all[:split], 3, 4)
		checkMerge(t, all[:impl.MaxKeys], all[split:impl.MaxKeys], 1, 16)
		if split > 0 {
			f, ok := impl.MergeFronts(plainFront(all[:split], 3), plainFront(all[split:], 4))
			mustFailFront(t, "MergeFronts of one key too many", f, ok)
			f, ok = impl.MergeFronts(plainFront(all[split:], 3), plainFront(all[:impl.MaxKeys], 4))
			mustFailFront(t, "MergeFronts of common keys and one too many", f, ok)
		}
	}
}
