package tests

import (
	"math"
	"slices"
	"strconv"
	"strings"
	"testing"

	"loop.example/g01097/impl"
)

// The tests of this file are for promise 9: what a trie tells of its keys, and of all other strings.

// keysBelow returns how many of the keys are less than s.
func keysBelow(keys []string, s string) int {
	count := 0
	for _, key := range keys {
		if strings.Compare(key, s) < 0 {
			count++
		}
	}
	return count
}

// keysBeginning returns the keys that begin with s.
func keysBeginning(keys []string, s string) []string {
	var list []string
	for _, key := range keys {
		if strings.HasPrefix(key, s) {
			list = append(list, key)
		}
	}
	return list
}

// longestIn returns the longest of the keys with which s begins, and whether there is one.
func longestIn(keys []string, s string) (string, bool) {
	longest := ""
	for _, key := range keys {
		if strings.HasPrefix(s, key) && len(key) > len(longest) {
			longest = key
		}
	}
	return longest, longest != ""
}

// endings are put behind beginnings of keys: bytes of keys and others, what a key cannot be followed by, and more than any key has.
var endings = []string{"\x00", " ", "!", "a", "b", "k", "z", "}", "~", "\x7f", "\x80", "\xff", "!!", "}}", "a\u00e9", strings.Repeat("k", impl.MaxKey+1)}

// askedStrings returns the empty string, the beginnings of keys, such with other endings, and strings that have little to do with the keys.
func askedStrings(keys []string) []string {
	nodes := plainNodes(keys)
	all := append(badKeys(), "a", "aa", "ab", "abc", "b", "k", "k1", "k10", "k100", "k1000", "zz", "!", "}", "\u00e9", "\u20ac", "\xc3", "\xa9", strings.Repeat("}", impl.MaxKey+1), strings.Repeat("a", 1<<16))
	all = append(all, nodes...)
	for i, node := range nodes {
		if len(nodes) < 50 || i%17 == 0 {
			for _, ending := range endings {
				all = append(all, node+ending)
			}
		} else {
			all = append(all, node+endings[i%len(endings)])
		}
	}
	for _, key := range keys {
		last := len(key) - 1
		all = append(all, key[:last]+string([]byte{key[last] - 1}), key[:last]+string([]byte{key[last] + 1}), key+key, key[1:], key[:last]+"\xff")
	}
	return all
}

// checkString checks what a trie of keys tells of a string.
func checkString(t *testing.T, trie impl.Trie, keys []string, nodes []string, s string) {
	t.Helper()
	what := strconv.Quote(s[:min(len(s), 30)]) + " in the trie of " + strings.Join(keys, " ")
	node := slices.Index(nodes, s)
	if found, ok := impl.FindNode(trie, s); ok != (node >= 0) || found != max(node, 0) {
		t.Fatal("FindNode", what, "is", node, "not", found, ok)
	}
	isKey := slices.Contains(keys, s)
	if has, ok := impl.TrieHas(trie, s); !ok || has != isKey {
		t.Fatal("TrieHas", what, "is", isKey, "not", has, ok)
	}
	before := 0
	for i := range node {
		if isKey && slices.Contains(keys, nodes[i]) {
			before++
		}
	}
	if index, ok := impl.TrieIndex(trie, s); ok != isKey || index != before {
		t.Fatal("TrieIndex", what, "is", before, isKey, "not", index, ok)
	}
	if rank, ok := impl.TrieRank(trie, s); !ok || rank != keysBelow(keys, s) {
		t.Fatal("TrieRank", what, "is", keysBelow(keys, s), "not", rank, ok)
	}
	if list, ok := impl.KeysWithPrefix(trie, s); !ok || !slices.Equal(list, keysBeginning(keys, s)) {
		t.Fatal("KeysWithPrefix", what, "are", keysBeginning(keys, s), "not", list, ok)
	}
	longest, has := longestIn(keys, s)
	if key, ok := impl.LongestKey(trie, s); ok != has || key != longest {
		t.Fatal("LongestKey", what, "is", longest, has, "not", key, ok)
	}
}

func TestStringsInTries(t *testing.T) {
	for i, keys := range sortedKeyLists() {
		trie, nodes := mustBuild(t, keys), plainNodes(keys)
		for k, s := range askedStrings(keys) {
			// Large tries are asked for other strings each.
			if len(nodes) < 100 || k%3 == i%3 {
				checkString(t, trie, keys, nodes, s)
			}
		}
	}
}

func TestAllShortStringsInSmallTries(t *testing.T) {
	all := append(allStrings("!abz", 3), allStrings("ab", 5)...)
	for _, keys := range smallKeySets("a", "b", "aa", "ab", "ba", "bb", "aba") {
		trie, nodes := mustBuild(t, keys), plainNodes(keys)
		for _, s := range all {
			checkString(t, trie, keys, nodes, s)
		}
	}
}

// indexed returns the keys in the order of their nodes.
func indexed(keys []string) []string {
	list := slices.Clone(keys)
	slices.SortFunc(list, lengthThenOrder)
	return list
}

func TestKeysAreNumberedOnceEach(t *testing.T) {
	for _, keys := range trieKeyLists() {
		trie, met := mustBuild(t, keys), make([]bool, len(keys))
		for _, key := range keys {
			index, ok := impl.TrieIndex(trie, key)
			if !ok || index < 0 || index >= len(keys) || met[index] {
				t.Fatal("each key has a number of its own below that of the keys:", keys, key, index, ok)
			}
			met[index] = true
			if again, ok := impl.TrieKeyAt(trie, index); !ok || again != key {
				t.Fatal("the key with the TrieIndex", index, "is", key, "not", again, ok)
			}
		}
		for index, key := range indexed(keys) {
			if told, ok := impl.TrieKeyAt(trie, index); !ok || told != key {
				t.Fatal("TrieKeyAt", index, "among", keys, "is", key, "not", told, ok)
			}
		}
		for _, index := range []int{math.MinInt, math.MinInt + 1, -1, len(keys), len(keys) + 1, impl.MaxKeys, impl.MaxKeys + 1, impl.MaxBits, math.MaxInt - 1, math.MaxInt} {
			if index < 0 || index >= len(keys) {
				key, ok := impl.TrieKeyAt(trie, index)
				mustFail(t, "TrieKeyAt "+strconv.Itoa(index)+" of "+strconv.Itoa(len(keys))+" keys", key, ok)
			}
		}
	}
}

func TestNumbersOfKeysByRankAndSelect(t *testing.T) {
	for _, keys := range trieKeyLists() {
		trie := mustBuild(t, keys)
		ends, ok := impl.BuildRanked(trie.Ends)
		if !ok {
			t.Fatal("the Ends have a directory", keys)
		}
		if ones, ok := impl.OnesOf(ends); !ok || ones != len(keys) {
			t.Fatal("as many bits as keys are on", keys, ones, ok)
		}
		for _, key := range keys {
			node, found := impl.FindNode(trie, key)
			want, hasRank := impl.Rank1(ends, node)
			index, ok := impl.TrieIndex(trie, key)
			if !found || !hasRank || !ok || index != want {
				t.Fatal("TrieIndex of", key, "in the trie of", keys, "is", want, "not", index, ok)
			}
			place, hasPlace := impl.Select1(ends, index)
			path, ok := impl.PathOf(trie, place)
			if !hasPlace || !ok || path != key {
				t.Fatal("the node with as many keys before it is", key, "not", path, ok)
			}
		}
	}
}

func TestTrieWithoutOneKey(t *testing.T) {
	for _, keys := range sortedKeyLists() {
		for i, gone := range keys {
			rest := slices.Delete(slices.Clone(keys), i, i+1)
			trie := mustBuild(t, rest)
			if has, ok := impl.TrieHas(trie, gone); !ok || has {
				t.Fatal("a trie without a key has it not:", keys, gone, has, ok)
			}
			index, ok := impl.TrieIndex(trie, gone)
			mustFail(t, "TrieIndex of a key that is gone", index, ok)
			if rank, ok := impl.TrieRank(trie, gone); !ok || rank != i {
				t.Fatal("as many keys as before are less than the one that is gone:", keys, gone, rank, ok)
			}
			if list, ok := impl.TrieKeys(trie); !ok || !slices.Equal(list, rest) {
				t.Fatal("a trie without a key has the others:", keys, gone, list, ok)
			}
			for _, key := range rest {
				if has, ok := impl.TrieHas(trie, key); !ok || !has {
					t.Fatal("a trie without a key has the others:", keys, gone, key, has, ok)
				}
			}
		}
	}
}

func TestStringsThatAreNoKeys(t *testing.T) {
	trie := mustBuild(t, []string{"ab", "abc", "b"})
	for _, s := range []string{"", "a", "abcd", "abcdefghijklmn", "c", "A", "ab ", "ab\x00", "\xff", "\u00e9", strings.Repeat("ab", 1<<18)} {
		if has, ok := impl.TrieHas(trie, s); !ok || has {
			t.Error("this string is no key, which is no failure:", s[:min(len(s), 20)], has, ok)
		}
	}
	if node, ok := impl.FindNode(trie, ""); !ok || node != 0 {
		t.Error("the empty string is the node 0", node, ok)
	}
	if list, ok := impl.KeysWithPrefix(trie, "x"); !ok || len(list) != 0 {
		t.Error("that no key begins so is no failure", list, ok)
	}
	if key, ok := impl.LongestKey(trie, "abcdefghijklmnopq"); !ok || key != "abc" {
		t.Error("abc is the longest key with which this begins", key, ok)
	}
	if key, ok := impl.LongestKey(trie, strings.Repeat("ab", 1<<18)); !ok || key != "ab" {
		t.Error("ab is the longest key with which this begins", key, ok)
	}
	key, ok := impl.LongestKey(trie, "")
	mustFail(t, "LongestKey of the empty string", key, ok)
	key, ok = impl.LongestKey(trie, "a")
	mustFail(t, "LongestKey of a beginning of keys", key, ok)
}
