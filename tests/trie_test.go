package tests

import (
	"math"
	"slices"
	"strconv"
	"strings"
	"testing"

	"loop.example/g01097/impl"
)

// The tests of this file are for promise 9: what a Trie is, and its nodes.

// lengthThenOrder compares nodes: shorter ones first, and those of the same length in order.
func lengthThenOrder(a string, b string) int {
	if len(a) != len(b) {
		return len(a) - len(b)
	}
	return strings.Compare(a, b)
}

// plainNodes returns the nodes of the trie of keys: all different beginnings of them.
func plainNodes(keys []string) []string {
	nodes := []string{""}
	for _, key := range keys {
		for i := range key {
			nodes = append(nodes, key[:i+1])
		}
	}
	slices.SortFunc(nodes, lengthThenOrder)
	return slices.Compact(nodes)
}

// trieText is a Trie with its vectors as texts.
type trieText struct {
	shape  string
	ends   string
	labels string
}

// trie returns the Trie with the texts.
func (p trieText) trie() impl.Trie {
	return impl.Trie{Shape: pack(p.shape), Ends: pack(p.ends), Labels: p.labels}
}

// plainTrie returns the texts of the trie of keys.
func plainTrie(keys []string) trieText {
	nodes := plainNodes(keys)
	var p trieText
	for _, node := range nodes {
		for _, other := range nodes {
			if len(other) == len(node)+1 && strings.HasPrefix(other, node) {
				p.shape += "1"
				p.labels += other[len(node):]
			}
		}
		p.shape += "0"
		if slices.Contains(keys, node) {
			p.ends += "1"
		} else {
			p.ends += "0"
		}
	}
	return p
}

// sameTrie reports whether two Tries are equal.
func sameTrie(a impl.Trie, b impl.Trie) bool {
	return sameBitVectors(a.Shape, b.Shape) && sameBitVectors(a.Ends, b.Ends) && a.Labels == b.Labels
}

// mustFailTrie checks that a call failed with the zero Trie.
func mustFailTrie(t *testing.T, what string, trie impl.Trie, ok bool) {
	t.Helper()
	if ok || trie.Shape.Size != 0 || len(trie.Shape.Words) != 0 || trie.Ends.Size != 0 || len(trie.Ends.Words) != 0 || trie.Labels != "" {
		t.Errorf("%s: got %v, %v; it must fail with the zero Trie", what, trie, ok)
	}
}

// scatteredKeys returns at most so many keys over letters, in no plain order before they are sorted, different for each number.
func scatteredKeys(count int, letters string, longest int, number int) []string {
	state := uint32(number)*2654435761 + 99991
	next := func(limit int) int {
		state = state*1664525 + 1013904223
		return int(state>>8) % limit
	}
	keys := make([]string, count)
	for i := range keys {
		for range 1 + next(longest) {
			k := next(len(letters))
			keys[i] += letters[k : k+1]
		}
	}
	slices.Sort(keys)
	return slices.Compact(keys)
}

// chain returns the keys that are a letter, written once up to so many times.
func chain(letter string, longest int) []string {
	var keys []string
	for length := 1; length <= longest; length++ {
		keys = append(keys, strings.Repeat(letter, length))
	}
	return keys
}

// broadKeys returns as many keys of the greatest length as the limit, no two of which begin alike: no keys have more nodes.
func broadKeys() []string {
	keys := make([]string, impl.MaxKeys)
	for i := range keys {
		keys[i] = string([]byte{byte('!' + i)}) + strings.Repeat("}", impl.MaxKey-1)
	}
	return keys
}

// sortedKeyLists returns lists of keys: none, few and as many as the limit, short and long ones, such with the least and the greatest bytes,
// such that are beginnings of others, and such with common beginnings and without.
func sortedKeyLists() [][]string {
	all := append(keyLists(), []string{"a", "ab", "c"}, []string{"ab"}, []string{"abcdefghijkl"}, []string{"a", "b", "c", "d"}, []string{"ab", "ac", "bb", "bc"}, []string{"b", "ba", "bab", "bb"},
		[]string{"!", "!!", "!}", "}", "}!", "}}"}, []string{"ab", "abab", "ababab", "abababab"}, []string{"car", "card", "care", "cart", "cat", "dog", "dot", "to", "too"},
		chain("k", impl.MaxKey), chain("!", impl.MaxKey), chain("}", impl.MaxKey-1), broadKeys())
	var single []string
	for i := range impl.MaxKeys {
		single = append(single, string([]byte{byte(86 + i)}))
	}
	all = append(all, single, append(slices.Clone(single[:impl.MaxKeys-1]), "}}"))
	for number := range 6 {
		all = append(all, scatteredKeys(9, "ab", 4, number), scatteredKeys(impl.MaxKeys, "ab", 6, number), scatteredKeys(25, "!a}", 5, number), scatteredKeys(impl.MaxKeys, "!.05AZaz{}", impl.MaxKey, number))
	}
	return all
}

// smallKeySets returns all lists of keys that consist of some words.
func smallKeySets(words ...string) [][]string {
	slices.Sort(words)
	all := [][]string{nil}
	for _, word := range words {
		for _, keys := range all {
			all = append(all, append(slices.Clone(keys), word))
		}
	}
	return all
}

// trieKeyLists returns the lists of keys of the tests of tries.
func trieKeyLists() [][]string {
	return append(sortedKeyLists(), smallKeySets("a", "b", "aa", "ab", "ba", "bb", "aba")...)
}

// mustBuild returns the Trie of keys, told by the program and checked.
func mustBuild(t *testing.T, keys []string) impl.Trie {
	t.Helper()
	trie, ok := impl.BuildTrie(keys)
	if p := plainTrie(keys); !ok || !sameTrie(trie, p.trie()) {
		t.Fatalf("the trie of %q is %v, not %v, %v", keys, p, trie, ok)
	}
	return trie
}

func TestBuildTrie(t *testing.T) {
	most := 0
	for _, keys := range trieKeyLists() {
		trie := mustBuild(t, keys)
		if !impl.IsTrie(trie) || !impl.IsBits(trie.Shape) || !impl.IsBits(trie.Ends) {
			t.Errorf("the trie of %q is a Trie of valid vectors: %v", keys, trie)
		}
		most = max(most, trie.Ends.Size)
	}
	if most != 1+impl.MaxKeys*impl.MaxKey {
		t.Error("the trie with the most nodes must have been met, not only one of", most)
	}
	for _, keys := range badLists() {
		trie, ok := impl.BuildTrie(keys)
		mustFailTrie(t, "BuildTrie of "+strings.Join(keys, " "), trie, ok)
	}
}

func TestExampleOfTries(t *testing.T) {
	trie := mustBuild(t, []string{"a", "ab", "c"})
	if !sameTrie(trie, trieText{"1101000", "0111", "acb"}.trie()) {
		t.Error("the Shape is 1101000, the Ends are 0111 and the Labels acb", trie)
	}
	for node, path := range []string{"", "a", "c", "ab"} {
		if s, ok := impl.PathOf(trie, node); !ok || s != path {
			t.Error("the node is", path, "not", s, ok)
		}
	}
	if index, ok := impl.TrieIndex(trie, "ab"); !ok || index != 2 {
		t.Error("the TrieIndex of ab is 2", index, ok)
	}
	if rank, ok := impl.TrieRank(trie, "ab"); !ok || rank != 1 {
		t.Error("the TrieRank of ab is 1", rank, ok)
	}
}

func TestTrieWithoutKeys(t *testing.T) {
	for _, keys := range [][]string{nil, {}} {
		trie := mustBuild(t, keys)
		if !sameTrie(trie, trieText{"0", "0", ""}.trie()) {
			t.Error("without keys there is the empty node alone", trie)
		}
		if list, ok := impl.TrieKeys(trie); !ok || len(list) != 0 {
			t.Error("there are no keys", list, ok)
		}
		if n, ok := impl.NodesOf(trie); !ok || n != 1 {
			t.Error("there is a node", n, ok)
		}
		if labels, ok := impl.LabelsAt(trie, 0); !ok || labels != "" {
			t.Error("it has no children, which is no failure", labels, ok)
		}
		if n, ok := impl.TrieBits(trie); !ok || n != 2 {
			t.Error("it takes two bits", n, ok)
		}
	}
}

func TestTrieIsMadeOfItsKeysAgain(t *testing.T) {
	for _, keys := range trieKeyLists() {
		trie := mustBuild(t, keys)
		list, ok := impl.TrieKeys(trie)
		if !ok || !slices.Equal(list, keys) {
			t.Fatalf("the keys are %q, not %q, %v", keys, list, ok)
		}
		if again := mustBuild(t, list); !sameTrie(again, trie) {
			t.Errorf("the trie of %q is made of its keys again", keys)
		}
	}
}

// isPlainTrie reports whether a value is the Trie of some keys: the strings of its nodes are read one by one from the texts, and those that are keys must have these texts.
func isPlainTrie(p trieText) bool {
	nodes, next, keys := []string{""}, 0, []string(nil)
	for at, open := 0, 0; at < len(p.shape); at++ {
		if open >= len(nodes) {
			return false
		}
		if p.shape[at] == '0' {
			open++
			continue
		}
		if next >= len(p.labels) {
			return false
		}
		nodes = append(nodes, nodes[open]+p.labels[next:next+1])
		next++
	}
	if len(nodes) != len(p.ends) {
		return false
	}
	for i, node := range nodes {
		if p.ends[i] == '1' {
			keys = append(keys, node)
		}
	}
	slices.Sort(keys)
	return impl.AreKeys(keys) && plainTrie(keys) == p
}

// allStrings returns all strings over letters of at most a length, shorter ones first.
func allStrings(letters string, longest int) []string {
	all := []string{""}
	for from, length := 0, 1; length <= longest; length++ {
		until := len(all)
		for _, s := range all[from:until] {
			for _, c := range []byte(letters) {
				all = append(all, s+string([]byte{c}))
			}
		}
		from = until
	}
	return all
}

func TestSmallTries(t *testing.T) {
	tries := map[trieText]bool{}
	for _, keys := range smallKeySets(allStrings("ab", 3)[1:]...) {
		if len(plainNodes(keys)) <= 4 {
			tries[plainTrie(keys)] = true
		}
	}
	found := 0
	for _, shape := range allStrings("01", 8) {
		for _, ends := range allStrings("01", 5) {
			for _, labels := range allStrings("ab", 3) {
				p := trieText{shape, ends, labels}
				if impl.IsTrie(p.trie()) != tries[p] {
					t.Fatal("a Trie of some keys or not:", p, tries[p])
				}
				if tries[p] {
					found++
				}
			}
		}
	}
	if found != len(tries) || found < 40 {
		t.Error("all of the small Tries must have been met", found, len(tries))
	}
}

// flipped returns a text of the characters 0 and 1 with another one at i.
func flipped(text string, i int) string {
	return text[:i] + string([]byte{'0' + '1' - text[i]}) + text[i+1:]
}

// nearTexts returns a text, such with another character, and such with one more or less.
func nearTexts(text string) []string {
	all := []string{text, "", text + "0", text + "1", "0" + text, "1" + text}
	for i := range text {
		all = append(all, flipped(text, i), text[:i]+text[i+1:])
	}
	return all
}

// nearLabels returns labels, such with another byte, with two bytes exchanged, and such with one more or less.
func nearLabels(labels string) []string {
	all := []string{labels, "", labels + "a", "a" + labels, labels + "\x00"}
	for i := range labels {
		all = append(all, labels[:i]+labels[i+1:])
		for _, c := range []string{"!", "}", "a", "b", " ", "~", "\x00", "\xff", "\xc3\xa9"} {
			all = append(all, labels[:i]+c+labels[i+1:])
		}
		if i > 0 {
			all = append(all, labels[:i-1]+labels[i:i+1]+labels[i-1:i]+labels[i+1:])
		}
	}
	return all
}

func TestNearlyTries(t *testing.T) {
	good, bad := 0, 0
	for _, keys := range [][]string{nil, {"a"}, {"a", "ab", "c"}, {"ab", "ac", "bb", "bc"}, {"b", "ba", "bab", "bb"}, {"!", "!}", "}", "}}"}, chain("k", 4), chain("k", impl.MaxKey), {"car", "care", "cat", "dog"}} {
		p := plainTrie(keys)
		var all []trieText
		for _, shape := range nearTexts(p.shape) {
			all = append(all, trieText{shape, p.ends, p.labels})
			for _, ends := range nearTexts(p.ends) {
				all = append(all, trieText{shape, ends, p.labels})
			}
		}
		for _, labels := range nearLabels(p.labels) {
			all = append(all, trieText{p.shape, p.ends, labels})
			for _, ends := range nearTexts(p.ends) {
				all = append(all, trieText{p.shape, ends, labels})
			}
		}
		for _, q := range all {
			want := isPlainTrie(q)
			if impl.IsTrie(q.trie()) != want {
				t.Fatal("a Trie of some keys or not:", q, want)
			}
			if want {
				good++
			} else {
				bad++
			}
		}
	}
	if good < 100 || bad < 100 {
		t.Error("Tries and others must have been met", good, bad)
	}
}

// tooLarge returns what would be Tries if the keys were within their limits.
func tooLarge() map[string]trieText {
	long := strings.Repeat("k", impl.MaxKey+1)
	return map[string]trieText{
		"one key too many":        plainTrie(manyKeys(impl.MaxKeys + 1)),
		"a key one byte too long": plainTrie([]string{long}),
		"one longer key of many":  plainTrie(append([]string{"a", "b"}, long)),
		"a long way":              plainTrie([]string{strings.Repeat("k", 2000)}),
		"no key bytes":            plainTrie([]string{"\x00", "a b", "\xff", "~"}),
		"the empty string":        {"0", "1", ""},
		"the empty string, too":   {"100", "11", "a"},
	}
}

// badTries returns values that are the Trie of no keys, by what is wrong.
func badTries() map[string]impl.Trie {
	good := plainTrie([]string{"a", "ab", "c"}).trie()
	bad := map[string]impl.Trie{
		"zero":                    {},
		"no shape":                {Ends: good.Ends, Labels: good.Labels},
		"no ends":                 {Shape: good.Shape, Labels: good.Labels},
		"no labels":               {Shape: good.Shape, Ends: good.Ends},
		"one label too many":      {Shape: good.Shape, Ends: good.Ends, Labels: good.Labels + "d"},
		"very many labels":        {Shape: good.Shape, Ends: good.Ends, Labels: strings.Repeat("a", 1<<16)},
		"a label of no key":       {Shape: good.Shape, Ends: good.Ends, Labels: "a~b"},
		"a label of two bytes":    {Shape: good.Shape, Ends: good.Ends, Labels: "a\u00e9"},
		"all labels one rune":     {Shape: good.Shape, Ends: good.Ends, Labels: "\u20ac"},
		"a byte that is no rune":  {Shape: good.Shape, Ends: good.Ends, Labels: "\xffcb"},
		"children out of order":   {Shape: good.Shape, Ends: good.Ends, Labels: "cab"},
		"equal children":          {Shape: good.Shape, Ends: good.Ends, Labels: "aab"},
		"a leaf that is no key":   {Shape: good.Shape, Ends: pack("0110"), Labels: good.Labels},
		"an empty key":            {Shape: good.Shape, Ends: pack("1111"), Labels: good.Labels},
		"a node before its bit":   {Shape: pack("0111000"), Ends: good.Ends, Labels: good.Labels},
		"a shape that ends early": {Shape: pack("110100"), Ends: good.Ends, Labels: good.Labels},
		"a shape that goes on":    {Shape: pack("11010000"), Ends: good.Ends, Labels: good.Labels},
		"a node without a label":  {Shape: pack("11010010"), Ends: good.Ends, Labels: good.Labels},
		"greatest vectors":        {Shape: pack(strings.Repeat("10", impl.MaxBits/2)), Ends: pack(strings.Repeat("1", impl.MaxBits/2)), Labels: strings.Repeat("a", impl.MaxBits/2-1)},
		"greatest ends":           {Shape: good.Shape, Ends: pack(strings.Repeat("1", impl.MaxBits)), Labels: strings.Repeat("a", impl.MaxBits-1)},
	}
	for name, b := range badVectors() {
		bad["shape with "+name] = impl.Trie{Shape: b, Ends: good.Ends, Labels: good.Labels}
		bad["ends with "+name] = impl.Trie{Shape: good.Shape, Ends: b, Labels: good.Labels}
		if b.Size > 0 && b.Size <= impl.MaxBits {
			bad["ends with labels and "+name] = impl.Trie{Shape: good.Shape, Ends: b, Labels: strings.Repeat("a", b.Size-1)}
		}
	}
	for name, p := range tooLarge() {
		bad[name] = p.trie()
	}
	return bad
}

func TestIsTrieRefuses(t *testing.T) {
	for name, trie := range badTries() {
		if impl.IsTrie(trie) {
			t.Error("this is no Trie:", name)
		}
	}
	// The Trie of keys at the limits is one.
	for _, keys := range [][]string{manyKeys(impl.MaxKeys), {strings.Repeat("k", impl.MaxKey)}, broadKeys()} {
		if p := plainTrie(keys); !impl.IsTrie(p.trie()) {
			t.Error("this is a Trie:", keys)
		}
	}
}

// badNodes returns numbers that are no nodes.
func badNodes(count int) []int {
	return []int{math.MinInt, math.MinInt + 1, -count, -1, count, count + 1, 2 * count, impl.MaxBits, math.MaxInt - 1, math.MaxInt}
}

// childrenAmong returns the numbers of all children of a node, by their labels, and these in order.
func childrenAmong(nodes []string, node string) (map[int]int, string) {
	children, labels := map[int]int{}, ""
	for i, other := range nodes {
		if len(other) == len(node)+1 && strings.HasPrefix(other, node) {
			children[int(other[len(node)])] = i
			labels += other[len(node):]
		}
	}
	return children, labels
}

// checkNode checks what is told of a node.
func checkNode(t *testing.T, trie impl.Trie, nodes []string, node int) {
	t.Helper()
	what := strconv.Quote(nodes[node]) + ", the node " + strconv.Itoa(node)
	if path, ok := impl.PathOf(trie, node); !ok || path != nodes[node] {
		t.Fatal("PathOf", what, "is", path, ok)
	}
	if found, ok := impl.FindNode(trie, nodes[node]); !ok || found != node {
		t.Fatal("FindNode", what, "is", found, ok)
	}
	children, labels := childrenAmong(nodes, nodes[node])
	if told, ok := impl.LabelsAt(trie, node); !ok || told != labels {
		t.Fatal("LabelsAt", what, "are", labels, "not", told, ok)
	}
	for label, child := range children {
		if told, ok := impl.ChildOf(trie, node, label); !ok || told != child {
			t.Fatal("ChildOf", what, "with", label, "is", child, "not", told, ok)
		}
		if parent, ok := impl.ParentOf(trie, child); !ok || parent != node {
			t.Fatal("ParentOf", child, "is", what, "not", parent, ok)
		}
	}
	if len(nodes) > 100 && node%5 != 0 {
		return
	}
	for _, label := range []int{math.MinInt, -256, -1, 0, 32, 33, 'a', 'b', 125, 126, 127, 128, 255, 256, 256 + 'a', 256 + 'k', 1<<32 + 'a', 1<<32 + '!', math.MaxInt - 1, math.MaxInt} {
		if _, has := children[label]; !has {
			child, ok := impl.ChildOf(trie, node, label)
			mustFail(t, "ChildOf "+what+" with "+strconv.Itoa(label), child, ok)
		}
	}
}

func TestNodes(t *testing.T) {
	for _, keys := range trieKeyLists() {
		trie, nodes := mustBuild(t, keys), plainNodes(keys)
		if n, ok := impl.NodesOf(trie); !ok || n != len(nodes) {
			t.Fatal("the number of nodes of", keys, "is", len(nodes), "not", n, ok)
		}
		for node := range nodes {
			checkNode(t, trie, nodes, node)
		}
		parent, ok := impl.ParentOf(trie, 0)
		mustFail(t, "ParentOf the node 0", parent, ok)
	}
}

func TestChildrenWithAllLabels(t *testing.T) {
	keys := scatteredKeys(impl.MaxKeys, "!.05AZaz{}", 3, 7)
	trie, nodes := mustBuild(t, keys), plainNodes(keys)
	for node := range nodes {
		children, _ := childrenAmong(nodes, nodes[node])
		for label := -2; label <= 400; label++ {
			want, has := children[label]
			if child, ok := impl.ChildOf(trie, node, label); ok != has || child != want {
				t.Fatal("ChildOf", node, "with", label, "is", want, has, "not", child, ok)
			}
		}
	}
}

func TestWrongNodesRefused(t *testing.T) {
	for _, keys := range [][]string{nil, {"a"}, {"a", "ab", "c"}, chain("k", impl.MaxKey), broadKeys()} {
		trie := mustBuild(t, keys)
		for _, node := range badNodes(trie.Ends.Size) {
			what := " of no node: " + strconv.Itoa(node)
			for _, label := range []int{'a', 'k', '!', '}', math.MinInt, math.MaxInt} {
				child, ok := impl.ChildOf(trie, node, label)
				mustFail(t, "ChildOf"+what, child, ok)
			}
			parent, ok := impl.ParentOf(trie, node)
			mustFail(t, "ParentOf"+what, parent, ok)
			labels, ok := impl.LabelsAt(trie, node)
			mustFail(t, "LabelsAt"+what, labels, ok)
			path, ok := impl.PathOf(trie, node)
			mustFail(t, "PathOf"+what, path, ok)
		}
	}
}

func TestParentsByRankAndSelect(t *testing.T) {
	for _, keys := range trieKeyLists() {
		trie := mustBuild(t, keys)
		shape, ok := impl.BuildRanked(trie.Shape)
		if !ok {
			t.Fatal("a Shape has a directory", keys)
		}
		for node := 1; node < trie.Ends.Size; node++ {
			// The bit of a node is the one that is on and has those of the others from 1 on before it, and each node before its parent has had the bit that is off.
			place, hasPlace := impl.Select1(shape, node-1)
			want, hasWant := impl.Rank0(shape, place)
			parent, ok := impl.ParentOf(trie, node)
			if !ok || !hasPlace || !hasWant || parent != want {
				t.Fatal("ParentOf", node, "in the trie of", keys, "is", want, "not", parent, ok)
			}
			labels, ok := impl.LabelsAt(trie, parent)
			if !ok || strings.Count(labels, trie.Labels[node-1:node]) != 1 {
				t.Fatal("a parent has its child once among its labels", keys, node, parent, labels, ok)
			}
			if child, ok := impl.ChildOf(trie, parent, int(trie.Labels[node-1])); !ok || child != node {
				t.Fatal("a parent has its child", keys, node, parent, child, ok)
			}
		}
	}
}

func TestTrieBits(t *testing.T) {
	for _, keys := range trieKeyLists() {
		nodes := len(plainNodes(keys))
		if n, ok := impl.TrieBits(mustBuild(t, keys)); !ok || n != 2*nodes-1+nodes+7*(nodes-1) {
			t.Error("TrieBits of", nodes, "nodes are", n, ok)
		}
	}
	if n, ok := impl.TrieBits(plainTrie([]string{"a", "ab", "c"}).trie()); !ok || n != 7+4+21 {
		t.Error("the example takes 32 bits", n, ok)
	}
}

func TestNoTriesRefused(t *testing.T) {
	for name, trie := range badTries() {
		what := " of no Trie: " + name
		keys, ok := impl.TrieKeys(trie)
		mustFailList(t, "TrieKeys"+what, keys, ok)
		n, ok := impl.NodesOf(trie)
		mustFail(t, "NodesOf"+what, n, ok)
		n, ok = impl.TrieBits(trie)
		mustFail(t, "TrieBits"+what, n, ok)
		for _, node := range []int{0, 1, 2, 3, -1, math.MaxInt} {
			n, ok = impl.ChildOf(trie, node, 'a')
			mustFail(t, "ChildOf"+what, n, ok)
			n, ok = impl.ParentOf(trie, node)
			mustFail(t, "ParentOf"+what, n, ok)
			s, ok := impl.LabelsAt(trie, node)
			mustFail(t, "LabelsAt"+what, s, ok)
			s, ok = impl.PathOf(trie, node)
			mustFail(t, "PathOf"+what, s, ok)
			s, ok = impl.TrieKeyAt(trie, node)
			mustFail(t, "TrieKeyAt"+what, s, ok)
		}
		for _, s := range []string{"", "a", "ab", "c", "k", "\xff", strings.Repeat("k", impl.MaxKey+1)} {
			n, ok = impl.FindNode(trie, s)
			mustFail(t, "FindNode"+what, n, ok)
			has, ok := impl.TrieHas(trie, s)
			mustFail(t, "TrieHas"+what, has, ok)
			n, ok = impl.TrieIndex(trie, s)
			mustFail(t, "TrieIndex"+what, n, ok)
			n, ok = impl.TrieRank(trie, s)
			mustFail(t, "TrieRank"+what, n, ok)
			keys, ok = impl.KeysWithPrefix(trie, s)
			mustFailList(t, "KeysWithPrefix"+what, keys, ok)
			key, ok := impl.LongestKey(trie, s)
			mustFail(t, "LongestKey"+what, key, ok)
		}
	}
}
