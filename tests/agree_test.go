package tests

import (
	"slices"
	"strconv"
	"strings"
	"testing"

	"loop.example/g01097/impl"
)

// The tests of this file are for promise 10: what the dictionaries of all chapters have in common, asked through the program alone.

// dictionaries are all kinds of tables of the same keys.
type dictionaries struct {
	keys      []string
	trie      impl.Trie
	front     impl.Front
	sharded   impl.Sharded
	peeled    impl.Peeled
	displaced impl.Displaced
	ordered   impl.Ordered
}

// isFor reports whether a check of keys says yes.
func isFor(is bool, ok bool) bool {
	return is && ok
}

// buildAll returns tables of keys, for the first seeds that have them.
func buildAll(t *testing.T, keys []string, shards int) dictionaries {
	t.Helper()
	all := dictionaries{keys: keys}
	seed, hasSeed := impl.FirstSeed(keys, impl.MaxSegment, 0, 100)
	oks := make([]bool, 6)
	all.trie, oks[0] = impl.BuildTrie(keys)
	all.front, oks[1] = impl.BuildFront(keys, 1+len(keys)%impl.MaxBlock)
	all.sharded, oks[2] = impl.BuildSharded(len(keys), keys, shards)
	all.peeled, oks[3] = impl.BuildPeeled(seed, keys, impl.MaxSegment)
	for other := 0; other < 100 && !oks[4]; other++ {
		all.displaced, oks[4] = impl.BuildDisplaced(other, keys, impl.MaxBuckets, impl.MaxSlots)
	}
	all.ordered, oks[5] = impl.BuildOrdered(seed, keys, impl.MaxSegment)
	if !hasSeed || slices.Contains(oks, false) {
		t.Fatal("these keys have all kinds of tables", keys, hasSeed, oks)
	}
	if !isFor(impl.IsShardedFor(all.sharded, keys)) || !isFor(impl.IsPeeledFor(all.peeled, keys)) || !isFor(impl.IsDisplacedFor(all.displaced, keys)) || !isFor(impl.IsOrderedFor(all.ordered, keys)) {
		t.Fatal("each table is one for its keys", keys)
	}
	return all
}

// keysBy returns the keys by the numbers that a table tells for them.
func keysBy(t *testing.T, keys []string, tell func(key string) (int, bool)) map[int]string {
	t.Helper()
	by := map[int]string{}
	for _, key := range keys {
		n, ok := tell(key)
		if other, taken := by[n]; !ok || taken {
			t.Fatal("different keys have different numbers", key, n, ok, other)
		}
		by[n] = key
	}
	return by
}

// checkEverywhere checks that all tables agree on whether a string is a key, and on which one.
func (d dictionaries) checkEverywhere(t *testing.T, asked []string) {
	t.Helper()
	tables := map[string]func(s string) (int, bool){
		"the trie":      func(s string) (int, bool) { return impl.TrieIndex(d.trie, s) },
		"the front":     func(s string) (int, bool) { return impl.FrontRank(d.front, s) },
		"the sharded":   func(s string) (int, bool) { return impl.ShardedIndex(d.sharded, s) },
		"the peeled":    func(s string) (int, bool) { return impl.PeeledIndex(d.peeled, s) },
		"the displaced": func(s string) (int, bool) { return impl.SlotOf(d.displaced, s) },
		"the ordered":   func(s string) (int, bool) { return impl.OrdinalOf(d.ordered, s) },
	}
	keysOf := map[string]map[int]string{}
	for name, tell := range tables {
		keysOf[name] = keysBy(t, d.keys, tell)
	}
	for _, s := range asked {
		isKey := slices.Contains(d.keys, s)
		has, ok := impl.TrieHas(d.trie, s)
		hasToo, okToo := impl.FrontHas(d.front, s)
		if !ok || !okToo || has != isKey || hasToo != isKey {
			t.Fatalf("%q is among %q or not: %v, not %v and %v", s, d.keys, isKey, has, hasToo)
		}
		for name, tell := range tables {
			// A table finds a string if the key that is kept at its number is the string.
			n, ok := tell(s)
			if kept, taken := keysOf[name][n]; isKey != (ok && taken && kept == s) {
				t.Fatalf("%s finds %q among %q or not: %v, not at %d, %v", name, s, d.keys, isKey, n, ok)
			}
		}
	}
	for i, key := range d.keys {
		rank, hasRank := impl.TrieRank(d.trie, key)
		frontRank, hasFrontRank := impl.FrontRank(d.front, key)
		ordinal, hasOrdinal := impl.OrdinalOf(d.ordered, key)
		kept, hasKept := impl.FrontKey(d.front, i)
		if !hasRank || !hasFrontRank || !hasOrdinal || !hasKept || rank != i || frontRank != i || ordinal != i || kept != key {
			t.Fatal("the tables in order tell the index of each key", key, i, rank, frontRank, ordinal, kept)
		}
	}
}

func TestAllDictionariesAgree(t *testing.T) {
	for i, keys := range sortedKeyLists() {
		if len(keys) == 0 || slices.Contains(keys, twins[0]) {
			continue
		}
		asked := append(askedStrings(keys), anyKeys()...)
		if len(asked) > 500 {
			asked = append(slices.DeleteFunc(asked, func(s string) bool { return len(s)%3 != i%3 }), keys...)
		}
		buildAll(t, keys, 1+i%impl.MaxShards).checkEverywhere(t, asked)
	}
	for i, keys := range smallKeySets("a", "b", "aa", "ab", "ba", "bb", "aba")[1:] {
		buildAll(t, keys, 1+i%impl.MaxShards).checkEverywhere(t, allStrings("!abz", 3))
	}
}

func TestWithoutKeysNothingIsFound(t *testing.T) {
	trie, hasTrie := impl.BuildTrie(nil)
	front, hasFront := impl.BuildFront(nil, 4)
	sharded, hasSharded := impl.BuildSharded(3, nil, 5)
	peeled, hasPeeled := impl.BuildPeeled(3, nil, 5)
	_, hasOrdered := impl.BuildOrdered(3, nil, 5)
	if !hasTrie || !hasFront || !hasSharded || !hasPeeled || hasOrdered {
		t.Fatal("all but tables in order exist without keys", hasTrie, hasFront, hasSharded, hasPeeled, hasOrdered)
	}
	for _, s := range append(askedStrings(nil), anyKeys()...) {
		inTrie, fine := impl.TrieHas(trie, s)
		inFront, fineToo := impl.FrontHas(front, s)
		_, inSharded := impl.ShardedIndex(sharded, s)
		_, inPeeled := impl.PeeledIndex(peeled, s)
		if !fine || !fineToo || inTrie || inFront || inSharded || inPeeled {
			t.Fatal("nothing is found", s, inTrie, inFront, inSharded, inPeeled)
		}
	}
}

func TestImagesOfAllTablesOfKeys(t *testing.T) {
	for i, keys := range sortedKeyLists() {
		if len(keys) == 0 {
			continue
		}
		d := buildAll(t, keys, 1+i%impl.MaxShards)
		for shard, part := range d.sharded.Parts {
			image, ok := impl.ImageOfPeeled(part)
			back, fine := impl.LoadPeeled(image)
			if !ok || !fine || !samePeeled(back, part) {
				t.Fatal("the image of each part loads to it", keys, shard, image, back)
			}
		}
		image, ok := impl.ImageOfTrie(d.trie)
		back, fine := impl.LoadTrie(image)
		list, told := impl.TrieKeys(back)
		if !ok || !fine || !told || !sameTrie(back, d.trie) || !slices.Equal(list, keys) {
			t.Fatal("the image of the trie loads to it", keys, image, list)
		}
		used, ok := impl.UsedOf(d.peeled)
		bits, fine := impl.ImageOfBits(used.Bits)
		loaded, told := impl.LoadBits(bits)
		if !ok || !fine || !told || !sameBitVectors(loaded, used.Bits) {
			t.Fatal("the image of the used places loads to them", keys, bits, loaded)
		}
		offsets, ok := impl.BuildSparse(d.sharded.Offsets, impl.MaxKeys+1)
		numbers, fine := impl.ImageOfSparse(offsets)
		again, told := impl.LoadSparse(numbers)
		if !ok || !fine || !told || !sameSparse(again, d.sharded.Offsets, impl.MaxKeys+1) {
			t.Fatal("the image of the offsets loads to them", keys, numbers, again)
		}
	}
}

// tell returns the reply to a line on a Desk.
func tell(t *testing.T, d impl.Desk, line string) string {
	t.Helper()
	after, reply, ok := impl.DeskLine(d, line)
	if !ok || !sameDesk(after, d) {
		t.Fatal("this line changes nothing", line, d, after, ok)
	}
	return reply
}

// checkTables checks that the console tells of a word what the tables of the keys of a Desk tell.
func checkTables(t *testing.T, d impl.Desk, trie impl.Trie, word string) {
	t.Helper()
	p, hasPeeled := impl.BuildPeeled(d.Seed, d.Keys, d.Segment)
	index, hasIndex := impl.PeeledIndex(p, word)
	o, hasOrdered := impl.BuildOrdered(d.Seed, d.Keys, d.Segment)
	ordinal, hasOrdinal := impl.OrdinalOf(o, word)
	rank, hasRank := impl.TrieRank(trie, word)
	list, hasList := impl.KeysWithPrefix(trie, word)
	longest, hasLongest := impl.LongestKey(trie, word)
	if !hasLongest {
		longest = "none"
	}
	for line, reply := range map[string]string{"peeled ": orNo(index, hasPeeled && hasIndex), "ordinal ": orNo(ordinal, hasOrdered && hasOrdinal), "rank ": orNo(rank, hasRank), "prefix ": orNone(list), "longest ": longest} {
		if told := tell(t, d, line+word); told != reply || !hasList {
			t.Fatalf("the reply to %q on %v is %q, not %q", line+word, d, reply, told)
		}
	}
}

func TestConsoleTellsWhatTheTablesTell(t *testing.T) {
	for _, d := range someDesks() {
		trie, ok := impl.BuildTrie(d.Keys)
		h, fine := impl.HyperOf(d.Seed, d.Keys, d.Segment)
		core, told := impl.CoreOf(h)
		image, done := impl.ImageOfTrie(trie)
		if !ok || !fine || !told || !done {
			t.Fatal("the keys of a Desk have a trie and a Hyper", d)
		}
		for line, reply := range map[string]string{"core": strconv.Itoa(len(core)), "image": image, "keys": orNone(d.Keys)} {
			if got := tell(t, d, line); got != reply {
				t.Fatalf("the reply to %q on %v is %q, not %q", line, d, reply, got)
			}
		}
		if back, ok := impl.LoadTrie(tell(t, d, "image")); !ok || !sameTrie(back, trie) {
			t.Fatal("the image that the console tells loads to the trie", d, back, ok)
		}
		for _, word := range append(someWords(), d.Keys...) {
			if !strings.Contains(word, " ") {
				checkTables(t, d, trie, word)
			}
		}
	}
}
