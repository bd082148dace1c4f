package tests

import (
	"math"
	"slices"
	"strconv"
	"strings"
	"testing"

	"loop.example/g01097/impl"
)

// The tests of this file are for promise 10: shards.

// outsideShards are numbers of shards that there are not.
var outsideShards = []int{math.MinInt, math.MinInt + 1, -8, -1, 0, impl.MaxShards + 1, impl.MaxShards + 2, impl.MaxBits, math.MaxInt - 1, math.MaxInt}

// twins are keys that have the same hash for all seeds and parts, so that they are always in the same shard and never peeled.
var twins = []string{"ap!", "bbC"}

// plainShard returns the shard of a key.
func plainShard(seed int, key string, shards int) int {
	return plainPlaces(seed, 9, []string{key}, shards)[0]
}

// plainSplit returns the keys of each shard.
func plainSplit(seed int, keys []string, shards int) [][]string {
	lists := make([][]string, shards)
	for shard := range lists {
		for _, key := range keys {
			if plainShard(seed, key, shards) == shard {
				lists[shard] = append(lists[shard], key)
			}
		}
	}
	return lists
}

// withOffsets returns the Sharded with a seed and parts.
func withOffsets(seed int, parts []impl.Peeled) impl.Sharded {
	s := impl.Sharded{Seed: seed, Parts: parts}
	for i := range parts {
		used := 0
		for _, part := range parts[:i] {
			used += strings.Count(usedText(part), "1")
		}
		s.Offsets = append(s.Offsets, used)
	}
	return s
}

// plainSharded returns the Sharded of keys, if there is one.
func plainSharded(seed int, keys []string, shards int) (impl.Sharded, bool) {
	var parts []impl.Peeled
	for _, list := range plainSplit(seed, keys, shards) {
		segment := min(len(list)+1, 24)
		first := 0
		for first < 100 && !arePlainlyPeeled(first, list, segment) {
			first++
		}
		if first == 100 {
			return impl.Sharded{}, false
		}
		part, _ := plainPeeled(first, list, segment)
		parts = append(parts, part)
	}
	return withOffsets(seed, parts), true
}

// plainShardedIndex returns the index of a key, if there is one.
func plainShardedIndex(s impl.Sharded, key string) (int, bool) {
	shard := plainShard(s.Seed, key, len(s.Parts))
	index, ok := plainIndex(s.Parts[shard], key)
	if !ok {
		return 0, false
	}
	return s.Offsets[shard] + index, true
}

// isPlainShardedFor reports whether each part is a table for the keys of its shard.
func isPlainShardedFor(s impl.Sharded, keys []string) bool {
	for i, list := range plainSplit(s.Seed, keys, len(s.Parts)) {
		if !isPlainPeeledFor(s.Parts[i], list) {
			return false
		}
	}
	return true
}

// sameSharded reports whether two values are equal.
func sameSharded(a impl.Sharded, b impl.Sharded) bool {
	return a.Seed == b.Seed && slices.EqualFunc(a.Parts, b.Parts, samePeeled) && slices.Equal(a.Offsets, b.Offsets)
}

// mustFailSharded checks that a call failed with the zero Sharded.
func mustFailSharded(t *testing.T, what string, s impl.Sharded, ok bool) {
	t.Helper()
	if ok || !sameSharded(s, impl.Sharded{}) {
		t.Errorf("%s: got %v, %v; it must fail with the zero Sharded", what, s, ok)
	}
}

// shardCase is what a Sharded is built of.
type shardCase struct {
	seed   int
	keys   []string
	shards int
}

// name tells a case.
func (c shardCase) name() string {
	return strconv.Itoa(c.shards) + " shards of " + strings.Join(c.keys, " ") + " for the seed " + strconv.Itoa(c.seed)
}

// shardCases returns what shards are made of: all numbers of them, with no keys, with few, and with as many as the limit.
func shardCases() []shardCase {
	lists := append(keyLists(), chain("k", impl.MaxKey), broadKeys(), []string{"!", "}}}}}}}}}}}}"}, []string{"car", "card", "care", "cart", "cat", "dog", "dot", "to", "too"},
		manyKeys(22), manyKeys(23), manyKeys(24), manyKeys(25), twins, append(slices.Clone(twins), "x"), append([]string{"!"}, twins...), append(manyKeys(2), "zz"))
	for number := range 4 {
		lists = append(lists, scatteredKeys(17, "!.05AZaz{}", impl.MaxKey, number), scatteredKeys(impl.MaxKeys, "!.05AZaz{}", impl.MaxKey, number))
	}
	spoiled := append(manyKeys(impl.MaxKeys-2), twins...)
	slices.Sort(spoiled)
	lists = append(lists, spoiled)
	var all []shardCase
	for i, keys := range lists {
		for shards := 1; shards <= impl.MaxShards; shards++ {
			for _, seed := range []int{0, 1 + i, 5000 + shards, impl.MaxSeed} {
				all = append(all, shardCase{seed, keys, shards})
			}
		}
	}
	return all
}

func TestLimitsOfStore(t *testing.T) {
	if impl.MaxShards != 8 || impl.MaxSealed != 6000 || impl.MaxScript != 2000 || impl.MaxLines != 40 {
		t.Error("the limits of chapter 10 are 8, 6000, 2000 and 40", impl.MaxShards, impl.MaxSealed, impl.MaxScript, impl.MaxLines)
	}
}

func TestSplitKeys(t *testing.T) {
	empty, full := 0, 0
	for _, c := range shardCases() {
		lists, ok := impl.SplitKeys(c.seed, c.keys, c.shards)
		if want := plainSplit(c.seed, c.keys, c.shards); !ok || len(lists) != c.shards || !slices.EqualFunc(lists, want, slices.Equal) {
			t.Fatalf("%s are %q, not %q, %v", c.name(), want, lists, ok)
		}
		all := slices.Concat(lists...)
		slices.Sort(all)
		if !slices.Equal(all, c.keys) {
			t.Fatalf("%s: each key is in one shard, not %q", c.name(), lists)
		}
		for _, list := range lists {
			if !impl.AreKeys(list) {
				t.Fatalf("%s: the keys of each shard are keys, not %q", c.name(), list)
			}
			if len(list) == 0 {
				empty++
			} else if len(list) == len(c.keys) && len(list) > 1 && c.shards > 1 {
				full++
			}
		}
	}
	if empty < 100 || full < 10 {
		t.Error("shards without keys and with all keys must have been met", empty, full)
	}
}

func TestSplitKeysRefuses(t *testing.T) {
	for _, keys := range [][]string{nil, {"a"}, {"a", "b"}, manyKeys(impl.MaxKeys)} {
		for _, seed := range outsideSeeds {
			lists, ok := impl.SplitKeys(seed, keys, 3)
			mustFailList(t, "SplitKeys for the seed "+strconv.Itoa(seed), lists, ok)
			s, ok := impl.BuildSharded(seed, keys, 3)
			mustFailSharded(t, "BuildSharded for the seed "+strconv.Itoa(seed), s, ok)
		}
		for _, shards := range outsideShards {
			lists, ok := impl.SplitKeys(0, keys, shards)
			mustFailList(t, "SplitKeys among "+strconv.Itoa(shards), lists, ok)
			s, ok := impl.BuildSharded(0, keys, shards)
			mustFailSharded(t, "BuildSharded of "+strconv.Itoa(shards), s, ok)
		}
	}
	for _, list := range badLists() {
		for _, shards := range []int{1, 2, impl.MaxShards} {
			lists, ok := impl.SplitKeys(0, list, shards)
			mustFailList(t, "SplitKeys of no keys", lists, ok)
			s, ok := impl.BuildSharded(0, list, shards)
			mustFailSharded(t, "BuildSharded of no keys", s, ok)
		}
	}
}

func TestBuildSharded(t *testing.T) {
	segments, seeds, refused := map[int]bool{}, map[int]bool{}, 0
	for _, c := range shardCases() {
		want, exists := plainSharded(c.seed, c.keys, c.shards)
		s, ok := impl.BuildSharded(c.seed, c.keys, c.shards)
		if ok != exists || !sameSharded(s, want) {
			t.Fatalf("%s are %v, %v, not %v, %v", c.name(), want, exists, s, ok)
		}
		if !ok {
			refused++
			continue
		}
		if is, ok := impl.IsShardedFor(s, c.keys); !impl.IsSharded(s) || !ok || !is {
			t.Fatalf("%s are valid, and are those of their keys: %v, %v, %v", c.name(), s, is, ok)
		}
		for _, part := range s.Parts {
			segments[part.Segment], seeds[part.Seed] = true, true
		}
	}
	if len(segments) < 15 || !segments[1] || !segments[impl.MaxSegment] || len(seeds) < 3 || refused < 50 {
		t.Error("the least and the greatest segment, seeds beyond the first one and refusals must have been met", segments, seeds, refused)
	}
}

func TestKeysOfShardedTables(t *testing.T) {
	for _, c := range shardCases() {
		s, ok := impl.BuildSharded(c.seed, c.keys, c.shards)
		if !ok {
			continue
		}
		taken := make([]bool, len(c.keys))
		sizes := make([]int, c.shards)
		for _, key := range c.keys {
			sizes[plainShard(c.seed, key, c.shards)]++
		}
		for _, key := range c.keys {
			shard, hasShard := impl.ShardOf(s, key)
			index, hasIndex := impl.ShardedIndex(s, key)
			if !hasShard || !hasIndex || shard != plainShard(c.seed, key, c.shards) || index < 0 || index >= len(taken) || taken[index] {
				t.Fatal("the keys have different indices from 0 on:", c.name(), key, shard, index, hasShard, hasIndex)
			}
			taken[index] = true
			first := 0
			for _, size := range sizes[:shard] {
				first += size
			}
			if index < first || index >= first+sizes[shard] || s.Offsets[shard] != first {
				t.Fatal("the keys of a shard have a range of their own:", c.name(), key, shard, index, sizes, s.Offsets)
			}
		}
	}
}

func TestShardsWithoutKeys(t *testing.T) {
	for _, seed := range someSeeds {
		for shards := 1; shards <= impl.MaxShards; shards++ {
			s, ok := impl.BuildSharded(seed, nil, shards)
			empty := impl.Peeled{Segment: 1, Marks: []int{3, 3, 3}}
			want := impl.Sharded{Seed: seed, Parts: slices.Repeat([]impl.Peeled{empty}, shards), Offsets: make([]int, shards)}
			if !ok || !sameSharded(s, want) {
				t.Fatal("each shard has a table without keys", want, s, ok)
			}
			for _, key := range anyKeys() {
				if shard, ok := impl.ShardOf(s, key); !ok || shard != plainShard(seed, key, shards) {
					t.Fatal("each key has a shard", key, shard, ok)
				}
				index, ok := impl.ShardedIndex(s, key)
				mustFail(t, "ShardedIndex without keys", index, ok)
			}
			if is, ok := impl.IsShardedFor(s, nil); !ok || !is {
				t.Error("it is one for no keys", is, ok)
			}
			if is, ok := impl.IsShardedFor(s, []string{"a"}); !ok || is {
				t.Error("it is none for a key", is, ok)
			}
		}
	}
}

func TestTwinsAreRefused(t *testing.T) {
	for part := range 10 {
		if plainHash(77, part, twins[0]) != plainHash(77, part, twins[1]) {
			t.Fatal("these keys must have the same hashes", twins)
		}
	}
	for _, keys := range [][]string{twins, {"a", "ap!", "bbC", "c"}, {"ap!", "b", "bbC", "d", "e", "f", "g"}} {
		for seed := range 50 {
			for shards := 1; shards <= impl.MaxShards; shards++ {
				s, ok := impl.BuildSharded(seed, keys, shards)
				mustFailSharded(t, "BuildSharded of keys with the same places", s, ok)
			}
		}
	}
}

// someShardeds returns values of any valid parts, those that are built among them.
func someShardeds() []impl.Sharded {
	var all []impl.Sharded
	for i, c := range shardCases() {
		if i%7 == 0 {
			if s, ok := plainSharded(c.seed, c.keys, c.shards); ok {
				all = append(all, s)
			}
		}
	}
	tables := somePeeleds()
	for i := range 300 {
		var parts []impl.Peeled
		for k := range 1 + i%impl.MaxShards {
			parts = append(parts, tables[(i*31+k*57)%len(tables)])
		}
		all = append(all, withOffsets([]int{0, i, impl.MaxSeed}[i%3], parts))
	}
	full := impl.Peeled{Seed: impl.MaxSeed, Segment: impl.MaxSegment, Marks: make([]int, 3*impl.MaxSegment)}
	return append(all, withOffsets(0, slices.Repeat([]impl.Peeled{full}, impl.MaxShards)), withOffsets(impl.MaxSeed, []impl.Peeled{full}))
}

// badShardeds returns values that are not valid, by what is wrong.
func badShardeds() map[string]impl.Sharded {
	one := impl.Peeled{Segment: 1, Marks: []int{0, 3, 3}}
	two := impl.Peeled{Seed: 5, Segment: 2, Marks: []int{0, 1, 2, 3, 3, 3}}
	bad := map[string]impl.Sharded{
		"the zero value":         {},
		"no shards":              {Seed: 1, Parts: []impl.Peeled{}, Offsets: []int{}},
		"an offset of no shards": {Offsets: []int{0}},
		"no offsets":             {Parts: []impl.Peeled{one}},
		"one shard too many":     withOffsets(1, slices.Repeat([]impl.Peeled{one}, impl.MaxShards+1)),
		"very many shards":       withOffsets(1, slices.Repeat([]impl.Peeled{one}, 500)),
		"zero parts":             {Parts: make([]impl.Peeled, 3), Offsets: []int{0, 0, 0}},
	}
	for _, seed := range outsideSeeds {
		bad["the seed "+strconv.Itoa(seed)] = withOffsets(seed, []impl.Peeled{one, two})
	}
	for _, shards := range []int{1, 2, 3, impl.MaxShards} {
		good := withOffsets(3, slices.Repeat([]impl.Peeled{one, two}, shards)[:shards])
		what := " of " + strconv.Itoa(shards)
		bad["an offset too few"+what] = impl.Sharded{Seed: 3, Parts: good.Parts, Offsets: good.Offsets[:shards-1]}
		bad["an offset too many"+what] = impl.Sharded{Seed: 3, Parts: good.Parts, Offsets: append(slices.Clone(good.Offsets), good.Offsets[shards-1]+1)}
		bad["a zero too many"+what] = impl.Sharded{Seed: 3, Parts: good.Parts, Offsets: append([]int{0}, good.Offsets...)}
		for i, offset := range good.Offsets {
			for _, other := range []int{math.MinInt, -1, offset - 1, offset + 1, offset + 3, math.MaxInt} {
				offsets := slices.Clone(good.Offsets)
				offsets[i] = other
				bad["the offset "+strconv.Itoa(other)+" at "+strconv.Itoa(i)+what] = impl.Sharded{Seed: 3, Parts: good.Parts, Offsets: offsets}
			}
			for name, p := range badPeeleds() {
				parts := slices.Clone(good.Parts)
				parts[i] = p
				bad["a part at "+strconv.Itoa(i)+what+" with "+name] = withOffsets(3, parts)
			}
		}
	}
	return bad
}

func TestIsSharded(t *testing.T) {
	for _, s := range someShardeds() {
		if !impl.IsSharded(s) {
			t.Error("this is a Sharded:", s)
		}
	}
	for name, s := range badShardeds() {
		if impl.IsSharded(s) {
			t.Error("this is no Sharded:", name)
		}
	}
}

func TestShardsOfAnyKeys(t *testing.T) {
	told, refused := 0, 0
	for _, s := range someShardeds() {
		for _, key := range anyKeys() {
			want := plainShard(s.Seed, key, len(s.Parts))
			if shard, ok := impl.ShardOf(s, key); !ok || shard != want {
				t.Fatal("the shard of", key, "in", s, "is", want, "not", shard, ok)
			}
			wanted, exists := plainShardedIndex(s, key)
			if index, ok := impl.ShardedIndex(s, key); ok != exists || index != wanted {
				t.Fatal("the index of", key, "in", s, "is", wanted, exists, "not", index, ok)
			}
			if exists {
				told++
			} else {
				refused++
			}
		}
	}
	if told < 1000 || refused < 1000 {
		t.Error("indices must have been told and refused", told, refused)
	}
}

// checkShardedFor checks whether a Sharded is told to be one for keys, and returns what is right.
func checkShardedFor(t *testing.T, s impl.Sharded, keys []string) bool {
	t.Helper()
	want := isPlainShardedFor(s, keys)
	if is, ok := impl.IsShardedFor(s, keys); !ok || is != want {
		t.Fatal("the Sharded", s, "is one for", keys, want, "not", is, ok)
	}
	return want
}

func TestIsShardedFor(t *testing.T) {
	yes, no := 0, 0
	for i, c := range shardCases() {
		s, ok := plainSharded(c.seed, c.keys, c.shards)
		if !ok || i%3 > 0 {
			continue
		}
		for _, list := range changedKeys(c.keys) {
			if checkShardedFor(t, s, list) {
				yes++
			} else {
				no++
			}
		}
		other := withOffsets((c.seed+1)%impl.MaxSeed, s.Parts)
		checkShardedFor(t, other, c.keys)
		parts := slices.Clone(s.Parts)
		slices.Reverse(parts)
		checkShardedFor(t, withOffsets(c.seed, parts), c.keys)
	}
	if yes < 100 || no < 100 {
		t.Error("both answers must have been met", yes, no)
	}
	for i, s := range someShardeds() {
		for _, keys := range [][]string{nil, {"a"}, {"a", "b"}, manyKeys(5), manyKeys(i % impl.MaxKeys)} {
			checkShardedFor(t, s, keys)
		}
	}
}

func TestOnePartThatIsNoTable(t *testing.T) {
	keys := manyKeys(30)
	for shards := 1; shards <= impl.MaxShards; shards++ {
		good, ok := plainSharded(9, keys, shards)
		if !ok {
			t.Fatal("these keys have a Sharded", shards)
		}
		for i := range shards {
			// The others still are tables for their keys.
			parts := slices.Clone(good.Parts)
			parts[i] = impl.Peeled{Segment: 1, Marks: []int{3, 3, 3}}
			if plainSplit(9, keys, shards)[i] == nil {
				parts[i].Marks = []int{0, 3, 3}
			}
			if is, ok := impl.IsShardedFor(withOffsets(9, parts), keys); !ok || is {
				t.Error("a part is no table for its keys", shards, i, is, ok)
			}
		}
	}
}

func TestShardedCallsRefuse(t *testing.T) {
	for name, s := range badShardeds() {
		for _, key := range []string{"a", "k"} {
			shard, ok := impl.ShardOf(s, key)
			mustFail(t, "ShardOf "+name, shard, ok)
			index, ok := impl.ShardedIndex(s, key)
			mustFail(t, "ShardedIndex of "+name, index, ok)
		}
		for _, keys := range [][]string{nil, {"a"}, {"a", "b", "c"}} {
			is, ok := impl.IsShardedFor(s, keys)
			mustFail(t, "IsShardedFor of "+name, is, ok)
		}
	}
	full := impl.Peeled{Segment: 2, Marks: make([]int, 6)}
	for shards := 1; shards <= impl.MaxShards; shards++ {
		s := withOffsets(0, slices.Repeat([]impl.Peeled{full}, shards))
		for _, key := range badKeys() {
			shard, ok := impl.ShardOf(s, key)
			mustFail(t, "ShardOf no key", shard, ok)
			index, ok := impl.ShardedIndex(s, key)
			mustFail(t, "ShardedIndex of no key", index, ok)
		}
		for _, list := range badLists() {
			is, ok := impl.IsShardedFor(s, list)
			mustFail(t, "IsShardedFor no keys", is, ok)
		}
	}
}
