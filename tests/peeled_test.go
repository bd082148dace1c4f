package tests

import (
	"math"
	"slices"
	"strconv"
	"strings"
	"testing"

	"loop.example/g01097/impl"
)

// The tests of this file are for promise 5: tables by peeling.

// keyLists returns lists of keys: none, one, such with the least and the greatest bytes and lengths, and as many as the limit.
func keyLists() [][]string {
	return [][]string{nil, {"a"}, {"!"}, {"a", "b"}, {"!", "}"}, {"a", "ab", "abcdefghijkl"}, {"B", "a", "b", "}}}}}}}}}}}}"},
		manyKeys(5), manyKeys(8), manyKeys(13), manyKeys(20), manyKeys(30), manyKeys(impl.MaxKeys - 1), manyKeys(impl.MaxKeys)}
}

// anyKeys returns keys of any kind, most of which are in no table.
func anyKeys() []string {
	all := append(manyKeys(12), "ab", "ba", "key", "!!", "}}", "abcdefghijkl", "!!!!!!!!!!!!", "}}}}}}}}}}}}", "zz9")
	for c := byte(33); c <= 125; c++ {
		all = append(all, string([]byte{c}))
	}
	return all
}

// badKeys returns strings that are no keys.
func badKeys() []string {
	return []string{"", " ", "~", "a b", "ab\n", "\x00", "\xff", "\u00e9", "a~", strings.Repeat("k", impl.MaxKey+1), strings.Repeat("k", 1000)}
}

// outsideSeeds are numbers that are no seeds.
var outsideSeeds = []int{math.MinInt, -1, impl.MaxSeed + 1, math.MaxInt}

// outsideSegments are numbers that are no segments.
var outsideSegments = []int{math.MinInt, -1, 0, impl.MaxSegment + 1, math.MaxInt}

// someSeeds are seeds, the least and the greatest one among them.
var someSeeds = []int{0, 1, 2, 77, 123, 5000, impl.MaxSeed}

// plainEdge returns the three places of a key.
func plainEdge(seed int, key string, segment int) []int {
	return plainHyper(seed, []string{key}, segment).Edges[0]
}

// plainOrder returns the steps of a peel order, each at the least place that it could have.
func plainOrder(h impl.Hyper) ([]impl.PeelStep, bool) {
	steps, left := plainPeelBy(h, make([]int, len(h.Edges)))
	return steps, len(left) == 0
}

// plainPeeled returns the table by peeling: for the steps from the last to the first one, marks are tried until the key is led to the place of the step.
func plainPeeled(seed int, keys []string, segment int) (impl.Peeled, bool) {
	h := plainHyper(seed, keys, segment)
	steps, ok := plainOrder(h)
	if !ok {
		return impl.Peeled{}, false
	}
	p := impl.Peeled{Seed: seed, Segment: segment, Marks: slices.Repeat([]int{3}, 3*segment)}
	slices.Reverse(steps)
	for _, step := range steps {
		for mark := 2; mark >= 0; mark-- {
			p.Marks[step.Place] = mark
			if plainLed(p, keys[step.Edge]) == step.Place {
				break
			}
		}
	}
	return p, true
}

// plainLed returns the place to which a key is led.
func plainLed(p impl.Peeled, key string) int {
	edge := plainEdge(p.Seed, key, p.Segment)
	return edge[(p.Marks[edge[0]]+p.Marks[edge[1]]+p.Marks[edge[2]])%3]
}

// usedText returns the text with a 1 for each place that is not free.
func usedText(p impl.Peeled) string {
	text := ""
	for _, mark := range p.Marks {
		if mark == 3 {
			text += "0"
		} else {
			text += "1"
		}
	}
	return text
}

// plainIndex returns the number of places before that of a key that are not free, if its own is not.
func plainIndex(p impl.Peeled, key string) (int, bool) {
	place := plainLed(p, key)
	if p.Marks[place] == 3 {
		return 0, false
	}
	return strings.Count(usedText(p)[:place], "1"), true
}

// isPlainPeeledFor reports whether a table has an index for each of the keys, all of them different, and as many places in use.
func isPlainPeeledFor(p impl.Peeled, keys []string) bool {
	seen := map[int]bool{}
	for _, key := range keys {
		index, told := plainIndex(p, key)
		if !told || seen[index] {
			return false
		}
		seen[index] = true
	}
	return len(keys) == strings.Count(usedText(p), "1")
}

// scatteredNumbers returns so many numbers below a limit in no plain order, different for each number.
func scatteredNumbers(count int, limit int, number int) []int {
	list := make([]int, count)
	state := uint32(number)*2654435761 + 99
	for i := range list {
		state = state*1664525 + 1013904223
		list[i] = int(state>>8) % limit
	}
	return list
}

// smallPeeleds returns all tables with the segment 1 for a seed.
func smallPeeleds(seed int) []impl.Peeled {
	var all []impl.Peeled
	for n := range 64 {
		all = append(all, impl.Peeled{Seed: seed, Segment: 1, Marks: []int{n % 4, n / 4 % 4, n / 16}})
	}
	return all
}

// builtPeeleds returns tables for keys, by seeds and segments that have one.
func builtPeeleds() []impl.Peeled {
	var all []impl.Peeled
	for _, keys := range keyLists() {
		for _, seed := range []int{0, 77, impl.MaxSeed} {
			for _, segment := range []int{1, 2, 5, 11, 17, impl.MaxSegment} {
				if p, ok := plainPeeled(seed, keys, segment); ok {
					all = append(all, p)
				}
			}
		}
	}
	return all
}

// somePeeleds returns tables: all small ones, built ones, and such with any marks.
func somePeeleds() []impl.Peeled {
	all := append(smallPeeleds(0), smallPeeleds(impl.MaxSeed)...)
	for segment := 1; segment <= impl.MaxSegment; segment++ {
		all = append(all, impl.Peeled{Seed: segment, Segment: segment, Marks: scatteredNumbers(3*segment, 4, segment)})
		for _, mark := range []int{0, 1, 2, 3} {
			all = append(all, impl.Peeled{Seed: 50 * segment, Segment: segment, Marks: slices.Repeat([]int{mark}, 3*segment)})
		}
	}
	return append(all, builtPeeleds()...)
}

// putInto returns lists that are as a given one but for one of its numbers: the first, a middle or the last one.
func putInto(list []int, number int) [][]int {
	var all [][]int
	for _, i := range []int{0, len(list) / 2, len(list) - 1} {
		other := slices.Clone(list)
		other[i] = number
		all = append(all, other)
	}
	return all
}

// otherLengths returns lists with too few and too many numbers for a length.
func otherLengths(count int, number int) [][]int {
	all := [][]int{slices.Repeat([]int{number}, 1000)}
	for _, other := range []int{0, 1, count - 3, count - 1, count + 1, count + 3, 2 * count, 4*count + 40} {
		if other >= 0 && other != count {
			all = append(all, slices.Repeat([]int{number}, other))
		}
	}
	return all
}

// badPeeleds returns values that are no tables by peeling, by what is wrong.
func badPeeleds() map[string]impl.Peeled {
	bad := map[string]impl.Peeled{"the zero value": {}}
	for _, segment := range []int{1, 2, 8, impl.MaxSegment} {
		what := " of the segment " + strconv.Itoa(segment)
		for _, mark := range []int{0, 3} {
			marks := slices.Repeat([]int{mark}, 3*segment)
			for _, seed := range outsideSeeds {
				bad["seed "+strconv.Itoa(seed)+what+" and marks "+strconv.Itoa(mark)] = impl.Peeled{Seed: seed, Segment: segment, Marks: marks}
			}
			for i, other := range otherLengths(3*segment, mark) {
				bad["wrong length "+strconv.Itoa(i)+what+" and marks "+strconv.Itoa(mark)] = impl.Peeled{Segment: segment, Marks: other}
			}
			for _, n := range []int{math.MinInt, -1, 4, math.MaxInt} {
				for i, other := range putInto(marks, n) {
					bad["mark "+strconv.Itoa(n)+" at "+strconv.Itoa(i)+what+" and marks "+strconv.Itoa(mark)] = impl.Peeled{Segment: segment, Marks: other}
				}
			}
		}
	}
	for _, segment := range outsideSegments {
		for _, count := range []int{0, 1, 3, 3 * impl.MaxSegment, 3*impl.MaxSegment + 3} {
			bad["segment "+strconv.Itoa(segment)+" with marks "+strconv.Itoa(count)] = impl.Peeled{Segment: segment, Marks: slices.Repeat([]int{0}, count)}
		}
	}
	return bad
}

// samePeeled reports whether two tables are equal.
func samePeeled(a impl.Peeled, b impl.Peeled) bool {
	return a.Seed == b.Seed && a.Segment == b.Segment && slices.Equal(a.Marks, b.Marks)
}

// mustFailPeeled checks that a call failed with the zero table.
func mustFailPeeled(t *testing.T, what string, p impl.Peeled, ok bool) {
	t.Helper()
	if ok || !samePeeled(p, impl.Peeled{}) {
		t.Errorf("%s: got %v, %v; it must fail with the zero value", what, p, ok)
	}
}

func TestBuildPeeled(t *testing.T) {
	built, refused, most := 0, 0, 0
	for _, keys := range keyLists() {
		for _, seed := range someSeeds {
			for segment := 1; segment <= impl.MaxSegment; segment++ {
				want, hasOrder := plainPeeled(seed, keys, segment)
				p, ok := impl.BuildPeeled(seed, keys, segment)
				if ok != hasOrder || !samePeeled(p, want) {
					t.Fatalf("BuildPeeled(%d, %q, %d) = %v, %v; want %v, %v", seed, keys, segment, p, ok, want, hasOrder)
				}
				if ok {
					built++
					most = max(most, len(keys))
				} else {
					refused++
				}
			}
		}
	}
	if built < 500 || refused < 500 || most != impl.MaxKeys {
		t.Error("tables must have been built and refused", built, refused, most)
	}
}

func TestPeeledExistsWithAPeelOrder(t *testing.T) {
	for _, keys := range keyLists() {
		for seed := range 40 {
			for _, segment := range []int{1, 2, 3, 6, 9, 14, 20, impl.MaxSegment} {
				h, ok := impl.HyperOf(seed, keys, segment)
				if !ok {
					t.Fatal("there is a Hyper of keys", seed, keys, segment)
				}
				_, hasOrder := impl.PeelOrder(h)
				p, exists := impl.BuildPeeled(seed, keys, segment)
				if exists != hasOrder {
					t.Fatal("a table exists just with a peel order", seed, keys, segment, exists, hasOrder)
				}
				if exists && !impl.IsPeeled(p) {
					t.Fatal("a table that is built is valid", p)
				}
			}
		}
	}
}

func TestPeeledNumbersItsKeys(t *testing.T) {
	for _, keys := range keyLists() {
		for seed := range 30 {
			for _, segment := range []int{1, 3, 8, 17, impl.MaxSegment} {
				p, ok := impl.BuildPeeled(seed, keys, segment)
				if !ok {
					continue
				}
				used, fine := impl.UsedOf(p)
				seen := make([]bool, len(keys))
				for _, key := range keys {
					place, led := impl.PeeledPlace(p, key)
					index, told := impl.PeeledIndex(p, key)
					rank, counted := impl.Rank1(used, place)
					if !fine || !led || !told || !counted || index != rank || index >= len(keys) || seen[index] {
						t.Fatal("the index of", key, "in", p, "is the rank of its place", place, index, rank)
					}
					seen[index] = true
				}
				if is, ok := impl.IsPeeledFor(p, keys); !ok || !is {
					t.Fatal("a table is one for the keys for which it is built", p, keys)
				}
				if ones, ok := impl.OnesOf(used); !ok || ones != len(keys) {
					t.Fatal("as many places as keys are in use", p, keys, ones)
				}
			}
		}
	}
}

func TestPeeledOfMostKeys(t *testing.T) {
	// For the seed 77 there is a peel order of the most keys just with the greatest segment.
	keys := manyKeys(impl.MaxKeys)
	p, ok := impl.BuildPeeled(77, keys, impl.MaxSegment)
	if is, fine := impl.IsPeeledFor(p, keys); !ok || !fine || !is || len(p.Marks) != 72 {
		t.Error("there may be as many keys and places as the limits", p, ok)
	}
	for segment := 1; segment < impl.MaxSegment; segment++ {
		p, ok := impl.BuildPeeled(77, keys, segment)
		mustFailPeeled(t, "BuildPeeled without a peel order", p, ok)
	}
	p, ok = impl.BuildPeeled(77, manyKeys(impl.MaxKeys+1), impl.MaxSegment)
	mustFailPeeled(t, "BuildPeeled of one key too many", p, ok)
	p, ok = impl.BuildPeeled(77, keys, impl.MaxSegment+1)
	mustFailPeeled(t, "BuildPeeled for a segment too great", p, ok)
	if p, ok := impl.BuildPeeled(impl.MaxSeed, keys[:20], impl.MaxSegment); !ok || p.Seed != impl.MaxSeed {
		t.Error("the greatest seed has tables", p, ok)
	}
}

func TestPeeledWithTheSegmentOne(t *testing.T) {
	for _, seed := range someSeeds {
		p, ok := impl.BuildPeeled(seed, nil, 1)
		if !ok || !samePeeled(p, impl.Peeled{Seed: seed, Segment: 1, Marks: []int{3, 3, 3}}) {
			t.Error("without keys all places are free", p, ok)
		}
		for _, key := range anyKeys() {
			p, ok := impl.BuildPeeled(seed, []string{key}, 1)
			if !ok || !samePeeled(p, impl.Peeled{Seed: seed, Segment: 1, Marks: []int{0, 3, 3}}) {
				t.Error("a single key is led to its first place", p, ok)
			}
		}
		p, ok = impl.BuildPeeled(seed, []string{"a", "b"}, 1)
		mustFailPeeled(t, "BuildPeeled of two keys with the segment 1", p, ok)
	}
}

func TestPeeledWithoutKeys(t *testing.T) {
	for segment := 1; segment <= impl.MaxSegment; segment++ {
		p, ok := impl.BuildPeeled(3, nil, segment)
		if !ok || !samePeeled(p, impl.Peeled{Seed: 3, Segment: segment, Marks: slices.Repeat([]int{impl.MarkFree}, 3*segment)}) {
			t.Fatal("without keys all places are free", p, ok)
		}
		if is, ok := impl.IsPeeledFor(p, []string{}); !ok || !is {
			t.Error("a free table is one for no keys", p)
		}
		for _, key := range anyKeys() {
			// All marks count 0 by 3.
			if place, ok := impl.PeeledPlace(p, key); !ok || place != plainEdge(3, key, segment)[0] {
				t.Error("a free table leads a key to its first place", p, key, place, ok)
			}
			index, ok := impl.PeeledIndex(p, key)
			mustFail(t, "PeeledIndex in a free table", index, ok)
		}
	}
}

func TestIsPeeled(t *testing.T) {
	for _, p := range somePeeleds() {
		if !impl.IsPeeled(p) {
			t.Error("this is a table by peeling", p)
		}
	}
	for _, seed := range []int{0, 1, impl.MaxSeed - 1, impl.MaxSeed} {
		if !impl.IsPeeled(impl.Peeled{Seed: seed, Segment: 1, Marks: []int{0, 1, 2}}) {
			t.Error("this is a seed", seed)
		}
	}
	for name, p := range badPeeleds() {
		if impl.IsPeeled(p) {
			t.Error("this is no table by peeling:", name)
		}
	}
}

func TestAnyKeyIsLedToOneOfItsPlaces(t *testing.T) {
	told, hidden := 0, 0
	for _, p := range somePeeleds() {
		for _, key := range anyKeys() {
			place, ok := impl.PeeledPlace(p, key)
			if !ok || place != plainLed(p, key) || !slices.Contains(plainEdge(p.Seed, key, p.Segment), place) {
				t.Fatal("the key", key, "is led by", p, "to", plainLed(p, key), "not", place, ok)
			}
			want, isUsed := plainIndex(p, key)
			index, ok := impl.PeeledIndex(p, key)
			if ok != isUsed || index != want || ok != (p.Marks[place] != impl.MarkFree) {
				t.Fatal("the index of", key, "in", p, "is", want, isUsed, "not", index, ok)
			}
			if ok {
				told++
			} else {
				hidden++
			}
		}
	}
	if told < 5000 || hidden < 5000 {
		t.Error("both answers must have been met", told, hidden)
	}
}

func TestMarksThatCountNothing(t *testing.T) {
	for _, c := range []struct {
		marks []int
		place int
		index int
		told  bool
	}{
		{[]int{3, 3, 3}, 0, 0, false}, {[]int{0, 3, 3}, 0, 0, true}, {[]int{0, 0, 0}, 0, 0, true}, {[]int{3, 0, 0}, 0, 0, false}, {[]int{1, 2, 3}, 0, 0, true}, {[]int{1, 1, 1}, 0, 0, true}, {[]int{2, 2, 2}, 0, 0, true},
		{[]int{3, 1, 3}, 1, 0, true}, {[]int{0, 1, 3}, 1, 1, true}, {[]int{2, 3, 2}, 1, 0, false}, {[]int{2, 2, 0}, 1, 1, true}, {[]int{3, 2, 2}, 1, 0, true}, {[]int{1, 0, 3}, 1, 1, true},
		{[]int{3, 3, 2}, 2, 0, true}, {[]int{0, 3, 2}, 2, 1, true}, {[]int{0, 0, 2}, 2, 2, true}, {[]int{1, 1, 3}, 2, 0, false}, {[]int{2, 3, 3}, 2, 0, false}, {[]int{1, 1, 0}, 2, 2, true}, {[]int{3, 1, 1}, 2, 1, true},
	} {
		p := impl.Peeled{Seed: 5, Segment: 1, Marks: c.marks}
		place, ok := impl.PeeledPlace(p, "k")
		index, told := impl.PeeledIndex(p, "k")
		if !ok || place != c.place || told != c.told || index != c.index {
			t.Error("by the marks", c.marks, "the key is led to", c.place, c.index, c.told, "not", place, ok, index, told)
		}
	}
}

func TestUsedOf(t *testing.T) {
	for _, p := range somePeeleds() {
		if r, ok := impl.UsedOf(p); !ok || !sameRanked(r, usedText(p)) || !impl.IsRanked(r) {
			t.Fatal("the places of", p, "that are in use are", usedText(p), "not", r, ok)
		}
	}
}

// partsOf returns all lists of some of the keys.
func partsOf(keys []string) [][]string {
	all := [][]string{nil}
	for _, key := range keys {
		for _, list := range all {
			all = append(all, append(slices.Clone(list), key))
		}
	}
	return all
}

// changedKeys returns lists of keys in which one is left out, replaced by another one, or added.
func changedKeys(keys []string) [][]string {
	all := [][]string{nil, keys, {"a"}, {"a", "b"}}
	for i := range keys {
		all = append(all, slices.Delete(slices.Clone(keys), i, i+1), keys[:i])
		other := slices.Clone(keys)
		other[i] += "x"
		all = append(all, other)
	}
	for _, more := range []string{"!", "k1", "zz"} {
		longer := append(slices.Clone(keys), more)
		slices.Sort(longer)
		all = append(all, longer)
	}
	return slices.DeleteFunc(all, func(list []string) bool { return !impl.AreKeys(list) })
}

func TestIsPeeledForOfSmallTables(t *testing.T) {
	yes := 0
	for _, seed := range []int{0, 4, impl.MaxSeed} {
		tables := smallPeeleds(seed)
		for n := range 400 {
			tables = append(tables, impl.Peeled{Seed: seed + n%3 - 1, Segment: 2, Marks: scatteredNumbers(6, 4, n)})
		}
		for _, p := range tables {
			if p.Seed < 0 || p.Seed > impl.MaxSeed {
				continue
			}
			for _, keys := range partsOf([]string{"a", "b", "c", "d", "e"}) {
				want := isPlainPeeledFor(p, keys)
				if is, ok := impl.IsPeeledFor(p, keys); !ok || is != want {
					t.Fatal("the table", p, "is one for", keys, want, "not", is, ok)
				}
				if want && len(keys) > 0 {
					yes++
				}
			}
		}
	}
	if yes < 100 {
		t.Error("some tables must be ones for keys", yes)
	}
}

func TestIsPeeledForOfSpoiledTables(t *testing.T) {
	yes, no := 0, 0
	for _, keys := range keyLists() {
		for _, segment := range []int{1, 2, 6, 12, 19, impl.MaxSegment} {
			p, ok := plainPeeled(9, keys, segment)
			if !ok {
				continue
			}
			for _, list := range changedKeys(keys) {
				if is, ok := impl.IsPeeledFor(p, list); !ok || is != isPlainPeeledFor(p, list) {
					t.Fatal("the table", p, "is one for", list, is, ok)
				}
			}
			for place := range p.Marks {
				for mark := range 4 {
					spoiled := impl.Peeled{Seed: 9, Segment: segment, Marks: slices.Clone(p.Marks)}
					spoiled.Marks[place] = mark
					want := isPlainPeeledFor(spoiled, keys)
					if is, ok := impl.IsPeeledFor(spoiled, keys); !ok || is != want {
						t.Fatal("the table", spoiled, "is one for", keys, want, "not", is, ok)
					}
					if want {
						yes++
					} else {
						no++
					}
				}
			}
		}
	}
	if yes < 100 || no < 100 {
		t.Error("both answers must have been met", yes, no)
	}
}

func TestIsPeeledForTellsWhatIsWrong(t *testing.T) {
	three := []string{"a", "b", "c"}
	p, ok := impl.BuildPeeled(1, three, 8)
	if !ok {
		t.Fatal("these keys have a table")
	}
	more := impl.Peeled{Seed: 1, Segment: 8, Marks: slices.Clone(p.Marks)}
	for place, mark := range more.Marks {
		free := !slices.ContainsFunc(three, func(key string) bool { return slices.Contains(plainEdge(1, key, 8), place) })
		if mark == impl.MarkFree && free {
			more.Marks[place] = 0
			break
		}
	}
	if is, ok := impl.IsPeeledFor(more, three); !ok || is || strings.Count(usedText(more), "1") != 4 {
		t.Error("one place too many is in use", more, is, ok)
	}
	if is, ok := impl.IsPeeledFor(p, three[:2]); !ok || is {
		t.Error("there is one key too few", p, is, ok)
	}
	same := impl.Peeled{Seed: 1, Segment: 1, Marks: []int{0, 0, 3}}
	if is, ok := impl.IsPeeledFor(same, three[:2]); !ok || is {
		t.Error("both keys have the index 0", is, ok)
	}
	hidden := impl.Peeled{Seed: 1, Segment: 1, Marks: []int{1, 3, 3}}
	if is, ok := impl.IsPeeledFor(hidden, three[:1]); !ok || is {
		t.Error("the key has no index", is, ok)
	}
}

// marksText returns the text of the packed marks.
func marksText(p impl.Peeled) string {
	text := ""
	for _, mark := range p.Marks {
		text += []string{"00", "10", "01", "11"}[mark]
	}
	return text
}

func TestPackMarks(t *testing.T) {
	for _, p := range somePeeleds() {
		packed, ok := impl.PackMarks(p)
		if !ok || !sameBits(packed, marksText(p)) {
			t.Fatal("the marks of", p, "are packed as", marksText(p), "not", packed, ok)
		}
		if back, ok := impl.UnpackMarks(p.Seed, p.Segment, packed); !ok || !samePeeled(back, p) {
			t.Fatal("the marks of", p, "are not unpacked", back, ok)
		}
	}
}

func TestUnpackMarks(t *testing.T) {
	for _, seed := range someSeeds {
		for size := range 160 {
			text := mixed(size, size)
			for segment := 1; segment <= impl.MaxSegment; segment++ {
				p, ok := impl.UnpackMarks(seed, segment, pack(text))
				if size != 6*segment {
					mustFailPeeled(t, "UnpackMarks of "+strconv.Itoa(size)+" bits for "+strconv.Itoa(segment), p, ok)
					continue
				}
				want := impl.Peeled{Seed: seed, Segment: segment}
				for at := 0; at < size; at += 2 {
					want.Marks = append(want.Marks, valueOf(text[at:at+2]))
				}
				if !ok || !samePeeled(p, want) {
					t.Fatal("the marks", text, "are those of", want, "not", p, ok)
				}
				if again, ok := impl.PackMarks(p); !ok || !sameBits(again, text) {
					t.Fatal("the marks of", p, "are packed as they were", text, again, ok)
				}
			}
		}
	}
}

func TestUnpackMarksRefuses(t *testing.T) {
	for _, n := range outsideSeeds {
		p, ok := impl.UnpackMarks(n, 1, pack("001101"))
		mustFailPeeled(t, "UnpackMarks for the seed "+strconv.Itoa(n), p, ok)
	}
	for _, n := range outsideSegments {
		for _, size := range []int{0, 6, 6 * impl.MaxSegment, 6*impl.MaxSegment + 6} {
			p, ok := impl.UnpackMarks(0, n, pack(mixed(size, 1)))
			mustFailPeeled(t, "UnpackMarks for the segment "+strconv.Itoa(n), p, ok)
		}
	}
	bad := badVectors()
	bad["six bits without words"] = impl.Bits{Size: 6}
	bad["six bits with two words"] = impl.Bits{Size: 6, Words: []int{0, 0}}
	bad["a seventh bit"] = impl.Bits{Size: 6, Words: []int{64}}
	bad["six bits below 0"] = impl.Bits{Size: 6, Words: []int{-1}}
	bad["18 bits with one word"] = impl.Bits{Size: 18, Words: []int{1}}
	bad["a bit behind 18"] = impl.Bits{Size: 18, Words: []int{1, 4}}
	for name, b := range bad {
		for _, segment := range []int{1, 3, impl.MaxSegment} {
			p, ok := impl.UnpackMarks(0, segment, b)
			mustFailPeeled(t, "UnpackMarks of "+name, p, ok)
		}
	}
}

func TestBuildPeeledRefuses(t *testing.T) {
	for _, keys := range [][]string{nil, {"a"}} {
		for _, n := range outsideSeeds {
			p, ok := impl.BuildPeeled(n, keys, 4)
			mustFailPeeled(t, "BuildPeeled for the seed "+strconv.Itoa(n), p, ok)
		}
		for _, n := range outsideSegments {
			p, ok := impl.BuildPeeled(0, keys, n)
			mustFailPeeled(t, "BuildPeeled for the segment "+strconv.Itoa(n), p, ok)
		}
	}
	for _, list := range badLists() {
		p, ok := impl.BuildPeeled(0, list, impl.MaxSegment)
		mustFailPeeled(t, "BuildPeeled of no keys", p, ok)
	}
}

func TestPeeledCallsRefuse(t *testing.T) {
	for name, p := range badPeeleds() {
		for _, key := range []string{"a", "k"} {
			place, ok := impl.PeeledPlace(p, key)
			mustFail(t, "PeeledPlace of "+name, place, ok)
			index, ok := impl.PeeledIndex(p, key)
			mustFail(t, "PeeledIndex of "+name, index, ok)
		}
		used, ok := impl.UsedOf(p)
		mustFailRanked(t, "UsedOf "+name, used, ok)
		for _, keys := range [][]string{nil, {"a"}, {"a", "b", "c"}} {
			is, ok := impl.IsPeeledFor(p, keys)
			mustFail(t, "IsPeeledFor of "+name, is, ok)
		}
		packed, ok := impl.PackMarks(p)
		mustFailBits(t, "PackMarks of "+name, packed, ok)
	}
	for _, p := range []impl.Peeled{{Segment: 1, Marks: []int{0, 3, 3}}, {Segment: 1, Marks: []int{1, 2, 2}}, {Segment: 2, Marks: []int{3, 3, 3, 3, 3, 3}}} {
		for _, key := range badKeys() {
			place, ok := impl.PeeledPlace(p, key)
			mustFail(t, "PeeledPlace of no key", place, ok)
			index, ok := impl.PeeledIndex(p, key)
			mustFail(t, "PeeledIndex of no key", index, ok)
		}
		for _, list := range badLists() {
			is, ok := impl.IsPeeledFor(p, list)
			mustFail(t, "IsPeeledFor no keys", is, ok)
		}
	}
}

func TestExampleOfPeeled(t *testing.T) {
	for segment := 1; segment <= impl.MaxSegment; segment++ {
		p, ok := impl.BuildPeeled(0, []string{"k"}, segment)
		first := plainEdge(0, "k", segment)[0]
		want := slices.Repeat([]int{impl.MarkFree}, 3*segment)
		want[first] = 0
		if !ok || !slices.Equal(p.Marks, want) {
			t.Error("a single key has the mark 0 at its first place", p, ok)
		}
		if place, ok := impl.PeeledPlace(p, "k"); !ok || place != first {
			t.Error("it is led to its first place", place, ok)
		}
		if index, ok := impl.PeeledIndex(p, "k"); !ok || index != 0 {
			t.Error("its index is 0", index, ok)
		}
	}
}
