package tests

import (
	"iter"
	"math"
	"slices"
	"strconv"
	"testing"

	"loop.example/g01097/impl"
)

// The tests of this file are for promise 8: counting filters.

// countedUp returns counts with one more at each place, one by one, but for those that are full.
func countedUp(counts []int, places []int) []int {
	after := slices.Clone(counts)
	for _, place := range places {
		if after[place] != 15 {
			after[place]++
		}
	}
	return after
}

// countedDown returns counts with one less at each place, one by one, but for those that are full, if none is too small.
func countedDown(counts []int, places []int) ([]int, bool) {
	after := slices.Clone(counts)
	for _, place := range places {
		if after[place] != 15 {
			after[place]--
		}
		if after[place] < 0 {
			return nil, false
		}
	}
	return after, true
}

// counts returns the counts of a filter of the keys of a case.
func (c filterCase) counts() []int {
	counts := make([]int, c.size)
	for _, key := range c.keys {
		counts = countedUp(counts, c.at(key))
	}
	return counts
}

// counting returns the counting filter of a case with counts.
func (c filterCase) counting(counts []int) impl.Counting {
	return impl.Counting{Seed: c.seed, Probes: c.probes, Counts: counts}
}

// onText returns the text in which those characters are 1 whose counts are not 0.
func onText(counts []int) string {
	text := ""
	for _, count := range counts {
		text += string("01"[min(count, 1)])
	}
	return text
}

// someCountings tells counts of any kind, and what they belong to: those of some keys, scattered ones, all 0, and nearly or wholly full ones.
func someCountings() iter.Seq2[[]int, filterCase] {
	return func(yield func(counts []int, c filterCase) bool) {
		for i, c := range filterCases() {
			high := scatteredNumbers(c.size, 3, i)
			for place := range high {
				high[place] += 13
			}
			for _, counts := range [][]int{c.counts(), scatteredNumbers(c.size, 16, i), scatteredNumbers(c.size, 3, i), high, make([]int, c.size), slices.Repeat([]int{15}, c.size), slices.Repeat([]int{14}, c.size)} {
				if !yield(counts, c) {
					return
				}
			}
		}
	}
}

// badCountings returns values that are no counting filters, by what is wrong.
func badCountings() map[string]impl.Counting {
	bad := map[string]impl.Counting{"the zero value": {}, "no counts": {Seed: 1, Probes: 1, Counts: []int{}}}
	for _, size := range []int{1, 17, impl.MaxFilterBits} {
		for _, count := range []int{0, 1, 15} {
			what := " of the size " + strconv.Itoa(size) + " with counts " + strconv.Itoa(count)
			counts := slices.Repeat([]int{count}, size)
			for _, n := range outsideSeeds {
				bad["seed "+strconv.Itoa(n)+what] = impl.Counting{Seed: n, Probes: 1, Counts: counts}
			}
			for _, n := range outsideProbes {
				bad["probes "+strconv.Itoa(n)+what] = impl.Counting{Probes: n, Counts: counts}
			}
			for _, n := range []int{math.MinInt, -1, impl.MaxCounter + 1, 256, math.MaxInt} {
				for i, other := range putInto(counts, n) {
					bad["count "+strconv.Itoa(n)+" at "+strconv.Itoa(i)+what] = impl.Counting{Probes: 2, Counts: other}
				}
			}
		}
	}
	for _, size := range []int{0, impl.MaxFilterBits + 1, impl.MaxBits} {
		bad["size "+strconv.Itoa(size)] = impl.Counting{Probes: 1, Counts: make([]int, size)}
		bad["full size "+strconv.Itoa(size)] = impl.Counting{Probes: impl.MaxProbes, Counts: slices.Repeat([]int{15}, size)}
	}
	return bad
}

// sameCounting reports whether two filters are equal.
func sameCounting(a impl.Counting, b impl.Counting) bool {
	return a.Seed == b.Seed && a.Probes == b.Probes && slices.Equal(a.Counts, b.Counts)
}

// mustFailCounting checks that a call failed with the zero filter.
func mustFailCounting(t *testing.T, what string, f impl.Counting, ok bool) {
	t.Helper()
	if ok || !sameCounting(f, impl.Counting{}) {
		t.Errorf("%s: got %v, %v; it must fail with the zero value", what, f, ok)
	}
}

func TestIsCounting(t *testing.T) {
	for counts, c := range someCountings() {
		if !impl.IsCounting(c.counting(counts)) {
			t.Error("this is a counting filter", c.name(), counts)
		}
	}
	for _, seed := range []int{0, 1, impl.MaxSeed - 1, impl.MaxSeed} {
		for probes := 1; probes <= impl.MaxProbes; probes++ {
			for count := range impl.MaxCounter + 1 {
				for _, size := range []int{1, impl.MaxFilterBits} {
					if !impl.IsCounting(impl.Counting{Seed: seed, Probes: probes, Counts: slices.Repeat([]int{count}, size)}) {
						t.Error("this is a counting filter", seed, probes, count, size)
					}
				}
			}
		}
	}
	for name, f := range badCountings() {
		if impl.IsCounting(f) {
			t.Error("this is no counting filter:", name)
		}
	}
}

func TestCountingOf(t *testing.T) {
	full := 0
	for _, c := range filterCases() {
		f, ok := impl.CountingOf(c.seed, c.probes, c.size, c.keys)
		if want := c.counts(); !ok || !sameCounting(f, c.counting(want)) {
			t.Fatal("the counts of", c.name(), "are", want, "not", f, ok)
		}
		if slices.Contains(f.Counts, impl.MaxCounter) {
			full++
		}
		one, ok := impl.CountingOf(c.seed, c.probes, c.size, nil)
		for _, key := range c.keys {
			one, ok = impl.CountingAdd(one, key)
		}
		if !ok || !sameCounting(one, f) {
			t.Fatal("a filter of keys is that behind adding them all", c.name(), one, f)
		}
		b, ok := impl.BloomOfCounting(f)
		if want, _ := c.bloom(); !ok || !sameBloom(b, want) {
			t.Fatal("the Bloom filter of", c.name(), "is", want, "not", b, ok)
		}
	}
	if full < 50 {
		t.Error("full counts must have been met", full)
	}
}

func TestCountingOfRefuses(t *testing.T) {
	for _, keys := range [][]string{nil, {"a"}, {"a", "b"}} {
		for name, c := range otherFilters() {
			f, ok := impl.CountingOf(c.seed, c.probes, c.size, keys)
			mustFailCounting(t, "CountingOf, "+name, f, ok)
		}
	}
	for _, list := range badLists() {
		f, ok := impl.CountingOf(1, 2, 3, list)
		mustFailCounting(t, "CountingOf no keys", f, ok)
	}
}

// checkAdd checks that a key is counted, and returns the filter with it.
func checkAdd(t *testing.T, c filterCase, counts []int, key string) impl.Counting {
	t.Helper()
	want := countedUp(counts, c.at(key))
	grown, ok := impl.CountingAdd(c.counting(counts), key)
	if !ok || !sameCounting(grown, c.counting(want)) {
		t.Fatal("with", key, "the counts", counts, "of", c.name(), "are", want, "not", grown, ok)
	}
	b, ok := impl.BloomOfCounting(grown)
	if yes, told := impl.BloomHas(b, key); !ok || !told || !yes {
		t.Fatal("a key that is added turns the answer to yes", c.name(), counts, key)
	}
	return grown
}

// checkRemove checks that a key is counted no more, or cannot be, and reports which.
func checkRemove(t *testing.T, c filterCase, counts []int, key string) bool {
	t.Helper()
	want, exists := countedDown(counts, c.at(key))
	rest, ok := impl.CountingRemove(c.counting(counts), key)
	if !exists {
		mustFailCounting(t, "CountingRemove "+key+" from "+c.name(), rest, ok)
	} else if !ok || !sameCounting(rest, c.counting(want)) {
		t.Fatal("without", key, "the counts", counts, "of", c.name(), "are", want, "not", rest, ok)
	}
	return exists
}

func TestCountingAddAndRemove(t *testing.T) {
	restored, kept, removed, refused := 0, 0, 0, 0
	for counts, c := range someCountings() {
		for _, key := range []string{"a", "k100", "k139", "!", "zz"} {
			grown := checkAdd(t, c, counts, key)
			again, ok := impl.CountingRemove(grown, key)
			if !ok {
				t.Fatal("a key that is added can be removed", c.name(), counts, key)
			}
			full := slices.ContainsFunc(c.at(key), func(place int) bool { return grown.Counts[place] == impl.MaxCounter })
			if same := sameCounting(again, c.counting(counts)); !full && !same {
				t.Fatal("a filter is as before if a key is added and removed again", c.name(), counts, key, again)
			} else if same {
				restored++
			} else {
				kept++
			}
			if checkRemove(t, c, counts, key) {
				removed++
			} else {
				refused++
			}
		}
	}
	if restored < 1000 || kept < 1000 || removed < 1000 || refused < 1000 {
		t.Error("keys must have been removed, kept by full counts, and refused", restored, kept, removed, refused)
	}
}

func TestCountsOfAllSmallFilters(t *testing.T) {
	met := map[bool]int{}
	for _, first := range []int{0, 1, 2, 3, 12, 13, 14, 15} {
		for _, second := range []int{0, 1, 2, 3, 12, 13, 14, 15} {
			for probes := 1; probes <= impl.MaxProbes; probes++ {
				for _, seed := range []int{0, 1, 2, impl.MaxSeed} {
					for _, key := range []string{"a", "b", "c", "!"} {
						c := filterCase{seed: seed, probes: probes, size: 2}
						checkAdd(t, c, []int{first, second}, key)
						met[checkRemove(t, c, []int{first, second}, key)]++
					}
				}
			}
		}
	}
	if met[true] < 1000 || met[false] < 1000 {
		t.Error("keys must have been removed and refused", met)
	}
}

func TestProbesThatMeetTwice(t *testing.T) {
	for probes := 1; probes <= impl.MaxProbes; probes++ {
		for count := range impl.MaxCounter + 1 {
			c := filterCase{seed: 3, probes: probes, size: 1}
			grown := checkAdd(t, c, []int{count}, "k")
			if grown.Counts[0] != min(count+probes, impl.MaxCounter) {
				t.Error("each probe is counted", probes, count, grown)
			}
			rest, ok := impl.CountingRemove(c.counting([]int{count}), "k")
			switch {
			case count == impl.MaxCounter:
				if !ok || !slices.Equal(rest.Counts, []int{impl.MaxCounter}) {
					t.Error("a full count stays full", probes, rest, ok)
				}
			case count < probes:
				mustFailCounting(t, "CountingRemove of more than is counted", rest, ok)
			default:
				if !ok || !slices.Equal(rest.Counts, []int{count - probes}) {
					t.Error("each probe is counted no more", probes, count, rest, ok)
				}
			}
		}
	}
}

func TestFullCountsStayFull(t *testing.T) {
	for _, c := range filterCases() {
		full := c.counting(slices.Repeat([]int{impl.MaxCounter}, c.size))
		for _, key := range []string{"a", "zz"} {
			grown, ok := impl.CountingAdd(full, key)
			rest, fine := impl.CountingRemove(full, key)
			if !ok || !fine || !sameCounting(grown, full) || !sameCounting(rest, full) {
				t.Fatal("full counts stay full", c.name(), key, grown, rest)
			}
		}
	}
	// A count that has become full stays so, although all keys are removed again.
	keys := manyKeys(16)
	f, ok := impl.CountingOf(0, 1, 1, keys)
	for _, key := range keys {
		f, ok = impl.CountingRemove(f, key)
		if !ok || !slices.Equal(f.Counts, []int{impl.MaxCounter}) {
			t.Fatal("full counts stay full", key, f, ok)
		}
	}
	f, ok = impl.CountingOf(0, 1, 1, keys[:14])
	for i, key := range keys[:14] {
		f, ok = impl.CountingRemove(f, key)
		if !ok || !slices.Equal(f.Counts, []int{13 - i}) {
			t.Fatal("counts that are not full go back to 0", key, f, ok)
		}
	}
	f, ok = impl.CountingRemove(f, keys[0])
	mustFailCounting(t, "CountingRemove from no counts", f, ok)
}

func TestRemovedKeys(t *testing.T) {
	// What is left behind removing a key is the filter of the other keys, unless a count is full.
	for _, c := range filterCases() {
		counts := c.counts()
		if slices.Contains(counts, impl.MaxCounter) {
			continue
		}
		for i, key := range c.keys {
			others := c
			others.keys = allBut(c.keys, i)
			if rest, ok := impl.CountingRemove(c.counting(counts), key); !ok || !sameCounting(rest, c.counting(others.counts())) {
				t.Fatal("without", key, "the filter of", c.name(), "is", others.counts(), "not", rest, ok)
			}
		}
		rest, ok := c.counting(counts), true
		for _, key := range c.keys {
			rest, ok = impl.CountingRemove(rest, key)
		}
		if !ok || !sameCounting(rest, c.counting(make([]int, c.size))) {
			t.Fatal("all counts are 0 without keys", c.name(), rest, ok)
		}
	}
}

func TestBloomOfCounting(t *testing.T) {
	yes, no := 0, 0
	for counts, c := range someCountings() {
		b, ok := impl.BloomOfCounting(c.counting(counts))
		if want := onText(counts); !ok || !sameBloom(b, c.holding(want)) {
			t.Fatal("the Bloom filter of the counts", counts, "is", want, "not", b, ok)
		}
		for _, key := range []string{"a", "k101", "}", "zz"} {
			// A counting filter answers yes if no count at the probes is 0.
			want := !slices.ContainsFunc(c.at(key), func(place int) bool { return counts[place] == 0 })
			if told, ok := impl.BloomHas(b, key); !ok || told != want {
				t.Fatal("the Bloom filter answers as the counting one does", c.name(), counts, key, told, ok)
			}
			if _, removed := impl.CountingRemove(c.counting(counts), key); removed && !want {
				t.Fatal("a key to which the answer is no cannot be removed", c.name(), counts, key)
			}
			if want {
				yes++
			} else {
				no++
			}
		}
	}
	if yes < 1000 || no < 1000 {
		t.Error("both answers must have been met", yes, no)
	}
}

func TestCountingCallsRefuse(t *testing.T) {
	good := impl.Counting{Seed: 1, Probes: 2, Counts: []int{4, 5, 6}}
	for _, key := range badKeys() {
		grown, ok := impl.CountingAdd(good, key)
		mustFailCounting(t, "CountingAdd "+strconv.Quote(key), grown, ok)
		rest, ok := impl.CountingRemove(good, key)
		mustFailCounting(t, "CountingRemove "+strconv.Quote(key), rest, ok)
	}
	for name, f := range badCountings() {
		grown, ok := impl.CountingAdd(f, "a")
		mustFailCounting(t, "CountingAdd to "+name, grown, ok)
		rest, ok := impl.CountingRemove(f, "a")
		mustFailCounting(t, "CountingRemove from "+name, rest, ok)
		b, ok := impl.BloomOfCounting(f)
		mustFailBloom(t, "BloomOfCounting of "+name, b, ok)
	}
}
