package tests

import (
	"iter"
	"math"
	"slices"
	"strconv"
	"strings"
	"testing"

	"loop.example/g01097/impl"
)

// The tests of this file are for promise 8: Bloom filters.

// outsideProbes are numbers of probes that no filter has.
var outsideProbes = []int{math.MinInt, -1, 0, impl.MaxProbes + 1, 10, 11, math.MaxInt}

// outsideFilterSizes are sizes that no filter has.
var outsideFilterSizes = []int{math.MinInt, -1, 0, impl.MaxFilterBits + 1, impl.MaxFilterBits + 16, impl.MaxBits, math.MaxInt}

// someFilterSizes are sizes of filters, the limits and the borders of words among them.
var someFilterSizes = []int{1, 2, 3, 8, 15, 16, 17, 33, 64, 100, 250, impl.MaxFilterBits - 1, impl.MaxFilterBits}

// someProbes are numbers of probes, the limits among them.
var someProbes = []int{1, 2, 3, impl.MaxProbes - 1, impl.MaxProbes}

// plainProbes returns the places of a key among a size for as many parts as there are probes.
func plainProbes(seed int, probes int, size int, key string) []int {
	var places []int
	for part := range probes {
		places = append(places, plainPlaces(seed, part, []string{key}, size)...)
	}
	return places
}

// withOn returns a text in which the characters at places are 1, too.
func withOn(text string, places []int) string {
	for _, place := range places {
		text = text[:place] + "1" + text[place+1:]
	}
	return text
}

// areOn reports whether all characters of a text at places are 1.
func areOn(text string, places []int) bool {
	return !slices.ContainsFunc(places, func(place int) bool { return text[place] != '1' })
}

// filterCase is what a filter is built of.
type filterCase struct {
	seed   int
	probes int
	size   int
	keys   []string
}

// name tells a case.
func (c filterCase) name() string {
	return strconv.Itoa(len(c.keys)) + " keys for the seed " + strconv.Itoa(c.seed) + ", the probes " + strconv.Itoa(c.probes) + " and the size " + strconv.Itoa(c.size)
}

// at returns the probes of a key.
func (c filterCase) at(key string) []int {
	return plainProbes(c.seed, c.probes, c.size, key)
}

// off returns the text of a filter without keys.
func (c filterCase) off() string {
	return strings.Repeat("0", c.size)
}

// text returns the text of the filter of the keys.
func (c filterCase) text() string {
	text := c.off()
	for _, key := range c.keys {
		text = withOn(text, c.at(key))
	}
	return text
}

// holding returns the filter with a text.
func (c filterCase) holding(text string) impl.Bloom {
	return impl.Bloom{Seed: c.seed, Probes: c.probes, Bits: pack(text)}
}

// bloom returns BloomOf a case.
func (c filterCase) bloom() (impl.Bloom, bool) {
	return impl.BloomOf(c.seed, c.probes, c.size, c.keys)
}

// filterCases returns cases with all kinds of keys, seeds, probes and sizes, the limits met exactly among them.
func filterCases() []filterCase {
	var all []filterCase
	for i, keys := range keyLists() {
		for k, probes := range someProbes {
			for j, size := range someFilterSizes {
				all = append(all, filterCase{someSeeds[(i+k+j)%len(someSeeds)], probes, size, keys})
			}
		}
	}
	return all
}

// someBlooms tells the texts of filters with bits of any kind, and what they belong to: those of some keys, mixed ones, all off and all on.
func someBlooms() iter.Seq2[string, filterCase] {
	return func(yield func(text string, c filterCase) bool) {
		for i, c := range filterCases() {
			for _, text := range []string{c.text(), mixed(c.size, i), withOn(mixed(c.size, i), c.at("a")), c.off(), strings.Repeat("1", c.size)} {
				if !yield(text, c) {
					return
				}
			}
		}
	}
}

// badBlooms returns values that are no Bloom filters, by what is wrong.
func badBlooms() map[string]impl.Bloom {
	bad := map[string]impl.Bloom{"the zero value": {}, "no bits": {Seed: 1, Probes: 1}}
	for _, size := range []int{1, 17, impl.MaxFilterBits} {
		what := " of the size " + strconv.Itoa(size)
		for _, bits := range []impl.Bits{pack(strings.Repeat("0", size)), pack(strings.Repeat("1", size))} {
			what += ", " + strconv.Itoa(bits.Words[0])
			for _, n := range outsideSeeds {
				bad["seed "+strconv.Itoa(n)+what] = impl.Bloom{Seed: n, Probes: 1, Bits: bits}
			}
			for _, n := range outsideProbes {
				bad["probes "+strconv.Itoa(n)+what] = impl.Bloom{Probes: n, Bits: bits}
			}
		}
	}
	for _, size := range []int{0, impl.MaxFilterBits + 1, impl.MaxFilterBits + 16, impl.MaxBits} {
		bad["size "+strconv.Itoa(size)] = impl.Bloom{Probes: 1, Bits: pack(strings.Repeat("0", size))}
		bad["full size "+strconv.Itoa(size)] = impl.Bloom{Probes: impl.MaxProbes, Bits: pack(strings.Repeat("1", size))}
	}
	for name, bits := range badVectors() {
		bad[name] = impl.Bloom{Probes: 2, Bits: bits}
	}
	return bad
}

// sameBloom reports whether two filters are equal.
func sameBloom(a impl.Bloom, b impl.Bloom) bool {
	return a.Seed == b.Seed && a.Probes == b.Probes && sameBitVectors(a.Bits, b.Bits)
}

// mustFailBloom checks that a call failed with the zero filter.
func mustFailBloom(t *testing.T, what string, b impl.Bloom, ok bool) {
	t.Helper()
	if ok || !sameBloom(b, impl.Bloom{}) {
		t.Errorf("%s: got %v, %v; it must fail with the zero value", what, b, ok)
	}
}

// otherFilters returns seeds, probes and sizes of which one is none.
func otherFilters() map[string]filterCase {
	bad := map[string]filterCase{}
	for _, n := range outsideSeeds {
		bad["seed "+strconv.Itoa(n)] = filterCase{seed: n, probes: 1, size: 1}
	}
	for _, n := range outsideProbes {
		bad["probes "+strconv.Itoa(n)] = filterCase{probes: n, size: 1}
	}
	for _, n := range outsideFilterSizes {
		bad["size "+strconv.Itoa(n)] = filterCase{probes: 1, size: n}
	}
	return bad
}

func TestLimitsOfFilters(t *testing.T) {
	limits := []int{impl.MaxFilterBits, impl.MaxProbes, impl.MaxCounter, impl.MaxTexts}
	if !slices.Equal(limits, []int{512, 8, 15, 300}) {
		t.Error("these are not the limits of the document", limits)
	}
}

func TestIsBloom(t *testing.T) {
	for text, c := range someBlooms() {
		if !impl.IsBloom(c.holding(text)) {
			t.Error("this is a filter", c.name(), text)
		}
	}
	for _, seed := range []int{0, 1, impl.MaxSeed - 1, impl.MaxSeed} {
		for probes := 1; probes <= impl.MaxProbes; probes++ {
			for _, text := range []string{"0", "1", mixed(impl.MaxFilterBits, 1)} {
				if !impl.IsBloom(impl.Bloom{Seed: seed, Probes: probes, Bits: pack(text)}) {
					t.Error("this is a filter", seed, probes, text)
				}
			}
		}
	}
	for name, b := range badBlooms() {
		if impl.IsBloom(b) {
			t.Error("this is no filter:", name)
		}
	}
}

func TestNewBloom(t *testing.T) {
	for _, seed := range someSeeds {
		for probes := 1; probes <= impl.MaxProbes; probes++ {
			for size := 1; size <= impl.MaxFilterBits; size++ {
				c := filterCase{seed: seed, probes: probes, size: size}
				if b, ok := impl.NewBloom(seed, probes, size); !ok || !sameBloom(b, c.holding(c.off())) {
					t.Fatal("all bits of a new filter are off", c.name(), b, ok)
				}
			}
		}
	}
	for name, c := range otherFilters() {
		b, ok := impl.NewBloom(c.seed, c.probes, c.size)
		mustFailBloom(t, "NewBloom, "+name, b, ok)
	}
}

func TestProbesOf(t *testing.T) {
	equal := 0
	for _, seed := range someSeeds {
		for probes := 1; probes <= impl.MaxProbes; probes++ {
			for _, size := range someFilterSizes {
				for _, key := range anyKeys()[:30] {
					places, ok := impl.ProbesOf(seed, probes, size, key)
					if want := plainProbes(seed, probes, size, key); !ok || !slices.Equal(places, want) {
						t.Fatal("the probes of", key, "for", seed, probes, size, "are", want, "not", places, ok)
					}
					if haveEqual(places) {
						equal++
					}
				}
			}
		}
	}
	if equal < 1000 {
		t.Error("probes that meet must have been met", equal)
	}
	if places, ok := impl.ProbesOf(273, 1, impl.MaxFilterBits, "g"); !ok || !slices.Equal(places, []int{impl.MaxFilterBits - 1}) {
		t.Error("the greatest hash has the last place", places, ok)
	}
	if places, ok := impl.ProbesOf(5, impl.MaxProbes, 1, "a"); !ok || !slices.Equal(places, make([]int, impl.MaxProbes)) {
		t.Error("all probes in one bit are the same", places, ok)
	}
}

func TestProbesOfRefuses(t *testing.T) {
	for name, c := range otherFilters() {
		places, ok := impl.ProbesOf(c.seed, c.probes, c.size, "a")
		mustFailList(t, "ProbesOf, "+name, places, ok)
	}
	for _, key := range badKeys() {
		places, ok := impl.ProbesOf(1, 2, 3, key)
		mustFailList(t, "ProbesOf "+strconv.Quote(key), places, ok)
	}
}

func TestBloomOf(t *testing.T) {
	for _, c := range filterCases() {
		b, ok := c.bloom()
		if !ok || !sameBloom(b, c.holding(c.text())) {
			t.Fatal("the filter of", c.name(), "is", c.text(), "not", b, ok)
		}
		for _, key := range c.keys {
			if yes, ok := impl.BloomHas(b, key); !ok || !yes {
				t.Fatal("a filter answers yes to each of its keys", c.name(), key)
			}
		}
	}
}

func TestBloomOfRefuses(t *testing.T) {
	for _, keys := range [][]string{nil, {"a"}, {"a", "b"}} {
		for name, c := range otherFilters() {
			b, ok := impl.BloomOf(c.seed, c.probes, c.size, keys)
			mustFailBloom(t, "BloomOf, "+name, b, ok)
		}
	}
	for _, list := range badLists() {
		b, ok := impl.BloomOf(1, 2, 3, list)
		mustFailBloom(t, "BloomOf no keys", b, ok)
	}
}

func TestBloomAdd(t *testing.T) {
	changed, same := 0, 0
	for text, c := range someBlooms() {
		for _, key := range []string{"a", "k100", "k139", "!", "}}}}}}}}}}}}", "zz"} {
			want := withOn(text, c.at(key))
			grown, ok := impl.BloomAdd(c.holding(text), key)
			if !ok || !sameBloom(grown, c.holding(want)) {
				t.Fatal("with", key, "the filter", text, "of", c.name(), "is", want, "not", grown, ok)
			}
			if yes, ok := impl.BloomHas(grown, key); !ok || !yes {
				t.Fatal("a key that is added turns the answer to yes", c.name(), text, key)
			}
			if again, ok := impl.BloomAdd(grown, key); !ok || !sameBloom(again, grown) {
				t.Fatal("a key that is added twice changes no more", c.name(), text, key)
			}
			if want == text {
				same++
			} else {
				changed++
			}
		}
	}
	if changed < 1000 || same < 1000 {
		t.Error("filters must have been changed and kept", changed, same)
	}
}

func TestKeysStayBehindFurtherOnes(t *testing.T) {
	for _, c := range filterCases() {
		if len(c.keys) > 8 {
			continue
		}
		b, ok := impl.NewBloom(c.seed, c.probes, c.size)
		for i, key := range c.keys {
			b, ok = impl.BloomAdd(b, key)
			for _, before := range c.keys[:i+1] {
				if yes, told := impl.BloomHas(b, before); !ok || !told || !yes {
					t.Fatal("a filter answers yes to each of its keys", c.name(), before, key)
				}
			}
		}
		if !sameBloom(b, c.holding(c.text())) {
			t.Error("keys that are added one by one have the filter of all", c.name(), b)
		}
		backwards, ok := impl.NewBloom(c.seed, c.probes, c.size)
		for _, key := range slices.Backward(c.keys) {
			backwards, ok = impl.BloomAdd(backwards, key)
		}
		if !ok || !sameBloom(backwards, b) {
			t.Error("the order of keys does not matter", c.name(), backwards, ok)
		}
	}
}

func TestBloomHas(t *testing.T) {
	yes, no := 0, 0
	for text, c := range someBlooms() {
		for _, key := range append(anyKeys()[:15], "a", "k139") {
			want := areOn(text, c.at(key))
			if got, ok := impl.BloomHas(c.holding(text), key); !ok || got != want {
				t.Fatal("the answer of", text, "of", c.name(), "to", key, "is", want, "not", got, ok)
			}
			if want {
				yes++
			} else {
				no++
			}
		}
	}
	if yes < 1000 || no < 1000 {
		t.Error("both answers must have been met", yes, no)
	}
}

func TestOneBitOffIsNo(t *testing.T) {
	for _, c := range filterCases() {
		for _, key := range []string{"a", "k105"} {
			full := strings.Repeat("1", c.size)
			for _, place := range c.at(key) {
				if yes, ok := impl.BloomHas(c.holding(full[:place]+"0"+full[place+1:]), key); !ok || yes {
					t.Fatal("the answer is no if one bit is off", c.name(), key, place, ok)
				}
			}
			if yes, ok := impl.BloomHas(c.holding(withOn(c.off(), c.at(key))), key); !ok || !yes {
				t.Fatal("the answer is yes if just the bits at the probes are on", c.name(), key, ok)
			}
		}
	}
}

func TestBloomHasOfAllSmallFilters(t *testing.T) {
	for size := 1; size <= 5; size++ {
		for _, text := range allTexts(size) {
			for probes := 1; probes <= impl.MaxProbes; probes++ {
				for _, seed := range []int{0, 3, impl.MaxSeed} {
					b := impl.Bloom{Seed: seed, Probes: probes, Bits: pack(text)}
					for _, key := range []string{"a", "b", "!", "}}", "key"} {
						want := areOn(text, plainProbes(seed, probes, size, key))
						if yes, ok := impl.BloomHas(b, key); !ok || yes != want {
							t.Fatal("the answer of", text, "to", key, "is", want, "not", yes, ok)
						}
					}
				}
			}
		}
	}
}

func TestBloomCallsRefuse(t *testing.T) {
	good := impl.Bloom{Seed: 1, Probes: 2, Bits: pack("111")}
	for _, key := range badKeys() {
		grown, ok := impl.BloomAdd(good, key)
		mustFailBloom(t, "BloomAdd "+strconv.Quote(key), grown, ok)
		yes, ok := impl.BloomHas(good, key)
		mustFail(t, "BloomHas "+strconv.Quote(key), yes, ok)
	}
	for name, b := range badBlooms() {
		grown, ok := impl.BloomAdd(b, "a")
		mustFailBloom(t, "BloomAdd to "+name, grown, ok)
		yes, ok := impl.BloomHas(b, "a")
		mustFail(t, "BloomHas of "+name, yes, ok)
		load, ok := impl.BloomLoad(b)
		mustFail(t, "BloomLoad of "+name, load, ok)
	}
}

func TestBloomLoad(t *testing.T) {
	for text, c := range someBlooms() {
		if load, ok := impl.BloomLoad(c.holding(text)); !ok || load != strings.Count(text, "1") {
			t.Fatal("the load of", text, "is not", load, ok)
		}
	}
	for size := 1; size <= impl.MaxFilterBits; size++ {
		c := filterCase{probes: 1, size: size}
		none, ok := impl.BloomLoad(c.holding(c.off()))
		all, fine := impl.BloomLoad(c.holding(strings.Repeat("1", size)))
		if !ok || !fine || none != 0 || all != size {
			t.Error("the loads of no and of all bits of", size, "are not", none, all)
		}
	}
}

// checkUnion checks the union of two filters with the same seed and the same probes, and which of them covers which, and reports whether one covers the other one.
func checkUnion(t *testing.T, c filterCase, first string, second string) (bool, bool) {
	t.Helper()
	text := withOn(first, placesOf(second, '1'))
	a, b := c.holding(first), c.holding(second)
	union, ok := impl.UnionBloom(a, b)
	if !ok || !sameBloom(union, c.holding(text)) {
		t.Fatal("the union of", first, "and", second, "is", text, "not", union, ok)
	}
	for _, part := range []impl.Bloom{a, b} {
		if covers, ok := impl.CoversBloom(union, part); !ok || !covers {
			t.Fatal("a union covers both filters", first, second, union)
		}
	}
	there, ok := impl.CoversBloom(a, b)
	if want := areOn(first, placesOf(second, '1')); !ok || there != want {
		t.Fatal(first, "covers", second, want, "not", there, ok)
	}
	back, ok := impl.CoversBloom(b, a)
	if want := areOn(second, placesOf(first, '1')); !ok || back != want {
		t.Fatal(second, "covers", first, want, "not", back, ok)
	}
	return there, back
}

func TestUnionsOfAllSmallFilters(t *testing.T) {
	for size := 1; size <= 5; size++ {
		c := filterCase{seed: 9, probes: 2, size: size}
		for _, first := range allTexts(size) {
			for _, second := range allTexts(size) {
				checkUnion(t, c, first, second)
			}
		}
	}
}

func TestUnionsAndCovers(t *testing.T) {
	met := map[[2]bool]int{}
	for i, c := range filterCases() {
		other := c
		other.keys = keyLists()[i%7]
		first, second := c.text(), other.text()
		for _, pair := range [][2]string{{first, second}, {first, first}, {first, mixed(c.size, i)}, {mixed(c.size, i), mixed(c.size, i+1)}, {c.off(), first}, {strings.Repeat("1", c.size), second}} {
			there, back := checkUnion(t, c, pair[0], pair[1])
			met[[2]bool{there, back}]++
		}
		union, _ := impl.UnionBloom(c.holding(first), c.holding(second))
		for _, key := range slices.Concat(c.keys, other.keys) {
			if yes, ok := impl.BloomHas(union, key); !ok || !yes {
				t.Fatal("a union answers yes to the keys of both", c.name(), other.name(), key)
			}
		}
	}
	for _, both := range [][2]bool{{true, true}, {true, false}, {false, true}, {false, false}} {
		if met[both] < 200 {
			t.Error("all kinds of covers must have been met", both, met)
		}
	}
}

func TestOneBitIsNotCovered(t *testing.T) {
	for _, size := range someFilterSizes {
		c := filterCase{seed: 4, probes: 3, size: size}
		full := strings.Repeat("1", size)
		for place := range size {
			lacking := full[:place] + "0" + full[place+1:]
			if there, back := checkUnion(t, c, lacking, full); there || !back {
				t.Fatal("a filter does not cover a bit that is off", size, place)
			}
			if there, back := checkUnion(t, c, lacking, withOn(c.off(), []int{place})); there || back != (size == 1) {
				t.Fatal("a filter does not cover a single bit that is off", size, place)
			}
		}
	}
}

func TestUnionIsThatOfAllKeys(t *testing.T) {
	keys := manyKeys(impl.MaxKeys)
	for _, c := range filterCases() {
		for _, split := range []int{0, 1, 13, impl.MaxKeys} {
			a, _ := impl.BloomOf(c.seed, c.probes, c.size, keys[:split])
			b, _ := impl.BloomOf(c.seed, c.probes, c.size, keys[split:])
			whole, _ := impl.BloomOf(c.seed, c.probes, c.size, keys)
			if union, ok := impl.UnionBloom(a, b); !ok || !sameBloom(union, whole) {
				t.Fatal("the union of the filters of parts is that of the whole", c.name(), split, union, whole)
			}
		}
	}
}

func TestUnionsRefuse(t *testing.T) {
	good := filterCase{seed: 5, probes: 2, size: 20}
	a := good.holding(mixed(20, 1))
	others := badBlooms()
	for name, c := range map[string]filterCase{"another seed": {6, 2, 20, nil}, "the seed 0": {0, 2, 20, nil}, "more probes": {5, 3, 20, nil}, "less probes": {5, 1, 20, nil},
		"a greater size": {5, 2, 21, nil}, "a less size": {5, 2, 19, nil}, "more words": {5, 2, 40, nil}, "less words": {5, 2, 16, nil}} {
		others[name] = c.holding(c.off())
		others[name+", full"] = c.holding(strings.Repeat("1", c.size))
	}
	others["a spoiled word"] = impl.Bloom{Seed: 5, Probes: 2, Bits: impl.Bits{Size: 20, Words: []int{65536, 1}}}
	others["a bit behind the size"] = impl.Bloom{Seed: 5, Probes: 2, Bits: impl.Bits{Size: 20, Words: []int{1, 16}}}
	others["a word too few"] = impl.Bloom{Seed: 5, Probes: 2, Bits: impl.Bits{Size: 20, Words: []int{1}}}
	others["a word too many"] = impl.Bloom{Seed: 5, Probes: 2, Bits: impl.Bits{Size: 20, Words: []int{1, 1, 0}}}
	for name, b := range others {
		for _, pair := range [][2]impl.Bloom{{a, b}, {b, a}} {
			union, ok := impl.UnionBloom(pair[0], pair[1])
			mustFailBloom(t, "UnionBloom and "+name, union, ok)
			covers, ok := impl.CoversBloom(pair[0], pair[1])
			mustFail(t, "CoversBloom and "+name, covers, ok)
		}
	}
	for name, b := range badBlooms() {
		union, ok := impl.UnionBloom(b, b)
		mustFailBloom(t, "UnionBloom of twice "+name, union, ok)
		covers, ok := impl.CoversBloom(b, b)
		mustFail(t, "CoversBloom of twice "+name, covers, ok)
	}
}

func TestFilterOfOneBit(t *testing.T) {
	for _, seed := range someSeeds {
		for probes := 1; probes <= impl.MaxProbes; probes++ {
			empty, ok := impl.NewBloom(seed, probes, 1)
			one, fine := impl.BloomAdd(empty, "k")
			if !ok || !fine || !sameBits(empty.Bits, "0") || !sameBits(one.Bits, "1") {
				t.Fatal("the only bit is on behind the first key", empty, one)
			}
			for _, key := range anyKeys() {
				before, ok := impl.BloomHas(empty, key)
				behind, fine := impl.BloomHas(one, key)
				if !ok || !fine || before || !behind {
					t.Fatal("a filter of one bit answers yes to all keys behind the first one", seed, probes, key)
				}
			}
		}
	}
}
