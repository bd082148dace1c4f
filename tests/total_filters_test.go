package tests

import (
	"math"
	"slices"
	"strconv"
	"strings"
	"testing"

	"loop.example/g01097/impl"
)

// The tests of this file are for promise 11: what chapter 8 is called with.

// ofBloom returns the outcome that is a Bloom filter.
func ofBloom(b impl.Bloom, ok bool) outcome {
	return outcome{lists: [][]int{b.Bits.Words, {b.Bits.Size}}, numbers: [2]int{b.Seed, b.Probes}, ok: ok}
}

// ofCounting returns the outcome that is a counting filter.
func ofCounting(f impl.Counting, ok bool) outcome {
	return outcome{lists: [][]int{f.Counts}, numbers: [2]int{f.Seed, f.Probes}, ok: ok}
}

// ofWords returns the outcome that is a list of strings.
func ofWords(list []string, ok bool) outcome {
	return outcome{words: [][]string{list}, ok: ok}
}

// ofPair returns the outcome that is two numbers.
func ofPair(a int, b int, ok bool) outcome {
	return outcome{numbers: [2]int{a, b}, ok: ok}
}

// filterExtremes are numbers at and behind the limits of chapter 8, and the least and the greatest ones.
var filterExtremes = []int{math.MinInt, math.MinInt + 1, -64, -1, 0, 1, 2, impl.MaxProbes, impl.MaxProbes + 1, 10, 11, impl.MaxCounter, impl.MaxCounter + 1, 63, 64, impl.MaxTexts, impl.MaxTexts + 1, impl.MaxFilterBits, impl.MaxFilterBits + 1,
	impl.MaxBits, impl.MaxBits + 1, impl.MaxSeed, impl.MaxSeed + 1, math.MaxInt - 1, math.MaxInt}

// extremeFilters returns seeds, probes and sizes of which one, two or all are extreme.
func extremeFilters() []filterCase {
	var all []filterCase
	for _, n := range filterExtremes {
		all = append(all, filterCase{seed: n, probes: 2, size: 9}, filterCase{seed: 3, probes: n, size: 9}, filterCase{seed: 3, probes: 2, size: n},
			filterCase{seed: n, probes: n, size: 9}, filterCase{seed: 3, probes: n, size: n}, filterCase{seed: n, probes: 2, size: n}, filterCase{seed: n, probes: n, size: n})
	}
	return all
}

// totalTexts returns texts, and lists that are none.
func totalTexts() [][]string {
	return append(badTextLists(), nil, []string{"a"}, []string{"b", "a", "b"}, manyTexts(impl.MaxTexts), manyKeys(impl.MaxKeys))
}

// checkListsCall checks that a call with a list of numbers and two of strings is total, with and without spare capacity of all.
func checkListsCall(t *testing.T, what string, list []int, keys []string, texts []string, call func(list []int, keys []string, texts []string) outcome) {
	t.Helper()
	before := slices.Clone(texts)
	sparedTexts, kept := withSpare(texts, "yy", "", "a", "~")
	checkTableCall(t, what+" and "+strconv.Itoa(len(texts))+" texts", list, keys, func(list []int, keys []string) outcome {
		// With keys alone the texts have no spare capacity, either.
		if cap(keys) > len(keys) {
			return call(list, keys, sparedTexts)
		}
		return call(list, keys, texts)
	})
	if !kept() || !slices.Equal(texts, before) {
		t.Error(what, "changes its texts, or shares memory with them")
	}
}

// totalBlooms returns some Bloom filters, and values that are none.
func totalBlooms() []impl.Bloom {
	all := []impl.Bloom{{Probes: 1, Bits: pack("0")}, {Probes: impl.MaxProbes, Bits: pack("1")}, {Seed: impl.MaxSeed, Probes: impl.MaxProbes, Bits: pack(mixed(impl.MaxFilterBits, 1))}, {Seed: 7, Probes: 3, Bits: pack(mixed(40, 2))}}
	for _, b := range badBlooms() {
		all = append(all, b)
	}
	for _, n := range filterExtremes {
		all = append(all, impl.Bloom{Seed: n, Probes: 2, Bits: pack("010")}, impl.Bloom{Probes: n, Bits: pack("011")}, impl.Bloom{Probes: 2, Bits: impl.Bits{Size: n, Words: []int{1}}},
			impl.Bloom{Probes: 2, Bits: impl.Bits{Size: 5, Words: []int{n}}}, impl.Bloom{Seed: n, Probes: n, Bits: impl.Bits{Size: n}})
	}
	return all
}

func TestBloomCallsAreTotal(t *testing.T) {
	for _, b := range totalBlooms() {
		with := func(words []int) impl.Bloom {
			return impl.Bloom{Seed: b.Seed, Probes: b.Probes, Bits: impl.Bits{Size: b.Bits.Size, Words: words}}
		}
		single := map[string]func(words []int, key string) outcome{
			"IsBloom":           func(words []int, key string) outcome { return outcome{on: impl.IsBloom(with(words))} },
			"BloomAdd":          func(words []int, key string) outcome { return ofBloom(impl.BloomAdd(with(words), key)) },
			"BloomHas":          func(words []int, key string) outcome { return ofAnswer(impl.BloomHas(with(words), key)) },
			"BloomLoad":         func(words []int, key string) outcome { return ofNumber(impl.BloomLoad(with(words))) },
			"UnionBloom twice":  func(words []int, key string) outcome { return ofBloom(impl.UnionBloom(with(words), with(words))) },
			"CoversBloom twice": func(words []int, key string) outcome { return ofAnswer(impl.CoversBloom(with(words), with(words))) },
		}
		what := strconv.Itoa(b.Seed) + ", " + strconv.Itoa(b.Probes) + ", " + strconv.Itoa(b.Bits.Size)
		checkTable(t, what, b.Bits.Words, single, nil)
		for _, keys := range [][]string{nil, {"a"}, {"b", "a"}, manyKeys(impl.MaxKeys), manyKeys(impl.MaxKeys + 1)} {
			for _, texts := range totalTexts() {
				checkListsCall(t, "FalseAnswers, "+what, b.Bits.Words, keys, texts, func(words []int, keys []string, texts []string) outcome {
					return ofList(impl.FalseAnswers(with(words), keys, texts))
				})
			}
		}
	}
}

func TestFalseAnswersOfAnyKeysAreTotal(t *testing.T) {
	b := impl.Bloom{Seed: 7, Probes: 3, Bits: pack(mixed(40, 2))}
	for _, keys := range totalKeyLists() {
		for _, texts := range totalTexts() {
			checkListsCall(t, "FalseAnswers", b.Bits.Words, keys, texts, func(words []int, keys []string, texts []string) outcome {
				return ofList(impl.FalseAnswers(impl.Bloom{Seed: 7, Probes: 3, Bits: impl.Bits{Size: 40, Words: words}}, keys, texts))
			})
		}
	}
}

func TestPairsOfBloomsAreTotal(t *testing.T) {
	calls := map[string]func(a impl.Bloom, b impl.Bloom) outcome{
		"UnionBloom":  func(a impl.Bloom, b impl.Bloom) outcome { return ofBloom(impl.UnionBloom(a, b)) },
		"CoversBloom": func(a impl.Bloom, b impl.Bloom) outcome { return ofAnswer(impl.CoversBloom(a, b)) },
	}
	all := append(totalBlooms(), impl.Bloom{Seed: 7, Probes: 3, Bits: pack(mixed(40, 5))})
	for name, call := range calls {
		for _, a := range all {
			for _, b := range all {
				first, second := slices.Clone(a.Bits.Words), slices.Clone(b.Bits.Words)
				firstSpared, firstKept := withSpare(first, 1, 65535, 5, -9)
				secondSpared, secondKept := withSpare(second, 3, 70000, 2, -1)
				with := func(b impl.Bloom, words []int) impl.Bloom {
					return impl.Bloom{Seed: b.Seed, Probes: b.Probes, Bits: impl.Bits{Size: b.Bits.Size, Words: words}}
				}
				checkCall(t, name+" of "+strconv.Itoa(a.Bits.Size)+" and "+strconv.Itoa(b.Bits.Size)+" bits",
					func() outcome { return call(with(a, first), with(b, second)) },
					func() outcome { return call(with(a, firstSpared), with(b, secondSpared)) },
					func() bool {
						return firstKept() && secondKept() && slices.Equal(first, a.Bits.Words) && slices.Equal(second, b.Bits.Words)
					})
			}
		}
	}
}

func TestNewFiltersAreTotal(t *testing.T) {
	for _, c := range extremeFilters() {
		plain := map[string]func() outcome{
			"NewBloom": func() outcome { return ofBloom(impl.NewBloom(c.seed, c.probes, c.size)) },
		}
		for _, key := range totalKeys() {
			plain["ProbesOf "+strconv.Quote(key[:min(len(key), 20)])] = func() outcome { return ofList(impl.ProbesOf(c.seed, c.probes, c.size, key)) }
		}
		for name, call := range plain {
			checkCall(t, name+" "+c.name(), call, call, func() bool { return true })
		}
		for _, keys := range totalKeyLists() {
			checkTableCall(t, "BloomOf "+c.name(), nil, keys, func(list []int, keys []string) outcome {
				return ofBloom(impl.BloomOf(c.seed, c.probes, c.size, keys))
			})
			checkTableCall(t, "CountingOf "+c.name(), nil, keys, func(list []int, keys []string) outcome {
				return ofCounting(impl.CountingOf(c.seed, c.probes, c.size, keys))
			})
		}
	}
}

func TestLeastBloomIsTotal(t *testing.T) {
	for _, c := range extremeFilters() {
		for _, keys := range [][]string{nil, {"a"}, {"b", "a"}, manyKeys(5), manyKeys(impl.MaxKeys + 1)} {
			for _, texts := range [][]string{nil, {"zz", "a"}, {""}, manyTexts(3), manyTexts(impl.MaxTexts + 1)} {
				checkListsCall(t, "LeastBloom "+c.name(), nil, keys, texts, func(list []int, keys []string, texts []string) outcome {
					return ofNumber(impl.LeastBloom(c.seed, c.probes, keys, texts, c.size))
				})
			}
		}
	}
	for _, keys := range totalKeyLists() {
		for _, texts := range totalTexts() {
			checkListsCall(t, "LeastBloom", nil, keys, texts, func(list []int, keys []string, texts []string) outcome {
				return ofNumber(impl.LeastBloom(1, 2, keys, texts, 5))
			})
		}
	}
}

func TestTextsOverIsTotal(t *testing.T) {
	all := append(totalKeys(), "aa", "ab", "abcdefghijka", "\xff\xfe", strings.Repeat("a", 1<<20))
	for _, letters := range all {
		what := strconv.Quote(letters[:min(len(letters), 20)])
		for _, n := range append(filterExtremes, 3, 5, 7, 9) {
			call := func() outcome { return ofWords(impl.TextsOver(letters, n)) }
			checkCall(t, "TextsOver "+what+", "+strconv.Itoa(n), call, call, func() bool { return true })
		}
	}
	for _, b := range totalBlooms() {
		for _, letters := range all {
			for _, n := range []int{math.MinInt, -1, 0, 1, 2, 8, 9, math.MaxInt} {
				checkTableCall(t, "ShareOf "+strconv.Quote(letters[:min(len(letters), 20)])+", "+strconv.Itoa(n), b.Bits.Words, nil, func(words []int, keys []string) outcome {
					return ofPair(impl.ShareOf(impl.Bloom{Seed: b.Seed, Probes: b.Probes, Bits: impl.Bits{Size: b.Bits.Size, Words: words}}, letters, n))
				})
			}
		}
	}
}

func TestCountingCallsAreTotal(t *testing.T) {
	tables := []impl.Counting{{}, {Probes: 1, Counts: []int{0}}, {Probes: impl.MaxProbes, Counts: []int{15}}, {Probes: 3, Counts: []int{15, 0, 14, 7, 8}}, {Seed: impl.MaxSeed, Probes: impl.MaxProbes, Counts: scatteredNumbers(impl.MaxFilterBits, 16, 1)},
		{Seed: 1, Probes: 2, Counts: make([]int, impl.MaxFilterBits+1)}}
	for _, n := range filterExtremes {
		tables = append(tables, impl.Counting{Seed: n, Probes: 2, Counts: []int{3, 4, 5}}, impl.Counting{Probes: n, Counts: []int{3, 4, 5}}, impl.Counting{Probes: 2, Counts: []int{n, 4, 5}}, impl.Counting{Seed: n, Probes: n})
	}
	for _, f := range tables {
		with := func(counts []int) impl.Counting {
			return impl.Counting{Seed: f.Seed, Probes: f.Probes, Counts: counts}
		}
		single := map[string]func(counts []int, key string) outcome{
			"IsCounting":      func(counts []int, key string) outcome { return outcome{on: impl.IsCounting(with(counts))} },
			"CountingAdd":     func(counts []int, key string) outcome { return ofCounting(impl.CountingAdd(with(counts), key)) },
			"CountingRemove":  func(counts []int, key string) outcome { return ofCounting(impl.CountingRemove(with(counts), key)) },
			"BloomOfCounting": func(counts []int, key string) outcome { return ofBloom(impl.BloomOfCounting(with(counts))) },
		}
		for _, counts := range spoiledLists(f.Counts) {
			checkTable(t, strconv.Itoa(f.Seed)+", "+strconv.Itoa(f.Probes), counts, single, nil)
		}
	}
}

func TestPrintCallsAreTotal(t *testing.T) {
	for _, n := range append(filterExtremes, retrievalExtremes...) {
		for _, c := range []valueCase{{seed: n, segment: 9, width: 3}, {seed: 11, segment: n, width: 3}, {seed: 11, segment: 9, width: n}, {seed: n, segment: n, width: n}} {
			for _, key := range totalKeys() {
				call := func() outcome { return ofNumber(impl.PrintOf(c.seed, c.width, key)) }
				checkCall(t, "PrintOf "+strconv.Quote(key[:min(len(key), 20)])+", "+c.name(), call, call, func() bool { return true })
			}
			for _, keys := range totalKeyLists() {
				checkTableCall(t, "PrintFilterOf "+c.name(), nil, keys, func(list []int, keys []string) outcome {
					return ofValues(impl.PrintFilterOf(c.seed, keys, c.segment, c.width))
				})
			}
		}
	}
}

func TestPrintFiltersAreTotal(t *testing.T) {
	for _, c := range totalValueTables() {
		with := func(cells []int) impl.Table {
			return impl.Table{Seed: c.Seed, Segment: c.Segment, Width: c.Width, Cells: cells}
		}
		single := map[string]func(cells []int, key string) outcome{
			"PrintHas": func(cells []int, key string) outcome { return ofAnswer(impl.PrintHas(with(cells), key)) },
		}
		what := strconv.Itoa(c.Seed) + ", " + strconv.Itoa(c.Segment) + ", " + strconv.Itoa(c.Width)
		for _, cells := range spoiledLists(c.Cells) {
			checkTable(t, what, cells, single, nil)
		}
		for _, keys := range [][]string{nil, {"a"}, {"b", "a"}, manyKeys(impl.MaxKeys), manyKeys(impl.MaxKeys + 1)} {
			for _, texts := range totalTexts() {
				checkListsCall(t, "PrintFalse, "+what, c.Cells, keys, texts, func(cells []int, keys []string, texts []string) outcome {
					return ofList(impl.PrintFalse(with(cells), keys, texts))
				})
			}
		}
	}
	for _, keys := range totalKeyLists() {
		for _, texts := range totalTexts() {
			checkListsCall(t, "PrintFalse", []int{0, 1, 1}, keys, texts, func(cells []int, keys []string, texts []string) outcome {
				return ofList(impl.PrintFalse(impl.Table{Segment: 1, Width: 1, Cells: cells}, keys, texts))
			})
		}
	}
}

func TestOneListAsKeysAndTexts(t *testing.T) {
	b := impl.Bloom{Seed: 7, Probes: 3, Bits: pack(strings.Repeat("1", 40))}
	keys := manyKeys(20)
	if list, ok := impl.FalseAnswers(b, keys, keys); !ok || len(list) != 0 || !slices.Equal(keys, manyKeys(20)) {
		t.Error("no text is false among the keys themselves", list, ok)
	}
	if size, ok := impl.LeastBloom(7, 3, keys, keys, 9); !ok || size != 1 || !slices.Equal(keys, manyKeys(20)) {
		t.Error("no text is false among the keys themselves", size, ok)
	}
	union, ok := impl.UnionBloom(b, b)
	if !ok || !sameBloom(union, b) {
		t.Fatal("a filter is its union with itself", union, ok)
	}
	union.Bits.Words[0] = 0
	if b.Bits.Words[0] != 65535 {
		t.Error("a union shares no memory with its filters", b)
	}
}
