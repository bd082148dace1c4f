package tests

import (
	"math"
	"slices"
	"strconv"
	"strings"
	"testing"

	"loop.example/g01097/impl"
)

// The tests of this file are for promise 11: what chapter 10 is called with.

// storeExtremes are numbers at and behind the limits of chapter 10, and the least and the greatest ones.
var storeExtremes = []int{math.MinInt, math.MinInt + 1, -8, -1, 0, 1, 2, 3, 7, impl.MaxShards, impl.MaxShards + 1, impl.MaxSegment, impl.MaxSegment + 1, impl.MaxSeed, impl.MaxSeed + 1, impl.MaxSealed, impl.MaxScript, math.MaxInt - 1, math.MaxInt}

// ofSharded returns the outcome that is a Sharded; the memory of the list of parts is used up to its capacity, too.
func ofSharded(s impl.Sharded, ok bool) outcome {
	out := outcome{numbers: [2]int{s.Seed, len(s.Parts)}, ok: ok}
	for _, part := range s.Parts {
		out.lists = append(out.lists, part.Marks)
		out.words = append(out.words, []string{strconv.Itoa(part.Seed), strconv.Itoa(part.Segment)})
	}
	out.lists = append(out.lists, s.Offsets)
	all := s.Parts[:cap(s.Parts)]
	for i := range all {
		all[i] = impl.Peeled{Seed: -77}
	}
	return out
}

// ofWordLists returns the outcome that is a list of lists of strings.
func ofWordLists(lists [][]string, ok bool) outcome {
	return outcome{words: lists, ok: ok}
}

// ofDesk returns the outcome that is a Desk and a reply.
func ofDesk(d impl.Desk, reply string, ok bool) outcome {
	return outcome{words: [][]string{d.Keys}, numbers: [2]int{d.Seed, d.Segment}, text: reply, ok: ok}
}

func TestBuildCallsOfShardsAreTotal(t *testing.T) {
	for _, keys := range append(totalKeyLists(), twins, broadKeys(), []string{strings.Repeat("k", 1<<20)}) {
		for _, a := range storeExtremes {
			for _, b := range storeExtremes {
				what := " of " + strconv.Itoa(b) + " shards for the seed " + strconv.Itoa(a)
				checkTableCall(t, "SplitKeys"+what, nil, keys, func(list []int, keys []string) outcome { return ofWordLists(impl.SplitKeys(a, keys, b)) })
				checkTableCall(t, "BuildSharded"+what, nil, keys, func(list []int, keys []string) outcome { return ofSharded(impl.BuildSharded(a, keys, b)) })
			}
		}
	}
}

// cloneSharded returns a Sharded in other memory.
func cloneSharded(s impl.Sharded) impl.Sharded {
	s.Parts, s.Offsets = slices.Clone(s.Parts), slices.Clone(s.Offsets)
	for i := range s.Parts {
		s.Parts[i].Marks = slices.Clone(s.Parts[i].Marks)
	}
	return s
}

// spareSharded returns an equal Sharded with others in the spare capacity of its lists, and a function that reports whether all are as they were.
func spareSharded(s impl.Sharded) (impl.Sharded, func() bool) {
	one := impl.Peeled{Segment: 1, Marks: []int{0, 1, 2}}
	parts := append(cloneSharded(s).Parts, one, impl.Peeled{Seed: -5}, one)
	var kept []func() bool
	for i, part := range parts {
		marks, unchanged := withSpare(part.Marks, 1, 0, 3, -5)
		parts[i].Marks = marks
		kept = append(kept, unchanged)
	}
	before := cloneSharded(impl.Sharded{Parts: parts}).Parts
	offsets, offsetsKept := withSpare(s.Offsets, 1, 0, 99, -5)
	spared := impl.Sharded{Seed: s.Seed, Parts: parts[:len(s.Parts)], Offsets: offsets}
	return spared, func() bool {
		return offsetsKept() && slices.EqualFunc(parts, before, samePeeled) && !slices.ContainsFunc(kept, func(unchanged func() bool) bool { return !unchanged() })
	}
}

// totalShardeds returns values that are valid, and such that are not.
func totalShardeds() map[string]impl.Sharded {
	all := map[string]impl.Sharded{}
	for name, s := range badShardeds() {
		// One of the bad parts of each kind is enough.
		if !strings.Contains(name, "a part at") || strings.HasPrefix(name, "a part at 1 of 2 ") {
			all[name] = s
		}
	}
	for i, s := range someShardeds() {
		if i%40 == 0 {
			all["the Sharded "+strconv.Itoa(i)] = s
		}
	}
	one := impl.Peeled{Segment: 1, Marks: []int{0, 3, 3}}
	for _, n := range storeExtremes {
		name := "the number " + strconv.Itoa(n) + " as "
		all[name+"a seed"] = impl.Sharded{Seed: n, Parts: []impl.Peeled{one, one}, Offsets: []int{0, 1}}
		all[name+"an offset"] = impl.Sharded{Seed: 1, Parts: []impl.Peeled{one, one}, Offsets: []int{0, n}}
		all[name+"the first offset"] = impl.Sharded{Seed: 1, Parts: []impl.Peeled{one, one}, Offsets: []int{n, 1}}
		all[name+"a seed of a part"] = impl.Sharded{Seed: 1, Parts: []impl.Peeled{{Seed: n, Segment: 1, Marks: []int{0, 3, 3}}, one}, Offsets: []int{0, 1}}
		all[name+"a segment"] = impl.Sharded{Seed: 1, Parts: []impl.Peeled{one, {Segment: n, Marks: []int{0, 3, 3}}}, Offsets: []int{0, 1}}
		all[name+"a mark"] = impl.Sharded{Seed: 1, Parts: []impl.Peeled{{Segment: 1, Marks: []int{0, n, 3}}, one}, Offsets: []int{0, 1}}
	}
	return all
}

// checkShardedCall checks that a call with a Sharded and a list of strings is total, with and without spare capacity of both.
func checkShardedCall(t *testing.T, what string, s impl.Sharded, keys []string, call func(s impl.Sharded, keys []string) outcome) {
	t.Helper()
	before, keysBefore := cloneSharded(s), slices.Clone(keys)
	spared, kept := spareSharded(s)
	sparedKeys, keysKept := withSpare(keys, "zz", "", "b")
	checkCall(t, what, func() outcome { return call(s, keys) }, func() outcome { return call(spared, sparedKeys) }, func() bool {
		return kept() && keysKept() && sameSharded(s, before) && slices.Equal(keys, keysBefore)
	})
}

func TestShardedCallsAreTotal(t *testing.T) {
	for of, s := range totalShardeds() {
		checkShardedCall(t, "IsSharded of "+of, s, nil, func(s impl.Sharded, keys []string) outcome { return outcome{on: impl.IsSharded(s)} })
		for _, key := range totalKeys() {
			checkShardedCall(t, "ShardOf "+strconv.Quote(key)+" of "+of, s, nil, func(s impl.Sharded, keys []string) outcome { return ofNumber(impl.ShardOf(s, key)) })
			checkShardedCall(t, "ShardedIndex of "+strconv.Quote(key)+" of "+of, s, nil, func(s impl.Sharded, keys []string) outcome { return ofNumber(impl.ShardedIndex(s, key)) })
		}
		for _, list := range totalKeyLists() {
			checkShardedCall(t, "IsShardedFor of "+of, s, list, func(s impl.Sharded, keys []string) outcome { return ofAnswer(impl.IsShardedFor(s, keys)) })
		}
	}
}

// storeTexts returns texts that are sealed, images, such with damage, and any others.
func storeTexts() []string {
	all := append(someTexts(), "~", "~0", "a~97", "a~98", "\x00", "\xff\xfe", "\u20ac", strings.Repeat("~", 1<<16), strings.Repeat("a", 1<<20), strings.Repeat("bits ", 1<<16), "a~"+strings.Repeat("9", 1<<20))
	for _, s := range badTexts() {
		all = append(all, s)
	}
	images := []string{bitsImage(""), bitsImage("0110"), bitsImage(mixed(impl.MaxBits, 1)), sparseImage(sorted{nil, 1}), sparseImage(sorted{[]int{3, 5, 21}, 24}), sparseImage(scattered(impl.MaxCount, impl.MaxLimit, 2)),
		peeledImage(impl.Peeled{Seed: 7, Segment: 1, Marks: []int{0, 3, 3}}), peeledImage(impl.Peeled{Segment: impl.MaxSegment, Marks: make([]int, 3*impl.MaxSegment)}), trieImage(nil), trieImage([]string{"a", "ab", "c"}), trieImage(broadKeys())}
	for _, image := range images {
		all = append(all, image, image[:len(image)-1], image+"0", image+"~", withByte(image, 0, 'x'), withByte(image, len(image)/2, 255))
	}
	for _, n := range append(slices.Clone(storeExtremes), aroundLimits...) {
		number := strconv.Itoa(n)
		for _, s := range []string{"bits " + number, "sparse " + number, "sparse 24 " + number, "sparse " + number + " 3", "peeled " + number + " 1 033", "peeled 7 " + number + " 033", "peeled 7 1 " + number, "trie " + number} {
			all = append(all, plainSeal(s))
		}
		all = append(all, "a~"+number)
	}
	return all
}

func TestTextCallsOfStoreAreTotal(t *testing.T) {
	calls := map[string]func(s string) outcome{
		"SealText":   func(s string) outcome { return ofText(impl.SealText(s)) },
		"OpenSeal":   func(s string) outcome { return ofText(impl.OpenSeal(s)) },
		"LoadBits":   func(s string) outcome { return ofBits(impl.LoadBits(s)) },
		"LoadSparse": func(s string) outcome { return ofSparse(impl.LoadSparse(s)) },
		"LoadPeeled": func(s string) outcome { return ofPeeled(impl.LoadPeeled(s)) },
		"LoadTrie":   func(s string) outcome { return ofTrie(impl.LoadTrie(s)) },
	}
	for _, s := range storeTexts() {
		for name, call := range calls {
			checkCall(t, name+" of "+strconv.Quote(s[:min(len(s), 60)]), func() outcome { return call(s) }, func() outcome { return call(strings.Clone(s)) }, func() bool { return true })
		}
	}
}

func TestImageCallsAreTotal(t *testing.T) {
	for _, b := range someVectors() {
		words, unchanged := withSpare(b.Words, 1, 65535, -9)
		spared := impl.Bits{Size: b.Size, Words: words}
		checkCall(t, "ImageOfBits of "+strconv.Itoa(b.Size)+" bits", func() outcome { return ofText(impl.ImageOfBits(b)) }, func() outcome { return ofText(impl.ImageOfBits(spared)) },
			func() bool { return unchanged() && slices.Equal(b.Words, words) })
	}
	for _, s := range someSparses() {
		spared, unchanged := spareSparse(s)
		checkCall(t, "ImageOfSparse of "+strconv.Itoa(s.Count)+" numbers for "+strconv.Itoa(s.Limit), func() outcome { return ofText(impl.ImageOfSparse(s)) }, func() outcome { return ofText(impl.ImageOfSparse(spared)) },
			func() bool {
				return unchanged() && sameBitVectors(s.Low, spared.Low) && sameBitVectors(s.High, spared.High)
			})
	}
	for name, p := range badPeeleds() {
		checkTableCall(t, "ImageOfPeeled of "+name, p.Marks, nil, func(list []int, keys []string) outcome {
			return ofText(impl.ImageOfPeeled(impl.Peeled{Seed: p.Seed, Segment: p.Segment, Marks: list}))
		})
	}
	for _, p := range somePeeleds() {
		checkTableCall(t, "ImageOfPeeled of "+strconv.Itoa(p.Segment), p.Marks, nil, func(list []int, keys []string) outcome {
			return ofText(impl.ImageOfPeeled(impl.Peeled{Seed: p.Seed, Segment: p.Segment, Marks: list}))
		})
	}
	for name, trie := range totalTries() {
		checkTrieCall(t, "ImageOfTrie of "+name, trie, func(trie impl.Trie) outcome { return ofText(impl.ImageOfTrie(trie)) })
	}
}

// totalLines returns lines of all kinds.
func totalLines() []string {
	all := []string{"keys", "core", "image", "keys ", "core 1", "image a", "", " ", "fly", "\x00", "\xff", "\n", "add a\n", strings.Repeat("add ", 1<<16), strings.Repeat("a", 1<<20), strings.Repeat(" ", 1<<20)}
	for _, verb := range []string{"seed", "segment"} {
		for _, n := range append(slices.Clone(storeExtremes), 9998, 99999, 100000) {
			all = append(all, verb+" "+strconv.Itoa(n))
		}
		all = append(all, verb, verb+" ", verb+" x", verb+" 1 2", verb+" "+strings.Repeat("9", 1<<16))
	}
	for _, verb := range wordVerbs {
		for _, word := range []string{"", "a", "b", "k100", "k139", "zz", "!", "ap!", "~", "\x00", "\xff", "a b", strings.Repeat("k", 1<<20)} {
			all = append(all, verb+" "+word)
		}
		all = append(all, verb, verb+"  a")
	}
	return all
}

// totalDesks returns Desks that are valid, and such that are not.
func totalDesks() map[string]impl.Desk {
	all := badDesks()
	for i, d := range someDesks() {
		if i%4 == 0 || len(d.Keys) == impl.MaxKeys {
			all["the Desk "+strconv.Itoa(i)] = d
		}
	}
	for _, n := range storeExtremes {
		name := "the number " + strconv.Itoa(n) + " as "
		all[name+"a seed"] = impl.Desk{Seed: n, Segment: 3, Keys: []string{"a", "k100"}}
		all[name+"a segment"] = impl.Desk{Seed: 3, Segment: n, Keys: []string{"a", "k100"}}
		all[name+"both"] = impl.Desk{Seed: n, Segment: n, Keys: []string{"a", "k100"}}
	}
	all["a very long string"] = impl.Desk{Seed: 1, Segment: 8, Keys: []string{strings.Repeat("k", 1<<20)}}
	all["very many strings"] = impl.Desk{Seed: 1, Segment: 8, Keys: make([]string, 2000)}
	return all
}

func TestDeskCallsAreTotal(t *testing.T) {
	lines := totalLines()
	for of, d := range totalDesks() {
		checkTableCall(t, "IsDesk of "+of, nil, d.Keys, func(list []int, keys []string) outcome {
			return outcome{on: impl.IsDesk(impl.Desk{Seed: d.Seed, Segment: d.Segment, Keys: keys})}
		})
		for _, line := range lines {
			checkTableCall(t, "DeskLine "+strconv.Quote(line[:min(len(line), 30)])+" of "+of, nil, d.Keys, func(list []int, keys []string) outcome {
				return ofDesk(impl.DeskLine(impl.Desk{Seed: d.Seed, Segment: d.Segment, Keys: keys}, line))
			})
		}
	}
	first := impl.FirstDesk()
	checkCall(t, "FirstDesk", func() outcome { return ofDesk(impl.FirstDesk(), "", true) }, func() outcome { return ofDesk(first, "", true) }, func() bool { return true })
}

func TestScriptCallsAreTotal(t *testing.T) {
	all := append(someScripts()[:60], storeTexts()...)
	for _, line := range totalLines() {
		all = append(all, line, line+"\n", "add a\nadd k100\n"+line+"\nkeys\n", strings.Repeat(line[:min(len(line), 40)]+"\n", impl.MaxLines), strings.Repeat(line[:min(len(line), 40)]+"\n", impl.MaxLines+1))
	}
	for _, text := range all {
		checkCall(t, "RunScript of "+strconv.Quote(text[:min(len(text), 60)]), func() outcome { return ofWords(impl.RunScript(text)) }, func() outcome { return ofWords(impl.RunScript(strings.Clone(text))) }, func() bool { return true })
	}
}

func TestADeskKeepsItsKeys(t *testing.T) {
	keys := []string{"a", "c", "e", "g"}
	room, kept := withSpare(keys, "x", "y", "z")
	d := impl.Desk{Seed: 1, Segment: 8, Keys: room}
	with, reply, ok := impl.DeskLine(d, "add d")
	without, other, fine := impl.DeskLine(d, "drop a")
	if !ok || !fine || reply != "5" || other != "3" || !slices.Equal(with.Keys, []string{"a", "c", "d", "e", "g"}) || !slices.Equal(without.Keys, []string{"c", "e", "g"}) {
		t.Fatal("a key more, and a key less", with, reply, without, other)
	}
	if !kept() || !slices.Equal(d.Keys, keys) {
		t.Error("the Desk before is as it was", d, room)
	}
	same, _, ok := impl.DeskLine(d, "fly")
	same.Keys[0] = "overwritten"
	if !ok || !kept() {
		t.Error("an unchanged Desk has memory of its own", d, same)
	}
}
