package tests

import (
	"maps"
	"math"
	"slices"
	"strconv"
	"strings"
	"testing"

	"loop.example/g01097/impl"
)

// The tests of this file are for promise 2: rank, select and directories.

// ranked returns the Ranked of the vector with a text, counted in the text by the document's definition alone.
func ranked(text string) impl.Ranked {
	r := impl.Ranked{Bits: pack(text)}
	for at := 0; at < len(text); at += 64 {
		r.Supers = append(r.Supers, strings.Count(text[:at], "1"))
	}
	for at := 0; at < len(text); at += 16 {
		r.Blocks = append(r.Blocks, strings.Count(text[at/64*64:at], "1"))
	}
	return r
}

// sameRanked reports whether r is just the Ranked of the vector with a text.
func sameRanked(r impl.Ranked, text string) bool {
	want := ranked(text)
	return sameBits(r.Bits, text) && slices.Equal(r.Supers, want.Supers) && slices.Equal(r.Blocks, want.Blocks)
}

// directoryText returns the text of the packed directory of the vector with a text.
func directoryText(text string) string {
	r := ranked(text)
	packed := ""
	for _, count := range r.Supers {
		packed += fieldText(13, count)
	}
	for _, count := range r.Blocks {
		packed += fieldText(6, count)
	}
	return packed
}

// rankTexts returns vectors around the borders of the 64 and the 16 bits of a directory, and some of the greatest size.
func rankTexts() []string {
	all := texts()
	for _, size := range []int{63, 64, 65, 79, 80, 81, 127, 128, 129, 192, 200} {
		all = append(all, strings.Repeat("0", size), strings.Repeat("1", size), mixed(size, 1), mixed(size, 2))
	}
	return append(all, "110100", strings.Repeat("0", 150)+"1", "1"+strings.Repeat("0", 150), strings.Repeat("1", 150)+"0")
}

// longTexts returns vectors of nearly the most bits, and of the most.
func longTexts() []string {
	return []string{mixed(impl.MaxBits-1, 20), mixed(impl.MaxBits, 21), strings.Repeat("0", impl.MaxBits), strings.Repeat("1", impl.MaxBits),
		strings.Repeat("0", impl.MaxBits-1) + "1", strings.Repeat("1", impl.MaxBits-1) + "0"}
}

// placesOf returns the places of a character in a text.
func placesOf(text string, c byte) []int {
	var places []int
	for i := range len(text) {
		if text[i] == c {
			places = append(places, i)
		}
	}
	return places
}

// outside returns numbers that are not in 0..most.
func outside(most int) []int {
	return []int{-1, -2, -16, -64, most + 1, most + 2, most + 16, most + 64, math.MinInt, math.MinInt + 1, math.MaxInt - 1, math.MaxInt}
}

// badRankeds returns values that are no Ranked, by what is wrong.
func badRankeds() map[string]impl.Ranked {
	bad := map[string]impl.Ranked{
		"count for no bits":        {Supers: []int{0}},
		"block for no bits":        {Blocks: []int{0}},
		"both lists for no bits":   {Supers: []int{0}, Blocks: []int{0}},
		"no directory":             {Bits: pack("1")},
		"no Supers":                {Bits: pack("0110"), Blocks: []int{0}},
		"no Blocks":                {Bits: pack("0110"), Supers: []int{0}},
		"Blocks for the beginning": {Bits: pack(strings.Repeat("1", 80)), Supers: []int{0, 64}, Blocks: []int{0, 16, 32, 48, 64}},
		"Supers for each 64 alone": {Bits: pack(strings.Repeat("1", 129)), Supers: []int{0, 64, 64}, Blocks: []int{0, 16, 32, 48, 0, 16, 32, 48, 0}},
		"counts up to the end":     {Bits: pack(strings.Repeat("1", 17)), Supers: []int{17}, Blocks: []int{16, 17}},
		"counts of bits off":       {Bits: pack(strings.Repeat("0", 17)), Supers: []int{0}, Blocks: []int{0, 16}},
		"counts of another vector": {Bits: pack(mixed(200, 1)), Supers: ranked(mixed(200, 2)).Supers, Blocks: ranked(mixed(200, 2)).Blocks},
		"counts of a longer one":   {Bits: pack(mixed(64, 1)), Supers: ranked(mixed(64, 1) + "0").Supers, Blocks: ranked(mixed(64, 1) + "0").Blocks},
		"counts of a shorter one":  {Bits: pack(mixed(64, 1) + "0"), Supers: ranked(mixed(64, 1)).Supers, Blocks: ranked(mixed(64, 1)).Blocks},
	}
	for what, b := range badVectors() {
		bad["no directory, "+what] = impl.Ranked{Bits: b}
		empty := impl.Ranked{Bits: b, Supers: make([]int, (len(b.Words)+3)/4), Blocks: make([]int, len(b.Words))}
		bad["counts of 0, "+what] = empty
	}
	for _, size := range []int{1, 130, impl.MaxBits} {
		maps.Copy(bad, spoiled(mixed(size, 5)))
	}
	return bad
}

// spoiled returns the Ranked of a text with one of its counts changed, and with lists that are too short or too long.
func spoiled(text string) map[string]impl.Ranked {
	good := ranked(text)
	what := " of " + strconv.Itoa(len(text)) + " bits"
	bad := map[string]impl.Ranked{
		"Supers too short" + what: {Bits: good.Bits, Supers: good.Supers[:len(good.Supers)-1], Blocks: good.Blocks},
		"Blocks too short" + what: {Bits: good.Bits, Supers: good.Supers, Blocks: good.Blocks[:len(good.Blocks)-1]},
		"Supers too long" + what:  {Bits: good.Bits, Supers: append(slices.Clone(good.Supers), strings.Count(text, "1")), Blocks: good.Blocks},
		"Blocks too long" + what:  {Bits: good.Bits, Supers: good.Supers, Blocks: append(slices.Clone(good.Blocks), 0)},
	}
	for _, wrong := range []int{good.Supers[0] + 1, -1, math.MinInt, math.MaxInt} {
		for _, at := range []int{0, len(good.Supers) - 1} {
			r := ranked(text)
			r.Supers[at] = wrong
			bad["a count of Supers"+what+" is "+strconv.Itoa(wrong)+" at "+strconv.Itoa(at)] = r
		}
	}
	for at := 0; at < len(good.Blocks); at += 1 + len(good.Blocks)/14 {
		for _, wrong := range []int{good.Blocks[at] + 1, -1, math.MinInt, math.MaxInt} {
			r := ranked(text)
			r.Blocks[at] = wrong
			bad["a count of Blocks"+what+" is "+strconv.Itoa(wrong)+" at "+strconv.Itoa(at)] = r
		}
	}
	return bad
}

// mustFailRanked checks that a call failed with the zero Ranked.
func mustFailRanked(t *testing.T, what string, r impl.Ranked, ok bool) {
	t.Helper()
	if ok || r.Bits.Size != 0 || len(r.Bits.Words) != 0 || len(r.Supers) != 0 || len(r.Blocks) != 0 {
		t.Errorf("%s: got %v, %v; it must fail with the zero Ranked", what, r, ok)
	}
}

func TestBuildRanked(t *testing.T) {
	for _, text := range append(rankTexts(), longTexts()...) {
		if r, ok := impl.BuildRanked(pack(text)); !ok || !sameRanked(r, text) {
			t.Errorf("BuildRanked(%s) = %v, %v", text, r, ok)
		}
	}
	for what, b := range badVectors() {
		r, ok := impl.BuildRanked(b)
		mustFailRanked(t, "BuildRanked, "+what, r, ok)
	}
	full, _ := impl.BuildRanked(pack(strings.Repeat("1", impl.MaxBits)))
	if len(full.Supers) != 64 || full.Supers[63] != 4032 || len(full.Blocks) != 256 || full.Blocks[255] != 48 {
		t.Error("the greatest counts are 4032 and 48", full.Supers, full.Blocks)
	}
}

func TestIsRanked(t *testing.T) {
	for _, text := range append(rankTexts(), longTexts()...) {
		if !impl.IsRanked(ranked(text)) {
			t.Errorf("this is the Ranked of %s", text)
		}
	}
	empty := impl.Ranked{Bits: impl.Bits{Words: []int{}}, Supers: []int{}, Blocks: []int{}}
	if !impl.IsRanked(impl.Ranked{}) || !impl.IsRanked(empty) {
		t.Error("the vector without bits has a directory without counts")
	}
	for what, r := range badRankeds() {
		if impl.IsRanked(r) {
			t.Errorf("%s: this is no Ranked", what)
		}
	}
}

func TestOnesOf(t *testing.T) {
	for _, text := range append(rankTexts(), longTexts()...) {
		if n, ok := impl.OnesOf(ranked(text)); !ok || n != strings.Count(text, "1") {
			t.Errorf("OnesOf(%s) = %d, %v", text, n, ok)
		}
	}
}

func TestRank(t *testing.T) {
	for _, text := range append(rankTexts(), longTexts()...) {
		r := ranked(text)
		ones := 0
		for i := range len(text) + 1 {
			if n, ok := impl.Rank1(r, i); !ok || n != ones {
				t.Fatalf("Rank1(%s, %d) = %d, %v", text, i, n, ok)
			}
			if n, ok := impl.Rank0(r, i); !ok || n != i-ones {
				t.Fatalf("Rank0(%s, %d) = %d, %v", text, i, n, ok)
			}
			if i < len(text) && text[i] == '1' {
				ones++
			}
		}
		for _, i := range outside(len(text)) {
			n, ok := impl.Rank1(r, i)
			mustFail(t, "Rank1 at "+strconv.Itoa(i), n, ok)
			n, ok = impl.Rank0(r, i)
			mustFail(t, "Rank0 at "+strconv.Itoa(i), n, ok)
		}
	}
}

// ofKind tells the rank and the select of one kind of bits.
type ofKind struct {
	name   string
	digit  byte
	rank   func(r impl.Ranked, i int) (int, bool)
	choose func(r impl.Ranked, k int) (int, bool)
}

// bothKinds returns the rank and the select of bits that are on, and of those that are off.
func bothKinds() []ofKind {
	return []ofKind{{"on", '1', impl.Rank1, impl.Select1}, {"off", '0', impl.Rank0, impl.Select0}}
}

func TestSelect(t *testing.T) {
	for _, text := range append(rankTexts(), longTexts()...) {
		for _, kind := range bothKinds() {
			r, places := ranked(text), placesOf(text, kind.digit)
			for k, want := range places {
				if i, ok := kind.choose(r, k); !ok || i != want {
					t.Fatalf("the bit %d of those %s in %s is at %d, not at %d, %v", k, kind.name, text, want, i, ok)
				}
			}
			for _, k := range append(outside(len(places)), len(places)) {
				i, ok := kind.choose(r, k)
				mustFail(t, "select of "+strconv.Itoa(k)+" of the bits "+kind.name, i, ok)
			}
		}
	}
}

func TestRankAndSelectUndoEachOther(t *testing.T) {
	for _, text := range append(rankTexts(), longTexts()...) {
		r, _ := impl.BuildRanked(pack(text))
		for _, kind := range bothKinds() {
			for k := range strings.Count(text, string(kind.digit)) {
				place, ok := kind.choose(r, k)
				if rank, fine := kind.rank(r, place); !ok || !fine || rank != k {
					t.Fatalf("%s: the bit %d of those %s is at %d and has %d before it", text, k, kind.name, place, rank)
				}
			}
			for _, place := range placesOf(text, kind.digit) {
				rank, ok := kind.rank(r, place)
				if again, fine := kind.choose(r, rank); !ok || !fine || again != place {
					t.Fatalf("%s: the bit at %d has %d of those %s before it, and is told at %d", text, place, rank, kind.name, again)
				}
			}
		}
	}
}

func TestNextOneAndLastOne(t *testing.T) {
	for _, text := range append(rankTexts(), longTexts()...) {
		r := ranked(text)
		for i := range len(text) + 1 {
			next, ok := impl.NextOne(r, i)
			if want := strings.IndexByte(text[i:], '1'); want < 0 {
				mustFail(t, "NextOne of "+text+" at "+strconv.Itoa(i), next, ok)
			} else if !ok || next != i+want {
				t.Fatalf("NextOne(%s, %d) = %d, %v", text, i, next, ok)
			}
			last, ok := impl.LastOne(r, i)
			if want := strings.LastIndexByte(text[:i], '1'); want < 0 {
				mustFail(t, "LastOne of "+text+" at "+strconv.Itoa(i), last, ok)
			} else if !ok || last != want {
				t.Fatalf("LastOne(%s, %d) = %d, %v", text, i, last, ok)
			}
		}
		for _, i := range outside(len(text)) {
			next, ok := impl.NextOne(r, i)
			mustFail(t, "NextOne at "+strconv.Itoa(i), next, ok)
			last, ok := impl.LastOne(r, i)
			mustFail(t, "LastOne at "+strconv.Itoa(i), last, ok)
		}
	}
}

func TestJoinRanked(t *testing.T) {
	for _, first := range rankTexts() {
		for _, second := range rankTexts() {
			if r, ok := impl.JoinRanked(ranked(first), ranked(second)); !ok || !sameRanked(r, first+second) {
				t.Fatalf("JoinRanked(%s, %s) = %v, %v", first, second, r, ok)
			}
		}
	}
	for _, size := range []int{0, 1, 63, 64, 65, 2048, impl.MaxBits - 1, impl.MaxBits} {
		first, second := mixed(size, 5), mixed(impl.MaxBits-size, 6)
		if r, ok := impl.JoinRanked(ranked(first), ranked(second)); !ok || !sameRanked(r, first+second) {
			t.Errorf("vectors of %d and %d bits are joined to %d bits, %v", len(first), len(second), r.Bits.Size, ok)
		}
		if size > 0 {
			r, ok := impl.JoinRanked(ranked(first), ranked(second+"0"))
			mustFailRanked(t, "one bit too many", r, ok)
			r, ok = impl.JoinRanked(ranked(second+"0"), ranked(first))
			mustFailRanked(t, "one bit too many", r, ok)
		}
	}
}

func TestDirectoryBits(t *testing.T) {
	for size := range impl.MaxBits + 1 {
		want := 0
		for at := range size {
			if at%64 == 0 {
				want += 13
			}
			if at%16 == 0 {
				want += 6
			}
		}
		if n, ok := impl.DirectoryBits(size); !ok || n != want {
			t.Fatalf("DirectoryBits(%d) = %d, %v; want %d", size, n, ok, want)
		}
	}
	for _, size := range outside(impl.MaxBits) {
		n, ok := impl.DirectoryBits(size)
		mustFail(t, "DirectoryBits of "+strconv.Itoa(size), n, ok)
	}
}

func TestPackedDirectoryIsReadBack(t *testing.T) {
	for _, text := range append(rankTexts(), longTexts()...) {
		packed, ok := impl.PackDirectory(ranked(text))
		if !ok || !sameBits(packed, directoryText(text)) {
			t.Fatalf("PackDirectory of %s = %v, %v", text, packed, ok)
		}
		if n, ok := impl.DirectoryBits(len(text)); !ok || n != packed.Size {
			t.Errorf("the directory of %d bits takes %d bits, not %d", len(text), packed.Size, n)
		}
		if r, ok := impl.UnpackDirectory(pack(text), packed); !ok || !sameRanked(r, text) {
			t.Fatalf("UnpackDirectory of %s = %v, %v", text, r, ok)
		}
	}
	if r, ok := impl.UnpackDirectory(pack("10"), pack(directoryText("01"))); !ok || !sameRanked(r, "10") {
		t.Error("vectors with equal counts have one directory", r, ok)
	}
}

func TestUnpackDirectoryRefuses(t *testing.T) {
	for _, text := range rankTexts() {
		right := directoryText(text)
		wrong := []string{right + "0", right + "1", right + strings.Repeat("0", 6), right + strings.Repeat("0", 16)}
		for i := range len(right) {
			wrong = append(wrong, right[:i], right[:i]+string('0'+'1'-right[i])+right[i+1:])
		}
		for _, other := range rankTexts() {
			if directoryText(other) != right {
				wrong = append(wrong, directoryText(other))
			}
		}
		for _, packed := range wrong {
			r, ok := impl.UnpackDirectory(pack(text), pack(packed))
			mustFailRanked(t, "UnpackDirectory of "+text+" with "+packed, r, ok)
		}
		for what, b := range badVectors() {
			r, ok := impl.UnpackDirectory(pack(text), b)
			mustFailRanked(t, "UnpackDirectory from a vector out of form, "+what, r, ok)
		}
	}
}

func TestUnpackDirectoryOutOfForm(t *testing.T) {
	for what, b := range badVectors() {
		for _, packed := range []impl.Bits{{}, b, pack(strings.Repeat("0", 19)), pack(strings.Repeat("0", 25)), pack(strings.Repeat("0", 31))} {
			r, ok := impl.UnpackDirectory(b, packed)
			mustFailRanked(t, "UnpackDirectory, "+what, r, ok)
		}
	}
	packed := pack(directoryText("1"))
	longer := impl.Bits{Size: packed.Size, Words: append(slices.Clone(packed.Words), 0)}
	shorter := impl.Bits{Size: packed.Size, Words: packed.Words[:1]}
	resized := impl.Bits{Size: packed.Size + 1, Words: packed.Words}
	for _, b := range []impl.Bits{longer, shorter, resized, {Size: -packed.Size, Words: packed.Words}} {
		r, ok := impl.UnpackDirectory(pack("1"), b)
		mustFailRanked(t, "UnpackDirectory from nearly the right vector", r, ok)
	}
}

func TestDirectoriesOutOfForm(t *testing.T) {
	queries := map[string]func(r impl.Ranked, n int) (int, bool){
		"Rank1": impl.Rank1, "Rank0": impl.Rank0, "Select1": impl.Select1, "Select0": impl.Select0, "NextOne": impl.NextOne, "LastOne": impl.LastOne,
		"OnesOf": func(r impl.Ranked, n int) (int, bool) { return impl.OnesOf(r) },
	}
	for what, bad := range badRankeds() {
		for name, query := range queries {
			for _, n := range []int{0, 1, 17, 129, bad.Bits.Size} {
				i, ok := query(bad, n)
				mustFail(t, name+" of "+strconv.Itoa(n)+", "+what, i, ok)
			}
		}
		packed, ok := impl.PackDirectory(bad)
		mustFailBits(t, "PackDirectory, "+what, packed, ok)
		for _, good := range []impl.Ranked{{}, ranked("1"), ranked(mixed(70, 1))} {
			r, ok := impl.JoinRanked(bad, good)
			mustFailRanked(t, "JoinRanked, "+what, r, ok)
			r, ok = impl.JoinRanked(good, bad)
			mustFailRanked(t, "JoinRanked as the second, "+what, r, ok)
		}
		r, ok := impl.JoinRanked(bad, bad)
		mustFailRanked(t, "JoinRanked of both, "+what, r, ok)
	}
}

func TestExampleOfRank(t *testing.T) {
	r, ok := impl.BuildRanked(pack("110100"))
	if !ok || !slices.Equal(r.Supers, []int{0}) || !slices.Equal(r.Blocks, []int{0}) {
		t.Error("its only block has the counts 0 and 0", r)
	}
	if n, ok := impl.Rank1(r, 4); !ok || n != 3 {
		t.Error("Rank1 at 4 is 3", n)
	}
	if i, ok := impl.Select0(r, 1); !ok || i != 4 {
		t.Error("Select0 of 1 is 4", i)
	}
}
