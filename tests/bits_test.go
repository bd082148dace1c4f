package tests

import (
	"math"
	"slices"
	"strconv"
	"strings"
	"testing"

	"loop.example/g01097/impl"
)

// The tests of this file are for promise 1: packed bits.

func TestBitsValidity(t *testing.T) {
	good := []impl.Bits{
		{},
		{Size: 0, Words: []int{}},
		{Size: 1, Words: []int{1}},
		{Size: 15, Words: []int{32767}},
		{Size: 16, Words: []int{65535}},
		{Size: 17, Words: []int{65535, 1}},
		{Size: impl.MaxBits - 1, Words: append(slices.Repeat([]int{65535}, 255), 32767)},
		{Size: impl.MaxBits, Words: slices.Repeat([]int{65535}, 256)},
	}
	for _, b := range good {
		if !impl.IsBits(b) {
			t.Errorf("%v is a bit vector", b)
		}
	}
	for what, b := range badVectors() {
		if impl.IsBits(b) {
			t.Errorf("%s: this is no bit vector", what)
		}
	}
}

func TestNewBits(t *testing.T) {
	for _, size := range []int{0, 1, 15, 16, 17, 32, 33, impl.MaxBits - 1, impl.MaxBits} {
		if b, ok := impl.NewBits(size); !ok || !sameBits(b, strings.Repeat("0", size)) {
			t.Errorf("NewBits(%d) = %v, %v", size, b, ok)
		}
	}
	for _, size := range []int{-1, -16, impl.MaxBits + 1, impl.MaxBits + 16, math.MinInt, math.MaxInt} {
		b, ok := impl.NewBits(size)
		mustFailBits(t, "NewBits of "+strconv.Itoa(size), b, ok)
	}
}

func TestBitAtAndPutBit(t *testing.T) {
	for _, text := range texts() {
		b := pack(text)
		for i := range len(text) {
			if on, ok := impl.BitAt(b, i); !ok || on != (text[i] == '1') {
				t.Fatalf("BitAt(%s, %d) = %v, %v", text, i, on, ok)
			}
			for c, on := range map[string]bool{"0": false, "1": true} {
				if put, ok := impl.PutBit(b, i, on); !ok || !sameBits(put, text[:i]+c+text[i+1:]) {
					t.Fatalf("PutBit(%s, %d, %v) = %v, %v", text, i, on, put, ok)
				}
			}
		}
		for _, i := range []int{-1, len(text), len(text) + 1, -16, math.MinInt, math.MaxInt} {
			what := text + " at " + strconv.Itoa(i)
			on, ok := impl.BitAt(b, i)
			mustFail(t, "BitAt "+what, on, ok)
			for _, on := range []bool{false, true} {
				put, ok := impl.PutBit(b, i, on)
				mustFailBits(t, "PutBit "+what, put, ok)
			}
		}
	}
}

func TestCountBits(t *testing.T) {
	for _, text := range texts() {
		b := pack(text)
		for from := range len(text) + 1 {
			for until := from; until <= len(text); until++ {
				want := strings.Count(text[from:until], "1")
				if n, ok := impl.CountBits(b, from, until); !ok || n != want {
					t.Fatalf("CountBits(%s, %d, %d) = %d, %v", text, from, until, n, ok)
				}
			}
		}
	}
	full := pack(strings.Repeat("1", impl.MaxBits))
	if n, ok := impl.CountBits(full, 0, impl.MaxBits); !ok || n != impl.MaxBits {
		t.Error("all bits are on", n, ok)
	}
}

// badRanges returns pairs that are no ranges of bits of a vector with a size.
func badRanges(size int) [][2]int {
	bad := [][2]int{{-1, size}, {-1, -1}, {0, -1}, {0, size + 1}, {size + 1, size + 1}, {size + 1, size},
		{math.MinInt, 0}, {0, math.MaxInt}, {math.MinInt, math.MaxInt}, {math.MaxInt, math.MinInt}, {math.MaxInt, math.MaxInt}}
	if size > 0 {
		bad = append(bad, [2]int{1, 0}, [2]int{size, size - 1})
	}
	return bad
}

func TestBadRanges(t *testing.T) {
	for _, text := range texts() {
		for _, r := range badRanges(len(text)) {
			what := text + " from " + strconv.Itoa(r[0]) + " until " + strconv.Itoa(r[1])
			n, ok := impl.CountBits(pack(text), r[0], r[1])
			mustFail(t, "CountBits "+what, n, ok)
			b, ok := impl.CutBits(pack(text), r[0], r[1])
			mustFailBits(t, "CutBits "+what, b, ok)
		}
	}
}

func TestNextBit(t *testing.T) {
	for _, text := range texts() {
		for from := range len(text) + 1 {
			for c, on := range map[string]bool{"0": false, "1": true} {
				i, ok := impl.NextBit(pack(text), from, on)
				want := strings.Index(text[from:], c)
				if want < 0 {
					mustFail(t, "NextBit "+text+" from "+strconv.Itoa(from)+" for "+c, i, ok)
				} else if !ok || i != from+want {
					t.Fatalf("NextBit(%s, %d, %v) = %d, %v", text, from, on, i, ok)
				}
			}
		}
		for _, from := range []int{-1, len(text) + 1, len(text) + 16, math.MinInt, math.MaxInt} {
			for _, on := range []bool{false, true} {
				i, ok := impl.NextBit(pack(text), from, on)
				mustFail(t, "NextBit "+text+" from "+strconv.Itoa(from), i, ok)
			}
		}
	}
	last := pack(strings.Repeat("0", impl.MaxBits-1) + "1")
	if i, ok := impl.NextBit(last, 0, true); !ok || i != impl.MaxBits-1 {
		t.Error("the last bit is on", i, ok)
	}
	if i, ok := impl.NextBit(last, impl.MaxBits-1, false); ok || i != 0 {
		t.Error("no bit is off behind all others", i, ok)
	}
}

func TestReadField(t *testing.T) {
	longest := mixed(impl.MaxBits, 3)
	for _, text := range append(texts(), longest) {
		b := pack(text)
		for width := range impl.MaxWidth + 1 {
			for at := max(0, len(text)-width-80); at <= len(text)-width; at++ {
				want := valueOf(text[at : at+width])
				if value, ok := impl.ReadField(b, at, width); !ok || value != want {
					t.Fatalf("ReadField(%s, %d, %d) = %d, %v; want %d", text, at, width, value, ok, want)
				}
			}
		}
		for _, f := range badFields(len(text)) {
			value, ok := impl.ReadField(b, f[0], f[1])
			mustFail(t, "ReadField at "+strconv.Itoa(f[0])+" of the width "+strconv.Itoa(f[1]), value, ok)
		}
	}
}

// badFields returns places and widths that are no fields of a vector with a size.
func badFields(size int) [][2]int {
	var bad [][2]int
	for width := range impl.MaxWidth + 1 {
		bad = append(bad, [2]int{-1, width}, [2]int{size - width + 1, width}, [2]int{size + 1, width},
			[2]int{math.MinInt, width}, [2]int{math.MaxInt, width}, [2]int{math.MaxInt - width + 1, width})
	}
	for _, width := range []int{-1, impl.MaxWidth + 1, 64, math.MinInt, math.MaxInt} {
		bad = append(bad, [2]int{0, width}, [2]int{size, width}, [2]int{1, width}, [2]int{math.MaxInt, width}, [2]int{math.MinInt, width})
	}
	return bad
}

func TestPutField(t *testing.T) {
	for _, text := range append(texts(), mixed(impl.MaxBits, 4)) {
		b := pack(text)
		for width := range impl.MaxWidth + 1 {
			most := 1<<width - 1
			for at := max(0, len(text)-width-40); at <= len(text)-width; at++ {
				for _, value := range []int{0, 1 & most, most, 0x5a5a5a & most, 0xa5a5a5 & most} {
					put, ok := impl.PutField(b, at, width, value)
					if !ok || !sameBits(put, text[:at]+fieldText(width, value)+text[at+width:]) {
						t.Fatalf("PutField(%s, %d, %d, %d) = %v, %v", text, at, width, value, put, ok)
					}
					if kept, ok := impl.ReadField(put, at, width); !ok || kept != value {
						t.Fatalf("the field %d, %d of %s has %d, not %d", at, width, text, kept, value)
					}
				}
			}
		}
	}
}

func TestPutFieldRefuses(t *testing.T) {
	for _, text := range texts() {
		b := pack(text)
		for width := range min(impl.MaxWidth, len(text)) + 1 {
			for _, value := range []int{-1, 1 << width, 1<<width + 1, math.MinInt, math.MaxInt} {
				put, ok := impl.PutField(b, 0, width, value)
				mustFailBits(t, "PutField of the width "+strconv.Itoa(width)+" with "+strconv.Itoa(value), put, ok)
				put, ok = impl.PutField(b, len(text)-width, width, value)
				mustFailBits(t, "PutField at the end with "+strconv.Itoa(value), put, ok)
			}
		}
		for _, f := range badFields(len(text)) {
			for _, value := range []int{0, 1, math.MinInt, math.MaxInt} {
				put, ok := impl.PutField(b, f[0], f[1], value)
				mustFailBits(t, "PutField at "+strconv.Itoa(f[0])+" of the width "+strconv.Itoa(f[1]), put, ok)
			}
		}
	}
}

func TestJoinedVectorsAreCutAgain(t *testing.T) {
	for _, first := range texts() {
		for _, second := range texts() {
			joined, ok := impl.JoinBits(pack(first), pack(second))
			if !ok || !sameBits(joined, first+second) {
				t.Fatalf("JoinBits(%s, %s) = %v, %v", first, second, joined, ok)
			}
			a, fine := impl.CutBits(joined, 0, len(first))
			b, ok := impl.CutBits(joined, len(first), len(first)+len(second))
			if !fine || !ok || !sameBits(a, first) || !sameBits(b, second) {
				t.Fatalf("%s and %s are cut to %v and %v", first, second, a, b)
			}
		}
	}
}

func TestJoinBitsLimit(t *testing.T) {
	for _, size := range []int{0, 1, 15, 16, 17, 2048, impl.MaxBits - 1, impl.MaxBits} {
		first, second := mixed(size, 5), mixed(impl.MaxBits-size, 6)
		if joined, ok := impl.JoinBits(pack(first), pack(second)); !ok || !sameBits(joined, first+second) {
			t.Errorf("vectors of %d and %d bits are joined to %d bits, %v", len(first), len(second), joined.Size, ok)
		}
		if size > 0 {
			joined, ok := impl.JoinBits(pack(first), pack(second+"0"))
			mustFailBits(t, "one bit too many", joined, ok)
			joined, ok = impl.JoinBits(pack(second+"0"), pack(first))
			mustFailBits(t, "one bit too many", joined, ok)
		}
	}
	full := pack(mixed(impl.MaxBits, 7))
	joined, ok := impl.JoinBits(full, full)
	mustFailBits(t, "twice the most bits", joined, ok)
}

func TestCutBits(t *testing.T) {
	for _, text := range texts() {
		for from := range len(text) + 1 {
			for until := from; until <= len(text); until++ {
				if cut, ok := impl.CutBits(pack(text), from, until); !ok || !sameBits(cut, text[from:until]) {
					t.Fatalf("CutBits(%s, %d, %d) = %v, %v", text, from, until, cut, ok)
				}
			}
		}
	}
	text := mixed(impl.MaxBits, 8)
	for _, r := range [][2]int{{0, impl.MaxBits}, {1, impl.MaxBits}, {0, impl.MaxBits - 1}, {17, 4000}, {impl.MaxBits, impl.MaxBits}} {
		if cut, ok := impl.CutBits(pack(text), r[0], r[1]); !ok || !sameBits(cut, text[r[0]:r[1]]) {
			t.Errorf("CutBits from %d until %d = %v, %v", r[0], r[1], cut, ok)
		}
	}
}

// xorText returns the text of the characters that are 1 in just one of two texts.
func xorText(first string, second string) string {
	text := []byte(first)
	for i := range text {
		text[i] = '0' + (first[i] ^ second[i])
	}
	return string(text)
}

func TestXorBits(t *testing.T) {
	for _, first := range append(texts(), mixed(impl.MaxBits, 9)) {
		for _, second := range append(texts(), mixed(impl.MaxBits, 10)) {
			b, ok := impl.XorBits(pack(first), pack(second))
			if len(first) != len(second) {
				mustFailBits(t, "XorBits of different sizes", b, ok)
			} else if !ok || !sameBits(b, xorText(first, second)) {
				t.Fatalf("XorBits(%s, %s) = %v, %v", first, second, b, ok)
			}
		}
	}
}

func TestBitsText(t *testing.T) {
	for _, text := range append(texts(), mixed(impl.MaxBits, 11)) {
		want := text
		if text == "" {
			want = "-"
		}
		if s, ok := impl.BitsText(pack(text)); !ok || s != want {
			t.Errorf("BitsText of %s = %s, %v", want, s, ok)
		}
		if b, ok := impl.ParseBits(want); !ok || !sameBits(b, text) {
			t.Errorf("ParseBits(%s) = %v, %v", want, b, ok)
		}
	}
	bad := []string{"", "--", "-0", "0-", "01-", "-1", " ", " 01", "01 ", "0 1", "2", "012", "/", "0/1", "01\n", "\x00", "0\x00",
		"0b1", "x", "\xb0\xb1", "\u0660\u0661", strings.Repeat("0", impl.MaxBits+1), mixed(impl.MaxBits+1, 12),
		strings.Repeat("1", impl.MaxBits+16), strings.Repeat("0", impl.MaxBits-1) + "2", strings.Repeat("1", 1<<20)}
	for _, s := range bad {
		b, ok := impl.ParseBits(s)
		mustFailBits(t, "ParseBits of "+strconv.Quote(s[:min(len(s), 20)]), b, ok)
	}
}

func TestVectorsOutOfForm(t *testing.T) {
	good := pack("1")
	for what, bad := range badVectors() {
		on, ok := impl.BitAt(bad, 0)
		mustFail(t, "BitAt, "+what, on, ok)
		b, ok := impl.PutBit(bad, 0, true)
		mustFailBits(t, "PutBit, "+what, b, ok)
		for _, until := range []int{0, 1, max(0, bad.Size)} {
			n, ok := impl.CountBits(bad, 0, until)
			mustFail(t, "CountBits, "+what, n, ok)
			b, ok = impl.CutBits(bad, 0, until)
			mustFailBits(t, "CutBits, "+what, b, ok)
		}
		for _, on := range []bool{false, true} {
			i, ok := impl.NextBit(bad, 0, on)
			mustFail(t, "NextBit, "+what, i, ok)
		}
		for width := range 2 {
			value, ok := impl.ReadField(bad, 0, width)
			mustFail(t, "ReadField, "+what, value, ok)
			b, ok = impl.PutField(bad, 0, width, 0)
			mustFailBits(t, "PutField, "+what, b, ok)
		}
		for _, pair := range [][2]impl.Bits{{bad, good}, {good, bad}, {bad, {}}, {{}, bad}, {bad, bad}} {
			b, ok = impl.JoinBits(pair[0], pair[1])
			mustFailBits(t, "JoinBits, "+what, b, ok)
			b, ok = impl.XorBits(pair[0], pair[1])
			mustFailBits(t, "XorBits, "+what, b, ok)
		}
		sized := impl.Bits{Size: bad.Size, Words: make([]int, len(bad.Words))}
		for _, pair := range [][2]impl.Bits{{bad, sized}, {sized, bad}} {
			b, ok = impl.XorBits(pair[0], pair[1])
			mustFailBits(t, "XorBits of the same size, "+what, b, ok)
		}
		s, ok := impl.BitsText(bad)
		mustFail(t, "BitsText, "+what, s, ok)
	}
}

func TestExampleOfBits(t *testing.T) {
	b, ok := impl.ParseBits("0110")
	if !ok || b.Size != 4 || !slices.Equal(b.Words, []int{6}) {
		t.Error("the vector with the text 0110 has the Words 6", b)
	}
	if value, ok := impl.ReadField(b, 1, 3); !ok || value != 3 {
		t.Error("its field of the width 3 at 1 is 3", value)
	}
	i, ok := impl.NextBit(b, 3, true)
	mustFail(t, "NextBit of 0110 from 3 on", i, ok)
}

func TestLimitsOfBitsAndKeys(t *testing.T) {
	limits := []int{impl.MaxBits, impl.MaxWidth, impl.MaxKey, impl.MaxKeys, impl.MaxSeed, impl.HashPrime}
	if !slices.Equal(limits, []int{4096, 24, 12, 40, 9999, 65521}) {
		t.Error("these are not the limits of the document", limits)
	}
}
