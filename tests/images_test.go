package tests

import (
	"slices"
	"strconv"
	"strings"
	"testing"

	"loop.example/g01097/impl"
)

// The tests of this file are for promise 10: images.

// bitsImage returns the image of the vector with a text.
func bitsImage(text string) string {
	if text == "" {
		text = "-"
	}
	return plainSeal("bits " + text)
}

// sparseImage returns the image of the Sparse of sorted numbers.
func sparseImage(n sorted) string {
	text := "sparse " + strconv.Itoa(n.limit)
	for _, number := range n.list {
		text += " " + strconv.Itoa(number)
	}
	return plainSeal(text)
}

// peeledImage returns the image of a table by peeling.
func peeledImage(p impl.Peeled) string {
	text := "peeled " + strconv.Itoa(p.Seed) + " " + strconv.Itoa(p.Segment) + " "
	for _, mark := range p.Marks {
		text += strconv.Itoa(mark)
	}
	return plainSeal(text)
}

// trieImage returns the image of the trie of keys.
func trieImage(keys []string) string {
	text := "trie"
	for _, key := range keys {
		text += " " + key
	}
	return plainSeal(text)
}

// mustNotLoad checks that a text is no image of a kind, unless that is excepted.
func mustNotLoad(t *testing.T, s string, but string) {
	t.Helper()
	what := " of " + strconv.Quote(s[:min(len(s), 80)])
	if but != "bits" {
		b, ok := impl.LoadBits(s)
		mustFailBits(t, "LoadBits"+what, b, ok)
	}
	if but != "sparse" {
		sparse, ok := impl.LoadSparse(s)
		mustFailSparse(t, "LoadSparse"+what, sparse, ok)
	}
	if but != "peeled" {
		p, ok := impl.LoadPeeled(s)
		mustFailPeeled(t, "LoadPeeled"+what, p, ok)
	}
	if but != "trie" {
		trie, ok := impl.LoadTrie(s)
		mustFailTrie(t, "LoadTrie"+what, trie, ok)
	}
}

// imageTexts returns the texts of vectors: short and long ones, and such of the greatest size.
func imageTexts() []string {
	return append(append(texts(), allStrings("01", 6)...), strings.Repeat("0", impl.MaxBits), strings.Repeat("1", impl.MaxBits), mixed(impl.MaxBits, 3), mixed(impl.MaxBits-1, 4), mixed(1000, 5))
}

func TestImagesOfBits(t *testing.T) {
	for _, text := range imageTexts() {
		image, ok := impl.ImageOfBits(pack(text))
		if !ok || image != bitsImage(text) {
			t.Fatalf("the image of %q is %q, not %q, %v", text, bitsImage(text), image, ok)
		}
		if b, ok := impl.LoadBits(image); !ok || !sameBits(b, text) {
			t.Fatalf("the image of %q loads to it, not to %v, %v", text, b, ok)
		}
		mustNotLoad(t, image, "bits")
	}
	for name, b := range badVectors() {
		image, ok := impl.ImageOfBits(b)
		mustFail(t, "ImageOfBits of "+name, image, ok)
	}
}

func TestImagesOfSparses(t *testing.T) {
	for _, n := range append(append(someSorted(), smallSorted(3, 4)...), scattered(impl.MaxCount, impl.MaxLimit, 77)) {
		image, ok := impl.ImageOfSparse(sparse(n.list, n.limit))
		if !ok || image != sparseImage(n) {
			t.Fatal("the image of", n, "is", sparseImage(n), "not", image, ok)
		}
		if s, ok := impl.LoadSparse(image); !ok || !sameSparse(s, n.list, n.limit) {
			t.Fatal("the image of", n, "loads to it, not to", s, ok)
		}
		mustNotLoad(t, image, "sparse")
	}
	for name, s := range badSparses() {
		image, ok := impl.ImageOfSparse(s)
		mustFail(t, "ImageOfSparse of "+name, image, ok)
	}
}

func TestImagesOfPeeleds(t *testing.T) {
	for _, p := range somePeeleds() {
		image, ok := impl.ImageOfPeeled(p)
		if !ok || image != peeledImage(p) {
			t.Fatal("the image of", p, "is", peeledImage(p), "not", image, ok)
		}
		if back, ok := impl.LoadPeeled(image); !ok || !samePeeled(back, p) {
			t.Fatal("the image of", p, "loads to it, not to", back, ok)
		}
		mustNotLoad(t, image, "peeled")
	}
	for name, p := range badPeeleds() {
		image, ok := impl.ImageOfPeeled(p)
		mustFail(t, "ImageOfPeeled of "+name, image, ok)
	}
}

func TestImagesOfTries(t *testing.T) {
	for _, keys := range trieKeyLists() {
		trie := plainTrie(keys).trie()
		image, ok := impl.ImageOfTrie(trie)
		if !ok || image != trieImage(keys) {
			t.Fatalf("the image of the trie of %q is %q, not %q, %v", keys, trieImage(keys), image, ok)
		}
		if back, ok := impl.LoadTrie(image); !ok || !sameTrie(back, trie) {
			t.Fatalf("the image of the trie of %q loads to it, not to %v, %v", keys, back, ok)
		}
		mustNotLoad(t, image, "trie")
		if text, ok := impl.OpenSeal(image); !ok || !slices.Equal(strings.Fields(text), append([]string{"trie"}, keys...)) {
			t.Fatalf("the image of the trie of %q has its keys, not %q, %v", keys, text, ok)
		}
	}
	for name, trie := range badTries() {
		image, ok := impl.ImageOfTrie(trie)
		mustFail(t, "ImageOfTrie of "+name, image, ok)
	}
}

func TestExamplesOfImages(t *testing.T) {
	for image, told := range map[string]func() (string, bool){
		"bits -~1546":           func() (string, bool) { return impl.ImageOfBits(impl.Bits{}) },
		"bits 0110~2731":        func() (string, bool) { return impl.ImageOfBits(pack("0110")) },
		"sparse 24 3 5 21~7295": func() (string, bool) { return impl.ImageOfSparse(sparse([]int{3, 5, 21}, 24)) },
		"sparse 1~2883":         func() (string, bool) { return impl.ImageOfSparse(sparse(nil, 1)) },
		"peeled 7 1 033~5901": func() (string, bool) {
			return impl.ImageOfPeeled(impl.Peeled{Seed: 7, Segment: 1, Marks: []int{0, 3, 3}})
		},
		"trie~1063":        func() (string, bool) { return impl.ImageOfTrie(plainTrie(nil).trie()) },
		"trie a ab c~5096": func() (string, bool) { return impl.ImageOfTrie(plainTrie([]string{"a", "ab", "c"}).trie()) },
		"trie }~1973":      func() (string, bool) { return impl.ImageOfTrie(plainTrie([]string{"}"}).trie()) },
	} {
		if got, ok := told(); !ok || got != image {
			t.Errorf("the image is %q, not %q, %v", image, got, ok)
		}
	}
}

func TestSealedTextsThatAreNoImages(t *testing.T) {
	long := strings.Repeat("k", impl.MaxKey+1)
	marks := strings.Repeat("3", 3*impl.MaxSegment)
	bad := []string{"", " ", "  ", "a", "0", "-", "bit 0", "bitss 0", "Bits 0", "BITS 0", "spars 24", "sparses 24", "Sparse 24", "peele 0 1 333", "peeled0 1 333", "Peeled 0 1 333", "tri a", "tries a", "Trie a", "trie-a", "triea",
		"bits", "bits ", "bits  ", "bits  0", "bits 0 ", "bits 0 1", "bits 0 0110", " bits 0", "bits0", "bits-", "bits 01a", "bits 2", "bits --", "bits -0", "bits 0-", "bits\"0", "bits 0110 bits 0110", "bits " + strings.Repeat("0", impl.MaxBits+1), "bits " + strings.Repeat("0", impl.MaxSealed-5),
		"sparse", "sparse ", "sparse  ", "sparse  24", " sparse 24", "sparse 24 ", "sparse 24  3", "sparse 24 3 ", "sparse 24 3  5", "sparse 0", "sparse 0 0", "sparse -1", "sparse 024", "sparse +24", "sparse 24.", "sparse 2_4", "sparse 0x18", "sparse 24,3", "sparse x", "sparse 24 x", "sparse 24 3 x",
		"sparse 24 03", "sparse 24 00", "sparse 24 -0", "sparse 24 -1", "sparse 24 +3", "sparse 24 24", "sparse 24 25", "sparse 24 5 3", "sparse 24 0 5 4", "sparse 24 23 24", "sparse 100001", "sparse 100001 3", "sparse 0100000", "sparse 9223372036854775807", "sparse 9223372036854775808", "sparse -9223372036854775808",
		"sparse 18446744073709551640 3", "sparse 24 18446744073709551619", "sparse 24 9223372036854775807", "sparse 24 -9223372036854775808", "sparse 1" + strings.Repeat(" 0", impl.MaxCount+1), "sparse 1" + strings.Repeat(" 0", 2900), "sparse " + strings.Repeat("9", 5000),
		"peeled", "peeled ", "peeled 0", "peeled 0 1", "peeled 0 1 ", "peeled 0  333", "peeled  1 333", "peeled 0 1  333", "peeled 0 1 333 ", "peeled 0 1 333 3", "peeled 0 1 3 3 3", " peeled 0 1 333", "peeled 0 1 33", "peeled 0 1 3333", "peeled 0 2 33333", "peeled 0 2 3333333", "peeled 0 2 333", "peeled 0 1 333333",
		"peeled 0 1 334", "peeled 0 1 433", "peeled 0 1 /33", "peeled 0 1 -33", "peeled 0 1 3a3", "peeled 0 1 3,3", "peeled -1 1 333", "peeled 00 1 333", "peeled +0 1 333", "peeled -0 1 333", "peeled 10000 1 333", "peeled 010 1 333", "peeled 0 01 333", "peeled 0 +1 333", "peeled 0 -1 333", "peeled 0 0 333", "peeled 0 0 ", "peeled 0 25 " + marks + "333",
		"peeled 0 25 " + marks, "peeled 0 24 " + marks + "3", "peeled 0 24 " + marks[1:], "peeled x 1 333", "peeled 0 x 333", "peeled 18446744073709551616 1 333", "peeled 0 18446744073709551617 333", "peeled 0 9223372036854775807 333", "peeled 9223372036854775807 1 333", "peeled 0 3074457345618258603 333", "peeled 0 1 " + strings.Repeat("3", 5900),
		"trie ", "trie  ", "trie  a", " trie a", "trie a ", "trie a  b", "trie a a", "trie b a", "trie ab a", "trie a c b", "trie a B", "trie " + long, "trie a " + long, "trie " + strings.Join(manyKeys(impl.MaxKeys+1), " "), "trie" + strings.Repeat(" a", 2900), "trie a bits 0 A"}
	for _, s := range bad {
		sealed, ok := impl.SealText(s)
		if !ok {
			t.Fatalf("this text can be sealed: %q", s)
		}
		mustNotLoad(t, sealed, "")
		mustNotLoad(t, s, "")
	}
	for _, s := range []string{"~", "~0", "\xff", strings.Repeat("~", 1<<16), strings.Repeat("trie a ", 1<<16), "bits 0110", "sparse 24 3 5 21", "peeled 7 1 033", "trie a ab c", "bits 0110~", "trie a\x00~1", "trie \u00e9~1"} {
		mustNotLoad(t, s, "")
	}
}

func TestImagesAtTheLimits(t *testing.T) {
	for _, s := range []string{bitsImage(strings.Repeat("1", impl.MaxBits)), sparseImage(sorted{slices.Repeat([]int{impl.MaxLimit - 1}, impl.MaxCount), impl.MaxLimit}), sparseImage(sorted{nil, impl.MaxLimit}),
		peeledImage(impl.Peeled{Seed: impl.MaxSeed, Segment: impl.MaxSegment, Marks: make([]int, 3*impl.MaxSegment)}), trieImage(broadKeys()), trieImage(manyKeys(impl.MaxKeys))} {
		loaded := 0
		for _, load := range []func(s string) bool{
			func(s string) bool { _, ok := impl.LoadBits(s); return ok }, func(s string) bool { _, ok := impl.LoadSparse(s); return ok },
			func(s string) bool { _, ok := impl.LoadPeeled(s); return ok }, func(s string) bool { _, ok := impl.LoadTrie(s); return ok }} {
			if load(s) {
				loaded++
			}
		}
		if loaded != 1 {
			t.Error("this image loads as what it is, and as nothing else", s, loaded)
		}
	}
}

func TestEachDamageOfImagesShows(t *testing.T) {
	for _, image := range []string{bitsImage(""), bitsImage("0"), bitsImage("0110"), bitsImage(mixed(50, 1)), sparseImage(sorted{nil, 1}), sparseImage(sorted{[]int{3, 5, 21}, 24}), sparseImage(sorted{[]int{0, 0, 99999}, impl.MaxLimit}),
		peeledImage(impl.Peeled{Seed: 7, Segment: 1, Marks: []int{0, 3, 3}}), peeledImage(impl.Peeled{Seed: 9999, Segment: 2, Marks: []int{0, 1, 2, 3, 1, 2}}), trieImage(nil), trieImage([]string{"a"}), trieImage([]string{"a", "ab", "c"}), trieImage(manyKeys(5))} {
		for i := range len(image) {
			for value := range 256 {
				if byte(value) != image[i] {
					mustNotLoad(t, withByte(image, i, byte(value)), "")
				}
			}
			mustNotLoad(t, image[:i], "")
			mustNotLoad(t, image[:i]+image[i+1:], "")
			for _, c := range []string{"~", "0", "1", "3", "9", " ", "a", "\x00", "\xff"} {
				mustNotLoad(t, image[:i]+c+image[i:], "")
				mustNotLoad(t, image+c, "")
			}
		}
	}
}
