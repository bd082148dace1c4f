package tests

import (
	"math"
	"slices"
	"strconv"
	"strings"
	"testing"

	"loop.example/g01097/impl"
)

// The tests of this file are for promise 3: codes of numbers, and gaps.

// behindFirst returns how many binary digits a number has behind the first one, and the text of the field that they are.
func behindFirst(n int) (int, string) {
	length := 0
	for n >= 1<<(length+1) {
		length++
	}
	return length, fieldText(length, n-1<<length)
}

// gammaText returns the text of the gamma code of a number.
func gammaText(n int) string {
	length, field := behindFirst(n)
	return strings.Repeat("0", length) + "1" + field
}

// deltaText returns the text of the delta code of a number.
func deltaText(n int) string {
	length, field := behindFirst(n)
	return gammaText(length+1) + field
}

// family tells the functions of one kind of codes.
type family struct {
	name   string
	text   func(n int) string
	length func(n int) (int, bool)
	encode func(list []int) (impl.Bits, bool)
	decode func(b impl.Bits, count int) ([]int, bool)
}

// families returns both kinds of codes.
func families() []family {
	return []family{
		{"gamma", gammaText, impl.GammaLength, impl.EncodeGamma, impl.DecodeGamma},
		{"delta", deltaText, impl.DeltaLength, impl.EncodeDelta, impl.DecodeDelta},
	}
}

// textOf returns the text of the codes of a list.
func (f family) textOf(list []int) string {
	text := ""
	for _, n := range list {
		text += f.text(n)
	}
	return text
}

// powers returns the numbers in 1..MaxLimit around the powers of 2, and the last ones.
func powers() []int {
	var all []int
	for power := 1; power <= impl.MaxLimit; power *= 2 {
		all = append(all, max(1, power-1), power, power+1)
	}
	return append(all, impl.MaxLimit-1, impl.MaxLimit)
}

// codeLists returns lists of numbers that have codes, none and the most of them among these.
func codeLists() [][]int {
	all := [][]int{nil, {1}, {5}, {impl.MaxLimit}, {1, 1}, {1, 2, 3, 4, 5, 6, 7, 8, 9}, {impl.MaxLimit, 1, impl.MaxLimit}, {7, 7, 7}, powers(),
		slices.Repeat([]int{1}, impl.MaxCount), slices.Repeat([]int{impl.MaxLimit}, impl.MaxCount), slices.Repeat([]int{65535, 2}, impl.MaxCount/2)}
	for i, count := range []int{2, 10, 59, impl.MaxCount} {
		for k, limit := range []int{1, 20, 1000, impl.MaxLimit} {
			list := scattered(count, limit, 100+10*i+k).list
			for j := range list {
				list[j] = limit - list[j]
			}
			all = append(all, list, append(list[count/2:], list[:count/2]...))
		}
	}
	return all
}

// noCodes are numbers that have no codes.
var noCodes = []int{0, -1, -2, -5, impl.MaxLimit + 1, impl.MaxLimit + 2, 131071, 131072, 1 << 24, 1 << 25, 1 << 62, math.MinInt, math.MinInt + 1, math.MaxInt}

func TestEachNumberHasItsCodes(t *testing.T) {
	for _, f := range families() {
		for n := 1; n <= impl.MaxLimit; n++ {
			want := f.text(n)
			if length, ok := f.length(n); !ok || length != len(want) {
				t.Fatalf("the %s code of %d has %d bits, %v; want %d", f.name, n, length, ok, len(want))
			}
			b, ok := f.encode([]int{n})
			if !ok || !sameBits(b, want) {
				t.Fatalf("the %s code of %d is %v, %v; want %s", f.name, n, b, ok, want)
			}
			if list, ok := f.decode(b, 1); !ok || !slices.Equal(list, []int{n}) {
				t.Fatalf("the %s code of %d is read as %v, %v", f.name, n, list, ok)
			}
		}
		for _, n := range noCodes {
			length, ok := f.length(n)
			mustFail(t, f.name+" length of "+strconv.Itoa(n), length, ok)
		}
	}
}

func TestCodesOfLists(t *testing.T) {
	for _, f := range families() {
		for _, list := range codeLists() {
			b, ok := f.encode(list)
			if !ok || !sameBits(b, f.textOf(list)) {
				t.Errorf("the %s codes of %v are %v, %v", f.name, list, b, ok)
			}
			if again, ok := f.decode(b, len(list)); !ok || !slices.Equal(again, list) {
				t.Errorf("the %s codes of %v are read as %v, %v", f.name, list, again, ok)
			}
		}
	}
}

func TestEncodeRefuses(t *testing.T) {
	for _, f := range families() {
		for _, n := range noCodes {
			for _, list := range [][]int{{n}, {n, 1}, {1, n}, {5, n, 5}, append(slices.Repeat([]int{1}, impl.MaxCount-1), n)} {
				b, ok := f.encode(list)
				mustFailBits(t, f.name+" codes with "+strconv.Itoa(n), b, ok)
			}
		}
		for _, count := range []int{impl.MaxCount + 1, impl.MaxCount + 2, 5000} {
			b, ok := f.encode(slices.Repeat([]int{1}, count))
			mustFailBits(t, f.name+" codes of "+strconv.Itoa(count)+" numbers", b, ok)
		}
	}
}

func TestDecodeOfOtherCounts(t *testing.T) {
	for _, f := range families() {
		for _, list := range codeLists() {
			b := pack(f.textOf(list))
			for _, count := range append(outside(impl.MaxCount), 0, len(list)-1, len(list)+1, impl.MaxCount) {
				if count != len(list) {
					again, ok := f.decode(b, count)
					mustFailList(t, f.name+" codes of "+strconv.Itoa(len(list))+" numbers as "+strconv.Itoa(count), again, ok)
				}
			}
		}
		again, ok := f.decode(pack(strings.Repeat("1", impl.MaxCount+1)), impl.MaxCount+1)
		mustFailList(t, "one number too many", again, ok)
	}
}

func TestDecodeOfCutCodes(t *testing.T) {
	for _, f := range families() {
		for _, list := range codeLists() {
			text := f.textOf(list)
			for cut := range len(text) {
				if cut > 40 && cut < len(text)-40 {
					continue
				}
				again, ok := f.decode(pack(text[:cut]), len(list))
				mustFailList(t, f.name+" codes cut at "+strconv.Itoa(cut), again, ok)
			}
			for _, more := range []string{"0", "1", "00", "11", "010", strings.Repeat("0", 16), strings.Repeat("0", impl.MaxBits-len(text))} {
				again, ok := f.decode(pack(text+more), len(list))
				mustFailList(t, f.name+" codes with "+more+" behind them", again, ok)
			}
		}
	}
}

// plainDecode returns the list of count numbers in 1..most that has a text as its codes.
func plainDecode(f family, text string, count int, most int) ([]int, bool) {
	if count == 0 {
		return nil, text == ""
	}
	for n := 1; n <= most; n++ {
		if behind, fits := strings.CutPrefix(text, f.text(n)); fits {
			list, ok := plainDecode(f, behind, count-1, most)
			return append([]int{n}, list...), ok
		}
	}
	return nil, false
}

func TestDecodeOfAllShortVectors(t *testing.T) {
	for _, f := range families() {
		found := 0
		for length := range 10 {
			for _, text := range allTexts(length) {
				for count := range 5 {
					list, ok := f.decode(pack(text), count)
					if want, fine := plainDecode(f, text, count, 64); !fine {
						mustFailList(t, f.name+" codes "+text, list, ok)
					} else if !ok || !slices.Equal(list, want) {
						t.Errorf("%s codes %s are read as %v, %v; want %v", f.name, text, list, ok, want)
					} else {
						found++
					}
				}
			}
		}
		if found < 100 {
			t.Errorf("only %d vectors are %s codes", found, f.name)
		}
	}
}

func TestDecodeOfNumbersTooLarge(t *testing.T) {
	for _, f := range families() {
		for _, n := range []int{impl.MaxLimit + 1, impl.MaxLimit + 2, 131071, 131072, 131073, 1<<24 - 1, 1 << 24, 1<<25 - 1, 1 << 25, 1 << 40, 1 << 61} {
			list, ok := f.decode(pack(f.text(n)), 1)
			mustFailList(t, f.name+" code of "+strconv.Itoa(n), list, ok)
			list, ok = f.decode(pack(f.text(3)+f.text(n)), 2)
			mustFailList(t, f.name+" codes of 3 and "+strconv.Itoa(n), list, ok)
			list, ok = f.decode(pack(f.text(n)+f.text(3)), 2)
			mustFailList(t, f.name+" codes of 3 behind "+strconv.Itoa(n), list, ok)
		}
		for _, size := range []int{1, 16, 17, 25, 63, 64, 65, 4000, impl.MaxBits} {
			for _, text := range []string{strings.Repeat("0", size), strings.Repeat("0", size-1) + "1"} {
				list, ok := f.decode(pack(text), 2)
				mustFailList(t, f.name+" codes of bits off", list, ok)
			}
		}
	}
	for _, length := range []int{18, 19, 25, 26, 64, 65, 66, 1000, 4000, impl.MaxLimit, impl.MaxLimit + 1, 1 << 20} {
		for _, field := range []string{"", "0", strings.Repeat("0", length%1000), strings.Repeat("1", min(length-1, 4000))} {
			list, ok := impl.DecodeDelta(pack(gammaText(length)+field), 1)
			mustFailList(t, "delta code of a number with "+strconv.Itoa(length)+" digits", list, ok)
		}
	}
}

func TestDecodeOfVectorsOutOfForm(t *testing.T) {
	for _, f := range families() {
		for what, b := range badVectors() {
			for _, count := range []int{0, 1, 2, 16, impl.MaxCount} {
				list, ok := f.decode(b, count)
				mustFailList(t, f.name+" codes in a vector out of form, "+what, list, ok)
			}
		}
		for _, b := range resized(pack(f.textOf([]int{5, 9, 2}))) {
			list, ok := f.decode(b, 3)
			mustFailList(t, f.name+" codes in nearly the right vector", list, ok)
		}
	}
}

// risingLists returns lists of strictly increasing numbers.
func risingLists() [][]int {
	all := [][]int{nil, {0}, {1}, {0, 1}, {0, 2}, {3, 5, 21}, {impl.MaxLimit - 1}, {0, impl.MaxLimit - 1}, {impl.MaxLimit - 2, impl.MaxLimit - 1}}
	for i, count := range []int{2, 10, 59, impl.MaxCount} {
		for k, limit := range []int{100, 5000, impl.MaxLimit} {
			all = append(all, slices.Compact(scattered(count, limit, 200+10*i+k).list))
		}
	}
	first, last := make([]int, impl.MaxCount), make([]int, impl.MaxCount)
	for i := range impl.MaxCount {
		first[i], last[i] = i, impl.MaxLimit-impl.MaxCount+i
	}
	return append(all, first, last)
}

func TestGapsAreReadBack(t *testing.T) {
	for _, list := range risingLists() {
		var want []int
		for i, n := range list {
			if i == 0 {
				want = append(want, n+1)
			} else {
				want = append(want, n-list[i-1])
			}
		}
		gaps, ok := impl.GapsOf(list)
		if !ok || !slices.Equal(gaps, want) {
			t.Errorf("GapsOf(%v) = %v, %v", list, gaps, ok)
		}
		if again, ok := impl.FromGaps(want); !ok || !slices.Equal(again, list) {
			t.Errorf("FromGaps(%v) = %v, %v", want, again, ok)
		}
		for _, f := range families() {
			b, encoded := f.encode(gaps)
			read, decoded := f.decode(b, len(list))
			again, ok := impl.FromGaps(read)
			if !encoded || !decoded || !ok || !slices.Equal(again, list) {
				t.Errorf("%v is read back from the %s codes of its gaps as %v", list, f.name, again)
			}
		}
	}
}

func TestGapsOfRefuses(t *testing.T) {
	bad := [][]int{{-1}, {impl.MaxLimit}, {math.MinInt}, {math.MaxInt}, {0, 0}, {3, 3}, {5, 3}, {0, 1, 1}, {0, 2, 1}, {1, 0}, {-1, 0}, {-2, 5}, {0, impl.MaxLimit},
		{0, math.MaxInt}, {0, math.MinInt}, {math.MinInt, 0}, {math.MinInt, math.MaxInt}, {math.MaxInt, math.MinInt}, {3, 5, 5, 21}, {impl.MaxLimit - 1, impl.MaxLimit - 1}, {impl.MaxLimit - 1, impl.MaxLimit}}
	many := make([]int, impl.MaxCount+1)
	for i := range many {
		many[i] = i
	}
	for _, list := range append(bad, many, make([]int, impl.MaxCount), make([]int, 5000)) {
		gaps, ok := impl.GapsOf(list)
		mustFailList(t, "GapsOf "+strconv.Itoa(len(list))+" numbers", gaps, ok)
	}
}

func TestFromGapsRefuses(t *testing.T) {
	bad := [][]int{{0}, {-1}, {impl.MaxLimit + 1}, {math.MinInt}, {math.MaxInt}, {1, 0}, {1, -1}, {0, 1}, {-1, 3}, {3, -1, 3}, {1, impl.MaxLimit}, {impl.MaxLimit, 1}, {50000, 50001}, {50001, 50000},
		{1, math.MaxInt}, {math.MaxInt, 1}, {math.MaxInt, math.MaxInt}, {math.MaxInt, math.MaxInt, 3}, {math.MaxInt, math.MinInt}, {math.MinInt, math.MaxInt}, {2, math.MinInt}, {1, math.MinInt, math.MinInt},
		{impl.MaxLimit, math.MaxInt}, {99990, 5, 5, 1}, {1 << 62, 1 << 62, 1 << 62, 1 << 62, 5}}
	for _, gaps := range append(bad, slices.Repeat([]int{1}, impl.MaxCount+1), slices.Repeat([]int{1}, 5000), slices.Repeat([]int{1667}, impl.MaxCount)) {
		list, ok := impl.FromGaps(gaps)
		mustFailList(t, "FromGaps of "+strconv.Itoa(len(gaps))+" gaps", list, ok)
	}
	for _, gaps := range [][]int{{impl.MaxLimit}, {50000, 50000}, {1, impl.MaxLimit - 1}, {impl.MaxLimit - 1, 1}, slices.Repeat([]int{1}, impl.MaxCount), slices.Repeat([]int{1666}, impl.MaxCount)} {
		list, ok := impl.FromGaps(gaps)
		again, fine := impl.GapsOf(list)
		if !ok || !fine || !slices.Equal(again, gaps) {
			t.Errorf("FromGaps(%v) = %v, %v", gaps, list, ok)
		}
	}
}

func TestSmallGaps(t *testing.T) {
	for i := range 6 * 6 * 6 {
		gaps := []int{i%6 - 2, i/6%6 - 2, i/36 - 2}
		list, ok := impl.FromGaps(gaps)
		if slices.Min(gaps) < 1 {
			mustFailList(t, "FromGaps of a gap less than 1", list, ok)
		} else if want := []int{gaps[0] - 1, gaps[0] + gaps[1] - 1, gaps[0] + gaps[1] + gaps[2] - 1}; !ok || !slices.Equal(list, want) {
			t.Errorf("FromGaps(%v) = %v, %v", gaps, list, ok)
		}
		numbers := gaps
		again, ok := impl.GapsOf(numbers)
		if numbers[0] < 0 || numbers[1] <= numbers[0] || numbers[2] <= numbers[1] {
			mustFailList(t, "GapsOf numbers that do not rise", again, ok)
		} else if want := []int{numbers[0] + 1, numbers[1] - numbers[0], numbers[2] - numbers[1]}; !ok || !slices.Equal(again, want) {
			t.Errorf("GapsOf(%v) = %v, %v", numbers, again, ok)
		}
	}
}

func TestExampleOfCodes(t *testing.T) {
	if b, ok := impl.EncodeGamma([]int{5}); !ok || !sameBits(b, "00110") {
		t.Error("the gamma code of 5 is 00110", b)
	}
	if b, ok := impl.EncodeDelta([]int{5}); !ok || !sameBits(b, "01110") {
		t.Error("the delta code of 5 is 01110", b)
	}
}
