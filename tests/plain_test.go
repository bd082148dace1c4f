package tests

import (
	"math"
	"slices"
	"strconv"
	"strings"
	"testing"

	"loop.example/g01097/impl"
)

// The tests compare the program with vectors written as text, which these helpers
// pack and read by the document's definition alone, without the program's functions.

// pack returns the vector with a text of the characters 0 and 1; no characters are no bits.
func pack(text string) impl.Bits {
	words := make([]int, (len(text)+15)/16)
	for i, c := range text {
		if c == '1' {
			words[i/16] += 1 << (i % 16)
		}
	}
	return impl.Bits{Size: len(text), Words: words}
}

// sameBits reports whether b is just the vector with a text.
func sameBits(b impl.Bits, text string) bool {
	want := pack(text)
	return b.Size == want.Size && slices.Equal(b.Words, want.Words)
}

// valueOf returns the value of the field that a text is.
func valueOf(text string) int {
	value := 0
	for i, c := range text {
		if c == '1' {
			value += 1 << i
		}
	}
	return value
}

// fieldText returns the text of a field with a width and a value.
func fieldText(width int, value int) string {
	text := make([]byte, width)
	for i := range text {
		text[i] = byte('0' + value%2)
		value /= 2
	}
	return string(text)
}

// mixed returns a text of a length with characters in no plain order, different for each number.
func mixed(length int, number int) string {
	text := make([]byte, length)
	state := uint32(number)*2654435761 + 12345
	for i := range text {
		state = state*1664525 + 1013904223
		text[i] = '0' + byte(state>>24&1)
	}
	return string(text)
}

// texts returns vectors around the borders of words: all off, all on, by turns, and mixed.
func texts() []string {
	var all []string
	for _, size := range []int{0, 1, 2, 15, 16, 17, 31, 32, 33, 47, 48, 49, 70} {
		all = append(all, strings.Repeat("0", size), strings.Repeat("1", size),
			strings.Repeat("10", size)[:size], mixed(size, 1), mixed(size, 2))
	}
	return all
}

// badVectors returns values that are no bit vectors, by what is wrong.
func badVectors() map[string]impl.Bits {
	return map[string]impl.Bits{
		"size -1":                   {Size: -1},
		"size -1 with a word":       {Size: -1, Words: []int{0}},
		"size -16 with a word":      {Size: -16, Words: []int{0}},
		"least size":                {Size: math.MinInt},
		"greatest size":             {Size: math.MaxInt},
		"greatest size with words":  {Size: math.MaxInt, Words: make([]int, 257)},
		"size beyond the limit":     {Size: impl.MaxBits + 1, Words: make([]int, 257)},
		"full words beyond limit":   {Size: impl.MaxBits + 16, Words: make([]int, 257)},
		"no words":                  {Size: 1},
		"word for no bits":          {Size: 0, Words: []int{0}},
		"too few words":             {Size: 17, Words: []int{1}},
		"too many words":            {Size: 16, Words: []int{1, 0}},
		"too many words behind 17":  {Size: 17, Words: []int{1, 0, 0}},
		"word below 0":              {Size: 16, Words: []int{-1}},
		"least word":                {Size: 16, Words: []int{math.MinInt}},
		"word 65536":                {Size: 16, Words: []int{65536}},
		"greatest word":             {Size: 16, Words: []int{math.MaxInt}},
		"first word 65536":          {Size: 32, Words: []int{65536, 1}},
		"first word below 0":        {Size: 32, Words: []int{-1, 1}},
		"middle word 65536":         {Size: 48, Words: []int{1, 65536, 1}},
		"bit behind a size of 1":    {Size: 1, Words: []int{2}},
		"bit behind a size of 15":   {Size: 15, Words: []int{32768}},
		"bit behind a size of 17":   {Size: 17, Words: []int{0, 2}},
		"far bit behind 17":         {Size: 17, Words: []int{0, 32768}},
		"last word below 0":         {Size: 20, Words: []int{0, -1}},
		"last word 65536":           {Size: 20, Words: []int{0, 65536}},
		"bit behind nearly maximal": {Size: impl.MaxBits - 1, Words: append(make([]int, 255), 32768)},
	}
}

// mustFailBits checks that a call failed with the zero vector.
func mustFailBits(t *testing.T, what string, b impl.Bits, ok bool) {
	t.Helper()
	if ok || b.Size != 0 || len(b.Words) != 0 {
		t.Errorf("%s: got %v, %v; it must fail with the zero vector", what, b, ok)
	}
}

// mustFail checks that a call failed with the zero value.
func mustFail[T comparable](t *testing.T, what string, value T, ok bool) {
	t.Helper()
	var zero T
	if ok || value != zero {
		t.Errorf("%s: got %v, %v; it must fail with the zero value", what, value, ok)
	}
}

// mustFailList checks that a call failed with no list.
func mustFailList[T any](t *testing.T, what string, list []T, ok bool) {
	t.Helper()
	if ok || len(list) != 0 {
		t.Errorf("%s: got %v, %v; it must fail without a list", what, list, ok)
	}
}

// badSeedRanges are the first numbers of ranges in which no seed is looked for, and the numbers behind them.
var badSeedRanges = [][2]int{{-1, 0}, {-1, 1}, {-1, 99}, {1, 0}, {5, 4}, {0, 101}, {0, 10000}, {9900, 10001}, {9901, 10001}, {10000, 10001}, {10001, 10001}, {10001, 10002}, {10001, 10000},
	{0, -1}, {math.MinInt, math.MinInt}, {math.MinInt, math.MinInt + 1}, {math.MinInt, 0}, {math.MinInt, math.MaxInt}, {math.MaxInt, math.MinInt}, {0, math.MaxInt}, {0, math.MinInt},
	{math.MaxInt, math.MaxInt}, {math.MaxInt - 1, math.MaxInt}, {math.MaxInt, 0}, {math.MaxInt - 99, math.MinInt}}

// mustBeFirst checks that a call told the first number in from..until - 1 that suits, or failed if there is none.
func mustBeFirst(t *testing.T, what string, from int, until int, suits func(n int) bool, n int, ok bool) {
	t.Helper()
	want := from
	for want < until && !suits(want) {
		want++
	}
	what += ", from " + strconv.Itoa(from) + " until " + strconv.Itoa(until)
	if want == until {
		mustFail(t, what, n, ok)
	} else if !ok || n != want {
		t.Errorf("%s = %d, %v; want %d", what, n, ok, want)
	}
}

// mustBeLeast checks that a call tells, for each limit up to the greatest one, the least number in 1..limit that suits, or fails if there is none; it returns that number, or one beyond the greatest limit.
func mustBeLeast(t *testing.T, what string, greatest int, suits func(n int) bool, call func(most int) (int, bool)) int {
	t.Helper()
	least := 1
	for least <= greatest && !suits(least) {
		least++
	}
	for most := 1; most <= greatest; most++ {
		told, ok := call(most)
		mustBeFirst(t, what, 1, most+1, func(n int) bool { return n == least }, told, ok)
	}
	return least
}
