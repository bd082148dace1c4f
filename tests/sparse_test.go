package tests

import (
	"maps"
	"math"
	"slices"
	"strconv"
	"strings"
	"testing"

	"loop.example/g01097/impl"
)

// The tests of this file are for promise 3: sparse vectors.

// plainWidth returns the width of count numbers for a limit, from the greatest one down.
func plainWidth(count int, limit int) int {
	for width := 20; width > 0; width-- {
		if max(count, 1)*(1<<width) <= limit {
			return width
		}
	}
	return 0
}

// sparse returns the Sparse of sorted numbers for a limit, written by the document's definition alone.
func sparse(list []int, limit int) impl.Sparse {
	width := plainWidth(len(list), limit)
	low := ""
	high := []byte(strings.Repeat("0", len(list)+(limit-1)/(1<<width)+1))
	for i, n := range list {
		low += fieldText(width, n%(1<<width))
		high[n/(1<<width)+i] = '1'
	}
	return impl.Sparse{Count: len(list), Limit: limit, Width: width, Low: pack(low), High: pack(string(high))}
}

// sameBitVectors reports whether two vectors have the same bits.
func sameBitVectors(a impl.Bits, b impl.Bits) bool {
	return a.Size == b.Size && slices.Equal(a.Words, b.Words)
}

// sameSparse reports whether s is just the Sparse of sorted numbers for a limit.
func sameSparse(s impl.Sparse, list []int, limit int) bool {
	want := sparse(list, limit)
	return s.Count == want.Count && s.Limit == want.Limit && s.Width == want.Width && sameBitVectors(s.Low, want.Low) && sameBitVectors(s.High, want.High)
}

// sorted tells sorted numbers for a limit.
type sorted struct {
	list  []int
	limit int
}

// scattered returns so many sorted numbers for a limit in no plain order, different for each number.
func scattered(count int, limit int, number int) sorted {
	list := make([]int, count)
	state := uint32(number)*2654435761 + 54321
	for i := range list {
		state = state*1664525 + 1013904223
		list[i] = int(state>>4) % limit
	}
	slices.Sort(list)
	return sorted{list, limit}
}

// someSorted returns sorted numbers: none, equal ones, widths of 0, and the limits of the chapter met exactly.
func someSorted() []sorted {
	all := []sorted{{[]int{3, 5, 21}, 24}, {[]int{0}, 1}, {[]int{0, 0, 1, 1}, 2}, {[]int{0, 1, 2, 3, 4, 5, 6}, 7}, {[]int{5, 5, 5, 5, 9}, 10},
		{slices.Repeat([]int{0}, impl.MaxCount), 1}, {slices.Repeat([]int{0}, impl.MaxCount), impl.MaxLimit},
		{slices.Repeat([]int{impl.MaxLimit - 1}, impl.MaxCount), impl.MaxLimit}, {slices.Repeat([]int{59}, impl.MaxCount), 60}}
	for _, limit := range []int{1, 2, 3, 15, 16, 17, 24, 65535, 65536, 65537, impl.MaxLimit - 1, impl.MaxLimit} {
		all = append(all, sorted{nil, limit}, sorted{[]int{0}, limit}, sorted{[]int{limit - 1}, limit}, sorted{[]int{0, limit - 1}, limit}, sorted{[]int{limit - 1, limit - 1}, limit})
	}
	for i, count := range []int{1, 2, 5, 16, 31, 59, impl.MaxCount} {
		for k, limit := range []int{1, count, count + 1, 2*count - 1, 2 * count, 2*count + 1, 100, 1000, impl.MaxLimit} {
			all = append(all, scattered(count, limit, 10*i+k))
		}
	}
	return all
}

// smallSorted returns all sorted numbers of at most so many for a limit.
func smallSorted(most int, limit int) []sorted {
	all := []sorted{{nil, limit}}
	for i := 0; i < len(all); i++ {
		list := all[i].list
		from := 0
		if len(list) > 0 {
			from = list[len(list)-1]
		}
		for n := from; n < limit && len(list) < most; n++ {
			all = append(all, sorted{append(slices.Clone(list), n), limit})
		}
	}
	return all
}

// unsorted returns lists that are no sorted numbers for a limit, by what is wrong.
func unsorted() map[string]sorted {
	return map[string]sorted{
		"no limit":                  {nil, 0},
		"limit below 0":             {nil, -1},
		"least limit":               {nil, math.MinInt},
		"limit beyond the greatest": {nil, impl.MaxLimit + 1},
		"greatest limit":            {nil, math.MaxInt},
		"number for no limit":       {[]int{0}, 0},
		"limit too large":           {[]int{0}, impl.MaxLimit + 1},
		"number at the limit":       {[]int{24}, 24},
		"number at the limit 1":     {[]int{1}, 1},
		"last at the limit":         {[]int{3, 5, 24}, 24},
		"number at MaxLimit":        {[]int{impl.MaxLimit}, impl.MaxLimit},
		"greatest number":           {[]int{math.MaxInt}, 24},
		"last is the greatest":      {[]int{3, math.MaxInt}, 24},
		"number below 0":            {[]int{-1}, 24},
		"first below 0":             {[]int{-1, 3}, 24},
		"least number":              {[]int{math.MinInt}, 24},
		"first is the least":        {[]int{math.MinInt, 3}, 24},
		"last below 0":              {[]int{3, -1}, 24},
		"decreasing":                {[]int{5, 3}, 24},
		"decreasing by 1":           {[]int{3, 2}, 24},
		"last decreases":            {[]int{3, 5, 4}, 24},
		"middle decreases":          {[]int{3, 2, 21}, 24},
		"middle beyond the limit":   {[]int{3, 30, 21}, 24},
		"too many":                  {make([]int, impl.MaxCount+1), 24},
		"too many for MaxLimit":     {make([]int, impl.MaxCount+1), impl.MaxLimit},
		"far too many":              {make([]int, 100000), 24},
	}
}

// badSparses returns values that are no Sparse, by what is wrong.
func badSparses() map[string]impl.Sparse {
	bad := map[string]impl.Sparse{
		"zero value":              {},
		"no limit":                {High: pack("0")},
		"count 61":                {Count: 61, Limit: 100, Width: 0, High: pack(strings.Repeat("1", 61) + strings.Repeat("0", 100))},
		"limit 100001":            {Limit: impl.MaxLimit + 1, Width: 16, High: pack("00")},
		"least limit":             {Limit: math.MinInt, High: pack("0")},
		"greatest limit":          {Limit: math.MaxInt, Width: 62, High: pack("00")},
		"number at the limit":     {Count: 1, Limit: 3, Width: 1, Low: pack("1"), High: pack("010")},
		"number behind the limit": {Count: 3, Limit: 24, Width: 3, Low: pack("110101101"), High: pack("110001")},
		"equal halves decrease":   {Count: 3, Limit: 24, Width: 3, Low: pack("101110101"), High: pack("110010")},
		"last halves decrease":    {Count: 2, Limit: 24, Width: 3, Low: pack("100000"), High: pack("00110")},
	}
	for _, n := range []sorted{{[]int{3, 5, 21}, 24}, {nil, 24}, {[]int{0, 0, 1}, 2}, {[]int{0}, 1}, scattered(60, impl.MaxLimit, 3)} {
		maps.Copy(bad, spoiledSparse(sparse(n.list, n.limit)))
	}
	return bad
}

// spoiledSparse returns a Sparse with one of its fields changed.
func spoiledSparse(good impl.Sparse) map[string]impl.Sparse {
	bad := map[string]impl.Sparse{}
	what := " of " + strconv.Itoa(good.Count) + " numbers for " + strconv.Itoa(good.Limit)
	add := func(name string, change func(s *impl.Sparse)) {
		s := good
		change(&s)
		bad[name+what] = s
	}
	for _, n := range []int{math.MinInt, -1, good.Count - 1, good.Count + 1, impl.MaxCount + 1, math.MaxInt} {
		add("Count "+strconv.Itoa(n), func(s *impl.Sparse) { s.Count = n })
	}
	for _, n := range []int{math.MinInt, -good.Width - 1, good.Width - 1, good.Width + 1, 25, 64, math.MaxInt} {
		add("Width "+strconv.Itoa(n), func(s *impl.Sparse) { s.Width = n })
	}
	for _, n := range []int{math.MinInt, -1, 0, 4 * good.Limit, impl.MaxLimit + 1, math.MaxInt} {
		add("Limit "+strconv.Itoa(n), func(s *impl.Sparse) { s.Limit = n })
	}
	for name, b := range badVectors() {
		add("Low, "+name, func(s *impl.Sparse) { s.Low = b })
		add("High, "+name, func(s *impl.Sparse) { s.High = b })
	}
	for name, b := range resized(good.Low) {
		add("Low "+name, func(s *impl.Sparse) { s.Low = b })
	}
	for name, b := range resized(good.High) {
		add("High "+name, func(s *impl.Sparse) { s.High = b })
	}
	for i := range good.High.Size {
		high := good.High
		high.Words = slices.Clone(high.Words)
		high.Words[i/16] ^= 1 << (i % 16)
		add("High with the bit "+strconv.Itoa(i)+" changed", func(s *impl.Sparse) { s.High = high })
	}
	return bad
}

// resized returns vectors that are nearly b, but have other sizes or another number of words.
func resized(b impl.Bits) map[string]impl.Bits {
	text := ""
	for i := range b.Size {
		text += strconv.Itoa(b.Words[i/16] >> (i % 16) & 1)
	}
	bad := map[string]impl.Bits{
		"with a bit off too many":     pack(text + "0"),
		"with a bit on too many":      pack(text + "1"),
		"with a bit off before":       pack("0" + text),
		"with a word too many":        {Size: b.Size, Words: append(slices.Clone(b.Words), 0)},
		"with 16 bits off too many":   pack(text + strings.Repeat("0", 16)),
		"with a size below 0":         {Size: -b.Size - 1, Words: b.Words},
		"with the greatest size":      {Size: math.MaxInt, Words: b.Words},
		"with the most bits":          pack(text + strings.Repeat("0", impl.MaxBits-b.Size)),
		"with more than the most":     pack(text + strings.Repeat("0", impl.MaxBits-b.Size+1)),
		"with all bits of the most":   pack(strings.Repeat("1", impl.MaxBits)),
		"with a bit on behind Size":   {Size: b.Size, Words: append(slices.Clone(b.Words), 1)},
		"with a last word that grows": {Size: b.Size, Words: append(slices.Clone(b.Words[:max(0, len(b.Words)-1)]), 65536)},
	}
	if b.Size > 0 {
		bad["with a bit less"] = pack(text[:b.Size-1])
		bad["without the first bit"] = pack(text[1:])
		bad["without bits"] = impl.Bits{}
		bad["without words"] = impl.Bits{Size: b.Size}
	}
	return bad
}

// mustFailSparse checks that a call failed with the zero Sparse.
func mustFailSparse(t *testing.T, what string, s impl.Sparse, ok bool) {
	t.Helper()
	if ok || s.Count != 0 || s.Limit != 0 || s.Width != 0 || s.Low.Size != 0 || len(s.Low.Words) != 0 || s.High.Size != 0 || len(s.High.Words) != 0 {
		t.Errorf("%s: got %v, %v; it must fail with the zero Sparse", what, s, ok)
	}
}

func TestWidthFor(t *testing.T) {
	for count := range impl.MaxCount + 1 {
		limits := []int{1, 2, 3, impl.MaxLimit - 1, impl.MaxLimit}
		for power := 1; max(count, 1)*power <= impl.MaxLimit; power *= 2 {
			limits = append(limits, max(count, 1)*power-1, max(count, 1)*power, max(count, 1)*power+1)
		}
		for _, limit := range limits {
			width, ok := impl.WidthFor(count, limit)
			if limit < 1 {
				mustFail(t, "WidthFor the limit "+strconv.Itoa(limit), width, ok)
			} else if !ok || width != plainWidth(count, limit) {
				t.Errorf("WidthFor(%d, %d) = %d, %v", count, limit, width, ok)
			}
		}
		for _, limit := range []int{0, -1, -count, impl.MaxLimit + 1, 1 << 40, math.MinInt, math.MaxInt} {
			width, ok := impl.WidthFor(count, limit)
			mustFail(t, "WidthFor the limit "+strconv.Itoa(limit), width, ok)
		}
	}
	for _, count := range outside(impl.MaxCount) {
		for _, limit := range []int{1, 24, impl.MaxLimit} {
			width, ok := impl.WidthFor(count, limit)
			mustFail(t, "WidthFor the count "+strconv.Itoa(count), width, ok)
		}
	}
	for _, w := range [][3]int{{0, 1, 0}, {0, 24, 4}, {0, impl.MaxLimit, 16}, {1, impl.MaxLimit, 16}, {60, impl.MaxLimit, 10}, {60, 59, 0}, {60, 60, 0}, {60, 119, 0}, {60, 120, 1}, {3, 24, 3}, {3, 23, 2}} {
		if width, ok := impl.WidthFor(w[0], w[1]); !ok || width != w[2] {
			t.Errorf("WidthFor(%d, %d) = %d, %v; want %d", w[0], w[1], width, ok, w[2])
		}
	}
}

func TestBuildSparse(t *testing.T) {
	for _, n := range someSorted() {
		if s, ok := impl.BuildSparse(n.list, n.limit); !ok || !sameSparse(s, n.list, n.limit) {
			t.Errorf("BuildSparse(%v, %d) = %v, %v", n.list, n.limit, s, ok)
		}
	}
	for limit := 1; limit <= 9; limit++ {
		for _, n := range smallSorted(4, limit) {
			if s, ok := impl.BuildSparse(n.list, limit); !ok || !sameSparse(s, n.list, limit) {
				t.Fatalf("BuildSparse(%v, %d) = %v, %v", n.list, limit, s, ok)
			}
		}
	}
	for what, n := range unsorted() {
		s, ok := impl.BuildSparse(n.list, n.limit)
		mustFailSparse(t, "BuildSparse, "+what, s, ok)
	}
}

func TestIsSparse(t *testing.T) {
	for _, n := range someSorted() {
		if !impl.IsSparse(sparse(n.list, n.limit)) {
			t.Errorf("this is the Sparse of %v for %d", n.list, n.limit)
		}
	}
	if !impl.IsSparse(impl.Sparse{Limit: 1, Low: impl.Bits{Words: []int{}}, High: pack("0")}) {
		t.Error("there may be no numbers")
	}
	for what, s := range badSparses() {
		if impl.IsSparse(s) {
			t.Errorf("%s: %v is no Sparse", what, s)
		}
	}
}

// sparseName returns a text that differs for different values of Sparse.
func sparseName(s impl.Sparse) string {
	name := ""
	for _, list := range [][]int{{s.Count, s.Limit, s.Width, s.Low.Size, s.High.Size}, s.Low.Words, s.High.Words} {
		for _, n := range list {
			name += strconv.Itoa(n) + " "
		}
		name += "|"
	}
	return name
}

func TestIsSparseOfAllSmallValues(t *testing.T) {
	valid := map[string]bool{}
	for limit := 1; limit <= 5; limit++ {
		for _, n := range smallSorted(3, limit) {
			valid[sparseName(sparse(n.list, limit))] = true
		}
	}
	var lows, highs []string
	for length := range 4 {
		lows = append(lows, allTexts(length)...)
	}
	for length := range 9 {
		highs = append(highs, allTexts(length)...)
	}
	found := 0
	for i := range 4 * 6 * 4 {
		for _, low := range lows {
			for _, high := range highs {
				s := impl.Sparse{Count: i % 4, Limit: i / 4 % 6, Width: i / 24, Low: pack(low), High: pack(high)}
				if impl.IsSparse(s) != valid[sparseName(s)] {
					t.Fatalf("IsSparse(%v) with the bits %s and %s must be %v", s, low, high, valid[sparseName(s)])
				}
				if valid[sparseName(s)] {
					found++
				}
			}
		}
	}
	if found != len(valid) {
		t.Errorf("%d values are sparse, but %d were seen", len(valid), found)
	}
}

func TestSparseNumbers(t *testing.T) {
	for _, n := range someSorted() {
		s := sparse(n.list, n.limit)
		if list, ok := impl.SparseList(s); !ok || !slices.Equal(list, n.list) {
			t.Errorf("SparseList of %v for %d = %v, %v", n.list, n.limit, list, ok)
		}
		for i, want := range n.list {
			if got, ok := impl.SparseAt(s, i); !ok || got != want {
				t.Errorf("SparseAt(%d) of %v for %d = %d, %v", i, n.list, n.limit, got, ok)
			}
		}
		for _, i := range append(outside(len(n.list)), len(n.list)) {
			got, ok := impl.SparseAt(s, i)
			mustFail(t, "SparseAt "+strconv.Itoa(i), got, ok)
		}
		if bits, ok := impl.SparseBits(s); !ok || bits != s.Low.Size+s.High.Size {
			t.Errorf("SparseBits of %v for %d = %d, %v", n.list, n.limit, bits, ok)
		}
	}
	if bits, ok := impl.SparseBits(sparse([]int{3, 5, 21}, 24)); !ok || bits != 15 {
		t.Error("9 and 6 bits are 15", bits)
	}
}

// nearby returns numbers in 0..limit at and around those of a list, and those at both ends.
func nearby(list []int, limit int) []int {
	var all []int
	for _, n := range append([]int{0, limit / 2, limit}, list...) {
		for x := max(0, n-2); x <= min(limit, n+2); x++ {
			all = append(all, x)
		}
	}
	slices.Sort(all)
	return slices.Compact(all)
}

// plainBelow returns how many numbers of a list are less than x.
func plainBelow(list []int, x int) int {
	below := 0
	for _, n := range list {
		if n < x {
			below++
		}
	}
	return below
}

// checkAsked compares the answers of a Sparse about x with those of its sorted numbers; x is less than the limit.
func checkAsked(t *testing.T, n sorted, s impl.Sparse, x int) {
	t.Helper()
	what := strconv.Itoa(x) + " in " + strconv.Itoa(len(n.list)) + " numbers for " + strconv.Itoa(n.limit)
	last, ok := impl.LastAtMost(s, x)
	if want := plainBelow(n.list, x+1) - 1; want < 0 {
		mustFail(t, "LastAtMost "+what, last, ok)
	} else if !ok || last != want {
		t.Errorf("LastAtMost %s = %d, %v; want %d", what, last, ok, want)
	}
	first, ok := impl.FirstAtLeast(s, x)
	if want := plainBelow(n.list, x); want == len(n.list) {
		mustFail(t, "FirstAtLeast "+what, first, ok)
	} else if !ok || first != want {
		t.Errorf("FirstAtLeast %s = %d, %v; want %d", what, first, ok, want)
	}
	if has, ok := impl.HasNumber(s, x); !ok || has != slices.Contains(n.list, x) {
		t.Errorf("HasNumber %s = %v, %v", what, has, ok)
	}
}

func TestAskedAboutNumbers(t *testing.T) {
	all := someSorted()
	for limit := 1; limit <= 7; limit++ {
		all = append(all, smallSorted(3, limit)...)
	}
	for _, n := range all {
		s := sparse(n.list, n.limit)
		for _, x := range nearby(n.list, n.limit) {
			if below, ok := impl.CountBelow(s, x); !ok || below != plainBelow(n.list, x) {
				t.Errorf("CountBelow(%d) of %v for %d = %d, %v", x, n.list, n.limit, below, ok)
			}
			if x < n.limit {
				checkAsked(t, n, s, x)
			}
		}
		for _, x := range append(outside(n.limit), n.limit) {
			what := " " + strconv.Itoa(x) + " for " + strconv.Itoa(n.limit)
			if x != n.limit {
				below, ok := impl.CountBelow(s, x)
				mustFail(t, "CountBelow"+what, below, ok)
			}
			last, ok := impl.LastAtMost(s, x)
			mustFail(t, "LastAtMost"+what, last, ok)
			first, ok := impl.FirstAtLeast(s, x)
			mustFail(t, "FirstAtLeast"+what, first, ok)
			has, ok := impl.HasNumber(s, x)
			if has || ok {
				t.Errorf("HasNumber%s must fail", what)
			}
		}
	}
}

func TestSlicesAreMergedAgain(t *testing.T) {
	for _, n := range someSorted() {
		s := sparse(n.list, n.limit)
		for from := range len(n.list) + 1 {
			for until := from; until <= len(n.list); until += 1 + len(n.list)/12 {
				if part, ok := impl.SliceSparse(s, from, until); !ok || !sameSparse(part, n.list[from:until], n.limit) {
					t.Fatalf("SliceSparse(%d, %d) of %v for %d = %v, %v", from, until, n.list, n.limit, part, ok)
				}
			}
			first, _ := impl.SliceSparse(s, 0, from)
			second, _ := impl.SliceSparse(s, from, len(n.list))
			for _, parts := range [][2]impl.Sparse{{first, second}, {second, first}} {
				if whole, ok := impl.MergeSparse(parts[0], parts[1]); !ok || !sameSparse(whole, n.list, n.limit) {
					t.Fatalf("the parts of %v for %d at %d give %v, %v", n.list, n.limit, from, whole, ok)
				}
			}
		}
		for _, r := range badRanges(len(n.list)) {
			part, ok := impl.SliceSparse(s, r[0], r[1])
			mustFailSparse(t, "SliceSparse from "+strconv.Itoa(r[0])+" until "+strconv.Itoa(r[1]), part, ok)
		}
	}
}

// pairsOfSorted returns pairs of sorted numbers, with equal and with different limits, in both orders.
func pairsOfSorted() [][2]sorted {
	some := []sorted{{nil, 1}, {nil, impl.MaxLimit}, {[]int{0}, 1}, {[]int{3, 5, 21}, 24}, {[]int{3, 3, 5, 5, 22}, 23}, {[]int{21, 21, 99}, 100}, {[]int{1, 3, 5, 7, 9}, 10},
		{[]int{0, 2, 4, 6, 8}, 10}, {[]int{99999}, impl.MaxLimit}, {[]int{0, 0, 0}, 1}, scattered(20, 40, 1), scattered(30, 41, 2), scattered(30, impl.MaxLimit, 3), scattered(31, 50, 4), scattered(60, 60, 5)}
	for limit := 1; limit <= 3; limit++ {
		some = append(some, smallSorted(3, limit)...)
	}
	var pairs [][2]sorted
	for _, a := range some {
		for _, b := range some {
			pairs = append(pairs, [2]sorted{a, b})
		}
	}
	return pairs
}

func TestMergeSparse(t *testing.T) {
	for _, pair := range pairsOfSorted() {
		a, b := pair[0], pair[1]
		merged, ok := impl.MergeSparse(sparse(a.list, a.limit), sparse(b.list, b.limit))
		want := append(slices.Clone(a.list), b.list...)
		slices.Sort(want)
		if len(want) > impl.MaxCount {
			mustFailSparse(t, "MergeSparse of "+strconv.Itoa(len(want)), merged, ok)
		} else if !ok || !sameSparse(merged, want, max(a.limit, b.limit)) {
			t.Errorf("MergeSparse of %v and %v = %v, %v", a, b, merged, ok)
		}
	}
	for count := range impl.MaxCount + 1 {
		all := scattered(impl.MaxCount+1, 500, count)
		first, second := sparse(all.list[:count], 500), sparse(all.list[count:impl.MaxCount], 500)
		if merged, ok := impl.MergeSparse(first, second); !ok || !sameSparse(merged, all.list[:impl.MaxCount], 500) {
			t.Errorf("%d and %d numbers are merged to %v, %v", count, impl.MaxCount-count, merged, ok)
		}
		if count > 0 {
			merged, ok := impl.MergeSparse(first, sparse(all.list[count:], 500))
			mustFailSparse(t, "one number too many", merged, ok)
		}
	}
}

func TestMeetSparse(t *testing.T) {
	for _, pair := range pairsOfSorted() {
		a, b := pair[0], pair[1]
		meet, ok := impl.MeetSparse(sparse(a.list, a.limit), sparse(b.list, b.limit))
		var want []int
		for n := range max(a.limit, b.limit) {
			if slices.Contains(a.list, n) && slices.Contains(b.list, n) {
				want = append(want, n)
			}
		}
		if !ok || !slices.Equal(meet, want) {
			t.Errorf("MeetSparse of %v and %v = %v, %v; want %v", a, b, meet, ok, want)
		}
	}
}

func TestSparsesOutOfForm(t *testing.T) {
	queries := map[string]func(s impl.Sparse, n int) (int, bool){
		"SparseAt": impl.SparseAt, "CountBelow": impl.CountBelow, "LastAtMost": impl.LastAtMost, "FirstAtLeast": impl.FirstAtLeast,
		"SparseBits": func(s impl.Sparse, n int) (int, bool) { return impl.SparseBits(s) },
	}
	good := []impl.Sparse{sparse(nil, 24), sparse([]int{3, 5, 21}, 24), sparse([]int{0}, 1)}
	for what, bad := range badSparses() {
		for name, query := range queries {
			for _, n := range []int{0, 1, 3, 23, bad.Limit - 1} {
				i, ok := query(bad, n)
				mustFail(t, name+" of "+strconv.Itoa(n)+", "+what, i, ok)
			}
		}
		has, ok := impl.HasNumber(bad, 0)
		mustFail(t, "HasNumber, "+what, has, ok)
		has, ok = impl.HasNumber(bad, 3)
		mustFail(t, "HasNumber, "+what, has, ok)
		list, ok := impl.SparseList(bad)
		mustFailList(t, "SparseList, "+what, list, ok)
		for _, until := range []int{0, 1, bad.Count} {
			part, ok := impl.SliceSparse(bad, 0, until)
			mustFailSparse(t, "SliceSparse, "+what, part, ok)
		}
		for _, other := range append(good, bad) {
			for _, pair := range [][2]impl.Sparse{{bad, other}, {other, bad}} {
				merged, ok := impl.MergeSparse(pair[0], pair[1])
				mustFailSparse(t, "MergeSparse, "+what, merged, ok)
				meet, ok := impl.MeetSparse(pair[0], pair[1])
				mustFailList(t, "MeetSparse, "+what, meet, ok)
			}
		}
	}
}

func TestExampleOfSparse(t *testing.T) {
	s, ok := impl.BuildSparse([]int{3, 5, 21}, 24)
	if !ok || s.Count != 3 || s.Limit != 24 || s.Width != 3 || !sameBits(s.Low, "110101101") || !sameBits(s.High, "110010") {
		t.Error("the width is 3, Low is 110101101 and High is 110010", s)
	}
}

func TestLimitsOfNumbers(t *testing.T) {
	if impl.MaxCount != 60 || impl.MaxLimit != 100000 {
		t.Error("these are not the limits of the document", impl.MaxCount, impl.MaxLimit)
	}
}
