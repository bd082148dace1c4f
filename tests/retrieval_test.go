package tests

import (
	"math"
	"slices"
	"strconv"
	"testing"

	"loop.example/g01097/impl"
)

// The tests of this file are for promise 7: tables that give each key its value.

// outsideWidths are numbers that are no widths of values.
var outsideWidths = []int{math.MinInt, -1, 0, impl.MaxValueWidth + 1, 63, 64, math.MaxInt}

// sumOfCells returns the sum over two elements of the cells at the places of an edge, found bit by bit.
func sumOfCells(cells []int, edge []int) int {
	sum := 0
	for bit := range 8 {
		on := 0
		for _, place := range edge {
			on += cells[place] >> bit % 2
		}
		sum += on % 2 << bit
	}
	return sum
}

// plainValue returns the value of a table for a key.
func plainValue(c impl.Table, key string) int {
	return sumOfCells(c.Cells, plainEdge(c.Seed, key, c.Segment))
}

// plainValues returns the values of a table for keys.
func plainValues(c impl.Table, keys []string) []int {
	values := make([]int, len(keys))
	for i, key := range keys {
		values[i] = plainValue(c, key)
	}
	return values
}

// valueCase is what a table is built of.
type valueCase struct {
	seed    int
	keys    []string
	values  []int
	segment int
	width   int
}

// name tells a case.
func (c valueCase) name() string {
	return strconv.Itoa(len(c.keys)) + " keys for the seed " + strconv.Itoa(c.seed) + ", the segment " + strconv.Itoa(c.segment) + " and the width " + strconv.Itoa(c.width)
}

// byPeeling returns TableByPeeling of a case.
func (c valueCase) byPeeling() (impl.Table, bool) {
	return impl.TableByPeeling(c.seed, c.keys, c.values, c.segment, c.width)
}

// bySolving returns TableBySolving of a case.
func (c valueCase) bySolving() (impl.Table, bool) {
	return impl.TableBySolving(c.seed, c.keys, c.values, c.segment, c.width)
}

// refusal returns TableRefusal of a case.
func (c valueCase) refusal() (int, []int, bool) {
	return impl.TableRefusal(c.seed, c.keys, c.values, c.segment, c.width)
}

// equations returns the system for a bit of the values.
func (c valueCase) equations(bit int) plainSystem {
	right := ""
	for _, value := range c.values {
		right += fieldText(8, value)[bit : bit+1]
	}
	return plainSystemOf(plainHyper(c.seed, c.keys, c.segment), right)
}

// plainByPeeling returns the table that is found step by step, the last step first.
func (c valueCase) plainByPeeling() (impl.Table, bool) {
	h := plainHyper(c.seed, c.keys, c.segment)
	steps, ok := plainOrder(h)
	if !ok {
		return impl.Table{}, false
	}
	cells := make([]int, 3*c.segment)
	slices.Reverse(steps)
	for _, step := range steps {
		cell := 0
		for sumOfCells(cells, h.Edges[step.Edge]) != c.values[step.Edge] {
			cell++
			cells[step.Place] = cell
		}
	}
	return impl.Table{Seed: c.seed, Segment: c.segment, Width: c.width, Cells: cells}, true
}

// plainBySolving returns the table whose bits are solutions, one for each bit of the values, if there is one.
func (c valueCase) plainBySolving() (impl.Table, bool) {
	cells := make([]int, 3*c.segment)
	for bit := range c.width {
		x, ok := c.equations(bit).solution()
		if !ok {
			return impl.Table{}, false
		}
		for place := range cells {
			cells[place] += int(x[place]-'0') << bit
		}
	}
	return impl.Table{Seed: c.seed, Segment: c.segment, Width: c.width, Cells: cells}, true
}

// someWidths are widths, the least and the greatest one among them.
var someWidths = []int{1, 2, 3, impl.MaxValueWidth - 1, impl.MaxValueWidth}

// valueLists returns values for so many keys: the least and the greatest ones, such that are on in one bit or for one key, and scattered ones.
func valueLists(count int, width int) [][]int {
	all := [][]int{make([]int, count), slices.Repeat([]int{1<<width - 1}, count), scatteredNumbers(count, 1<<width, count+width)}
	if count > 0 {
		one := make([]int, count)
		one[count-1] = 1 << (width - 1)
		all = append(all, slices.Repeat([]int{1 << (width - 1)}, count), one, scatteredNumbers(count, 1<<width, 99+width))
	}
	return all
}

// valueCases returns cases with all kinds of keys and values, the limits met exactly among them; some have a table by peeling, some by solving alone, and some none.
func valueCases() []valueCase {
	var all []valueCase
	for i, keys := range keyLists() {
		for k, seed := range []int{0, 77, impl.MaxSeed} {
			for j, segment := range []int{1, 2, 3, 6, 11, 14, 17, impl.MaxSegment} {
				width := someWidths[(i+k+j)%len(someWidths)]
				for _, values := range valueLists(len(keys), width) {
					all = append(all, valueCase{seed, keys, values, segment, width})
				}
			}
		}
	}
	return all
}

// someValueTables returns tables with cells of any kind, and built ones.
func someValueTables() []impl.Table {
	var all []impl.Table
	for segment := 1; segment <= impl.MaxSegment; segment++ {
		for width := 1; width <= impl.MaxValueWidth; width++ {
			all = append(all, impl.Table{Seed: segment * width, Segment: segment, Width: width, Cells: scatteredNumbers(3*segment, 1<<width, segment+width)})
		}
		all = append(all, impl.Table{Segment: segment, Width: 1, Cells: make([]int, 3*segment)},
			impl.Table{Seed: impl.MaxSeed, Segment: segment, Width: impl.MaxValueWidth, Cells: slices.Repeat([]int{255}, 3*segment)})
	}
	for i, c := range valueCases() {
		if built, ok := c.plainByPeeling(); ok && i%5 == 0 {
			all = append(all, built)
		}
	}
	return all
}

// badValueTables returns values that are no tables, by what is wrong.
func badValueTables() map[string]impl.Table {
	bad := map[string]impl.Table{"the zero value": {}}
	for _, segment := range []int{1, 2, 8, impl.MaxSegment} {
		for _, width := range []int{1, 2, 7, impl.MaxValueWidth} {
			what := " of the segment " + strconv.Itoa(segment) + " and the width " + strconv.Itoa(width)
			cells := slices.Repeat([]int{1<<width - 1}, 3*segment)
			for _, seed := range outsideSeeds {
				bad["seed "+strconv.Itoa(seed)+what] = impl.Table{Seed: seed, Segment: segment, Width: width, Cells: cells}
			}
			for i, other := range otherLengths(3*segment, 1) {
				bad["wrong length "+strconv.Itoa(i)+what] = impl.Table{Segment: segment, Width: width, Cells: other}
			}
			for _, n := range []int{math.MinInt, -1, 1 << width, 1<<width + 1, 256, math.MaxInt} {
				for i, other := range putInto(cells, n) {
					bad["cell "+strconv.Itoa(n)+" at "+strconv.Itoa(i)+what] = impl.Table{Segment: segment, Width: width, Cells: other}
				}
			}
		}
		for _, width := range outsideWidths {
			for _, cell := range []int{-1, 0, 1} {
				bad["width "+strconv.Itoa(width)+" with cells "+strconv.Itoa(cell)+" of the segment "+strconv.Itoa(segment)] = impl.Table{Segment: segment, Width: width, Cells: slices.Repeat([]int{cell}, 3*segment)}
			}
		}
	}
	for _, segment := range outsideSegments {
		for _, length := range []int{0, 1, 3, 3 * impl.MaxSegment, 3*impl.MaxSegment + 3} {
			bad["segment "+strconv.Itoa(segment)+" with cells "+strconv.Itoa(length)] = impl.Table{Segment: segment, Width: 2, Cells: make([]int, length)}
		}
	}
	return bad
}

// sameValues reports whether two tables are equal.
func sameValues(a impl.Table, b impl.Table) bool {
	return a.Seed == b.Seed && a.Segment == b.Segment && a.Width == b.Width && slices.Equal(a.Cells, b.Cells)
}

// mustFailValues checks that a call failed with the zero table.
func mustFailValues(t *testing.T, what string, c impl.Table, ok bool) {
	t.Helper()
	if ok || !sameValues(c, impl.Table{}) {
		t.Errorf("%s: got %v, %v; it must fail with the zero value", what, c, ok)
	}
}

// mustFailRefusal checks that TableRefusal failed with zero values.
func mustFailRefusal(t *testing.T, what string, bit int, list []int, ok bool) {
	t.Helper()
	mustFail(t, "TableRefusal: "+what, bit, ok)
	mustFailList(t, "TableRefusal: "+what, list, ok)
}

// hasValues reports whether a table gives each key its value.
func hasValues(table impl.Table, keys []string, values []int) bool {
	for i, key := range keys {
		if value, ok := impl.RetrieveValue(table, key); !ok || value != values[i] {
			return false
		}
	}
	return true
}

func TestIsTable(t *testing.T) {
	for _, c := range someValueTables() {
		if !impl.IsTable(c) {
			t.Error("this is a table", c)
		}
	}
	for _, seed := range []int{0, 1, impl.MaxSeed - 1, impl.MaxSeed} {
		if !impl.IsTable(impl.Table{Seed: seed, Segment: 1, Width: 1, Cells: []int{0, 1, 0}}) {
			t.Error("this is a seed", seed)
		}
	}
	for name, c := range badValueTables() {
		if impl.IsTable(c) {
			t.Error("this is no table:", name)
		}
	}
}

func TestRetrieveValue(t *testing.T) {
	for _, c := range someValueTables() {
		for _, key := range anyKeys() {
			if value, ok := impl.RetrieveValue(c, key); !ok || value != plainValue(c, key) || value >= 1<<c.Width {
				t.Fatal("the value of", c, "for", key, "is", plainValue(c, key), "not", value, ok)
			}
		}
		for _, key := range badKeys() {
			value, ok := impl.RetrieveValue(c, key)
			mustFail(t, "RetrieveValue for "+strconv.Quote(key), value, ok)
		}
	}
	for name, c := range badValueTables() {
		value, ok := impl.RetrieveValue(c, "a")
		mustFail(t, "RetrieveValue of "+name, value, ok)
	}
}

func TestValuesWithTheSegmentOne(t *testing.T) {
	// All keys have the same three places.
	for _, c := range []struct {
		cells []int
		value int
	}{{[]int{0, 0, 0}, 0}, {[]int{1, 0, 0}, 1}, {[]int{0, 2, 0}, 2}, {[]int{0, 0, 4}, 4}, {[]int{1, 1, 0}, 0}, {[]int{5, 5, 5}, 5}, {[]int{1, 2, 4}, 7}, {[]int{3, 5, 6}, 0}, {[]int{7, 7, 2}, 2}} {
		for _, key := range anyKeys() {
			if value, ok := impl.RetrieveValue(impl.Table{Seed: 9, Segment: 1, Width: 3, Cells: c.cells}, key); !ok || value != c.value {
				t.Error("the sum of", c.cells, "is", c.value, "not", value, ok)
			}
		}
	}
	for seed := range 20 {
		for value := range 256 {
			one := valueCase{seed, []string{"k"}, []int{value}, 1, 8}
			for _, build := range []func() (impl.Table, bool){one.byPeeling, one.bySolving} {
				if table, ok := build(); !ok || !sameValues(table, impl.Table{Seed: seed, Segment: 1, Width: 8, Cells: []int{value, 0, 0}}) {
					t.Fatal("a single key has its value at its first place", value, table, ok)
				}
			}
			two := valueCase{seed, []string{"a", "b"}, []int{value, 77}, 1, 8}
			table, ok := two.byPeeling()
			mustFailValues(t, "TableByPeeling of equal edges", table, ok)
			if table, ok = two.bySolving(); ok != (value == 77) || ok && !slices.Equal(table.Cells, []int{77, 0, 0}) {
				t.Fatal("two keys with the same places have a table just for equal values", value, table, ok)
			}
		}
	}
}

func TestTableByPeeling(t *testing.T) {
	built, refused := 0, 0
	for _, c := range valueCases() {
		want, exists := c.plainByPeeling()
		table, ok := c.byPeeling()
		if ok != exists || !sameValues(table, want) {
			t.Fatal("the table by peeling of", c.name(), "is", want, exists, "not", table, ok)
		}
		if !ok {
			refused++
			continue
		}
		built++
		if !impl.IsTable(table) || !hasValues(table, c.keys, c.values) {
			t.Fatal("a table gives each key its value", c.name(), table)
		}
	}
	if built < 300 || refused < 300 {
		t.Error("tables must have been built and refused", built, refused)
	}
}

func TestTableBySolving(t *testing.T) {
	built, refused, alone := 0, 0, 0
	for _, c := range valueCases() {
		want, exists := c.plainBySolving()
		table, ok := c.bySolving()
		if ok != exists || !sameValues(table, want) {
			t.Fatal("the table by solving of", c.name(), "is", want, exists, "not", table, ok)
		}
		if !ok {
			refused++
			continue
		}
		built++
		if !impl.IsTable(table) || !hasValues(table, c.keys, c.values) {
			t.Fatal("a table gives each key its value", c.name(), table)
		}
		if _, isPeeled := c.byPeeling(); !isPeeled {
			alone++
		}
	}
	if built < 300 || refused < 300 || alone < 100 {
		t.Error("tables must have been built and refused, and some have no peel order", built, refused, alone)
	}
}

func TestTablesAnswerAlike(t *testing.T) {
	differently := 0
	for _, c := range valueCases() {
		peeled, ok := c.byPeeling()
		if !ok {
			continue
		}
		solved, fine := c.bySolving()
		if !fine {
			t.Fatal("what is peeled can be solved", c.name())
		}
		for i, key := range c.keys {
			first, ok := impl.RetrieveValue(peeled, key)
			second, fine := impl.RetrieveValue(solved, key)
			if !ok || !fine || first != c.values[i] || second != c.values[i] {
				t.Fatal("both tables of", c.name(), "give the key", key, "its value", c.values[i], first, second)
			}
		}
		at, ok := impl.FirstDifference(peeled, solved, c.keys)
		mustFail(t, "FirstDifference of tables for the same values", at, ok)
		if !sameValues(peeled, solved) {
			differently++
		}
	}
	if differently < 50 {
		t.Error("some of the tables must have different cells", differently)
	}
}

func TestTableRefusal(t *testing.T) {
	refused, laterBits := 0, 0
	for _, c := range valueCases() {
		bit, list, ok := c.refusal()
		_, isBuilt := c.bySolving()
		if ok == isBuilt {
			t.Fatal("either a table of", c.name(), "is told or a refusal", bit, list, ok)
		}
		want := 0
		for want < c.width {
			if _, solved := c.equations(want).solution(); !solved {
				break
			}
			want++
		}
		if want == c.width {
			mustFailRefusal(t, c.name(), bit, list, ok)
			continue
		}
		_, refusal := c.equations(want).newRows()
		if !ok || bit != want || !slices.Equal(list, refusal) {
			t.Fatal("the rows", refusal, "refuse the bit", want, "of", c.name(), "not", list, bit, ok)
		}
		h, _ := impl.HyperOf(c.seed, c.keys, c.segment)
		var right []bool
		for _, value := range c.values {
			right = append(right, value>>bit%2 == 1)
		}
		s, fine := impl.SystemOf(h, right)
		if is, told := impl.IsRefusal(s, list); !fine || !told || !is {
			t.Fatal("the rows that are told refuse the values", c.name(), bit, list)
		}
		refused++
		if bit > 0 {
			laterBits++
		}
	}
	if refused < 300 || laterBits < 30 {
		t.Error("values must have been refused, some of them for later bits", refused, laterBits)
	}
}

func TestRefusalOfOneBit(t *testing.T) {
	for width := 1; width <= impl.MaxValueWidth; width++ {
		for bit := range width {
			// The values of three keys with the same places differ in this bit and in all later ones.
			c := valueCase{4, []string{"a", "b", "c"}, []int{1<<width - 1, 1<<width - 1, 1<<bit - 1}, 1, width}
			if told, list, ok := c.refusal(); !ok || told != bit || !slices.Equal(list, []int{0, 2}) {
				t.Error("the bit", bit, "is refused, not", told, list, ok)
			}
			c.values[1] = 0
			if told, list, ok := c.refusal(); !ok || told != 0 || !slices.Equal(list, []int{0, 1}) {
				t.Error("the least bit is refused, not", told, list, ok)
			}
			// Equal values of keys with the same places are never refused.
			c.values = []int{1 << bit, 1 << bit, 1 << bit}
			told, list, ok := c.refusal()
			mustFailRefusal(t, "equal values", told, list, ok)
		}
	}
}

func TestTablesWithoutKeys(t *testing.T) {
	for segment := 1; segment <= impl.MaxSegment; segment++ {
		for width := 1; width <= impl.MaxValueWidth; width++ {
			want := impl.Table{Seed: 5, Segment: segment, Width: width, Cells: make([]int, 3*segment)}
			for _, c := range []valueCase{{5, nil, nil, segment, width}, {5, []string{}, []int{}, segment, width}} {
				if table, ok := c.byPeeling(); !ok || !sameValues(table, want) {
					t.Error("without keys all cells are 0", table, ok)
				}
				if table, ok := c.bySolving(); !ok || !sameValues(table, want) {
					t.Error("without keys all cells are 0", table, ok)
				}
				bit, list, ok := c.refusal()
				mustFailRefusal(t, "no keys", bit, list, ok)
			}
			at, ok := impl.FirstDifference(want, impl.Table{Segment: 1, Width: 1, Cells: []int{1, 0, 0}}, nil)
			mustFail(t, "FirstDifference of no keys", at, ok)
			table, ok := impl.ChangeValue(want, nil, 0, 0)
			mustFailValues(t, "ChangeValue of no keys", table, ok)
		}
	}
}

func TestTablesOfMostKeys(t *testing.T) {
	// For the seed 77 there is a peel order of the most keys just with the greatest segment.
	c := valueCase{77, manyKeys(impl.MaxKeys), scatteredNumbers(impl.MaxKeys, 256, 1), impl.MaxSegment, impl.MaxValueWidth}
	for _, build := range []func() (impl.Table, bool){c.byPeeling, c.bySolving} {
		if table, ok := build(); !ok || len(table.Cells) != impl.MaxColumns || !hasValues(table, c.keys, c.values) {
			t.Error("there may be as many keys, places and bits as the limits", table, ok)
		}
	}
	c.values = slices.Repeat([]int{255}, impl.MaxKeys)
	for _, build := range []func() (impl.Table, bool){c.byPeeling, c.bySolving} {
		if table, ok := build(); !ok || !hasValues(table, c.keys, c.values) {
			t.Error("all keys may have the greatest value", table, ok)
		}
	}
	longer := valueCase{77, manyKeys(impl.MaxKeys + 1), make([]int, impl.MaxKeys+1), impl.MaxSegment, impl.MaxValueWidth}
	mustRefuseCase(t, "one key too many", longer)
}

// mustRefuseCase checks that nothing is built of an invalid case, and nothing told to refuse it.
func mustRefuseCase(t *testing.T, what string, c valueCase) {
	t.Helper()
	table, ok := c.byPeeling()
	mustFailValues(t, "TableByPeeling: "+what, table, ok)
	table, ok = c.bySolving()
	mustFailValues(t, "TableBySolving: "+what, table, ok)
	bit, list, ok := c.refusal()
	mustFailRefusal(t, what, bit, list, ok)
}

func TestTablesRefuse(t *testing.T) {
	// With the segment 1 all keys have the same places, so that there would be a refusal of 1 and 0.
	for _, keys := range [][]string{nil, {"a"}, {"a", "b"}} {
		for _, value := range []int{0, 1} {
			values := make([]int, len(keys))
			if len(values) > 0 {
				values[0] = value
			}
			for _, n := range outsideSeeds {
				mustRefuseCase(t, "the seed "+strconv.Itoa(n), valueCase{n, keys, values, 1, 2})
			}
			for _, n := range outsideSegments {
				mustRefuseCase(t, "the segment "+strconv.Itoa(n), valueCase{1, keys, values, n, 2})
			}
			for _, n := range outsideWidths {
				mustRefuseCase(t, "the width "+strconv.Itoa(n), valueCase{1, keys, values, 1, n})
			}
			for _, other := range [][]int{append(slices.Clone(values), 0), append(slices.Clone(values), 1), append([]int{1}, values...), make([]int, 1000)} {
				mustRefuseCase(t, "too many values", valueCase{1, keys, other, 1, 2})
			}
			if len(keys) > 0 {
				mustRefuseCase(t, "a value too few", valueCase{1, keys, values[1:], 1, 2})
			}
		}
	}
	for _, width := range someWidths {
		for _, n := range []int{math.MinInt, -1, 1 << width, 1<<width + 1, 256, math.MaxInt} {
			for i, values := range putInto([]int{1, 0, 1}, n) {
				mustRefuseCase(t, "the value "+strconv.Itoa(n)+" at "+strconv.Itoa(i), valueCase{1, []string{"a", "b", "c"}, values, 1, width})
			}
		}
	}
	for _, list := range badLists() {
		mustRefuseCase(t, "no keys", valueCase{1, list, make([]int, len(list)), 5, 2})
		values := make([]int, len(list))
		values[0] = 1
		mustRefuseCase(t, "no keys", valueCase{1, list, values, 1, 2})
	}
}

func TestAddTables(t *testing.T) {
	for _, a := range someValueTables() {
		b := impl.Table{Seed: a.Seed, Segment: a.Segment, Width: a.Width, Cells: scatteredNumbers(3*a.Segment, 1<<a.Width, 555+a.Segment)}
		sum, ok := impl.AddTables(a, b)
		if !ok || !impl.IsTable(sum) || sum.Seed != a.Seed || sum.Segment != a.Segment || sum.Width != a.Width {
			t.Fatal("tables are added", a, b, sum, ok)
		}
		for place, cell := range sum.Cells {
			if cell != sumOfCells([]int{a.Cells[place], b.Cells[place]}, []int{0, 1}) {
				t.Fatal("the cells are sums", a, b, sum)
			}
		}
		for _, key := range anyKeys() {
			first, _ := impl.RetrieveValue(a, key)
			second, _ := impl.RetrieveValue(b, key)
			if value, ok := impl.RetrieveValue(sum, key); !ok || value != sumOfCells([]int{first, second}, []int{0, 1}) {
				t.Fatal("the values of a sum are the sums of the values", first, second, value, ok)
			}
		}
		if again, ok := impl.AddTables(sum, b); !ok || !sameValues(again, a) {
			t.Fatal("what is added twice is gone", a, b, again, ok)
		}
		if none, ok := impl.AddTables(a, a); !ok || slices.Max(none.Cells) != 0 {
			t.Fatal("a table and itself have the sum 0", a, none, ok)
		}
	}
}

func TestAddTablesRefuses(t *testing.T) {
	a := impl.Table{Seed: 3, Segment: 2, Width: 2, Cells: []int{0, 1, 2, 3, 0, 1}}
	others := map[string]impl.Table{
		"another seed":      {Seed: 4, Segment: 2, Width: 2, Cells: a.Cells},
		"the seed 0":        {Segment: 2, Width: 2, Cells: a.Cells},
		"a greater width":   {Seed: 3, Segment: 2, Width: 3, Cells: a.Cells},
		"a less width":      {Seed: 3, Segment: 2, Width: 1, Cells: make([]int, 6)},
		"a greater segment": {Seed: 3, Segment: 3, Width: 2, Cells: make([]int, 9)},
		"a less segment":    {Seed: 3, Segment: 1, Width: 2, Cells: make([]int, 3)},
	}
	for name, c := range badValueTables() {
		others[name] = c
		sum, ok := impl.AddTables(c, c)
		mustFailValues(t, "AddTables of twice "+name, sum, ok)
	}
	for name, c := range others {
		sum, ok := impl.AddTables(a, c)
		mustFailValues(t, "AddTables and "+name, sum, ok)
		sum, ok = impl.AddTables(c, a)
		mustFailValues(t, "AddTables to "+name, sum, ok)
	}
	// Tables that differ only in what is invalid have no sum.
	for _, cells := range [][]int{{0, 1, 2, 3, 0, 4}, {0, 1, 2, 3, 0, -1}, {0, 1, 2, 3, 0}} {
		spoiled := impl.Table{Seed: 3, Segment: 2, Width: 2, Cells: cells}
		sum, ok := impl.AddTables(a, spoiled)
		mustFailValues(t, "AddTables and a spoiled table", sum, ok)
		sum, ok = impl.AddTables(spoiled, a)
		mustFailValues(t, "AddTables to a spoiled table", sum, ok)
	}
}

// checkChange checks that a value of a table for keys is changed, or cannot be, and reports which.
func checkChange(t *testing.T, table impl.Table, keys []string, i int, value int) bool {
	t.Helper()
	values := plainValues(table, keys)
	values[i] = value
	want, exists := valueCase{table.Seed, keys, values, table.Segment, table.Width}.plainBySolving()
	changed, ok := impl.ChangeValue(table, keys, i, value)
	if ok != exists || !sameValues(changed, want) {
		t.Fatal("the table with the value", value, "at", i, "is", want, exists, "not", changed, ok)
	}
	if !ok {
		return false
	}
	for k, key := range keys {
		before, _ := impl.RetrieveValue(table, key)
		if k == i {
			before = value
		}
		if after, ok := impl.RetrieveValue(changed, key); !ok || after != before {
			t.Fatal("the changed value", value, "at", i, "is changed alone", key, before, after, ok)
		}
	}
	return true
}

func TestChangeValue(t *testing.T) {
	changed, refused := 0, 0
	for n, table := range someValueTables() {
		keys := [][]string{manyKeys(5), manyKeys(13), {"a"}, manyKeys(20), {"!", "}"}, manyKeys(impl.MaxKeys)}[n%6]
		for _, i := range []int{0, len(keys) / 2, len(keys) - 1} {
			for _, value := range []int{0, 1<<table.Width - 1, 1 << (table.Width - 1), plainValue(table, keys[i])} {
				if checkChange(t, table, keys, i, value) {
					changed++
				} else {
					refused++
				}
			}
		}
	}
	if changed < 500 || refused < 300 {
		t.Error("values must have been changed and refused", changed, refused)
	}
}

func TestChangeValueRefuses(t *testing.T) {
	keys := manyKeys(3)
	table, ok := valueCase{1, keys, []int{1, 2, 3}, 9, 2}.byPeeling()
	if !ok {
		t.Fatal("there is a table of three keys")
	}
	for _, i := range []int{0, 1, 2} {
		for value := range 4 {
			if !checkChange(t, table, keys, i, value) {
				t.Error("each value can be changed", i, value)
			}
		}
		for _, value := range []int{math.MinInt, -1, 4, 5, 255, 256, math.MaxInt} {
			changed, ok := impl.ChangeValue(table, keys, i, value)
			mustFailValues(t, "ChangeValue to "+strconv.Itoa(value), changed, ok)
		}
	}
	for _, i := range []int{math.MinInt, -3, -1, 3, 4, impl.MaxKeys, math.MaxInt} {
		changed, ok := impl.ChangeValue(table, keys, i, 1)
		mustFailValues(t, "ChangeValue at "+strconv.Itoa(i), changed, ok)
	}
	for _, list := range badLists() {
		changed, ok := impl.ChangeValue(table, list, 0, 1)
		mustFailValues(t, "ChangeValue of no keys", changed, ok)
	}
	for name, c := range badValueTables() {
		changed, ok := impl.ChangeValue(c, keys, 0, 0)
		mustFailValues(t, "ChangeValue of "+name, changed, ok)
	}
	// Keys with the same places keep equal values.
	same := impl.Table{Segment: 1, Width: 2, Cells: []int{1, 2, 0}}
	changed, ok := impl.ChangeValue(same, []string{"a", "b"}, 1, 2)
	mustFailValues(t, "ChangeValue of one of two keys with the same places", changed, ok)
	if changed, ok := impl.ChangeValue(same, []string{"a", "b"}, 1, 3); !ok || !slices.Equal(changed.Cells, []int{3, 0, 0}) {
		t.Error("the same value is a change, too", changed, ok)
	}
}

// checkDifference checks that the first key with different values is told, and returns its index, or the number of keys if there is none.
func checkDifference(t *testing.T, a impl.Table, b impl.Table, keys []string) int {
	t.Helper()
	at, ok := impl.FirstDifference(a, b, keys)
	mustBeFirst(t, "FirstDifference", 0, len(keys), func(i int) bool { return plainValue(a, keys[i]) != plainValue(b, keys[i]) }, at, ok)
	if !ok {
		at = len(keys)
	}
	for _, key := range keys[:at] {
		first, _ := impl.RetrieveValue(a, key)
		if second, _ := impl.RetrieveValue(b, key); first != second {
			t.Fatal("all keys before the first difference have equal values", key, first, second)
		}
	}
	return at
}

func TestFirstDifference(t *testing.T) {
	met := map[int]int{}
	all := someValueTables()
	for n, a := range all {
		for _, k := range []int{n, n + 1, n + 10, 3 * n, 7*n + 50} {
			for _, keys := range [][]string{nil, {"a"}, anyKeys()[:1], manyKeys(9), manyKeys(impl.MaxKeys)} {
				if len(keys) == impl.MaxKeys {
					met[checkDifference(t, a, all[k%len(all)], keys)]++
				} else {
					checkDifference(t, a, all[k%len(all)], keys)
				}
			}
		}
	}
	if met[0] < 100 || met[1] < 20 || met[2] < 10 || met[impl.MaxKeys] < 100 {
		t.Error("differences at all kinds of keys must have been met", met)
	}
}

func TestFirstDifferenceAtEachKey(t *testing.T) {
	keys := manyKeys(20)
	values := scatteredNumbers(20, 4, 3)
	seed, segment := 0, 15
	table, ok := valueCase{seed, keys, values, segment, 2}.byPeeling()
	for !ok {
		seed++
		table, ok = valueCase{seed, keys, values, segment, 2}.byPeeling()
	}
	for i := range keys {
		changed, ok := impl.ChangeValue(table, keys, i, 3-values[i])
		if at := checkDifference(t, table, changed, keys); !ok || at != i {
			t.Error("the first difference is at the changed value", i, at, ok)
		}
		// The tables of other seeds, segments and widths for the same values have no difference but this one.
		other := slices.Clone(values)
		other[i] = 7
		for number := seed + 1; number < seed+30; number++ {
			if wide, ok := (valueCase{number, keys, other, impl.MaxSegment, 3}).bySolving(); ok {
				if at := checkDifference(t, table, wide, keys); at != i {
					t.Error("the first difference is at the other value", i, at)
				}
				break
			}
		}
	}
}

func TestFirstDifferenceRefuses(t *testing.T) {
	good := impl.Table{Seed: 3, Segment: 2, Width: 2, Cells: []int{0, 1, 2, 3, 0, 1}}
	other := impl.Table{Seed: 3, Segment: 2, Width: 3, Cells: []int{4, 5, 6, 7, 4, 5}}
	if at := checkDifference(t, good, other, manyKeys(5)); at != 0 {
		t.Error("the values of these tables are all different", at)
	}
	for name, c := range badValueTables() {
		for _, keys := range [][]string{nil, {"a"}, manyKeys(5)} {
			at, ok := impl.FirstDifference(good, c, keys)
			mustFail(t, "FirstDifference to "+name, at, ok)
			at, ok = impl.FirstDifference(c, good, keys)
			mustFail(t, "FirstDifference of "+name, at, ok)
		}
	}
	for _, list := range badLists() {
		at, ok := impl.FirstDifference(good, other, list)
		mustFail(t, "FirstDifference for no keys", at, ok)
	}
}

func TestChangesAreSums(t *testing.T) {
	// The sum of a table and one that is off but for one key is as good as a changed value.
	keys := manyKeys(8)
	for seed := range 60 {
		values := scatteredNumbers(8, 16, seed)
		a, ok := valueCase{seed, keys, values, 6, 4}.byPeeling()
		if !ok {
			continue
		}
		only := make([]int, 8)
		only[seed%8] = 9
		b, _ := valueCase{seed, keys, only, 6, 4}.byPeeling()
		sum, _ := impl.AddTables(a, b)
		changed, ok := impl.ChangeValue(a, keys, seed%8, sumOfCells([]int{values[seed%8], 9}, []int{0, 1}))
		at, differ := impl.FirstDifference(sum, changed, keys)
		if !ok || differ {
			t.Error("both tables give all keys the same values", seed, at, ok)
		}
	}
}
