package tests

import (
	"math"
	"slices"
	"strconv"
	"strings"
	"testing"

	"loop.example/g01097/impl"
)

// The tests of this file are for promise 7: systems.

// plainSystem is a system told by texts: each row has a character for each column, and one more for its right side.
type plainSystem struct {
	size int
	rows []string
}

// system returns the system that is told.
func (p plainSystem) system() impl.System {
	s := impl.System{Size: p.size}
	for _, row := range p.rows {
		s.Rows = append(s.Rows, pack(row[:p.size]))
		s.Right = append(s.Right, row[p.size] == '1')
	}
	return s
}

// withRight returns the system with other right sides.
func (p plainSystem) withRight(right string) plainSystem {
	other := plainSystem{size: p.size}
	for i, row := range p.rows {
		other.rows = append(other.rows, row[:p.size]+right[i:i+1])
	}
	return other
}

// homogeneous returns the system with all right sides false.
func (p plainSystem) homogeneous() plainSystem {
	return p.withRight(strings.Repeat("0", len(p.rows)))
}

// isTold reports whether a system is just the one that is told.
func (p plainSystem) isTold(s impl.System) bool {
	if s.Size != p.size || len(s.Rows) != len(p.rows) || len(s.Right) != len(p.rows) {
		return false
	}
	for i, row := range p.rows {
		if !sameBits(s.Rows[i], row[:p.size]) || s.Right[i] != (row[p.size] == '1') {
			return false
		}
	}
	return true
}

// sumOf returns the sum of the rows with given indices.
func (p plainSystem) sumOf(list []int) string {
	sum := strings.Repeat("0", p.size+1)
	for _, i := range list {
		sum = xorText(sum, p.rows[i])
	}
	return sum
}

// isSolvedBy reports whether a text is a solution.
func (p plainSystem) isSolvedBy(x string) bool {
	if len(x) != p.size {
		return false
	}
	for _, row := range p.rows {
		together := 0
		for column := range x {
			if x[column] == '1' && row[column] == '1' {
				together++
			}
		}
		if together%2 != int(row[p.size]-'0') {
			return false
		}
	}
	return true
}

// isRefusedBy reports whether a list is a refusal.
func (p plainSystem) isRefusedBy(list []int) bool {
	for k, i := range list {
		if i < 0 || i >= len(p.rows) || k > 0 && i <= list[k-1] {
			return false
		}
	}
	return p.sumOf(list) == strings.Repeat("0", p.size)+"1"
}

// swept returns rows of which none but its own has each pivot on, those without a pivot behind them, and the pivots, increasing.
func (p plainSystem) swept() ([]string, []int) {
	rows := slices.Clone(p.rows)
	var pivots []int
	for column := range p.size {
		done := len(pivots)
		at := done
		for at < len(rows) && rows[at][column] == '0' {
			at++
		}
		if at == len(rows) {
			continue
		}
		rows[done], rows[at] = rows[at], rows[done]
		for k := range rows {
			if k != done && rows[k][column] == '1' {
				rows[k] = xorText(rows[k], rows[done])
			}
		}
		pivots = append(pivots, column)
	}
	return rows, pivots
}

// free returns the free columns.
func (p plainSystem) free() []int {
	_, pivots := p.swept()
	var free []int
	for column := range p.size {
		if !slices.Contains(pivots, column) {
			free = append(free, column)
		}
	}
	return free
}

// solution returns the solution in which all free columns are off, if there is one.
func (p plainSystem) solution() (string, bool) {
	rows, pivots := p.swept()
	x := []byte(strings.Repeat("0", p.size))
	for k, row := range rows {
		if k < len(pivots) {
			x[pivots[k]] = row[p.size]
		} else if row[p.size] == '1' {
			return "", false
		}
	}
	return string(x), true
}

// nullVectors returns for each free column the vector in which it is on, and which is a solution with all right sides false.
func (p plainSystem) nullVectors() []string {
	rows, pivots := p.swept()
	var all []string
	for _, column := range p.free() {
		x := []byte(strings.Repeat("0", p.size))
		x[column] = '1'
		for k, pivot := range pivots {
			x[pivot] = rows[k][column]
		}
		all = append(all, string(x))
	}
	return all
}

// summandsOf returns those of given rows that are new, and whose sum has the columns of the row with an index. It fails if there are none.
func (p plainSystem) summandsOf(fresh []int, i int) ([]int, bool) {
	// The summands are unknown: a column is on in the row if it is in an odd number of them.
	across := plainSystem{size: len(fresh)}
	for column := range p.size {
		text := ""
		for _, k := range fresh {
			text += p.rows[k][column : column+1]
		}
		across.rows = append(across.rows, text+p.rows[i][column:column+1])
	}
	chosen, ok := across.solution()
	var list []int
	for k, c := range chosen {
		if c == '1' {
			list = append(list, fresh[k])
		}
	}
	return list, ok
}

// newRows returns the indices of the new rows, and the first refusal of the kind that RefusalOf tells, if there is one.
func (p plainSystem) newRows() ([]int, []int) {
	var fresh, refusal []int
	for i := range p.rows {
		list, ok := p.summandsOf(fresh, i)
		if !ok {
			fresh = append(fresh, i)
		} else if list = append(list, i); refusal == nil && p.isRefusedBy(list) {
			refusal = list
		}
	}
	return fresh, refusal
}

// allSystems returns all systems of a size with so many rows.
func allSystems(size int, rows int) []plainSystem {
	all := []plainSystem{{size: size}}
	for range rows {
		var longer []plainSystem
		for _, p := range all {
			for _, row := range allTexts(size + 1) {
				longer = append(longer, plainSystem{size: size, rows: append(slices.Clone(p.rows), row)})
			}
		}
		all = longer
	}
	return all
}

// smallSystems returns all systems with few columns and rows.
func smallSystems() []plainSystem {
	var all []plainSystem
	for _, limits := range [][2]int{{1, 0}, {1, 1}, {1, 2}, {1, 3}, {1, 4}, {2, 0}, {2, 1}, {2, 2}, {2, 3}, {3, 0}, {3, 1}, {3, 2}, {3, 3}, {4, 2}} {
		all = append(all, allSystems(limits[0], limits[1])...)
	}
	return all
}

// mixedRows returns so many rows of a size in no plain order, different for each number.
func mixedRows(size int, count int, number int) []string {
	rows := make([]string, count)
	for i := range rows {
		rows[i] = mixed(size+1, 100*number+i)
	}
	return rows
}

// dependentRows returns rows many of which are sums of others, repeated, or without a column that is on; all of them have a common solution.
func dependentRows(size int, count int, number int) []string {
	rows := mixedRows(size, count, number)
	solution := mixed(size, 7000+number)
	for i := range rows {
		switch {
		case i%5 == 1:
			rows[i] = xorText(rows[i/2], rows[i/3])
		case i%5 == 3:
			rows[i] = rows[i/4]
		case i%7 == 4:
			rows[i] = strings.Repeat("0", size+1)
		}
		right := "0"
		if !(plainSystem{size: size, rows: []string{rows[i][:size] + "0"}}).isSolvedBy(solution) {
			right = "1"
		}
		rows[i] = rows[i][:size] + right
	}
	return rows
}

// sparseRows returns rows with at most three columns that are on, the later ones in front.
func sparseRows(size int, count int, number int) []string {
	rows := make([]string, count)
	places := scatteredNumbers(3*count, size, number)
	for i := range rows {
		text := []byte(strings.Repeat("0", size) + mixed(1, number+i))
		for _, place := range places[3*i : 3*i+3] {
			text[size-1-place*(count-i)/count] = '1'
		}
		rows[i] = string(text)
	}
	return rows
}

// spoiledRight returns rows with one right side turned.
func spoiledRight(rows []string, i int) []string {
	other := slices.Clone(rows)
	last := len(other[i]) - 1
	other[i] = other[i][:last] + fieldText(1, 1-int(other[i][last]-'0'))
	return other
}

// scatteredSystems returns systems in no plain order with all kinds of sizes and numbers of rows, the limits among them.
func scatteredSystems() []plainSystem {
	var all []plainSystem
	for i, size := range []int{1, 2, 3, 5, 9, 15, 16, 17, 31, 32, 33, 40, 48, 49, 64, 65, impl.MaxColumns - 1, impl.MaxColumns} {
		for k, count := range []int{1, 2, 5, 11, 20, 33, impl.MaxRows - 1, impl.MaxRows} {
			number := 20*i + k
			dependent := dependentRows(size, count, number)
			all = append(all, plainSystem{size, mixedRows(size, count, number)}, plainSystem{size, dependent}, plainSystem{size, spoiledRight(dependent, count*2/3)},
				plainSystem{size, spoiledRight(spoiledRight(dependent, count/4), count-1)}, plainSystem{size, sparseRows(size, count, number)})
		}
	}
	return all
}

// handSystems returns systems told one by one: without rows, with rows without a column that is on, with equal rows, and such with the limits met exactly.
func handSystems() []plainSystem {
	last := strings.Repeat("0", impl.MaxColumns-1) + "1"
	all := []plainSystem{{1, nil}, {2, nil}, {16, []string{}}, {17, nil}, {impl.MaxColumns - 1, nil}, {impl.MaxColumns, nil},
		{1, []string{"00"}}, {1, []string{"01"}}, {1, []string{"10"}}, {1, []string{"11"}}, {3, []string{"0001", "0001"}}, {3, []string{"0000", "0001", "0000"}}, {3, []string{"1101", "0001", "1101"}},
		{3, []string{"1101", "0110", "1010"}}, {3, []string{"1101", "0110", "1011"}}, {3, []string{"0011", "0111", "1111"}}, {3, []string{"1111", "0111", "0011"}}, {4, []string{"00011", "00101", "00110", "00111"}},
		{impl.MaxColumns, []string{last + "1"}}, {impl.MaxColumns, []string{last + "1", last + "0"}}, {impl.MaxColumns, []string{strings.Repeat("1", impl.MaxColumns) + "1", last + "1"}}}
	for _, count := range []int{impl.MaxRows - 1, impl.MaxRows} {
		for _, row := range []string{"00", "01", "10", "11"} {
			all = append(all, plainSystem{1, slices.Repeat([]string{row}, count)})
		}
		// Only the last row makes a refusal, of all rows but one.
		var steps []string
		for i := range count - 1 {
			steps = append(steps, strings.Repeat("0", i)+"11"+strings.Repeat("0", impl.MaxColumns-2-i)+"1")
		}
		ends := strings.Repeat("0", 3) + "1" + strings.Repeat("0", count-5) + "1" + strings.Repeat("0", impl.MaxColumns-count)
		all = append(all, plainSystem{impl.MaxColumns, append(slices.Clone(steps), ends+"0")}, plainSystem{impl.MaxColumns, append(slices.Clone(steps), ends+"1")})
	}
	return all
}

// someSystems returns systems told one by one, and scattered ones.
func someSystems() []plainSystem {
	return append(handSystems(), scatteredSystems()...)
}

// manySystems returns all small systems and some other ones.
func manySystems() []plainSystem {
	return append(smallSystems(), someSystems()...)
}

// badSystems returns values that are no systems, by what is wrong.
func badSystems() map[string]impl.System {
	bad := map[string]impl.System{"the zero value": {}}
	for _, size := range []int{math.MinInt, -1, 0, impl.MaxColumns + 1, impl.MaxBits, impl.MaxBits + 1, math.MaxInt} {
		bad["size "+strconv.Itoa(size)] = impl.System{Size: size}
		bad["one row and size "+strconv.Itoa(size)] = impl.System{Size: size, Rows: []impl.Bits{pack("101")}, Right: []bool{true}}
	}
	for _, size := range []int{0, impl.MaxColumns + 1, impl.MaxColumns + 8, impl.MaxBits} {
		bad["one row of its size "+strconv.Itoa(size)] = plainSystem{size, []string{mixed(size+1, 1)}}.system()
	}
	for _, size := range []int{1, 16, impl.MaxColumns} {
		what := " of the size " + strconv.Itoa(size)
		bad["41 rows"+what] = plainSystem{size, mixedRows(size, impl.MaxRows+1, 1)}.system()
		bad["41 empty rows"+what] = plainSystem{size, slices.Repeat([]string{strings.Repeat("0", size+1)}, impl.MaxRows+1)}.system()
		bad["a thousand rows"+what] = plainSystem{size, mixedRows(size, 1000, 1)}.system()
		for _, count := range []int{0, 1, 2, 7, impl.MaxRows} {
			good := plainSystem{size, mixedRows(size, count, 2)}.system()
			for _, sides := range []int{0, count - 1, count + 1, impl.MaxRows + 1, 1000} {
				if sides >= 0 && sides != count {
					bad["right sides "+strconv.Itoa(sides)+" of rows "+strconv.Itoa(count)+what] = impl.System{Size: size, Rows: good.Rows, Right: make([]bool, sides)}
				}
			}
		}
		for name, row := range badRows(size) {
			good := pack(mixed(size, 3))
			bad["only "+name+what] = impl.System{Size: size, Rows: []impl.Bits{row}, Right: make([]bool, 1)}
			bad["first "+name+what] = impl.System{Size: size, Rows: []impl.Bits{row, good, good}, Right: make([]bool, 3)}
			bad["middle "+name+what] = impl.System{Size: size, Rows: []impl.Bits{good, row, good}, Right: make([]bool, 3)}
			bad["last "+name+what] = impl.System{Size: size, Rows: []impl.Bits{good, good, row}, Right: make([]bool, 3)}
		}
	}
	return bad
}

// badRows returns values that are no rows of a size, by what is wrong.
func badRows(size int) map[string]impl.Bits {
	bad := badVectors()
	for _, other := range []int{0, size - 1, size + 1, size + 16, impl.MaxBits} {
		bad["row of the size "+strconv.Itoa(other)] = pack(strings.Repeat("0", other))
	}
	words := (size + 15) / 16
	for _, n := range []int{math.MinInt, -1, 65536, math.MaxInt} {
		for i, other := range putInto(make([]int, words), n) {
			bad["row with "+strconv.Itoa(n)+" as a word "+strconv.Itoa(i)] = impl.Bits{Size: size, Words: other}
		}
	}
	if size%16 > 0 {
		bad["row with a bit behind it"] = impl.Bits{Size: size, Words: append(make([]int, words-1), 1<<(size%16))}
	}
	bad["row without words"] = impl.Bits{Size: size}
	bad["row with a word too much"] = impl.Bits{Size: size, Words: make([]int, words+1)}
	return bad
}

// mustFailSystem checks that a call failed with the zero system.
func mustFailSystem(t *testing.T, what string, s impl.System, ok bool) {
	t.Helper()
	if ok || s.Size != 0 || len(s.Rows) != 0 || len(s.Right) != 0 {
		t.Errorf("%s: got %v, %v; it must fail with the zero system", what, s, ok)
	}
}

// areTold reports whether vectors are just those with given texts.
func areTold(vectors []impl.Bits, texts []string) bool {
	return slices.EqualFunc(vectors, texts, sameBits)
}

func TestLimitsOfSystems(t *testing.T) {
	if impl.MaxRows != 40 || impl.MaxColumns != 72 || impl.MaxValueWidth != 8 {
		t.Error("the limits are 40, 72 and 8, not", impl.MaxRows, impl.MaxColumns, impl.MaxValueWidth)
	}
}

func TestIsSystem(t *testing.T) {
	for _, p := range manySystems() {
		if !impl.IsSystem(p.system()) {
			t.Fatal("this is a system", p)
		}
	}
	for size := -3; size <= 2*impl.MaxColumns; size++ {
		if want := size >= 1 && size <= impl.MaxColumns; impl.IsSystem(impl.System{Size: size}) != want {
			t.Error("without rows, of the size", size, "there must be a system:", want)
		}
	}
	for count := range 3 * impl.MaxRows {
		for _, size := range []int{1, 17, impl.MaxColumns} {
			if want := count <= impl.MaxRows; impl.IsSystem(plainSystem{size, mixedRows(size, count, 5)}.system()) != want {
				t.Error("with as many rows there must be a system:", count, size, want)
			}
		}
	}
	for name, s := range badSystems() {
		if impl.IsSystem(s) {
			t.Error("this is no system:", name)
		}
	}
}

// byTrying is what is found of a system by trying all sums of rows and all vectors.
type byTrying struct {
	rank      int
	free      []int
	solutions []string
	refusals  [][]int
	refusal   []int
}

// columnsOf returns what is told of the columns in rows.
func columnsOf(rows []string, size int) []string {
	var all []string
	for _, row := range rows {
		all = append(all, row[:size])
	}
	return all
}

// tryAll finds what is told of a small system.
func tryAll(p plainSystem) byTrying {
	var found byTrying
	sums := []string{strings.Repeat("0", p.size+1)}
	lists := [][]int{nil}
	var fresh []int
	for i, row := range p.rows {
		isNew := !slices.Contains(columnsOf(sums, p.size), row[:p.size])
		for k := range lists {
			list := append(slices.Clone(lists[k]), i)
			sum := xorText(sums[k], row)
			if sum == strings.Repeat("0", p.size)+"1" {
				found.refusals = append(found.refusals, list)
				if found.refusal == nil && contains(fresh, list[:len(list)-1]) {
					found.refusal = list
				}
			}
			lists, sums = append(lists, list), append(sums, sum)
		}
		if isNew {
			fresh = append(fresh, i)
		}
	}
	found.rank = len(fresh)
	for column := range p.size {
		first := strings.Repeat("0", column) + "1"
		if !slices.ContainsFunc(sums, func(sum string) bool { return strings.HasPrefix(sum[:p.size], first) }) {
			found.free = append(found.free, column)
		}
	}
	for _, x := range allTexts(p.size) {
		if p.isSolvedBy(x) {
			found.solutions = append(found.solutions, x)
		}
	}
	return found
}

// onlyOn returns the texts in which, of given columns, just those of a list are on.
func onlyOn(texts []string, columns []int, list ...int) []string {
	return slices.DeleteFunc(slices.Clone(texts), func(x string) bool {
		return slices.ContainsFunc(columns, func(column int) bool { return (x[column] == '1') != slices.Contains(list, column) })
	})
}

// checkSystem checks what is told of a system.
func checkSystem(t *testing.T, p plainSystem, rank int, free []int, solution []string, refusal []int, nulls []string) {
	t.Helper()
	s := p.system()
	if n, ok := impl.RankOf(s); !ok || n != rank {
		t.Fatal("the rank of", p, "is", rank, "not", n, ok)
	}
	if list, ok := impl.FreeColumns(s); !ok || !slices.Equal(list, free) {
		t.Fatal("the free columns of", p, "are", free, "not", list, ok)
	}
	x, ok := impl.SolveSystem(s)
	if len(solution) == 0 {
		mustFailBits(t, "SolveSystem without a solution", x, ok)
	} else if !ok || len(solution) != 1 || !sameBits(x, solution[0]) {
		t.Fatal("the solution of", p, "is", solution, "not", x, ok)
	}
	list, ok := impl.RefusalOf(s)
	if len(refusal) == 0 {
		mustFailList(t, "RefusalOf without a refusal", list, ok)
	} else if !ok || !slices.Equal(list, refusal) {
		t.Fatal("the refusal of", p, "is", refusal, "not", list, ok)
	}
	if vectors, ok := impl.NullVectors(s); !ok || !areTold(vectors, nulls) {
		t.Fatal("the null vectors of", p, "are", nulls, "not", vectors, ok)
	}
	if !p.isTold(s) {
		t.Fatal("a system is changed", p, s)
	}
}

func TestSmallSystems(t *testing.T) {
	solved, refused := 0, 0
	for _, p := range smallSystems() {
		found := tryAll(p)
		homogeneous := tryAll(p.homogeneous())
		var nulls []string
		for _, column := range found.free {
			nulls = append(nulls, onlyOn(homogeneous.solutions, found.free, column)...)
		}
		if len(nulls) != len(found.free) || (len(found.solutions) > 0) == (len(found.refusals) > 0) || (found.refusal == nil) != (len(found.refusals) == 0) {
			t.Fatal("one null vector for each free column, and a solution or a refusal", p, found)
		}
		checkSystem(t, p, found.rank, found.free, onlyOn(found.solutions, found.free), found.refusal, nulls)
		if len(found.solutions) > 0 {
			solved++
		} else {
			refused++
		}
	}
	if solved < 1000 || refused < 1000 {
		t.Error("both must have been met", solved, refused)
	}
}

func TestSomeSystems(t *testing.T) {
	solved, refused, fullRank := 0, 0, 0
	for _, p := range someSystems() {
		fresh, refusal := p.newRows()
		var solution []string
		if x, ok := p.solution(); ok {
			solution = append(solution, x)
			solved++
		} else {
			refused++
		}
		checkSystem(t, p, len(fresh), p.free(), solution, refusal, p.nullVectors())
		if len(fresh) == impl.MaxRows {
			fullRank++
		}
	}
	if solved < 200 || refused < 200 || fullRank < 5 {
		t.Error("all kinds must have been met", solved, refused, fullRank)
	}
}

func TestEitherSolutionOrRefusal(t *testing.T) {
	for _, p := range manySystems() {
		s := p.system()
		x, isSolved := impl.SolveSystem(s)
		list, isRefused := impl.RefusalOf(s)
		if isSolved == isRefused {
			t.Fatal("either a solution of", p, "is told or a refusal", x, isSolved, list, isRefused)
		}
		if isSolved {
			if is, ok := impl.IsSolution(s, x); !ok || !is {
				t.Fatal("the solution of", p, "that is told is one", x, is, ok)
			}
		}
		if is, ok := impl.IsRefusal(s, list); !ok || is != isRefused {
			t.Fatal("the refusal of", p, "that is told is one", list, is, ok)
		}
	}
}

func TestRankAndFreeColumns(t *testing.T) {
	for _, p := range manySystems() {
		s := p.system()
		rank, ok := impl.RankOf(s)
		free, fine := impl.FreeColumns(s)
		nulls, told := impl.NullVectors(s)
		if !ok || !fine || !told || rank+len(free) != p.size || len(nulls) != len(free) || rank > len(p.rows) {
			t.Fatal("the rank and the free columns make up the size", p, rank, free, nulls)
		}
		if other, ok := impl.RankOf(p.homogeneous().system()); !ok || other != rank {
			t.Fatal("the rank does not depend on the right sides", p, rank, other)
		}
	}
}

func TestNullVectors(t *testing.T) {
	moved := 0
	for _, p := range someSystems() {
		s, homogeneous := p.system(), p.homogeneous().system()
		nulls, told := impl.NullVectors(s)
		x, isSolved := impl.SolveSystem(s)
		sum, ok := impl.NewBits(p.size)
		if !told || !ok {
			t.Fatal("null vectors are told", p)
		}
		for _, v := range nulls {
			if is, ok := impl.IsSolution(homogeneous, v); !ok || !is {
				t.Fatal("a null vector of", p, "is a solution with all right sides false", v, is, ok)
			}
			sum, _ = impl.XorBits(sum, v)
			if is, ok := impl.IsSolution(homogeneous, sum); !ok || !is {
				t.Fatal("a sum of null vectors of", p, "is a solution with all right sides false", sum, is, ok)
			}
			for _, null := range []impl.Bits{v, sum} {
				other, _ := impl.XorBits(x, null)
				if is, ok := impl.IsSolution(s, other); isSolved && (!ok || !is) {
					t.Fatal("a null vector leads from a solution of", p, "to another one", x, null, is, ok)
				}
			}
			moved++
		}
	}
	if moved < 5000 {
		t.Error("null vectors must have been met", moved)
	}
}

func TestIsSolutionOfAllVectors(t *testing.T) {
	solutions := 0
	for _, p := range append(smallSystems(), handSystems()...) {
		s := p.system()
		for size := range 6 {
			for _, x := range allTexts(size) {
				is, ok := impl.IsSolution(s, pack(x))
				if !ok || is != p.isSolvedBy(x) {
					t.Fatal("the vector", x, "is told of", p, is, ok)
				}
				if is {
					solutions++
				}
			}
		}
	}
	if solutions < 1000 {
		t.Error("solutions must have been met", solutions)
	}
}

func TestIsSolutionOfLongVectors(t *testing.T) {
	for _, p := range someSystems() {
		s := p.system()
		all := []string{strings.Repeat("0", p.size), strings.Repeat("1", p.size), mixed(p.size, 1), "", mixed(p.size-1, 2), mixed(p.size+1, 3), mixed(p.size+16, 4), mixed(impl.MaxBits, 5)}
		if x, ok := p.solution(); ok {
			all = append(all, x, x[1:], x+"0", x+"1", x+strings.Repeat("0", 16))
			for column := range x {
				all = append(all, x[:column]+fieldText(1, 1-int(x[column]-'0'))+x[column+1:])
			}
		}
		for _, x := range all {
			if is, ok := impl.IsSolution(s, pack(x)); !ok || is != p.isSolvedBy(x) {
				t.Fatal("the vector", x, "is told of", p, is, ok)
			}
		}
		for name, x := range badRows(p.size) {
			is, ok := impl.IsSolution(s, x)
			if !impl.IsBits(x) {
				mustFail(t, "IsSolution of "+name, is, ok)
			}
		}
	}
}

func TestIsRefusalOfAllLists(t *testing.T) {
	refusals := 0
	systems := slices.Concat(handSystems(), allSystems(1, 3), allSystems(2, 2), allSystems(2, 3)[7:90])
	for _, p := range systems {
		s := p.system()
		for _, list := range shortLists(4) {
			is, ok := impl.IsRefusal(s, list)
			if !ok || is != p.isRefusedBy(list) {
				t.Fatal("the list", list, "is told of", p, is, ok)
			}
			if is {
				refusals++
			}
		}
	}
	if refusals < 100 {
		t.Error("refusals must have been met", refusals)
	}
}

func TestIsRefusalOfSpoiledLists(t *testing.T) {
	long := 0
	for _, p := range someSystems() {
		s := p.system()
		_, refusal := p.newRows()
		whole := make([]int, len(p.rows))
		for i := range whole {
			whole[i] = i
		}
		backwards := slices.Clone(refusal)
		slices.Reverse(backwards)
		all := [][]int{nil, {}, refusal, backwards, whole, make([]int, 1000), slices.Concat(refusal, refusal), append(slices.Clone(whole), len(whole))}
		for k := range refusal {
			all = append(all, slices.Delete(slices.Clone(refusal), k, k+1), slices.Insert(slices.Clone(refusal), k, refusal[k]))
		}
		for _, n := range []int{math.MinInt, -1, 0, len(p.rows) - 1, len(p.rows), impl.MaxRows, 63, 64, math.MaxInt} {
			all = append(all, []int{n}, append(slices.Clone(refusal), n), append([]int{n}, refusal...))
		}
		for _, list := range all {
			if is, ok := impl.IsRefusal(s, list); !ok || is != p.isRefusedBy(list) {
				t.Fatal("the list", list, "is told of", p, is, ok)
			}
		}
		if len(refusal) >= 5 {
			long++
		}
	}
	if long < 50 {
		t.Error("long refusals must have been met", long)
	}
}

func TestRefusalTellsTheFirstRow(t *testing.T) {
	for _, c := range []struct {
		rows []string
		want []int
	}{
		{[]string{"0001"}, []int{0}},
		{[]string{"0000", "0001", "0001"}, []int{1}},
		{[]string{"1001", "0001", "1000"}, []int{1}},
		{[]string{"1001", "1000", "0001"}, []int{0, 1}},
		{[]string{"1001", "1001", "1000"}, []int{0, 2}},
		{[]string{"1101", "0110", "1010"}, []int{0, 1, 2}},
		{[]string{"1101", "1101", "0110", "1010"}, []int{0, 2, 3}},
		{[]string{"1101", "0110", "1011", "1010"}, []int{0, 1, 3}},
		{[]string{"1101", "0110", "1011", "0010", "1010"}, []int{0, 1, 4}},
		{[]string{"0011", "0111", "1111", "1010"}, []int{0, 1, 2, 3}},
		{[]string{"0011", "0111", "1111", "1001", "0101", "1000"}, []int{1, 2, 3}},
	} {
		p := plainSystem{3, c.rows}
		if list, ok := impl.RefusalOf(p.system()); !ok || !slices.Equal(list, c.want) || !p.isRefusedBy(list) {
			t.Error("the refusal of", c.rows, "is", c.want, "not", list, ok)
		}
	}
}

func TestJoinSystems(t *testing.T) {
	all := someSystems()
	joinedOnes, solved := 0, 0
	for i, a := range all {
		for _, b := range []plainSystem{all[(i+1)%len(all)], all[(i+40)%len(all)], all[(i*7+5)%len(all)], a, {a.size, nil}, {a.size, a.rows[len(a.rows)/2:]}} {
			s, ok := impl.JoinSystems(a.system(), b.system())
			if a.size != b.size || len(a.rows)+len(b.rows) > impl.MaxRows {
				mustFailSystem(t, "JoinSystems", s, ok)
				continue
			}
			joined := plainSystem{a.size, slices.Concat(a.rows, b.rows)}
			if !ok || !joined.isTold(s) || !impl.IsSystem(s) {
				t.Fatal("the rows of", a, "and", b, "are joined", s, ok)
			}
			joinedOnes++
			first, _ := impl.RankOf(a.system())
			second, _ := impl.RankOf(b.system())
			if rank, ok := impl.RankOf(s); !ok || rank > first+second || rank < first || rank < second {
				t.Fatal("the rank of joined systems is at most the sum and at least each one", rank, first, second)
			}
			x, isSolved := impl.SolveSystem(s)
			for _, p := range []plainSystem{a, b} {
				if is, ok := impl.IsSolution(p.system(), x); isSolved && (!ok || !is) {
					t.Fatal("a solution of joined systems is one of", p, x, is, ok)
				}
			}
			if isSolved {
				solved++
			}
		}
	}
	if joinedOnes < 500 || solved < 200 {
		t.Error("systems must have been joined, and solved", joinedOnes, solved)
	}
}

func TestJoinSystemsRefuses(t *testing.T) {
	for _, size := range []int{1, 33, impl.MaxColumns} {
		for count := range impl.MaxRows + 1 {
			rows := mixedRows(size, impl.MaxRows, count)
			a, b := plainSystem{size, rows[:count]}, plainSystem{size, rows[count:]}
			if s, ok := impl.JoinSystems(a.system(), b.system()); !ok || !(plainSystem{size, rows}).isTold(s) {
				t.Error("there may be as many rows as the limit", count, ok)
			}
			more := plainSystem{size, mixedRows(size, impl.MaxRows+1-count, 9)}
			s, ok := impl.JoinSystems(a.system(), more.system())
			mustFailSystem(t, "JoinSystems with a row too many", s, ok)
			s, ok = impl.JoinSystems(more.system(), a.system())
			mustFailSystem(t, "JoinSystems with a row too many", s, ok)
			if size > 1 {
				s, ok = impl.JoinSystems(a.system(), plainSystem{size - 1, nil}.system())
				mustFailSystem(t, "JoinSystems of different sizes", s, ok)
				s, ok = impl.JoinSystems(plainSystem{size - 1, nil}.system(), a.system())
				mustFailSystem(t, "JoinSystems of different sizes", s, ok)
			}
		}
	}
}

func TestSystemsRefuse(t *testing.T) {
	for name, s := range badSystems() {
		rank, ok := impl.RankOf(s)
		mustFail(t, "RankOf "+name, rank, ok)
		x, ok := impl.SolveSystem(s)
		mustFailBits(t, "SolveSystem of "+name, x, ok)
		list, ok := impl.RefusalOf(s)
		mustFailList(t, "RefusalOf "+name, list, ok)
		free, ok := impl.FreeColumns(s)
		mustFailList(t, "FreeColumns of "+name, free, ok)
		nulls, ok := impl.NullVectors(s)
		mustFailList(t, "NullVectors of "+name, nulls, ok)
		for _, size := range []int{0, 1, 3, 16, impl.MaxColumns} {
			is, ok := impl.IsSolution(s, pack(strings.Repeat("0", size)))
			mustFail(t, "IsSolution of "+name, is, ok)
			good := plainSystem{max(size, 1), nil}.system()
			joined, ok := impl.JoinSystems(s, good)
			mustFailSystem(t, "JoinSystems behind "+name, joined, ok)
			joined, ok = impl.JoinSystems(good, s)
			mustFailSystem(t, "JoinSystems before "+name, joined, ok)
		}
		for _, list := range [][]int{nil, {0}, {0, 1}, {-1}} {
			is, ok := impl.IsRefusal(s, list)
			mustFail(t, "IsRefusal of "+name, is, ok)
		}
		joined, ok := impl.JoinSystems(s, s)
		mustFailSystem(t, "JoinSystems of twice "+name, joined, ok)
	}
}

// plainSystemOf returns the system of a Hyper with right sides.
func plainSystemOf(h impl.Hyper, right string) plainSystem {
	p := plainSystem{size: h.Places}
	for i, edge := range h.Edges {
		text := []byte(strings.Repeat("0", h.Places) + right[i:i+1])
		for _, place := range edge {
			text[place] = '1'
		}
		p.rows = append(p.rows, string(text))
	}
	return p
}

// sides returns the right sides that a text tells.
func sides(text string) []bool {
	right := make([]bool, len(text))
	for i := range right {
		right[i] = text[i] == '1'
	}
	return right
}

func TestSystemOf(t *testing.T) {
	peeled := 0
	for n, h := range manyHypers() {
		count := len(h.Edges)
		for _, right := range []string{strings.Repeat("0", count), strings.Repeat("1", count), mixed(count, n)} {
			s, ok := impl.SystemOf(h, sides(right))
			if !ok || !plainSystemOf(h, right).isTold(s) || !impl.IsSystem(s) {
				t.Fatal("the system of", h, "with the right sides", right, "is", s, ok)
			}
			if _, isPeeled := impl.PeelOrder(h); isPeeled {
				rank, ok := impl.RankOf(s)
				if x, solved := impl.SolveSystem(s); !ok || rank != count || !solved || x.Size != h.Places {
					t.Fatal("with a peel order all rows are new", h, rank, x, solved)
				}
				peeled++
			}
		}
		for _, other := range []int{0, count - 1, count + 1, 1000} {
			if other >= 0 && other != count {
				s, ok := impl.SystemOf(h, make([]bool, other))
				mustFailSystem(t, "SystemOf with another number of right sides", s, ok)
			}
		}
	}
	if peeled < 100 {
		t.Error("systems with a peel order must have been met", peeled)
	}
	for name, h := range badHypers() {
		for _, count := range []int{0, 1, len(h.Edges)} {
			s, ok := impl.SystemOf(h, make([]bool, count))
			mustFailSystem(t, "SystemOf "+name, s, ok)
		}
	}
}

func TestExampleOfASystem(t *testing.T) {
	p := plainSystem{3, []string{"1101", "0110", "1010"}}
	checkSystem(t, p, 2, []int{2}, nil, []int{0, 1, 2}, []string{"111"})
	if is, ok := impl.IsRefusal(p.system(), []int{0, 1, 2}); !ok || !is {
		t.Error("all three rows are a refusal", is, ok)
	}
	checkSystem(t, p.withRight("101"), 2, []int{2}, []string{"100"}, nil, []string{"111"})
}

func TestSystemsWithoutRows(t *testing.T) {
	for size := 1; size <= impl.MaxColumns; size++ {
		var free []int
		var nulls []string
		for column := range size {
			free = append(free, column)
			nulls = append(nulls, strings.Repeat("0", column)+"1"+strings.Repeat("0", size-1-column))
		}
		p := plainSystem{size: size}
		checkSystem(t, p, 0, free, []string{strings.Repeat("0", size)}, nil, nulls)
		for _, x := range []string{strings.Repeat("0", size), strings.Repeat("1", size), mixed(size, 1)} {
			if is, ok := impl.IsSolution(p.system(), pack(x)); !ok || !is {
				t.Error("each vector solves a system without rows", size, x, is, ok)
			}
		}
		if is, ok := impl.IsSolution(p.system(), pack(mixed(size-1, 1))); !ok || is {
			t.Error("a vector of another size does not", size, is, ok)
		}
		for _, list := range [][]int{nil, {}, {0}} {
			if is, ok := impl.IsRefusal(p.system(), list); !ok || is {
				t.Error("nothing refuses a system without rows", size, list, is, ok)
			}
		}
		// With no column on in any row, all columns are free, too.
		empty := plainSystem{size, slices.Repeat([]string{strings.Repeat("0", size+1)}, 3)}
		checkSystem(t, empty, 0, free, []string{strings.Repeat("0", size)}, nil, nulls)
		checkSystem(t, empty.withRight("011"), 0, free, nil, []int{1}, nulls)
	}
}
