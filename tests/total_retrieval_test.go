package tests

import (
	"math"
	"slices"
	"strconv"
	"testing"

	"loop.example/g01097/impl"
)

// The tests of this file are for promise 11: what chapter 7 is called with.

// ofVectors returns the outcome that is a list of vectors; the memory of the list is used up to its capacity, too.
func ofVectors(vectors []impl.Bits, ok bool) outcome {
	out := outcome{ok: ok}
	sizes := []int{}
	for _, v := range vectors {
		out.lists = append(out.lists, v.Words)
		sizes = append(sizes, v.Size)
	}
	all := vectors[:cap(vectors)]
	for i := range all {
		all[i] = impl.Bits{Size: -77, Words: []int{-78}}
	}
	out.lists = append(out.lists, sizes)
	return out
}

// ofSystem returns the outcome that is a system; the memory of its rows and right sides is used up to its capacity, too.
func ofSystem(s impl.System, ok bool) outcome {
	out := ofVectors(s.Rows, ok)
	right := []int{}
	for _, on := range s.Right {
		right = append(right, len(strconv.FormatBool(on)))
	}
	all := s.Right[:cap(s.Right)]
	for i := range all {
		all[i] = !all[i]
	}
	out.lists = append(out.lists, right)
	out.numbers[0] = s.Size
	return out
}

// ofValues returns the outcome that is a table of values.
func ofValues(c impl.Table, ok bool) outcome {
	return outcome{lists: [][]int{c.Cells, {c.Width}}, numbers: [2]int{c.Seed, c.Segment}, ok: ok}
}

// ofRefusal returns the outcome that is a bit and a list of rows.
func ofRefusal(bit int, list []int, ok bool) outcome {
	return outcome{lists: [][]int{list}, numbers: [2]int{bit}, ok: ok}
}

// retrievalExtremes are numbers at and behind the limits of chapter 7, and the least and the greatest ones.
var retrievalExtremes = []int{math.MinInt, math.MinInt + 1, -64, -1, 0, 1, 2, impl.MaxValueWidth, impl.MaxValueWidth + 1, impl.MaxSegment, impl.MaxSegment + 1, impl.MaxRows, 63, 64, 65, impl.MaxColumns, impl.MaxColumns + 1,
	255, 256, impl.MaxSeed, impl.MaxSeed + 1, math.MaxInt - 1, math.MaxInt}

// cloneSystem returns an equal system in new memory.
func cloneSystem(s impl.System) impl.System {
	clone := impl.System{Size: s.Size, Right: slices.Clone(s.Right)}
	for _, row := range s.Rows {
		clone.Rows = append(clone.Rows, impl.Bits{Size: row.Size, Words: slices.Clone(row.Words)})
	}
	return clone
}

// sameSystem reports whether two systems are equal.
func sameSystem(a impl.System, b impl.System) bool {
	return a.Size == b.Size && slices.EqualFunc(a.Rows, b.Rows, sameBitVectors) && slices.Equal(a.Right, b.Right)
}

// spareSystem returns an equal system with other rows, words and right sides in the spare capacity of its lists, and a function that reports whether all are as they were.
func spareSystem(s impl.System) (impl.System, func() bool) {
	var all []impl.Bits
	var kept []func() bool
	for _, row := range append(slices.Clone(s.Rows), pack("1"), impl.Bits{Size: -1}, pack(mixed(impl.MaxColumns, 1))) {
		words, unchanged := withSpare(row.Words, 1, 65535, 5, -9)
		all, kept = append(all, impl.Bits{Size: row.Size, Words: words}), append(kept, unchanged)
	}
	before := cloneSystem(impl.System{Rows: all}).Rows
	right, rightKept := withSpare(s.Right, true, false, true)
	return impl.System{Size: s.Size, Rows: all[:len(s.Rows)], Right: right}, func() bool {
		return rightKept() && slices.EqualFunc(all, before, sameBitVectors) && !slices.ContainsFunc(kept, func(unchanged func() bool) bool { return !unchanged() })
	}
}

// checkSystemCall checks that a call with a system and a list is total, with and without spare capacity of both.
func checkSystemCall(t *testing.T, what string, s impl.System, list []int, call func(s impl.System, list []int) outcome) {
	t.Helper()
	before, listBefore := cloneSystem(s), slices.Clone(list)
	spared, kept := spareSystem(s)
	sparedList, listKept := withSpare(list, 1, 0, 3, -5, 2000)
	checkCall(t, what+" of "+strconv.Itoa(len(s.Rows))+" rows of the size "+strconv.Itoa(s.Size),
		func() outcome { return call(s, list) }, func() outcome { return call(spared, sparedList) },
		func() bool {
			return kept() && listKept() && sameSystem(s, before) && slices.Equal(list, listBefore)
		})
}

// totalSystems returns some systems, and values that are none.
func totalSystems() []impl.System {
	var all []impl.System
	for i, p := range someSystems() {
		if i%9 == 0 || len(p.rows) < 2 {
			all = append(all, p.system())
		}
	}
	for _, s := range badSystems() {
		all = append(all, s)
	}
	for _, n := range retrievalExtremes {
		all = append(all, impl.System{Size: n}, impl.System{Size: n, Rows: []impl.Bits{{Size: n, Words: []int{1}}}, Right: []bool{true}}, impl.System{Size: 3, Rows: []impl.Bits{{Size: n, Words: []int{n}}}, Right: []bool{true}})
	}
	return all
}

func TestSystemCallsAreTotal(t *testing.T) {
	calls := map[string]func(s impl.System, list []int) outcome{
		"IsSystem":    func(s impl.System, list []int) outcome { return outcome{on: impl.IsSystem(s)} },
		"RankOf":      func(s impl.System, list []int) outcome { return ofNumber(impl.RankOf(s)) },
		"SolveSystem": func(s impl.System, list []int) outcome { return ofBits(impl.SolveSystem(s)) },
		"RefusalOf":   func(s impl.System, list []int) outcome { return ofList(impl.RefusalOf(s)) },
		"FreeColumns": func(s impl.System, list []int) outcome { return ofList(impl.FreeColumns(s)) },
		"NullVectors": func(s impl.System, list []int) outcome { return ofVectors(impl.NullVectors(s)) },
		"JoinSystems twice": func(s impl.System, list []int) outcome {
			return ofSystem(impl.JoinSystems(s, s))
		},
		"JoinSystems and no rows": func(s impl.System, list []int) outcome {
			return ofSystem(impl.JoinSystems(s, impl.System{Size: s.Size}))
		},
		"JoinSystems behind no rows": func(s impl.System, list []int) outcome {
			return ofSystem(impl.JoinSystems(impl.System{Size: s.Size}, s))
		},
	}
	for name, call := range calls {
		for _, s := range totalSystems() {
			checkSystemCall(t, name, s, nil, call)
		}
	}
}

func TestIsRefusalIsTotal(t *testing.T) {
	lists := [][]int{nil, {0, 1}, {0, 1, 2}, make([]int, impl.MaxRows+1), make([]int, 1000)}
	for _, n := range retrievalExtremes {
		lists = append(lists, []int{n}, []int{0, n}, []int{n, 1}, []int{0, n, 1})
	}
	for _, s := range totalSystems() {
		for _, list := range lists {
			checkSystemCall(t, "IsRefusal", s, list, func(s impl.System, list []int) outcome { return ofAnswer(impl.IsRefusal(s, list)) })
		}
	}
}

func TestIsSolutionIsTotal(t *testing.T) {
	for _, s := range totalSystems() {
		vectors := []impl.Bits{{}, pack("1"), pack("0110"), pack(mixed(16, 1)), pack(mixed(impl.MaxColumns, 2)), pack(mixed(impl.MaxBits, 3)), {Size: s.Size}, {Size: s.Size, Words: []int{0}}, {Size: s.Size, Words: make([]int, 5)},
			{Size: s.Size, Words: slices.Repeat([]int{65535}, 5)}, {Size: impl.MaxColumns, Words: make([]int, 4)}, {Size: -1, Words: []int{-1}}, {Size: math.MinInt}, {Size: math.MaxInt, Words: make([]int, 5)}}
		for _, x := range vectors {
			checkSystemCall(t, "IsSolution with "+strconv.Itoa(x.Size)+" bits", s, x.Words, func(s impl.System, words []int) outcome {
				return ofAnswer(impl.IsSolution(s, impl.Bits{Size: x.Size, Words: words}))
			})
		}
	}
}

func TestJoinSystemsIsTotal(t *testing.T) {
	all := totalSystems()
	for i, a := range all {
		for _, k := range []int{i + 1, 3*i + 5, 7 * i, 11*i + 50} {
			b := all[k%len(all)]
			before := cloneSystem(b)
			spared, kept := spareSystem(b)
			checkSystemCall(t, "JoinSystems", a, nil, func(a impl.System, list []int) outcome {
				first, second := ofSystem(impl.JoinSystems(a, b)), ofSystem(impl.JoinSystems(a, spared))
				if !sameOutcome(first, second) {
					t.Error("JoinSystems depends on spare capacity", first, second)
				}
				overwrite(second)
				return first
			})
			if !kept() || !sameSystem(b, before) {
				t.Error("JoinSystems changes its second argument, or shares memory with it")
			}
		}
	}
}

func TestRowsThatShareMemory(t *testing.T) {
	words, right := []int{5}, []bool{true}
	row := impl.Bits{Size: 3, Words: words}
	s := impl.System{Size: 3, Rows: []impl.Bits{row, row}, Right: []bool{true, true}}
	checkSystemCall(t, "JoinSystems of rows that share memory", s, nil, func(s impl.System, list []int) outcome { return ofSystem(impl.JoinSystems(s, s)) })
	one := impl.System{Size: 3, Rows: []impl.Bits{row}, Right: right}
	joined, ok := impl.JoinSystems(one, one)
	if !ok || !(plainSystem{3, []string{"1011", "1011"}}).isTold(joined) {
		t.Fatal("a system is joined with itself", joined, ok)
	}
	joined.Rows[0].Words[0], joined.Right[0] = -5, false
	if joined.Rows[1].Words[0] != 5 || !joined.Right[1] || words[0] != 5 || !right[0] {
		t.Error("equal rows have memory of their own", joined, words, right)
	}
}

func TestSystemOfIsTotal(t *testing.T) {
	for _, h := range totalHypers() {
		for _, count := range []int{0, 1, len(h.Edges) - 1, len(h.Edges), len(h.Edges) + 1, impl.MaxRows, 1000} {
			right := make([]bool, max(count, 0))
			for i := range right {
				right[i] = i%3 == 0
			}
			checkListCall(t, "SystemOf with "+strconv.Itoa(count)+" right sides", h, right, []bool{true, false, true},
				func(h impl.Hyper, right []bool) outcome { return ofSystem(impl.SystemOf(h, right)) })
		}
	}
}

func TestTableBuildersAreTotal(t *testing.T) {
	calls := map[string]func(c valueCase) outcome{
		"TableByPeeling": func(c valueCase) outcome { return ofValues(c.byPeeling()) },
		"TableBySolving": func(c valueCase) outcome { return ofValues(c.bySolving()) },
		"TableRefusal":   func(c valueCase) outcome { return ofRefusal(c.refusal()) },
	}
	for name, call := range calls {
		for _, keys := range totalKeyLists() {
			short := slices.Repeat([]int{1}, max(0, len(keys)-1))
			lists := [][]int{nil, make([]int, len(keys)), append(slices.Clone(short), 0), short, append(slices.Clone(short), 0, 1), append(slices.Clone(short), 256), append(slices.Clone(short), math.MinInt), append(slices.Clone(short), math.MaxInt)}
			for _, n := range retrievalExtremes {
				for _, c := range []valueCase{{n, keys, nil, 9, 3}, {11, keys, nil, n, 3}, {11, keys, nil, 9, n}, {0, keys, nil, 1, n}, {n, keys, nil, n, n}} {
					for _, values := range lists {
						checkTableCall(t, name+" "+c.name(), values, keys, func(values []int, keys []string) outcome {
							return call(valueCase{c.seed, keys, values, c.segment, c.width})
						})
					}
				}
			}
		}
	}
}

// totalValueTables returns some tables, and values that are none.
func totalValueTables() []impl.Table {
	all := []impl.Table{{}, {Segment: 1, Width: 1, Cells: []int{0, 1, 1}}, {Seed: impl.MaxSeed, Segment: impl.MaxSegment, Width: impl.MaxValueWidth, Cells: scatteredNumbers(72, 256, 1)}}
	for _, keys := range [][]string{{"a", "b"}, manyKeys(7)} {
		c, _ := valueCase{3, keys, scatteredNumbers(len(keys), 8, 1), 9, 3}.plainByPeeling()
		all = append(all, c)
	}
	for _, n := range retrievalExtremes {
		all = append(all, impl.Table{Seed: n, Segment: 1, Width: 2, Cells: []int{0, 1, 2}}, impl.Table{Seed: 1, Segment: n, Width: 2, Cells: []int{0, 1, 2}},
			impl.Table{Seed: 1, Segment: 1, Width: n, Cells: []int{0, 1, 1}}, impl.Table{Seed: 1, Segment: 1, Width: 2, Cells: []int{0, n, 2}}, impl.Table{Seed: n, Segment: n, Width: n})
	}
	return all
}

func TestTableCallsAreTotal(t *testing.T) {
	for _, c := range totalValueTables() {
		with := func(cells []int) impl.Table {
			return impl.Table{Seed: c.Seed, Segment: c.Segment, Width: c.Width, Cells: cells}
		}
		single := map[string]func(cells []int, key string) outcome{
			"IsTable":         func(cells []int, key string) outcome { return outcome{on: impl.IsTable(with(cells))} },
			"RetrieveValue":   func(cells []int, key string) outcome { return ofNumber(impl.RetrieveValue(with(cells), key)) },
			"AddTables twice": func(cells []int, key string) outcome { return ofValues(impl.AddTables(with(cells), with(cells))) },
		}
		many := map[string]func(cells []int, keys []string) outcome{
			"FirstDifference within one table": func(cells []int, keys []string) outcome {
				return ofNumber(impl.FirstDifference(with(cells), with(cells), keys))
			},
		}
		for _, n := range retrievalExtremes {
			many["ChangeValue at "+strconv.Itoa(n)] = func(cells []int, keys []string) outcome { return ofValues(impl.ChangeValue(with(cells), keys, n, 1)) }
			many["ChangeValue to "+strconv.Itoa(n)] = func(cells []int, keys []string) outcome { return ofValues(impl.ChangeValue(with(cells), keys, 1, n)) }
		}
		what := strconv.Itoa(c.Seed) + ", " + strconv.Itoa(c.Segment) + ", " + strconv.Itoa(c.Width)
		checkTable(t, what, c.Cells, single, many)
		for _, cells := range spoiledLists(c.Cells) {
			checkTable(t, what, cells, single, nil)
		}
	}
}

func TestPairsOfTablesAreTotal(t *testing.T) {
	calls := map[string]func(a impl.Table, b impl.Table, keys []string) outcome{
		"AddTables": func(a impl.Table, b impl.Table, keys []string) outcome { return ofValues(impl.AddTables(a, b)) },
		"FirstDifference": func(a impl.Table, b impl.Table, keys []string) outcome {
			return ofNumber(impl.FirstDifference(a, b, keys))
		},
	}
	for name, call := range calls {
		for _, a := range totalValueTables() {
			for _, b := range totalValueTables() {
				for _, keys := range [][]string{nil, {"a"}, {"b", "a"}, manyKeys(impl.MaxKeys), manyKeys(impl.MaxKeys + 1)} {
					before := slices.Clone(b.Cells)
					second, kept := withSpare(b.Cells, 2, 0, 1, -9, 70)
					checkTableCall(t, name, a.Cells, keys, func(cells []int, keys []string) outcome {
						other := b
						// With the cells of a alone the second table has no spare capacity, either.
						if cap(cells) > len(cells) {
							other.Cells = second
						}
						return call(impl.Table{Seed: a.Seed, Segment: a.Segment, Width: a.Width, Cells: cells}, other, keys)
					})
					if !kept() || !slices.Equal(b.Cells, before) {
						t.Error(name, "changes its second table, or shares memory with it")
					}
				}
			}
		}
	}
}
