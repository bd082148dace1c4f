package tests

import (
	"math"
	"slices"
	"strconv"
	"testing"

	"loop.example/g01097/impl"
)

// The tests of this file are for promise 11: what chapter 4 is called with.

// ofHyper returns the outcome that is a Hyper, with its own list of edges.
func ofHyper(h impl.Hyper, ok bool) outcome {
	return outcome{lists: h.Edges, numbers: [2]int{h.Places}, ok: ok}
}

// ofLists returns the outcome that is a list of lists.
func ofLists(lists [][]int, ok bool) outcome {
	return outcome{lists: lists, ok: ok}
}

// ofAnswer returns the outcome that is an answer.
func ofAnswer(on bool, ok bool) outcome {
	return outcome{on: on, ok: ok}
}

// ofSteps returns the outcome that is a list of steps and one of the edges that are left; the memory of the steps is used up to its capacity, too.
func ofSteps(steps []impl.PeelStep, left []int, ok bool) outcome {
	var numbers []int
	for _, step := range steps {
		numbers = append(numbers, step.Edge, step.Place)
	}
	all := steps[:cap(steps)]
	for i := range all {
		all[i] = impl.PeelStep{Edge: -77, Place: -78}
	}
	return outcome{lists: [][]int{numbers, left}, ok: ok}
}

// spareHyper returns an equal Hyper with other edges and places in the spare capacity of its lists, and a function that reports whether all are as they were.
func spareHyper(h impl.Hyper) (impl.Hyper, func() bool) {
	behind := [][]int{{0, 1, 2}, {5}, nil, {-1, 99, 3}}
	var all [][]int
	var kept []func() bool
	for _, edge := range append(slices.Clone(h.Edges), behind...) {
		spared, unchanged := withSpare(edge, 1, 2, -9, 70)
		all, kept = append(all, spared), append(kept, unchanged)
	}
	before := make([][]int, len(all))
	for i, edge := range all {
		before[i] = slices.Clone(edge)
	}
	return impl.Hyper{Places: h.Places, Edges: all[:len(h.Edges)]}, func() bool {
		return sameLists(all, before) && !slices.ContainsFunc(kept, func(unchanged func() bool) bool { return !unchanged() })
	}
}

// checkHyperCall checks that a call with a Hyper is total, with and without spare capacity.
func checkHyperCall(t *testing.T, what string, h impl.Hyper, call func(h impl.Hyper) outcome) {
	t.Helper()
	checkListCall(t, what, h, nil, []int(nil), func(h impl.Hyper, list []int) outcome { return call(h) })
}

// checkListCall checks that a call with a Hyper and a list is total, with and without spare capacity of both; others stand behind the list.
func checkListCall[T comparable](t *testing.T, what string, h impl.Hyper, list []T, others []T, call func(h impl.Hyper, list []T) outcome) {
	t.Helper()
	before := cloneHyper(h)
	sparedHyper, hyperKept := spareHyper(h)
	sparedList, listKept := withSpare(list, others...)
	checkCall(t, what+" of "+strconv.Itoa(len(h.Edges))+" edges and "+strconv.Itoa(h.Places)+" places",
		func() outcome { return call(h, list) }, func() outcome { return call(sparedHyper, sparedList) },
		func() bool {
			return hyperKept() && listKept() && sameHyper(h, before) && slices.Equal(list, sparedList)
		})
}

// totalHypers returns some valid Hypers, and values that are none.
func totalHypers() []impl.Hyper {
	all := []impl.Hyper{{Places: 1}, {Places: impl.MaxPlaces}, hyper(3, [3]int{0, 1, 2}), hyper(4, [3]int{0, 1, 2}, [3]int{0, 1, 3}), hyper(4, [3]int{0, 1, 2}, [3]int{0, 1, 2}, [3]int{0, 1, 3}),
		hyper(9, [3]int{6, 7, 8}, [3]int{0, 1, 2}, [3]int{6, 7, 8}, [3]int{0, 1, 2}, [3]int{3, 4, 5}), {Places: 3, Edges: equalEdges(impl.MaxEdges)},
		scatteredHyper(impl.MaxPlaces, impl.MaxEdges, 1), scatteredHyper(40, impl.MaxEdges, 2), scatteredHyper(20, 12, 3)}
	all = append(all, chainHypers()[:8]...)
	for _, h := range badHypers() {
		all = append(all, h)
	}
	return all
}

// peelExtremes are numbers at and behind the limits of chapter 4, and the least and the greatest ones.
var peelExtremes = []int{math.MinInt, math.MinInt + 1, -1, 0, 1, 2, 3, impl.MaxSegment, impl.MaxSegment + 1, impl.MaxEdges - 1, impl.MaxEdges, impl.MaxPlaces - 1, impl.MaxPlaces, 99, 100, impl.MaxSeed, impl.MaxSeed + 1, math.MaxInt - 100, math.MaxInt - 1, math.MaxInt}

func TestHyperCallsAreTotal(t *testing.T) {
	calls := map[string]func(h impl.Hyper) outcome{
		"IsHyper":      func(h impl.Hyper) outcome { return outcome{on: impl.IsHyper(h)} },
		"HyperDegrees": func(h impl.Hyper) outcome { return ofList(impl.HyperDegrees(h)) },
		"HyperParts":   func(h impl.Hyper) outcome { return ofLists(impl.HyperParts(h)) },
		"PeelOrder": func(h impl.Hyper) outcome {
			steps, ok := impl.PeelOrder(h)
			return ofSteps(steps, nil, ok)
		},
		"LayersOf":  func(h impl.Hyper) outcome { return ofLists(impl.LayersOf(h)) },
		"CoreOf":    func(h impl.Hyper) outcome { return ofList(impl.CoreOf(h)) },
		"OwnPlaces": func(h impl.Hyper) outcome { return ofList(impl.OwnPlaces(h)) },
	}
	for name, call := range calls {
		for _, h := range totalHypers() {
			checkHyperCall(t, name, h, call)
		}
	}
}

func TestHyperCallsWithNumbersAreTotal(t *testing.T) {
	for _, h := range totalHypers() {
		for _, n := range peelExtremes {
			checkHyperCall(t, "EdgesAt "+strconv.Itoa(n), h, func(h impl.Hyper) outcome { return ofList(impl.EdgesAt(h, n)) })
			checkHyperCall(t, "WithoutEdge "+strconv.Itoa(n), h, func(h impl.Hyper) outcome { return ofHyper(impl.WithoutEdge(h, n)) })
		}
	}
}

// totalLists returns lists of numbers: edges, choices, indices and places, valid ones and such that are not.
func totalLists() [][]int {
	all := [][]int{nil, {0, 1, 2}, {0, 1, 3}, {1, 2, 71}, {0, 1}, {2, 0}, {2, 0, 3, 4}, make([]int, impl.MaxEdges), make([]int, impl.MaxEdges+1), make([]int, 1000), slices.Repeat([]int{99}, impl.MaxEdges)}
	for _, n := range peelExtremes {
		all = append(all, []int{n}, []int{0, n}, []int{n, 0}, []int{n, 1, 2}, []int{0, 1, n}, []int{n, n, n})
	}
	for _, edge := range badEdges(impl.MaxPlaces) {
		all = append(all, edge)
	}
	return all
}

func TestHyperCallsWithListsAreTotal(t *testing.T) {
	calls := map[string]func(h impl.Hyper, list []int) outcome{
		"WithEdge":     func(h impl.Hyper, list []int) outcome { return ofHyper(impl.WithEdge(h, list)) },
		"PeelBy":       func(h impl.Hyper, list []int) outcome { return ofSteps(impl.PeelBy(h, list)) },
		"IsCore":       func(h impl.Hyper, list []int) outcome { return ofAnswer(impl.IsCore(h, list)) },
		"AreOwnPlaces": func(h impl.Hyper, list []int) outcome { return ofAnswer(impl.AreOwnPlaces(h, list)) },
	}
	for name, call := range calls {
		for _, h := range totalHypers() {
			for _, list := range totalLists() {
				checkListCall(t, name+" for "+strconv.Itoa(len(list))+" numbers", h, list, []int{3, 4, -5, 6}, call)
			}
		}
	}
}

func TestIsPeelOrderIsTotal(t *testing.T) {
	all := [][]impl.PeelStep{nil, {{Edge: 0, Place: 2}, {Edge: 1, Place: 0}}, make([]impl.PeelStep, impl.MaxEdges), make([]impl.PeelStep, 1000)}
	for _, n := range peelExtremes {
		all = append(all, []impl.PeelStep{{Edge: 0, Place: 2}, {Edge: n, Place: 0}}, []impl.PeelStep{{Edge: 0, Place: 2}, {Edge: 1, Place: n}})
		for _, m := range peelExtremes {
			all = append(all, []impl.PeelStep{{Edge: n, Place: m}})
		}
	}
	for _, h := range totalHypers() {
		for _, steps := range all {
			checkListCall(t, "IsPeelOrder for "+strconv.Itoa(len(steps))+" steps", h, steps, []impl.PeelStep{{Edge: 1, Place: 0}, {Edge: -3, Place: 80}},
				func(h impl.Hyper, steps []impl.PeelStep) outcome { return ofAnswer(impl.IsPeelOrder(h, steps)) })
		}
	}
}

func TestCallsWithKeysAreTotal(t *testing.T) {
	calls := map[string]func(keys []string, a int, b int) outcome{
		"HyperOf":                 func(keys []string, a int, b int) outcome { return ofHyper(impl.HyperOf(a, keys, b)) },
		"FirstSeed":               func(keys []string, a int, b int) outcome { return ofNumber(impl.FirstSeed(keys, 24, a, b)) },
		"FirstSeed for a segment": func(keys []string, a int, b int) outcome { return ofNumber(impl.FirstSeed(keys, a, 0, b)) },
		"FirstSeed from a seed":   func(keys []string, a int, b int) outcome { return ofNumber(impl.FirstSeed(keys, a, b, impl.MaxSeed+1)) },
		"LeastSegment":            func(keys []string, a int, b int) outcome { return ofNumber(impl.LeastSegment(a, keys, b)) },
	}
	lists := append(badLists(), nil, []string{"a"}, []string{"a", "b"}, manyKeys(impl.MaxKeys), make([]string, 1000))
	for name, call := range calls {
		for _, keys := range lists {
			before := slices.Clone(keys)
			spared, unchanged := withSpare(keys, "zz", "", "b")
			for _, a := range peelExtremes {
				for _, b := range peelExtremes {
					checkCall(t, name+" of "+strconv.Itoa(len(keys))+" strings, "+strconv.Itoa(a)+", "+strconv.Itoa(b),
						func() outcome { return call(keys, a, b) }, func() outcome { return call(spared, a, b) },
						func() bool { return unchanged() && slices.Equal(keys, before) })
				}
			}
		}
	}
}

func TestAnEdgeOfTheSameHyper(t *testing.T) {
	h := hyper(5, [3]int{0, 1, 2}, [3]int{2, 3, 4})
	longer, ok := impl.WithEdge(h, h.Edges[1])
	if !ok || !sameHyper(longer, hyper(5, [3]int{0, 1, 2}, [3]int{2, 3, 4}, [3]int{2, 3, 4})) {
		t.Fatal("an edge is there twice", longer, ok)
	}
	longer.Edges[1][0], longer.Edges[2][1] = -5, -6
	if !sameHyper(h, hyper(5, [3]int{0, 1, 2}, [3]int{2, 3, 4})) || longer.Edges[2][0] != 2 || longer.Edges[1][1] != 3 {
		t.Error("equal edges have memory of their own", longer, h)
	}
	repeated := impl.Hyper{Places: 5, Edges: [][]int{h.Edges[0], h.Edges[0], h.Edges[0]}}
	shorter, ok := impl.WithoutEdge(repeated, 1)
	if !ok || !sameHyper(shorter, hyper(5, [3]int{0, 1, 2}, [3]int{0, 1, 2})) {
		t.Fatal("an edge less", shorter, ok)
	}
	shorter.Edges[0][0] = -5
	if shorter.Edges[1][0] != 0 || h.Edges[0][0] != 0 {
		t.Error("edges that shared memory have their own in a result", shorter, h)
	}
}
