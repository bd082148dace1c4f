package tests

import (
	"math"
	"slices"
	"strconv"
	"testing"

	"loop.example/g01097/impl"
)

// The tests of this file are for promise 4: peel orders, layers and cores.

// indicesOf returns the indices of all edges.
func indicesOf(h impl.Hyper) []int {
	var all []int
	for i := range h.Edges {
		all = append(all, i)
	}
	return all
}

// onlyAt returns the one edge of a list that has a place, or -1 if there is none or more than one.
func onlyAt(h impl.Hyper, list []int, place int) int {
	only := -1
	for _, i := range list {
		if slices.Contains(h.Edges[i], place) {
			if only >= 0 {
				return -1
			}
			only = i
		}
	}
	return only
}

// plainSteps returns the steps that can be made as long as the edges of a list are there, by increasing places.
func plainSteps(h impl.Hyper, list []int) []impl.PeelStep {
	var steps []impl.PeelStep
	for place := range h.Places {
		if i := onlyAt(h, list, place); i >= 0 {
			steps = append(steps, impl.PeelStep{Edge: i, Place: place})
		}
	}
	return steps
}

// without returns a list without a number.
func without(list []int, n int) []int {
	return slices.DeleteFunc(slices.Clone(list), func(m int) bool { return m == n })
}

// plainPeelBy returns the steps that choices tell and the edges that are left.
func plainPeelBy(h impl.Hyper, choices []int) ([]impl.PeelStep, []int) {
	var made []impl.PeelStep
	left := indicesOf(h)
	for _, choice := range choices {
		steps := plainSteps(h, left)
		if len(steps) == 0 {
			return made, left
		}
		step := steps[choice%len(steps)]
		made = append(made, step)
		left = without(left, step.Edge)
	}
	return made, left
}

// plainCore returns the edges that are left when all are peeled, those at the greatest places first.
func plainCore(h impl.Hyper) []int {
	_, left := plainPeelBy(mirrored(h), make([]int, len(h.Edges)))
	return left
}

// isPlainCore reports whether a list is not empty and each place of one of its edges is a place of another one of them.
func isPlainCore(h impl.Hyper, list []int) bool {
	for k, i := range list {
		if i < 0 || i >= len(h.Edges) || k > 0 && list[k-1] >= i {
			return false
		}
	}
	for _, i := range list {
		others := without(list, i)
		for _, place := range h.Edges[i] {
			if !slices.ContainsFunc(others, func(k int) bool { return slices.Contains(h.Edges[k], place) }) {
				return false
			}
		}
	}
	return len(list) > 0
}

// subsetsOf returns all lists of some edges, strictly increasing.
func subsetsOf(h impl.Hyper) [][]int {
	var all [][]int
	for set := range 1 << len(h.Edges) {
		var list []int
		for i := range h.Edges {
			if set>>i&1 == 1 {
				list = append(list, i)
			}
		}
		all = append(all, list)
	}
	return all
}

// contains reports whether all numbers of part are in whole.
func contains(whole []int, part []int) bool {
	return !slices.ContainsFunc(part, func(n int) bool { return !slices.Contains(whole, n) })
}

// someChoices returns lists of choices: none, one, the least and the greatest ones, and such in no plain order.
func someChoices() [][]int {
	all := [][]int{nil, {0}, {99}, {1, 0, 3}, slices.Repeat([]int{0}, impl.MaxEdges), slices.Repeat([]int{1}, impl.MaxEdges), slices.Repeat([]int{99}, impl.MaxEdges)}
	for number := range 6 {
		list := make([]int, []int{impl.MaxEdges, impl.MaxEdges, impl.MaxEdges - 1, 25, 11, 3}[number])
		state := uint32(number)*2654435761 + 31
		for i := range list {
			state = state*1664525 + 1013904223
			list[i] = int(state>>8) % 100
		}
		all = append(all, list)
	}
	return all
}

func TestCoreByDefinition(t *testing.T) {
	cores := 0
	for _, h := range append(smallHypers(4, 4), smallHypers(5, 3)...) {
		// All proofs together are one again, so that the core has every edge of each.
		var want []int
		for i := range h.Edges {
			if slices.ContainsFunc(subsetsOf(h), func(list []int) bool { return slices.Contains(list, i) && isPlainCore(h, list) }) {
				want = append(want, i)
			}
		}
		if core, ok := impl.CoreOf(h); !ok || !slices.Equal(core, want) {
			t.Fatal("the core of", h, "is", want, "not", core, ok)
		}
		if !slices.Equal(plainCore(h), want) {
			t.Fatal("the plain core of", h, "is", want, "not", plainCore(h))
		}
		if len(want) > 0 {
			cores++
		}
	}
	if cores < 100 {
		t.Error("many Hypers must have a core", cores)
	}
}

func TestCoreOf(t *testing.T) {
	for _, h := range someHypers() {
		want := plainCore(h)
		if core, ok := impl.CoreOf(h); !ok || !slices.Equal(core, want) {
			t.Fatal("the core of", h, "is", want, "not", core, ok)
		}
	}
	all := impl.Hyper{Places: 3, Edges: equalEdges(impl.MaxEdges)}
	if core, ok := impl.CoreOf(all); !ok || !slices.Equal(core, indicesOf(all)) {
		t.Error("equal edges are a core", core, ok)
	}
	hidden := stirred(behindChain(equalEdges(2), 3, 38))
	if core, ok := impl.CoreOf(hidden); !ok || len(core) != 2 || !slices.Equal(hidden.Edges[core[0]], []int{0, 1, 2}) || !slices.Equal(hidden.Edges[core[1]], []int{0, 1, 2}) {
		t.Error("two equal edges are behind the chain", core, ok)
	}
}

func TestEitherOrderOrCore(t *testing.T) {
	orders, cores := 0, 0
	for _, h := range manyHypers() {
		steps, hasOrder := impl.PeelOrder(h)
		core, ok := impl.CoreOf(h)
		isOrder, fine := impl.IsPeelOrder(h, steps)
		isCore, known := impl.IsCore(h, core)
		if !ok || !fine || !known {
			t.Fatal("a Hyper is told about", h, ok, fine, known)
		}
		if hasOrder != isOrder || hasOrder == isCore || hasOrder != (len(core) == 0) {
			t.Fatal("either an order or a core is told of", h, steps, core)
		}
		if hasOrder {
			orders++
		} else {
			cores++
			mustFailList(t, "PeelOrder of a Hyper with a core", steps, hasOrder)
		}
	}
	if orders < 100 || cores < 100 {
		t.Error("both answers must have been met", orders, cores)
	}
}

func TestPeelOrder(t *testing.T) {
	for _, h := range manyHypers() {
		want, left := plainPeelBy(h, make([]int, len(h.Edges)))
		steps, ok := impl.PeelOrder(h)
		if ok != (len(left) == 0) || ok && !slices.Equal(steps, want) {
			t.Fatal("the peel order of", h, "is", want, "not", steps, ok)
		}
	}
	steps, ok := impl.PeelOrder(hyper(4, [3]int{0, 1, 2}, [3]int{0, 1, 3}))
	if !ok || !slices.Equal(steps, []impl.PeelStep{{Edge: 0, Place: 2}, {Edge: 1, Place: 0}}) {
		t.Error("the order of the example", steps, ok)
	}
	if steps, ok := impl.PeelOrder(impl.Hyper{Places: 1}); !ok || len(steps) != 0 {
		t.Error("without edges there is an order without steps", steps, ok)
	}
	if steps, ok := impl.PeelOrder(behindChain(equalEdges(1), 3, 39)); !ok || len(steps) != impl.MaxEdges {
		t.Error("as many edges as the limit are peeled", steps, ok)
	}
}

func TestPeelBy(t *testing.T) {
	for _, h := range manyHypers() {
		for _, choices := range someChoices() {
			want, wantLeft := plainPeelBy(h, choices)
			steps, left, ok := impl.PeelBy(h, choices)
			if !ok || !slices.Equal(steps, want) || !slices.Equal(left, wantLeft) {
				t.Fatal("choices", choices, "of", h, "tell", want, wantLeft, "not", steps, left, ok)
			}
		}
	}
}

func TestAnyPeelingHoldsTheCore(t *testing.T) {
	for _, h := range someHypers() {
		core, ok := impl.CoreOf(h)
		if !ok {
			t.Fatal("there is a core", h)
		}
		for _, choices := range someChoices() {
			for many := range len(choices) + 1 {
				steps, left, ok := impl.PeelBy(h, choices[:many])
				if !ok || !contains(left, core) || len(steps)+len(left) != len(h.Edges) {
					t.Fatal("what is left of", h, "by", choices[:many], "holds the core", core, "not", left, ok)
				}
				if len(plainSteps(h, left)) == 0 && !slices.Equal(left, core) || len(plainSteps(h, left)) > 0 && len(steps) != many {
					t.Fatal("the core", core, "is left of", h, "as soon as nothing more can be peeled by", choices[:many], "not", left)
				}
				if isOrder, ok := impl.IsPeelOrder(h, steps); !ok || isOrder != (len(left) == 0) {
					t.Fatal("the steps", steps, "are a peel order of", h, "if no edge is left", isOrder, ok)
				}
			}
		}
	}
}

func TestPeelByRefuses(t *testing.T) {
	for _, h := range []impl.Hyper{{Places: 1}, hyper(3, [3]int{0, 1, 2}), {Places: 3, Edges: equalEdges(2)}, behindChain(equalEdges(2), 3, 38)} {
		bad := [][]int{make([]int, impl.MaxEdges+1), make([]int, 10000), append(make([]int, impl.MaxEdges-1), 100), append(make([]int, impl.MaxEdges-1), -1)}
		for _, n := range []int{math.MinInt, -1, 100, math.MaxInt} {
			bad = append(bad, []int{n}, []int{n, 0}, []int{0, n}, []int{0, 1, 2, n})
		}
		for _, choices := range bad {
			steps, left, ok := impl.PeelBy(h, choices)
			mustFailList(t, "the steps of PeelBy", steps, ok)
			mustFailList(t, "what PeelBy leaves", left, ok)
		}
	}
}

// stepLists returns all lists of at most so many steps, whose edges and places are at most 1 beyond those of a Hyper.
func stepLists(h impl.Hyper, most int) [][]impl.PeelStep {
	all := [][]impl.PeelStep{nil}
	for i := 0; i < len(all); i++ {
		for edge := -1; edge <= len(h.Edges) && len(all[i]) < most; edge++ {
			for place := -1; place <= h.Places; place++ {
				all = append(all, append(slices.Clone(all[i]), impl.PeelStep{Edge: edge, Place: place}))
			}
		}
	}
	return all
}

// isPlainOrder reports whether steps are a peel order.
func isPlainOrder(h impl.Hyper, steps []impl.PeelStep) bool {
	left := indicesOf(h)
	for _, step := range steps {
		if step.Edge < 0 || onlyAt(h, left, step.Place) != step.Edge {
			return false
		}
		left = without(left, step.Edge)
	}
	return len(left) == 0
}

func TestIsPeelOrderOfAllSteps(t *testing.T) {
	for _, h := range []impl.Hyper{{Places: 1}, {Places: 3}, hyper(3, [3]int{0, 1, 2}), hyper(4, [3]int{0, 1, 3}), hyper(4, [3]int{0, 1, 2}, [3]int{0, 1, 3}), hyper(3, [3]int{0, 1, 2}, [3]int{0, 1, 2}),
		hyper(5, [3]int{0, 1, 2}, [3]int{2, 3, 4}), hyper(4, [3]int{0, 1, 2}, [3]int{0, 1, 2}, [3]int{0, 1, 3})} {
		for _, steps := range stepLists(h, 3) {
			if is, ok := impl.IsPeelOrder(h, steps); !ok || is != isPlainOrder(h, steps) {
				t.Fatal("the steps", steps, "of", h, "are a peel order:", is, ok)
			}
		}
	}
}

func TestIsPeelOrderOfSpoiledSteps(t *testing.T) {
	for _, h := range someHypers() {
		steps, _ := plainPeelBy(h, slices.Repeat([]int{7}, impl.MaxEdges))
		for i := range steps {
			for _, n := range []int{math.MinInt, -1, 0, 1, 2, len(h.Edges), h.Places, impl.MaxEdges, impl.MaxPlaces, math.MaxInt} {
				for _, step := range []impl.PeelStep{{Edge: n, Place: steps[i].Place}, {Edge: steps[i].Edge, Place: n}, {Edge: n, Place: n}} {
					spoiled := slices.Clone(steps)
					spoiled[i] = step
					if is, ok := impl.IsPeelOrder(h, spoiled); !ok || is != isPlainOrder(h, spoiled) {
						t.Fatal("the steps", spoiled, "of", h, "are a peel order:", is, ok)
					}
				}
			}
		}
		for _, spoiled := range [][]impl.PeelStep{append(slices.Clone(steps), steps...), append(slices.Clone(steps), impl.PeelStep{}), make([]impl.PeelStep, 1000), nil, steps[:len(steps)/2]} {
			if is, ok := impl.IsPeelOrder(h, spoiled); !ok || is != isPlainOrder(h, spoiled) {
				t.Fatal("the steps", spoiled, "of", h, "are a peel order:", is, ok)
			}
		}
	}
}

// plainLayers returns the layers of a Hyper.
func plainLayers(h impl.Hyper) [][]int {
	var layers [][]int
	left := indicesOf(h)
	for {
		var layer []int
		for _, i := range left {
			if slices.ContainsFunc(h.Edges[i], func(place int) bool { return onlyAt(h, left, place) == i }) {
				layer = append(layer, i)
			}
		}
		if layer == nil {
			return layers
		}
		layers = append(layers, layer)
		for _, i := range layer {
			left = without(left, i)
		}
	}
}

func TestLayersOf(t *testing.T) {
	most, widest := 0, 0
	for _, h := range manyHypers() {
		want := plainLayers(h)
		layers, ok := impl.LayersOf(h)
		if !ok || !sameLists(layers, want) {
			t.Fatal("the layers of", h, "are", want, "not", layers, ok)
		}
		core, fine := impl.CoreOf(h)
		all := slices.Concat(append(slices.Clone(layers), core)...)
		slices.Sort(all)
		if !fine || !slices.Equal(all, indicesOf(h)) {
			t.Fatal("each edge of", h, "is in one layer or in the core", layers, core)
		}
		most = max(most, len(layers))
		for _, layer := range layers {
			widest = max(widest, len(layer))
		}
	}
	if most != 38 || widest < 20 {
		t.Error("there must be many rounds, and rounds with many edges", most, widest)
	}
}

func TestLayersOfChains(t *testing.T) {
	layers, ok := impl.LayersOf(behindChain(equalEdges(2), 3, 38))
	if !ok || len(layers) != 38 {
		t.Fatal("the chain is peeled from its end", layers, ok)
	}
	for round, layer := range layers {
		if !slices.Equal(layer, []int{39 - round}) {
			t.Error("the round", round, "takes the last edge of the chain, not", layer)
		}
	}
	if layers, ok := impl.LayersOf(behindChain(edges([3]int{0, 1, 2}), 3, 4)); !ok || !sameLists(layers, [][]int{{0, 4}, {1, 3}, {2}}) {
		t.Error("this chain is peeled from both ends", layers, ok)
	}
	for _, h := range []impl.Hyper{{Places: 1}, {Places: impl.MaxPlaces}, {Places: 3, Edges: equalEdges(2)}} {
		if layers, ok := impl.LayersOf(h); !ok || len(layers) != 0 {
			t.Error("nothing of", h, "can be peeled", layers, ok)
		}
	}
}

// shortLists returns all lists of at most four numbers in -1..most.
func shortLists(most int) [][]int {
	all := [][]int{nil}
	for i := 0; i < len(all); i++ {
		for n := -1; n <= most && len(all[i]) < 4; n++ {
			all = append(all, append(slices.Clone(all[i]), n))
		}
	}
	return all
}

func TestIsCoreOfAllLists(t *testing.T) {
	found := 0
	for _, h := range slices.Concat(smallHypers(4, 3), smallHypers(5, 2), []impl.Hyper{{Places: 6, Edges: fourEdges()}}) {
		for _, list := range shortLists(len(h.Edges)) {
			is, ok := impl.IsCore(h, list)
			if !ok || is != isPlainCore(h, list) {
				t.Fatal("the edges", list, "of", h, "are a core:", is, ok)
			}
			if _, hasOrder := impl.PeelOrder(h); is && hasOrder {
				t.Fatal("there is no peel order of", h, "with the core", list)
			}
			if is {
				found++
			}
		}
	}
	if found < 50 {
		t.Error("some lists must be cores", found)
	}
}

func TestIsCoreOfParts(t *testing.T) {
	for _, h := range someHypers() {
		core := plainCore(h)
		all := [][]int{nil, {}, core, indicesOf(h), {0}, {0, 1}, {0, 0}, {1, 0}, {0, 2}, make([]int, 1000), {math.MinInt}, {math.MaxInt}, {len(h.Edges)}, {-1}}
		for i := range core {
			all = append(all, slices.Delete(slices.Clone(core), i, i+1), append(slices.Clone(core), core[i]), slices.Insert(slices.Clone(core), i, core[i]))
		}
		for _, n := range []int{math.MinInt, -1, len(h.Edges), impl.MaxEdges, math.MaxInt} {
			all = append(all, append(slices.Clone(core), n), append([]int{n}, core...))
		}
		backwards := slices.Clone(core)
		slices.Reverse(backwards)
		for _, i := range indicesOf(h) {
			all = append(all, without(indicesOf(h), i))
			more := append(slices.Clone(core), i)
			slices.Sort(more)
			all = append(all, more)
		}
		for _, list := range append(all, backwards) {
			if is, ok := impl.IsCore(h, list); !ok || is != isPlainCore(h, list) {
				t.Fatal("the edges", list, "of", h, "are a core:", is, ok)
			}
		}
	}
}

func TestOwnPlaces(t *testing.T) {
	for _, h := range manyHypers() {
		steps, left := plainPeelBy(h, make([]int, len(h.Edges)))
		places, ok := impl.OwnPlaces(h)
		if len(left) > 0 {
			mustFailList(t, "OwnPlaces of a Hyper with a core", places, ok)
			continue
		}
		want := make([]int, len(h.Edges))
		for _, step := range steps {
			want[step.Edge] = step.Place
		}
		if !ok || !slices.Equal(places, want) {
			t.Fatal("the own places of", h, "are", want, "not", places, ok)
		}
		if are, ok := impl.AreOwnPlaces(h, places); !ok || !are {
			t.Fatal("the own places of", h, "are different places of its edges", places, ok)
		}
	}
	if places, ok := impl.OwnPlaces(hyper(4, [3]int{0, 1, 2}, [3]int{0, 1, 3})); !ok || !slices.Equal(places, []int{2, 0}) {
		t.Error("the own places of the example", places, ok)
	}
	if places, ok := impl.OwnPlaces(impl.Hyper{Places: 1}); !ok || len(places) != 0 {
		t.Error("no edges have no own places", places, ok)
	}
}

// arePlainPlaces reports whether a list has for each edge one of its places, all of them different.
func arePlainPlaces(h impl.Hyper, list []int) bool {
	seen := map[int]bool{}
	for i, place := range list {
		if i >= len(h.Edges) || !slices.Contains(h.Edges[i], place) {
			return false
		}
		seen[place] = true
	}
	return len(list) == len(h.Edges) && len(seen) == len(list)
}

func TestAreOwnPlacesOfAllLists(t *testing.T) {
	found := 0
	for _, h := range append(smallHypers(4, 3), hyper(3, [3]int{0, 1, 2}, [3]int{0, 1, 2}, [3]int{0, 1, 2}), impl.Hyper{Places: 3, Edges: equalEdges(4)}) {
		for _, list := range shortLists(h.Places) {
			are, ok := impl.AreOwnPlaces(h, list)
			if !ok || are != arePlainPlaces(h, list) {
				t.Fatal("the places", list, "are own ones of", h, are, ok)
			}
			if are {
				found++
			}
		}
	}
	if found < 50 {
		t.Error("some lists must be own places", found)
	}
}

func TestAreOwnPlacesOfSpoiledLists(t *testing.T) {
	for _, h := range someHypers() {
		steps, _ := plainPeelBy(h, make([]int, len(h.Edges)))
		places := make([]int, len(h.Edges))
		for i := range places {
			places[i] = h.Edges[i][i%3]
		}
		for _, step := range steps {
			places[step.Edge] = step.Place
		}
		all := [][]int{nil, {}, places, append(slices.Clone(places), 0), append(slices.Clone(places), -1), make([]int, 1000), make([]int, len(places))}
		for i := range places {
			for _, n := range []int{math.MinInt, -1, 0, 1, places[0], h.Edges[i][0], h.Edges[i][1], h.Edges[i][2], h.Places, math.MaxInt} {
				spoiled := slices.Clone(places)
				spoiled[i] = n
				all = append(all, spoiled)
			}
			all = append(all, places[:i])
		}
		for _, list := range all {
			if are, ok := impl.AreOwnPlaces(h, list); !ok || are != arePlainPlaces(h, list) {
				t.Fatal("the places", list, "are own ones of", h, are, ok)
			}
		}
	}
}

func TestPeelingRefuses(t *testing.T) {
	for name, h := range badHypers() {
		steps, ok := impl.PeelOrder(h)
		mustFailList(t, "PeelOrder of "+name, steps, ok)
		for _, choices := range [][]int{nil, {0}, {1, 2, 3}} {
			steps, left, ok := impl.PeelBy(h, choices)
			mustFailList(t, "the steps of PeelBy of "+name, steps, ok)
			mustFailList(t, "what PeelBy leaves of "+name, left, ok)
		}
		for _, steps := range [][]impl.PeelStep{nil, {{Edge: 0, Place: 0}}, {{Edge: 0, Place: 2}, {Edge: 1, Place: 0}}} {
			is, ok := impl.IsPeelOrder(h, steps)
			mustFail(t, "IsPeelOrder of "+name, is, ok)
		}
		layers, ok := impl.LayersOf(h)
		mustFailList(t, "LayersOf "+name, layers, ok)
		core, ok := impl.CoreOf(h)
		mustFailList(t, "CoreOf "+name, core, ok)
		places, ok := impl.OwnPlaces(h)
		mustFailList(t, "OwnPlaces of "+name, places, ok)
		for _, list := range [][]int{nil, {0}, {0, 1}, {0, 1, 2}, indicesOf(h)} {
			is, ok := impl.IsCore(h, list)
			mustFail(t, "IsCore of "+name, is, ok)
			are, ok := impl.AreOwnPlaces(h, list)
			mustFail(t, "AreOwnPlaces of "+name, are, ok)
		}
	}
}

// arePlainlyPeeled reports whether there is a peel order of the Hyper of keys.
func arePlainlyPeeled(seed int, keys []string, segment int) bool {
	return len(plainCore(plainHyper(seed, keys, segment))) == 0
}

// checkFirstSeed checks FirstSeed against a look at each seed.
func checkFirstSeed(t *testing.T, keys []string, segment int, from int, until int) {
	t.Helper()
	seed, ok := impl.FirstSeed(keys, segment, from, until)
	suits := func(n int) bool { return arePlainlyPeeled(n, keys, segment) }
	mustBeFirst(t, "FirstSeed of "+strconv.Itoa(len(keys))+" keys, "+strconv.Itoa(segment), from, until, suits, seed, ok)
}

func TestFirstSeed(t *testing.T) {
	lists := [][]string{nil, {"a"}, {"a", "b"}, manyKeys(5), manyKeys(10), manyKeys(20)}
	for _, keys := range lists {
		for _, segment := range []int{1, 2, 4, 8, 9, impl.MaxSegment} {
			for _, from := range []int{0, 1, 37, 5000, impl.MaxSeed - 4, impl.MaxSeed} {
				for _, count := range []int{0, 1, 2, 5} {
					if from+count <= impl.MaxSeed+1 {
						checkFirstSeed(t, keys, segment, from, from+count)
					}
				}
			}
			checkFirstSeed(t, keys, segment, impl.MaxSeed+1, impl.MaxSeed+1)
		}
	}
	if seed, ok := impl.FirstSeed(nil, 1, 9, 109); !ok || seed != 9 {
		t.Error("without keys each seed has a peel order", seed, ok)
	}
}

func TestFirstSeedOfTheWidestRange(t *testing.T) {
	// The first seed of these keys and segment is the 142.
	keys := manyKeys(30)
	for _, from := range []int{42, 43, 44, 142, 143} {
		checkFirstSeed(t, keys, 11, from, from+100)
	}
	if seed, ok := impl.FirstSeed(keys, 11, 43, 143); !ok || seed != 142 {
		t.Error("the last seed of a hundred is told", seed, ok)
	}
	seed, ok := impl.FirstSeed(keys, 11, 42, 142)
	mustFail(t, "FirstSeed of a hundred seeds without a peel order", seed, ok)
	seed, ok = impl.FirstSeed(keys, 11, 42, 143)
	mustFail(t, "FirstSeed of a hundred and one seeds", seed, ok)
	most := manyKeys(impl.MaxKeys)
	checkFirstSeed(t, most, 17, impl.MaxSeed, impl.MaxSeed+1)
	checkFirstSeed(t, most, 17, impl.MaxSeed-99, impl.MaxSeed+1)
	if seed, ok := impl.FirstSeed(most, 17, impl.MaxSeed, impl.MaxSeed+1); !ok || seed != impl.MaxSeed {
		t.Error("the greatest seed is told", seed, ok)
	}
}

func TestFirstSeedRefuses(t *testing.T) {
	easy := []string{"a"}
	for _, r := range badSeedRanges {
		for _, keys := range [][]string{nil, easy} {
			seed, ok := impl.FirstSeed(keys, 5, r[0], r[1])
			mustFail(t, "FirstSeed from "+strconv.Itoa(r[0])+" until "+strconv.Itoa(r[1]), seed, ok)
		}
	}
	for _, n := range []int{math.MinInt, -1, 0, impl.MaxSegment + 1, math.MaxInt} {
		for _, keys := range [][]string{nil, easy} {
			seed, ok := impl.FirstSeed(keys, n, 3, 50)
			mustFail(t, "FirstSeed for the segment "+strconv.Itoa(n), seed, ok)
		}
	}
	for _, list := range badLists() {
		seed, ok := impl.FirstSeed(list, 24, 3, 50)
		mustFail(t, "FirstSeed of no keys", seed, ok)
	}
}

// checkLeastSegment checks LeastSegment against a look at each segment, for each limit, and returns the least one.
func checkLeastSegment(t *testing.T, seed int, keys []string) int {
	t.Helper()
	return mustBeLeast(t, "LeastSegment for "+strconv.Itoa(seed)+" of "+strconv.Itoa(len(keys))+" keys", impl.MaxSegment,
		func(n int) bool { return arePlainlyPeeled(seed, keys, n) },
		func(most int) (int, bool) { return impl.LeastSegment(seed, keys, most) })
}

func TestLeastSegment(t *testing.T) {
	for _, keys := range [][]string{nil, {"a"}, {"a", "b"}, manyKeys(5), manyKeys(10), manyKeys(20), manyKeys(impl.MaxKeys)} {
		for _, seed := range []int{0, 1, 2, 123, 5000, impl.MaxSeed} {
			checkLeastSegment(t, seed, keys)
		}
	}
	most := manyKeys(impl.MaxKeys)
	if segment := checkLeastSegment(t, 77, most); segment != impl.MaxSegment {
		t.Error("for this seed the greatest segment must be the least one", segment)
	}
	if segment := checkLeastSegment(t, 169, most); segment <= impl.MaxSegment {
		t.Error("for this seed no segment must have a peel order", segment)
	}
	if segment := checkLeastSegment(t, 0, nil); segment != 1 {
		t.Error("without keys the least segment is 1", segment)
	}
}

func TestLeastSegmentRefuses(t *testing.T) {
	for _, keys := range [][]string{nil, {"a"}} {
		for _, n := range []int{math.MinInt, -1, 0, impl.MaxSegment + 1, math.MaxInt} {
			segment, ok := impl.LeastSegment(0, keys, n)
			mustFail(t, "LeastSegment up to "+strconv.Itoa(n), segment, ok)
		}
		for _, n := range []int{math.MinInt, -1, impl.MaxSeed + 1, math.MaxInt} {
			segment, ok := impl.LeastSegment(n, keys, 24)
			mustFail(t, "LeastSegment for the seed "+strconv.Itoa(n), segment, ok)
		}
	}
	for _, list := range badLists() {
		segment, ok := impl.LeastSegment(0, list, 24)
		mustFail(t, "LeastSegment of no keys", segment, ok)
	}
}
