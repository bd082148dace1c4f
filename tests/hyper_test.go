package tests

import (
	"math"
	"slices"
	"strconv"
	"testing"

	"loop.example/g01097/impl"
)

// The tests of this file are for promise 4: Hypers, degrees and parts.

// edges returns edges told by three places each.
func edges(list ...[3]int) [][]int {
	all := make([][]int, len(list))
	for i, places := range list {
		all[i] = places[:]
	}
	return all
}

// hyper returns a Hyper with edges told by three places each.
func hyper(places int, list ...[3]int) impl.Hyper {
	return impl.Hyper{Places: places, Edges: edges(list...)}
}

// cloneHyper returns an equal Hyper in new memory.
func cloneHyper(h impl.Hyper) impl.Hyper {
	clone := impl.Hyper{Places: h.Places}
	for _, edge := range h.Edges {
		clone.Edges = append(clone.Edges, slices.Clone(edge))
	}
	return clone
}

// sameHyper reports whether two Hypers have the same places and edges.
func sameHyper(a impl.Hyper, b impl.Hyper) bool {
	return a.Places == b.Places && sameLists(a.Edges, b.Edges)
}

// sameLists reports whether two lists of lists are equal.
func sameLists(a [][]int, b [][]int) bool {
	return slices.EqualFunc(a, b, slices.Equal)
}

// plainHyper returns the Hyper of keys as the document tells.
func plainHyper(seed int, keys []string, segment int) impl.Hyper {
	h := impl.Hyper{Places: 3 * segment}
	for _, key := range keys {
		var edge []int
		for j := range 3 {
			edge = append(edge, plainHash(seed, j, key)*segment/65521+j*segment)
		}
		h.Edges = append(h.Edges, edge)
	}
	return h
}

// scatteredHyper returns a Hyper with so many edges in no plain order, different for each number.
func scatteredHyper(places int, count int, number int) impl.Hyper {
	h := impl.Hyper{Places: places}
	state := uint32(number)*2654435761 + 777
	for range count {
		var edge []int
		for len(edge) < 3 {
			state = state*1664525 + 1013904223
			if place := int(state>>8) % places; !slices.Contains(edge, place) {
				edge = append(edge, place)
			}
		}
		slices.Sort(edge)
		h.Edges = append(h.Edges, edge)
	}
	return h
}

// behindChain returns a Hyper with given edges, of all the first used places, and a chain of so many edges behind them:
// each one but the last has no place of its own, so that the given edges come to their turn only when the chain has been peeled from its end.
func behindChain(given [][]int, used int, length int) impl.Hyper {
	h := cloneHyper(impl.Hyper{Places: used + length, Edges: given})
	for k := range length {
		h.Edges = append(h.Edges, []int{0, used - 1 + k, used + k})
	}
	return h
}

// stirred returns the Hyper with its edges in another order.
func stirred(h impl.Hyper) impl.Hyper {
	other := impl.Hyper{Places: h.Places}
	for i := range h.Edges {
		other.Edges = append(other.Edges, slices.Clone(h.Edges[(7*i+3)%len(h.Edges)]))
	}
	return other
}

// mirrored returns the Hyper with its places in the opposite order.
func mirrored(h impl.Hyper) impl.Hyper {
	other := cloneHyper(h)
	for _, edge := range other.Edges {
		for j := range edge {
			edge[j] = h.Places - 1 - edge[j]
		}
		slices.Reverse(edge)
	}
	return other
}

// equalEdges returns so many edges with the same places.
func equalEdges(count int) [][]int {
	return edges(slices.Repeat([][3]int{{0, 1, 2}}, count)...)
}

// fourEdges returns edges among six places, each of which is in just two of them.
func fourEdges() [][]int {
	return edges([3]int{0, 1, 2}, [3]int{0, 3, 4}, [3]int{1, 3, 5}, [3]int{2, 4, 5})
}

// chainHypers returns Hypers that take many rounds: with a core at the end of the chain, and without one.
func chainHypers() []impl.Hyper {
	var all []impl.Hyper
	for _, h := range []impl.Hyper{
		behindChain(equalEdges(2), 3, 38), behindChain(equalEdges(1), 3, 39), behindChain(equalEdges(2), 3, 1), behindChain(equalEdges(3), 3, 26),
		behindChain(fourEdges(), 6, 36), behindChain(fourEdges(), 6, 15), behindChain(fourEdges()[:3], 6, 36), behindChain(edges([3]int{0, 1, 2}, [3]int{0, 1, 3}), 4, 38),
	} {
		all = append(all, h, stirred(h), mirrored(h), mirrored(stirred(h)))
	}
	return all
}

// someHypers returns Hypers: without edges, with equal edges, with several parts, with cores and without, and the limits of the chapter met exactly.
func someHypers() []impl.Hyper {
	all := []impl.Hyper{{Places: 1}, {Places: 2}, {Places: 3}, {Places: impl.MaxPlaces}, {Places: 4, Edges: [][]int{}},
		hyper(3, [3]int{0, 1, 2}), hyper(impl.MaxPlaces, [3]int{0, 1, 2}), hyper(impl.MaxPlaces, [3]int{69, 70, 71}), hyper(impl.MaxPlaces, [3]int{0, 35, 71}),
		hyper(4, [3]int{0, 1, 2}, [3]int{0, 1, 3}), hyper(4, [3]int{0, 1, 2}, [3]int{0, 1, 2}, [3]int{0, 1, 3}),
		hyper(6, [3]int{3, 4, 5}, [3]int{0, 1, 2}), hyper(6, [3]int{3, 4, 5}, [3]int{0, 1, 2}, [3]int{3, 4, 5}), hyper(9, [3]int{3, 4, 5}, [3]int{0, 1, 2}, [3]int{6, 7, 8}, [3]int{2, 5, 8}),
		hyper(9, [3]int{6, 7, 8}, [3]int{0, 1, 2}, [3]int{6, 7, 8}, [3]int{0, 1, 2}, [3]int{3, 4, 5}), hyper(8, [3]int{0, 1, 2}, [3]int{5, 6, 7}, [3]int{2, 3, 4}, [3]int{4, 5, 6}),
		hyper(7, [3]int{0, 1, 2}, [3]int{0, 3, 4}, [3]int{0, 5, 6}, [3]int{1, 3, 5}, [3]int{1, 4, 6}, [3]int{2, 3, 6}, [3]int{2, 4, 5}),
		{Places: 6, Edges: fourEdges()}, {Places: 6, Edges: fourEdges()[:3]}, {Places: 72, Edges: fourEdges()}}
	for _, count := range []int{2, 3, impl.MaxEdges - 1, impl.MaxEdges} {
		all = append(all, impl.Hyper{Places: 3, Edges: equalEdges(count)}, mirrored(impl.Hyper{Places: 5, Edges: equalEdges(count)}))
	}
	for i, places := range []int{3, 4, 6, 9, 20, 33, 48, 54, impl.MaxPlaces - 1, impl.MaxPlaces} {
		for k, count := range []int{2, 4, 7, 12, 20, 30, impl.MaxEdges - 1, impl.MaxEdges} {
			all = append(all, scatteredHyper(places, count, 10*i+k), scatteredHyper(places, count, 500+10*i+k))
		}
	}
	for seed := range 12 {
		all = append(all, plainHyper(seed, manyKeys(7), 4), plainHyper(seed, manyKeys(impl.MaxKeys), 17), plainHyper(seed, manyKeys(impl.MaxKeys), impl.MaxSegment))
	}
	return append(all, chainHypers()...)
}

// allEdges returns all edges among so many places.
func allEdges(places int) [][3]int {
	var all [][3]int
	for a := range places {
		for b := a + 1; b < places; b++ {
			for c := b + 1; c < places; c++ {
				all = append(all, [3]int{a, b, c})
			}
		}
	}
	return all
}

// smallHypers returns all Hypers with so many places and at most so many edges.
func smallHypers(places int, most int) []impl.Hyper {
	all := []impl.Hyper{{Places: places}}
	for i := 0; i < len(all); i++ {
		if len(all[i].Edges) == most {
			continue
		}
		for _, edge := range allEdges(places) {
			longer := cloneHyper(all[i])
			longer.Edges = append(longer.Edges, edge[:])
			all = append(all, longer)
		}
	}
	return all
}

// manyHypers returns all small Hypers and some other ones.
func manyHypers() []impl.Hyper {
	return slices.Concat(smallHypers(4, 4), smallHypers(5, 3), someHypers())
}

// badEdges returns lists that are no edges among so many places, by what is wrong.
func badEdges(places int) map[string][]int {
	return map[string][]int{
		"no places":           nil,
		"one place":           {0},
		"two places":          {0, 1},
		"four places":         {0, 1, 2, 3},
		"a hundred places":    make([]int, 100),
		"equal places":        {0, 0, 0},
		"first ones equal":    {0, 0, 1},
		"last ones equal":     {0, 1, 1},
		"outer ones equal":    {1, 0, 1},
		"decreasing":          {2, 1, 0},
		"first ones decrease": {1, 0, 2},
		"last ones decrease":  {0, 2, 1},
		"last one is least":   {1, 2, 0},
		"place -1":            {-1, 0, 1},
		"last place -1":       {0, 1, -1},
		"least place":         {math.MinInt, 0, 1},
		"greatest place":      {0, 1, math.MaxInt},
		"place too great":     {0, 1, places},
		"two too great":       {0, places, places + 1},
		"all too great":       {places, places + 1, places + 2},
	}
}

// badHypers returns values that are no Hypers, by what is wrong.
func badHypers() map[string]impl.Hyper {
	bad := map[string]impl.Hyper{
		"41 edges":                 {Places: 3, Edges: equalEdges(impl.MaxEdges + 1)},
		"41 edges of 72 places":    scatteredHyper(impl.MaxPlaces, impl.MaxEdges+1, 1),
		"a thousand edges":         scatteredHyper(impl.MaxPlaces, 1000, 1),
		"a thousand empty edges":   {Places: 3, Edges: make([][]int, 1000)},
		"edge of one place":        hyper(1, [3]int{0, 1, 2}),
		"edge of two places":       hyper(2, [3]int{0, 1, 2}),
		"the place 72":             hyper(impl.MaxPlaces, [3]int{0, 1, impl.MaxPlaces}),
		"the place 72 of 73":       hyper(impl.MaxPlaces+1, [3]int{0, 1, impl.MaxPlaces}),
		"most edges but no places": {Edges: equalEdges(impl.MaxEdges)},
	}
	for _, places := range []int{math.MinInt, -1, 0, impl.MaxPlaces + 1, math.MaxInt} {
		bad["places "+strconv.Itoa(places)] = impl.Hyper{Places: places}
		bad["an edge and places "+strconv.Itoa(places)] = hyper(places, [3]int{0, 1, 2})
		bad["peeled edges and places "+strconv.Itoa(places)] = hyper(places, [3]int{0, 1, 2}, [3]int{0, 1, 3})
	}
	for _, places := range []int{3, 4, impl.MaxPlaces} {
		for name, edge := range badEdges(places) {
			good := []int{0, 1, 2}
			what := name + " among " + strconv.Itoa(places)
			bad["only "+what] = impl.Hyper{Places: places, Edges: [][]int{edge}}
			bad["first "+what] = impl.Hyper{Places: places, Edges: [][]int{edge, good, good}}
			bad["middle "+what] = impl.Hyper{Places: places, Edges: [][]int{good, edge, good}}
			bad["last "+what] = impl.Hyper{Places: places, Edges: [][]int{good, good, edge}}
		}
	}
	return bad
}

// mustFailHyper checks that a call failed with the zero Hyper.
func mustFailHyper(t *testing.T, what string, h impl.Hyper, ok bool) {
	t.Helper()
	if ok || h.Places != 0 || len(h.Edges) != 0 {
		t.Errorf("%s: got %v, %v; it must fail with the zero Hyper", what, h, ok)
	}
}

func TestIsHyper(t *testing.T) {
	for _, h := range manyHypers() {
		if !impl.IsHyper(h) {
			t.Error("this is a Hyper", h)
		}
	}
	for _, edge := range allEdges(impl.MaxPlaces) {
		if !impl.IsHyper(hyper(impl.MaxPlaces, edge)) || !impl.IsHyper(hyper(edge[2]+1, edge)) || impl.IsHyper(hyper(edge[2], edge)) {
			t.Fatal("an edge is one just among places that it does not exceed", edge)
		}
	}
	for name, h := range badHypers() {
		if impl.IsHyper(h) {
			t.Error("this is no Hyper:", name)
		}
	}
}

func TestHyperOf(t *testing.T) {
	lists := [][]string{nil, {}, {"a"}, {"!", "}"}, {"a", "ab", "abcdefghijkl"}, manyKeys(12), manyKeys(impl.MaxKeys)}
	for _, keys := range lists {
		for _, seed := range []int{0, 1, 77, 5000, impl.MaxSeed} {
			for segment := 1; segment <= impl.MaxSegment; segment++ {
				h, ok := impl.HyperOf(seed, keys, segment)
				if !ok || !sameHyper(h, plainHyper(seed, keys, segment)) || !impl.IsHyper(h) {
					t.Fatalf("HyperOf(%d, %q, %d) = %v, %v", seed, keys, segment, h, ok)
				}
			}
		}
	}
	// The least and the greatest hash are those of the keys h and g for the seed 273 and the part 0.
	h, ok := impl.HyperOf(273, []string{"g", "h"}, impl.MaxSegment)
	if !ok || h.Edges[0][0] != impl.MaxSegment-1 || h.Edges[1][0] != 0 {
		t.Error("these keys have the last and the first place of the first segment", h)
	}
}

func TestHyperOfRefuses(t *testing.T) {
	two := []string{"a", "b"}
	for _, keys := range [][]string{nil, two} {
		for _, n := range []int{math.MinInt, -1, impl.MaxSeed + 1, math.MaxInt} {
			h, ok := impl.HyperOf(n, keys, 2)
			mustFailHyper(t, "HyperOf the seed "+strconv.Itoa(n), h, ok)
		}
		for _, n := range []int{math.MinInt, -1, 0, impl.MaxSegment + 1, math.MaxInt} {
			h, ok := impl.HyperOf(0, keys, n)
			mustFailHyper(t, "HyperOf the segment "+strconv.Itoa(n), h, ok)
		}
	}
	for _, list := range badLists() {
		h, ok := impl.HyperOf(0, list, 2)
		mustFailHyper(t, "HyperOf no keys", h, ok)
	}
}

func TestDegreesAndEdgesAtPlaces(t *testing.T) {
	for _, h := range manyHypers() {
		degrees, ok := impl.HyperDegrees(h)
		if !ok || len(degrees) != h.Places {
			t.Fatal("each place has a degree", h, degrees, ok)
		}
		sum := 0
		for place := range h.Places {
			var want []int
			for i, edge := range h.Edges {
				if edge[0] == place || edge[1] == place || edge[2] == place {
					want = append(want, i)
				}
			}
			at, fine := impl.EdgesAt(h, place)
			if !fine || !slices.Equal(at, want) || degrees[place] != len(want) {
				t.Fatal("the edges at the place", place, "of", h, "are", want, "not", at, degrees[place])
			}
			sum += degrees[place]
		}
		if sum != 3*len(h.Edges) {
			t.Fatal("each edge has three places", h, degrees)
		}
		for _, place := range []int{math.MinInt, -1, h.Places, h.Places + 1, math.MaxInt} {
			at, fine := impl.EdgesAt(h, place)
			mustFailList(t, "EdgesAt the place "+strconv.Itoa(place), at, fine)
		}
	}
}

func TestWithEdge(t *testing.T) {
	for _, h := range manyHypers() {
		for name, edge := range badEdges(h.Places) {
			longer, ok := impl.WithEdge(h, edge)
			mustFailHyper(t, "WithEdge, "+name, longer, ok)
		}
		for _, edge := range [][3]int{{0, 1, 2}, {1, 2, 3}, {0, 2, h.Places - 1}} {
			longer, ok := impl.WithEdge(h, edge[:])
			if edge[1] >= edge[2] || edge[2] >= h.Places || len(h.Edges) == impl.MaxEdges {
				mustFailHyper(t, "WithEdge", longer, ok)
				continue
			}
			want := cloneHyper(h)
			want.Edges = append(want.Edges, edge[:])
			if !ok || !sameHyper(longer, want) {
				t.Fatal("the edge", edge, "stands behind those of", h, "but", longer, ok)
			}
			if back, ok := impl.WithoutEdge(longer, len(h.Edges)); !ok || !sameHyper(back, h) {
				t.Fatal("a new edge of", h, "is taken back", back, ok)
			}
		}
	}
}

func TestWithEdgeOfMostEdges(t *testing.T) {
	h := scatteredHyper(impl.MaxPlaces, impl.MaxEdges-1, 4)
	full, ok := impl.WithEdge(h, []int{0, 1, impl.MaxPlaces - 1})
	if !ok || len(full.Edges) != impl.MaxEdges {
		t.Fatal("there may be as many edges as the limit", full, ok)
	}
	more, ok := impl.WithEdge(full, []int{0, 1, impl.MaxPlaces - 1})
	mustFailHyper(t, "WithEdge for one edge too many", more, ok)
	if more, ok := impl.WithEdge(impl.Hyper{Places: 3}, []int{0, 1, 2}); !ok || !sameHyper(more, hyper(3, [3]int{0, 1, 2})) {
		t.Error("the first edge", more, ok)
	}
}

func TestWithoutEdge(t *testing.T) {
	for _, h := range manyHypers() {
		for i := range h.Edges {
			want := cloneHyper(h)
			want.Edges = slices.Delete(want.Edges, i, i+1)
			if shorter, ok := impl.WithoutEdge(h, i); !ok || !sameHyper(shorter, want) {
				t.Fatal("the edge", i, "is taken out of", h, "but", shorter, ok)
			}
		}
		for _, i := range []int{math.MinInt, -1, len(h.Edges), len(h.Edges) + 1, math.MaxInt} {
			shorter, ok := impl.WithoutEdge(h, i)
			mustFailHyper(t, "WithoutEdge "+strconv.Itoa(i), shorter, ok)
		}
	}
}

// plainParts returns the parts of a Hyper: the edges that have the same least mark when all edges with a common place take the lesser one of theirs, again and again.
func plainParts(h impl.Hyper) [][]int {
	marks := make([]int, len(h.Edges))
	for i := range marks {
		marks[i] = i
	}
	for range h.Edges {
		for i, a := range h.Edges {
			for k, b := range h.Edges {
				if slices.Contains(b, a[0]) || slices.Contains(b, a[1]) || slices.Contains(b, a[2]) {
					marks[i] = min(marks[i], marks[k])
				}
			}
		}
	}
	var parts [][]int
	for first := range marks {
		var part []int
		for i, mark := range marks {
			if mark == first {
				part = append(part, i)
			}
		}
		if part != nil {
			parts = append(parts, part)
		}
	}
	return parts
}

func TestHyperParts(t *testing.T) {
	most := 0
	for _, h := range manyHypers() {
		want := plainParts(h)
		if parts, ok := impl.HyperParts(h); !ok || !sameLists(parts, want) {
			t.Fatal("the parts of", h, "are", want, "not", parts, ok)
		}
		most = max(most, len(want))
	}
	if most < 3 {
		t.Error("some Hyper must have several parts", most)
	}
	apart := impl.Hyper{Places: impl.MaxPlaces}
	for place := 0; place < impl.MaxPlaces; place += 3 {
		apart.Edges = append(apart.Edges, []int{place, place + 1, place + 2})
	}
	parts, ok := impl.HyperParts(apart)
	if !ok || len(parts) != 24 {
		t.Error("none of these edges hang together", parts)
	}
	bound, _ := impl.WithEdge(apart, []int{0, 35, 71})
	if parts, ok := impl.HyperParts(bound); !ok || len(parts) != 22 || !slices.Equal(parts[0], []int{0, 11, 23, 24}) {
		t.Error("the last edge binds three other ones", parts)
	}
}

func TestHypersRefuse(t *testing.T) {
	for name, h := range badHypers() {
		degrees, ok := impl.HyperDegrees(h)
		mustFailList(t, "HyperDegrees of "+name, degrees, ok)
		at, ok := impl.EdgesAt(h, 0)
		mustFailList(t, "EdgesAt of "+name, at, ok)
		longer, ok := impl.WithEdge(h, []int{0, 1, 2})
		mustFailHyper(t, "WithEdge of "+name, longer, ok)
		for _, i := range []int{0, 1, len(h.Edges) - 1} {
			shorter, ok := impl.WithoutEdge(h, i)
			mustFailHyper(t, "WithoutEdge of "+name, shorter, ok)
		}
		parts, ok := impl.HyperParts(h)
		mustFailList(t, "HyperParts of "+name, parts, ok)
	}
}
