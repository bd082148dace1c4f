package tests

import (
	"fmt"
	"math"
	"slices"
	"strconv"
	"strings"
	"testing"

	"loop.example/g01097/impl"
)

// The tests of this file are for promise 2: balanced vectors and tree lists.

// nested returns the text in which so many nodes enclose one another.
func nested(nodes int) string {
	return strings.Repeat("1", nodes) + strings.Repeat("0", nodes)
}

// excessOf returns the excess at the end of a text.
func excessOf(text string) int {
	return strings.Count(text, "1") - strings.Count(text, "0")
}

// plainBalanced reports whether a text is that of a balanced vector.
func plainBalanced(text string) bool {
	for i := range text {
		if excessOf(text[:i]) < 0 {
			return false
		}
	}
	return excessOf(text) == 0
}

// plainClose returns the least k > i for which the excess at k + 1 is that at i.
func plainClose(text string, i int) int {
	excess := 1
	for k := i + 1; ; k++ {
		excess += excessOf(text[k : k+1])
		if excess == 0 {
			return k
		}
	}
}

// enclosers returns the places of all bits that enclose the one that opens at i.
func enclosers(text string, i int) []int {
	var places []int
	for _, k := range placesOf(text[:i], '1') {
		if plainClose(text, k) > plainClose(text, i) {
			places = append(places, k)
		}
	}
	return places
}

// plainParents returns the tree list of a balanced text.
func plainParents(text string) []int {
	nodes := placesOf(text, '1')
	parents := make([]int, len(nodes))
	for node, place := range nodes {
		parents[node] = -1
		if all := enclosers(text, place); len(all) > 0 {
			parents[node] = slices.Index(nodes, all[len(all)-1])
		}
	}
	return parents
}

// allTexts returns all texts of a length.
func allTexts(length int) []string {
	all := make([]string, 1<<length)
	for i := range all {
		all[i] = fieldText(length, i)
	}
	return all
}

// balancedTexts returns all balanced texts of at most so many nodes.
func balancedTexts(most int) []string {
	var all []string
	for nodes := range most + 1 {
		for _, text := range allTexts(2 * nodes) {
			if plainBalanced(text) {
				all = append(all, text)
			}
		}
	}
	return all
}

// unbalancedTexts returns texts that are not balanced.
func unbalancedTexts() []string {
	return []string{"0", "1", "01", "00", "11", "0110", "1001", "110", "100", "1101", "10110", "101", "1100010",
		strings.Repeat("1", 8) + strings.Repeat("0", 9), strings.Repeat("10", 20) + "01", strings.Repeat("1", 17), "01" + nested(20),
		strings.Repeat("1", impl.MaxBits), strings.Repeat("0", impl.MaxBits), strings.Repeat("01", impl.MaxBits/2), nested(2000) + "1"}
}

// broadTexts returns balanced texts of many nodes.
func broadTexts() []string {
	return []string{nested(8), nested(9), nested(40), strings.Repeat("10", 40), strings.Repeat(nested(3), 9), strings.Repeat("1", 20) + strings.Repeat("10", 20) + strings.Repeat("0", 20),
		"1" + strings.Repeat("1"+nested(4)+"100", 6) + "0", nested(impl.MaxTree), strings.Repeat("10", impl.MaxTree)}
}

func TestIsBalanced(t *testing.T) {
	count := 0
	for length := range 13 {
		for _, text := range allTexts(length) {
			want := plainBalanced(text)
			if balanced, ok := impl.IsBalanced(pack(text)); !ok || balanced != want {
				t.Fatalf("IsBalanced(%s) = %v, %v", text, balanced, ok)
			}
			if want {
				count++
			}
		}
	}
	if count != 1+1+2+5+14+42+132 {
		t.Error("there are so many balanced texts of at most 12 bits", count)
	}
	for _, text := range append(broadTexts(), nested(impl.MaxBits/2), strings.Repeat("10", impl.MaxBits/2)) {
		if balanced, ok := impl.IsBalanced(pack(text)); !ok || !balanced {
			t.Errorf("%s is balanced", text)
		}
	}
	for _, text := range unbalancedTexts() {
		if balanced, ok := impl.IsBalanced(pack(text)); !ok || balanced {
			t.Errorf("%s is not balanced, but this is no failure: %v, %v", text, balanced, ok)
		}
	}
}

func TestExcessAt(t *testing.T) {
	all := slices.Concat(texts(), broadTexts(), unbalancedTexts(), longTexts())
	for _, text := range all {
		b, excess := pack(text), 0
		for i := range len(text) + 1 {
			if n, ok := impl.ExcessAt(b, i); !ok || n != excess {
				t.Fatalf("ExcessAt(%s, %d) = %d, %v; want %d", text, i, n, ok, excess)
			}
			if i < len(text) {
				excess += excessOf(text[i : i+1])
			}
		}
		for _, i := range outside(len(text)) {
			n, ok := impl.ExcessAt(b, i)
			mustFail(t, "ExcessAt "+strconv.Itoa(i), n, ok)
		}
	}
}

// checkOpening checks what is told of the bit that opens at i.
func checkOpening(t *testing.T, text string, i int) {
	t.Helper()
	b := pack(text)
	closing := plainClose(text, i)
	if k, ok := impl.CloseOf(b, i); !ok || k != closing {
		t.Fatalf("CloseOf(%s, %d) = %d, %v", text, i, k, ok)
	}
	if k, ok := impl.OpenOf(b, closing); !ok || k != i {
		t.Fatalf("OpenOf(%s, %d) = %d, %v", text, closing, k, ok)
	}
	all := enclosers(text, i)
	if n, ok := impl.DepthOf(b, i); !ok || n != len(all) {
		t.Fatalf("DepthOf(%s, %d) = %d, %v", text, i, n, ok)
	}
	k, ok := impl.EnclosingOf(b, i)
	if len(all) == 0 {
		mustFail(t, "EnclosingOf a root, "+text+" at "+strconv.Itoa(i), k, ok)
	} else if !ok || k != all[len(all)-1] {
		t.Fatalf("EnclosingOf(%s, %d) = %d, %v", text, i, k, ok)
	}
	what := text + " at " + strconv.Itoa(i)
	k, ok = impl.OpenOf(b, i)
	mustFail(t, "OpenOf a bit that is on, "+what, k, ok)
	k, ok = impl.CloseOf(b, closing)
	mustFail(t, "CloseOf a bit that is off, "+what, k, ok)
	k, ok = impl.EnclosingOf(b, closing)
	mustFail(t, "EnclosingOf a bit that is off, "+what, k, ok)
	k, ok = impl.DepthOf(b, closing)
	mustFail(t, "DepthOf a bit that is off, "+what, k, ok)
}

func TestParentheses(t *testing.T) {
	for _, text := range append(balancedTexts(7), broadTexts()...) {
		for _, i := range placesOf(text, '1') {
			checkOpening(t, text, i)
		}
	}
}

func TestLongestParentheses(t *testing.T) {
	most := impl.MaxBits / 2
	for i := 0; i < most; i += 127 {
		checkOpening(t, nested(most), i)
		if n, ok := impl.DepthOf(pack(nested(most)), i); !ok || n != i {
			t.Errorf("the depth %d is told as %d, %v", i, n, ok)
		}
		checkOpening(t, strings.Repeat("10", most), 2*i)
	}
	checkOpening(t, "1"+strings.Repeat("10", most-1)+"0", impl.MaxBits-3)
	if k, ok := impl.CloseOf(pack(nested(most)), 0); !ok || k != impl.MaxBits-1 {
		t.Error("the first bit is closed at the end", k, ok)
	}
}

// treeQueries returns the queries of a place in a balanced vector.
func treeQueries() map[string]func(b impl.Bits, i int) (int, bool) {
	return map[string]func(b impl.Bits, i int) (int, bool){
		"CloseOf": impl.CloseOf, "OpenOf": impl.OpenOf, "EnclosingOf": impl.EnclosingOf, "DepthOf": impl.DepthOf,
	}
}

func TestParenthesesRefuse(t *testing.T) {
	for name, query := range treeQueries() {
		for _, text := range append(balancedTexts(4), nested(impl.MaxBits/2)) {
			for _, i := range outside(len(text) - 1) {
				k, ok := query(pack(text), i)
				mustFail(t, name+" of "+strconv.Itoa(len(text))+" bits at "+strconv.Itoa(i), k, ok)
			}
		}
		for _, text := range unbalancedTexts() {
			for i := -1; i <= len(text); i += 1 + len(text)/30 {
				k, ok := query(pack(text), i)
				mustFail(t, name+" of "+text+" at "+strconv.Itoa(i), k, ok)
			}
		}
	}
}

func TestTreesOutOfForm(t *testing.T) {
	for what, b := range badVectors() {
		balanced, ok := impl.IsBalanced(b)
		mustFail(t, "IsBalanced, "+what, balanced, ok)
		for _, i := range []int{0, 1, b.Size} {
			n, ok := impl.ExcessAt(b, i)
			mustFail(t, "ExcessAt, "+what, n, ok)
			for name, query := range treeQueries() {
				n, ok = query(b, i)
				mustFail(t, name+", "+what, n, ok)
			}
		}
		if list, ok := impl.ParentsOf(b); ok || len(list) != 0 {
			t.Errorf("ParentsOf, %s: got %v, %v; it must fail", what, list, ok)
		}
	}
	spoilt := pack("10")
	spoilt.Words[0] += 4 // a bit behind the size, though the bits before it are balanced
	balanced, ok := impl.IsBalanced(spoilt)
	mustFail(t, "IsBalanced with a bit behind the size", balanced, ok)
	k, ok := impl.CloseOf(spoilt, 0)
	mustFail(t, "CloseOf with a bit behind the size", k, ok)
	if list, ok := impl.ParentsOf(spoilt); ok || len(list) != 0 {
		t.Error("ParentsOf with a bit behind the size", list, ok)
	}
}

func TestBalancedVectorsAndTreeListsBelongToEachOther(t *testing.T) {
	for _, text := range append(balancedTexts(7), broadTexts()...) {
		parents, ok := impl.ParentsOf(pack(text))
		if !ok || !slices.Equal(parents, plainParents(text)) {
			t.Fatalf("ParentsOf(%s) = %v, %v", text, parents, ok)
		}
		if b, ok := impl.ParenthesesOf(parents); !ok || !sameBits(b, text) {
			t.Fatalf("ParenthesesOf(%v) = %v, %v; want %s", parents, b, ok, text)
		}
	}
	for _, empty := range [][]int{nil, {}} {
		if b, ok := impl.ParenthesesOf(empty); !ok || b.Size != 0 || len(b.Words) != 0 {
			t.Error("the tree list without nodes is the vector without bits", b, ok)
		}
	}
	if parents, ok := impl.ParentsOf(impl.Bits{}); !ok || len(parents) != 0 {
		t.Error("the vector without bits is the tree list without nodes", parents, ok)
	}
}

// mustFailTree checks that a list is refused as no tree list.
func mustFailTree(t *testing.T, list []int) {
	t.Helper()
	b, ok := impl.ParenthesesOf(list)
	mustFailBits(t, fmt.Sprint("ParenthesesOf ", list), b, ok)
}

func TestListsAreTreeListsOrRefused(t *testing.T) {
	trees := map[[5]int]string{}
	for _, text := range balancedTexts(5) {
		if len(text) == 10 {
			trees[[5]int(plainParents(text))] = text
		}
	}
	var list [5]int
	for code := range 8 * 8 * 8 * 8 * 8 {
		for i := range list {
			list[i] = code>>(3*i)&7 - 2
		}
		text, tree := trees[list]
		if !tree {
			mustFailTree(t, list[:])
		} else if b, ok := impl.ParenthesesOf(list[:]); !ok || !sameBits(b, text) {
			t.Fatalf("ParenthesesOf(%v) = %v, %v; want %s", list, b, ok, text)
		}
	}
	if len(trees) != 42 {
		t.Error("there are 42 tree lists of 5 nodes", len(trees))
	}
}

func TestParenthesesOfRefuses(t *testing.T) {
	for _, list := range [][]int{{0}, {1}, {-2}, {-1, 1}, {-1, 2}, {-1, -2}, {0, 0}, {-1, -1, 0}, {-1, 0, -1, 1}, {-1, 0, 0, 1},
		{-1, 0, 1, 1, 2}, {-1, 0, 3, 2}, {-1, 0, -1, 0}, {-1, 2, 1}, {math.MinInt}, {math.MaxInt}} {
		mustFailTree(t, list)
	}
	for _, text := range broadTexts() {
		parents := plainParents(text)
		for at := range parents {
			for _, wrong := range []int{at, at + 1, -2, math.MinInt, math.MaxInt, impl.MaxTree, impl.MaxTree + 1} {
				list := slices.Clone(parents)
				list[at] = wrong
				mustFailTree(t, list)
			}
		}
	}
}

func TestLimitOfTrees(t *testing.T) {
	most := impl.MaxTree
	if most != 64 {
		t.Error("a tree list has at most 64 numbers", most)
	}
	for _, text := range []string{nested(most), strings.Repeat("10", most), strings.Repeat("1100", most/2), "1" + strings.Repeat("10", most-1) + "0"} {
		parents := plainParents(text)
		if b, ok := impl.ParenthesesOf(parents); !ok || !sameBits(b, text) {
			t.Errorf("ParenthesesOf(%v) = %v, %v", parents, b, ok)
		}
		if list, ok := impl.ParentsOf(pack(text)); !ok || !slices.Equal(list, parents) {
			t.Errorf("ParentsOf(%s) = %v, %v", text, list, ok)
		}
		for _, longer := range []string{text + "10", "1" + text + "0", "10" + text, text + text} {
			mustFailTree(t, plainParents(longer))
			if list, ok := impl.ParentsOf(pack(longer)); ok || len(list) != 0 {
				t.Errorf("ParentsOf(%s) = %v, %v; it must fail", longer, list, ok)
			}
		}
	}
	mustFailTree(t, slices.Repeat([]int{-1}, 100000))
	for _, text := range append(unbalancedTexts(), nested(impl.MaxBits/2)) {
		if list, ok := impl.ParentsOf(pack(text)); ok || len(list) != 0 {
			t.Errorf("ParentsOf(%s) = %v, %v; it must fail", text, list, ok)
		}
	}
}

func TestExampleOfTrees(t *testing.T) {
	b := pack("110100")
	if balanced, ok := impl.IsBalanced(b); !ok || !balanced {
		t.Error("the vector 110100 is balanced")
	}
	for opens, want := range map[int]int{0: 5, 1: 2, 3: 4} {
		if k, ok := impl.CloseOf(b, opens); !ok || k != want {
			t.Errorf("the bit %d is closed at %d, not at %d", opens, want, k)
		}
	}
	if list, ok := impl.ParentsOf(b); !ok || !slices.Equal(list, []int{-1, 0, 0}) {
		t.Error("its tree list is -1, 0, 0", list)
	}
}
