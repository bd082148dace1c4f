package tests

import (
	"slices"
	"strconv"
	"testing"

	"loop.example/g01097/impl"
)

// The tests of this file are for promise 8: filters of prints.

// plainPrint returns the print of a key.
func plainPrint(seed int, width int, key string) int {
	places := 1
	for range width {
		places *= 2
	}
	return plainPlaces(seed, 9, []string{key}, places)[0]
}

// printCase returns the case of a table of prints.
func printCase(seed int, keys []string, segment int, width int) valueCase {
	c := valueCase{seed: seed, keys: keys, segment: segment, width: width}
	for _, key := range keys {
		c.values = append(c.values, plainPrint(seed, width, key))
	}
	return c
}

// printCases returns cases with all kinds of keys, seeds, segments and widths, the limits met exactly among them; for some of them there is no peel order.
func printCases() []valueCase {
	var all []valueCase
	for _, keys := range keyLists() {
		for _, seed := range someSeeds {
			for _, segment := range []int{1, 2, 5, 9, 14, 18, impl.MaxSegment} {
				for width := 1; width <= impl.MaxValueWidth; width++ {
					all = append(all, printCase(seed, keys, segment, width))
				}
			}
		}
	}
	return all
}

// printFilter returns PrintFilterOf a case.
func (c valueCase) printFilter() (impl.Table, bool) {
	return impl.PrintFilterOf(c.seed, c.keys, c.segment, c.width)
}

// saysYes reports whether the value of a table for a key is its print.
func saysYes(c impl.Table, key string) bool {
	return plainValue(c, key) == plainPrint(c.Seed, c.Width, key)
}

func TestPrintOf(t *testing.T) {
	for _, seed := range append(someSeeds, 273, 9998) {
		for width := 1; width <= impl.MaxValueWidth; width++ {
			for _, key := range anyKeys() {
				want := plainPrint(seed, width, key)
				if number, ok := impl.PrintOf(seed, width, key); !ok || number != want {
					t.Fatal("the print of", key, "for", seed, width, "is", want, "not", number, ok)
				}
				if place, ok := impl.PlaceOf(seed, 9, key, 1<<width); !ok || place != want {
					t.Fatal("a print is a place", seed, width, key, place, ok)
				}
			}
		}
	}
}

func TestPrintsUseAllNumbers(t *testing.T) {
	for width := 1; width <= 4; width++ {
		met := map[int]bool{}
		for _, key := range anyKeys() {
			number, _ := impl.PrintOf(1, width, key)
			met[number] = true
		}
		if len(met) != 1<<width {
			t.Error("each number of a width is a print of some keys", width, met)
		}
	}
}

func TestPrintOfRefuses(t *testing.T) {
	for _, n := range outsideSeeds {
		number, ok := impl.PrintOf(n, 1, "a")
		mustFail(t, "PrintOf for the seed "+strconv.Itoa(n), number, ok)
	}
	for _, n := range outsideWidths {
		number, ok := impl.PrintOf(1, n, "a")
		mustFail(t, "PrintOf with the width "+strconv.Itoa(n), number, ok)
	}
	for _, key := range badKeys() {
		number, ok := impl.PrintOf(1, 8, key)
		mustFail(t, "PrintOf "+strconv.Quote(key), number, ok)
	}
}

func TestPrintFilterOf(t *testing.T) {
	built, refused := 0, 0
	for _, c := range printCases() {
		want, exists := c.plainByPeeling()
		filter, ok := c.printFilter()
		if ok != exists || !sameValues(filter, want) {
			t.Fatal("the print filter of", c.name(), "is", want, exists, "not", filter, ok)
		}
		if table, fine := c.byPeeling(); fine != ok || !sameValues(filter, table) {
			t.Fatal("a print filter is the table by peeling of prints", c.name(), filter, table)
		}
		if !ok {
			refused++
			continue
		}
		built++
		for _, key := range c.keys {
			if yes, ok := impl.PrintHas(filter, key); !ok || !yes {
				t.Fatal("a print filter answers yes to each of its keys", c.name(), key)
			}
		}
	}
	if built < 1000 || refused < 1000 {
		t.Error("filters must have been built and refused", built, refused)
	}
}

func TestPrintFilterOfRefuses(t *testing.T) {
	for _, keys := range [][]string{nil, {"a"}, {"a", "b"}} {
		for _, n := range outsideSeeds {
			filter, ok := impl.PrintFilterOf(n, keys, 9, 2)
			mustFailValues(t, "PrintFilterOf for the seed "+strconv.Itoa(n), filter, ok)
		}
		for _, n := range outsideSegments {
			filter, ok := impl.PrintFilterOf(1, keys, n, 2)
			mustFailValues(t, "PrintFilterOf with the segment "+strconv.Itoa(n), filter, ok)
		}
		for _, n := range outsideWidths {
			filter, ok := impl.PrintFilterOf(1, keys, 9, n)
			mustFailValues(t, "PrintFilterOf with the width "+strconv.Itoa(n), filter, ok)
		}
	}
	for _, list := range badLists() {
		filter, ok := impl.PrintFilterOf(1, list, impl.MaxSegment, 2)
		mustFailValues(t, "PrintFilterOf no keys", filter, ok)
	}
	// All keys have the same places with the segment 1.
	filter, ok := impl.PrintFilterOf(1, []string{"a", "b"}, 1, 2)
	mustFailValues(t, "PrintFilterOf equal edges", filter, ok)
}

func TestPrintHas(t *testing.T) {
	yes, no := 0, 0
	for _, c := range someValueTables() {
		for _, key := range anyKeys()[:40] {
			want := saysYes(c, key)
			if got, ok := impl.PrintHas(c, key); !ok || got != want {
				t.Fatal("the answer of", c, "to", key, "is", want, "not", got, ok)
			}
			if want {
				yes++
			} else {
				no++
			}
		}
		for _, key := range badKeys() {
			got, ok := impl.PrintHas(c, key)
			mustFail(t, "PrintHas "+strconv.Quote(key), got, ok)
		}
	}
	if yes < 1000 || no < 1000 {
		t.Error("both answers must have been met", yes, no)
	}
	for name, c := range badValueTables() {
		got, ok := impl.PrintHas(c, "a")
		mustFail(t, "PrintHas of "+name, got, ok)
	}
}

func TestPrintsOfOneSeedAndWidth(t *testing.T) {
	// With the segment 1 each key has the sum of all cells as its value.
	for _, seed := range someSeeds {
		for width := 1; width <= impl.MaxValueWidth; width++ {
			for _, key := range []string{"a", "k101", "}}}"} {
				number := plainPrint(seed, width, key)
				for _, cell := range []int{0, 1, number, number ^ 1, 1<<width - 1} {
					c := impl.Table{Seed: seed, Segment: 1, Width: width, Cells: []int{0, cell, 0}}
					if yes, ok := impl.PrintHas(c, key); !ok || yes != (cell == number) {
						t.Fatal("the answer is yes just for the print", seed, width, key, cell, number, yes, ok)
					}
				}
			}
		}
	}
}

func TestPrintFalse(t *testing.T) {
	none, some := 0, 0
	for i, c := range someValueTables() {
		for k, texts := range textLists() {
			if (i+k)%3 != 0 {
				continue
			}
			for _, keys := range [][]string{nil, {"a"}, manyKeys(9), manyKeys(impl.MaxKeys)} {
				want := plainFalse(keys, texts, func(text string) bool { return saysYes(c, text) })
				list, ok := impl.PrintFalse(c, keys, texts)
				if !ok || !slices.Equal(list, want) {
					t.Fatal("the false answers of", c, "are", want, "not", list, ok)
				}
				if len(list) == 0 {
					none++
				} else {
					some++
				}
			}
		}
	}
	if none < 500 || some < 500 {
		t.Error("no and some answers must have been false", none, some)
	}
}

func TestPrintFalseOfBuiltFilters(t *testing.T) {
	asked := 0
	for i, c := range printCases() {
		filter, ok := c.printFilter()
		if !ok || i%5 != 0 {
			continue
		}
		asked++
		texts := slices.Concat(c.keys, manyTexts(60), c.keys)
		want := plainFalse(c.keys, texts, func(text string) bool { return saysYes(filter, text) })
		if list, ok := impl.PrintFalse(filter, c.keys, texts); !ok || !slices.Equal(list, want) {
			t.Fatal("the false answers of", c.name(), "are", want, "not", list, ok)
		}
		if list, ok := impl.PrintFalse(filter, nil, c.keys); !ok || len(list) != len(c.keys) {
			t.Fatal("without keys each yes is false", c.name(), list, ok)
		}
	}
	if asked < 200 {
		t.Error("filters must have been asked", asked)
	}
}

func TestPrintFalseRefuses(t *testing.T) {
	good := impl.Table{Seed: 3, Segment: 1, Width: 1, Cells: []int{0, 1, 0}}
	for name, c := range badValueTables() {
		for _, texts := range [][]string{nil, {"a", "b"}} {
			list, ok := impl.PrintFalse(c, nil, texts)
			mustFailList(t, "PrintFalse of "+name, list, ok)
		}
	}
	for _, keys := range badLists() {
		for _, texts := range [][]string{nil, anyKeys()} {
			list, ok := impl.PrintFalse(good, keys, texts)
			mustFailList(t, "PrintFalse without keys", list, ok)
		}
	}
	for _, texts := range badTextLists() {
		for _, keys := range [][]string{nil, {"a"}} {
			list, ok := impl.PrintFalse(good, keys, texts)
			mustFailList(t, "PrintFalse without texts", list, ok)
		}
	}
}
