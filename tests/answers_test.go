package tests

import (
	"math"
	"slices"
	"strconv"
	"strings"
	"testing"

	"loop.example/g01097/impl"
)

// The tests of this file are for promise 8: texts, false answers and shares.

// manyTexts returns so many texts, all different, in no order.
func manyTexts(count int) []string {
	texts := make([]string, count)
	for i := range texts {
		texts[i] = "t" + strconv.Itoa(i*7919%1009)
	}
	return texts
}

// textLists returns lists of texts: none, ordered and other ones, such with equal texts, such with keys among them, and as many as the limit.
func textLists() [][]string {
	return [][]string{nil, {"a"}, {"b", "a", "b", "a"}, {"}}}}}}}}}}}}", "!", "abcdefghijkl"}, append(manyKeys(30), anyKeys()...), slices.Concat(manyTexts(40), manyKeys(impl.MaxKeys), manyTexts(40)),
		manyTexts(impl.MaxTexts - 1), manyTexts(impl.MaxTexts), slices.Repeat([]string{"k"}, impl.MaxTexts), slices.Repeat([]string{"a", "k103", "zz"}, impl.MaxTexts/3)}
}

// badTextLists returns lists that are no texts.
func badTextLists() [][]string {
	all := [][]string{manyTexts(impl.MaxTexts + 1), slices.Repeat([]string{"a"}, impl.MaxTexts+1), make([]string, 1000), append(manyTexts(impl.MaxTexts), "")}
	for _, s := range badKeys() {
		all = append(all, []string{s}, []string{s, "a", "b"}, []string{"a", s, "b"}, []string{"a", "b", s}, append(manyTexts(impl.MaxTexts-1), s))
	}
	return all
}

// plainFalse returns the indices of the texts that are not among the keys and to which the answer is yes.
func plainFalse(keys []string, texts []string, yes func(text string) bool) []int {
	among := map[string]bool{}
	for _, key := range keys {
		among[key] = true
	}
	var list []int
	for i, text := range texts {
		if !among[text] && yes(text) {
			list = append(list, i)
		}
	}
	return list
}

// yesOf returns the answers of the filter with a text.
func (c filterCase) yesOf(text string) func(key string) bool {
	return func(key string) bool { return areOn(text, c.at(key)) }
}

// plainOver returns the texts of a length over letters: the digits of all numbers to the base of the letters.
func plainOver(letters string, length int) []string {
	count := 1
	for range length {
		count *= len(letters)
	}
	texts := make([]string, count)
	for i := range texts {
		rest := i
		for range length {
			texts[i] = letters[rest%len(letters):][:1] + texts[i]
			rest /= len(letters)
		}
	}
	return texts
}

// textCase is what texts are made of.
type textCase struct {
	letters string
	length  int
}

// textCases returns letters and lengths of at most 300 texts, the greatest numbers of them among them.
func textCases() []textCase {
	return []textCase{{"a", 1}, {"a", 2}, {"a", 8}, {"}", 7}, {"!", 8}, {"ab", 1}, {"ab", 2}, {"ba", 2}, {"ba", 3}, {"!}", 8}, {"}!", 8}, {"abc", 5}, {"bca", 3}, {"cab", 4}, {"zyxw", 4}, {"wxyz", 3},
		{"01234", 3}, {"fedcba", 3}, {"gabcdef", 2}, {"hgfedcba", 2}, {"abcdefghi", 2}, {"9876543210", 2}, {"abcdefghijk", 2}, {"lkjihgfedcba", 2}, {"abcdefghijkl", 1}, {"!}#{%y'x)w+v", 2}}
}

// tooManyTexts returns letters and lengths of more than 300 texts, few and very many more.
func tooManyTexts() []textCase {
	return []textCase{{"abc", 6}, {"abc", 8}, {"abcd", 5}, {"abcd", 8}, {"abcde", 4}, {"abcdef", 4}, {"abcdefg", 3}, {"abcdefgh", 3}, {"abcdefghi", 3}, {"abcdefghij", 3}, {"abcdefghijk", 3}, {"abcdefghijkl", 3}, {"abcdefghijkl", 8}}
}

// badTextCases returns letters and lengths of which one is none, by what is wrong.
func badTextCases() map[string]textCase {
	bad := map[string]textCase{}
	for _, s := range append(badKeys(), "aa", "aba", "abb", "abcdefghijka", "abcdefghijkk", "baab", strings.Repeat("a", 12), "abcdefghijklm") {
		for _, length := range []int{1, 2, 8} {
			bad[strconv.Quote(s)+" and "+strconv.Itoa(length)] = textCase{s, length}
		}
	}
	for _, n := range []int{math.MinInt, math.MinInt + 1, -1, 0, 9, 10, math.MaxInt - 1, math.MaxInt} {
		for _, letters := range []string{"a", "ab", "abcdefghijkl"} {
			bad[letters+" and "+strconv.Itoa(n)] = textCase{letters, n}
		}
	}
	return bad
}

func TestTextsOver(t *testing.T) {
	for _, c := range textCases() {
		texts, ok := impl.TextsOver(c.letters, c.length)
		if want := plainOver(c.letters, c.length); !ok || !slices.Equal(texts, want) {
			t.Fatal("the texts over", c.letters, "of the length", c.length, "are", want, "not", texts, ok)
		}
		for i, text := range texts {
			if !impl.IsKey(text) || len(text) != c.length || slices.Contains(texts[:i], text) || strings.Trim(text, c.letters) != "" {
				t.Fatal("texts are different keys of one length over the letters", c, text)
			}
		}
		inOrder := slices.IsSortedFunc(texts, func(a string, b string) int {
			for i := range len(a) {
				if a[i] != b[i] {
					return strings.Index(c.letters, a[i:i+1]) - strings.Index(c.letters, b[i:i+1])
				}
			}
			return 0
		})
		if !inOrder {
			t.Error("texts are in the order of the letters", c, texts)
		}
	}
}

func TestTextsOverRefuses(t *testing.T) {
	for _, c := range tooManyTexts() {
		texts, ok := impl.TextsOver(c.letters, c.length)
		mustFailList(t, "TextsOver too many, "+c.letters+" and "+strconv.Itoa(c.length), texts, ok)
	}
	for name, c := range badTextCases() {
		texts, ok := impl.TextsOver(c.letters, c.length)
		mustFailList(t, "TextsOver "+name, texts, ok)
	}
}

func TestTextsOverAllLettersAndLengths(t *testing.T) {
	letters := "ck!za}fmbA09"
	for count := 1; count <= len(letters); count++ {
		number := 1
		for length := 1; length <= 8; length++ {
			number *= count
			texts, ok := impl.TextsOver(letters[:count], length)
			if number > impl.MaxTexts {
				mustFailList(t, "TextsOver "+strconv.Itoa(number), texts, ok)
			} else if !ok || len(texts) != number || texts[0] != strings.Repeat("c", length) || texts[number-1] != strings.Repeat(letters[count-1:count], length) {
				t.Error("there are", number, "texts over", letters[:count], "not", texts, ok)
			}
		}
	}
}

func TestFalseAnswers(t *testing.T) {
	none, some, all := 0, 0, 0
	for i, c := range filterCases() {
		for k, texts := range textLists() {
			if (i+k)%3 != 0 {
				continue
			}
			for _, text := range []string{c.text(), mixed(c.size, i)} {
				want := plainFalse(c.keys, texts, c.yesOf(text))
				list, ok := impl.FalseAnswers(c.holding(text), c.keys, texts)
				if !ok || !slices.Equal(list, want) {
					t.Fatal("the false answers of", text, "of", c.name(), "are", want, "not", list, ok)
				}
				switch len(list) {
				case 0:
					none++
				case len(texts):
					all++
				default:
					some++
				}
			}
		}
	}
	if none < 500 || some < 500 || all < 100 {
		t.Error("no, some and all answers must have been false", none, some, all)
	}
}

func TestKeysAreNoFalseAnswers(t *testing.T) {
	for _, c := range filterCases() {
		full := c.holding(strings.Repeat("1", c.size))
		if list, ok := impl.FalseAnswers(full, c.keys, slices.Concat(c.keys, c.keys)); !ok || len(list) != 0 {
			t.Fatal("a yes to a key is not false", c.name(), list, ok)
		}
		for i, key := range c.keys {
			// The key alone is left out of the keys, so that both of its answers are false.
			if list, ok := impl.FalseAnswers(full, allBut(c.keys, i), []string{"zz", key, key}); !ok || !slices.Equal(list, []int{0, 1, 2}) {
				t.Fatal("a yes to what is no key is false", c.name(), key, list, ok)
			}
		}
	}
}

// allBut returns the strings of a list but for the one with an index.
func allBut(list []string, i int) []string {
	return slices.Delete(slices.Clone(list), i, i+1)
}

func TestFalseAnswersRefuse(t *testing.T) {
	good := impl.Bloom{Seed: 1, Probes: 2, Bits: pack("111")}
	for name, b := range badBlooms() {
		for _, texts := range [][]string{nil, {"a", "b"}} {
			list, ok := impl.FalseAnswers(b, nil, texts)
			mustFailList(t, "FalseAnswers of "+name, list, ok)
		}
	}
	for _, keys := range badLists() {
		for _, texts := range [][]string{nil, {"zz", "b"}} {
			list, ok := impl.FalseAnswers(good, keys, texts)
			mustFailList(t, "FalseAnswers without keys", list, ok)
		}
	}
	for _, texts := range badTextLists() {
		for _, keys := range [][]string{nil, {"a"}} {
			list, ok := impl.FalseAnswers(good, keys, texts)
			mustFailList(t, "FalseAnswers without texts", list, ok)
		}
	}
}

func TestShareOf(t *testing.T) {
	none, some, all := 0, 0, 0
	for i, c := range filterCases() {
		over := textCases()[i%len(textCases())]
		texts := plainOver(over.letters, over.length)
		for _, text := range []string{c.text(), mixed(c.size, i), c.off(), strings.Repeat("1", c.size)} {
			want := len(plainFalse(nil, texts, c.yesOf(text)))
			yes, number, ok := impl.ShareOf(c.holding(text), over.letters, over.length)
			if !ok || yes != want || number != len(texts) {
				t.Fatal("the share of", text, "of", c.name(), "over", over, "is", want, len(texts), "not", yes, number, ok)
			}
			switch yes {
			case 0:
				none++
			case number:
				all++
			default:
				some++
			}
		}
	}
	if none < 500 || some < 500 || all < 500 {
		t.Error("shares of all kinds must have been met", none, some, all)
	}
}

func TestSharesCountAnswers(t *testing.T) {
	// Texts that are keys are counted, too.
	for _, c := range textCases() {
		texts := plainOver(c.letters, c.length)
		keys := slices.Clone(texts[:min(len(texts), impl.MaxKeys)])
		slices.Sort(keys)
		b, _ := impl.BloomOf(7, 3, 300, keys)
		yes, number, ok := impl.ShareOf(b, c.letters, c.length)
		list, fine := impl.FalseAnswers(b, keys, texts)
		if !ok || !fine || number != len(texts) || yes != len(keys)+len(list) {
			t.Error("the share is that of the keys and of the false answers", c, yes, number, len(keys), list)
		}
	}
}

func TestShareOfRefuses(t *testing.T) {
	good := impl.Bloom{Seed: 1, Probes: 2, Bits: pack("111")}
	mustFailShare := func(what string, yes int, number int, ok bool) {
		t.Helper()
		mustFail(t, "ShareOf, "+what, [2]int{yes, number}, ok)
	}
	for name, b := range badBlooms() {
		yes, number, ok := impl.ShareOf(b, "ab", 2)
		mustFailShare(name, yes, number, ok)
	}
	for name, c := range badTextCases() {
		yes, number, ok := impl.ShareOf(good, c.letters, c.length)
		mustFailShare(name, yes, number, ok)
	}
	for _, c := range tooManyTexts() {
		yes, number, ok := impl.ShareOf(good, c.letters, c.length)
		mustFailShare("too many texts, "+c.letters, yes, number, ok)
	}
}

// leastCase is what a least size is looked for.
type leastCase struct {
	seed   int
	probes int
	keys   []string
	texts  []string
}

// name tells a case.
func (c leastCase) name() string {
	return filterCase{seed: c.seed, probes: c.probes, keys: c.keys}.name() + " and " + strconv.Itoa(len(c.texts)) + " texts"
}

// suits reports whether the filter with a size has no false answer.
func (c leastCase) suits(size int) bool {
	f := filterCase{c.seed, c.probes, size, c.keys}
	return len(plainFalse(c.keys, c.texts, f.yesOf(f.text()))) == 0
}

// least returns LeastBloom of a case.
func (c leastCase) least(most int) (int, bool) {
	return impl.LeastBloom(c.seed, c.probes, c.keys, c.texts, most)
}

func TestLeastBloom(t *testing.T) {
	found, refused := 0, 0
	for i, keys := range [][]string{nil, {"a"}, {"!", "}"}, manyKeys(3), {"a", "ab", "abcdefghijkl"}, manyKeys(7)} {
		for k, texts := range [][]string{nil, {"a"}, {"k"}, {"zz", "zz", "y"}, manyTexts(5), append(manyTexts(15), manyKeys(7)...), {"k102", "k101", "x", "b"}} {
			for _, probes := range someProbes {
				for j := range 3 {
					c := leastCase{someSeeds[(i+k+probes+j)%len(someSeeds)], probes, keys, texts}
					least := mustBeLeast(t, "LeastBloom of "+c.name(), 40, c.suits, c.least)
					if least > 40 {
						refused++
						continue
					}
					found++
					b, _ := impl.BloomOf(c.seed, c.probes, least, keys)
					if list, ok := impl.FalseAnswers(b, keys, texts); !ok || len(list) != 0 {
						t.Fatal("a least size has no false answers", c.name(), least, list)
					}
				}
			}
		}
	}
	if found < 300 || refused < 15 {
		t.Error("sizes must have been found and refused", found, refused)
	}
}

func TestLeastBloomOfMostTexts(t *testing.T) {
	late := 0
	for _, c := range []leastCase{{0, 8, manyKeys(impl.MaxKeys), manyTexts(impl.MaxTexts)}, {1, 3, manyKeys(5), manyTexts(impl.MaxTexts)}, {impl.MaxSeed, 1, manyKeys(2), manyTexts(20)}, {2, 7, manyKeys(20), manyTexts(impl.MaxTexts)}} {
		size, ok := c.least(impl.MaxFilterBits)
		mustBeFirst(t, "LeastBloom of "+c.name(), 1, impl.MaxFilterBits+1, c.suits, size, ok)
		if !ok {
			t.Error("there is a size", c.name())
			continue
		}
		if size > 100 {
			late++
		}
		if same, ok := c.least(size); !ok || same != size {
			t.Error("the most size may be met exactly", c.name(), size, same, ok)
		}
		none, ok := c.least(size - 1)
		mustFail(t, "LeastBloom below the least size", none, ok)
	}
	if late < 2 {
		t.Error("great sizes must have been met", late)
	}
}

func TestSizesBehindTheLeastOne(t *testing.T) {
	// A greater filter may have false answers again.
	again := 0
	for seed := range 40 {
		c := leastCase{seed, 2, manyKeys(3), manyTexts(12)}
		size, ok := c.least(impl.MaxFilterBits)
		if !ok {
			continue
		}
		for greater := size + 1; greater < size+10; greater++ {
			if !c.suits(greater) {
				again++
			}
			if same, ok := c.least(greater); !ok || same != size {
				t.Fatal("the least size does not depend on greater ones", c.name(), size, same, ok)
			}
		}
	}
	if again < 20 {
		t.Error("false answers must have been met again", again)
	}
}

func TestLeastBloomAtItsLimits(t *testing.T) {
	for _, seed := range someSeeds {
		for probes := 1; probes <= impl.MaxProbes; probes++ {
			// No bit is on without keys, and no text is asked for without texts.
			for _, c := range []leastCase{{seed, probes, nil, manyTexts(impl.MaxTexts)}, {seed, probes, manyKeys(impl.MaxKeys), nil}, {seed, probes, manyKeys(impl.MaxKeys), slices.Concat(manyKeys(impl.MaxKeys), manyKeys(impl.MaxKeys))}} {
				for _, most := range []int{1, 2, impl.MaxFilterBits} {
					if size, ok := c.least(most); !ok || size != 1 {
						t.Fatal("one bit is enough", c.name(), size, ok)
					}
				}
			}
			c := leastCase{seed, probes, []string{"k"}, []string{"a"}}
			none, ok := c.least(1)
			mustFail(t, "LeastBloom of one bit for a text that is no key", none, ok)
		}
	}
}

func TestLeastBloomRefuses(t *testing.T) {
	for _, keys := range [][]string{nil, {"a"}} {
		for _, texts := range [][]string{nil, {"a", "b"}} {
			for name, c := range otherFilters() {
				size, ok := impl.LeastBloom(c.seed, c.probes, keys, texts, c.size)
				mustFail(t, "LeastBloom, "+name, size, ok)
			}
		}
		for _, texts := range badTextLists() {
			size, ok := impl.LeastBloom(1, 2, keys, texts, impl.MaxFilterBits)
			mustFail(t, "LeastBloom without texts", size, ok)
		}
	}
	for _, keys := range badLists() {
		for _, texts := range [][]string{nil, {"zz"}} {
			size, ok := impl.LeastBloom(1, 2, keys, texts, impl.MaxFilterBits)
			mustFail(t, "LeastBloom without keys", size, ok)
		}
	}
}

func TestExampleOfTexts(t *testing.T) {
	if texts, ok := impl.TextsOver("ab", 2); !ok || !slices.Equal(texts, []string{"aa", "ab", "ba", "bb"}) {
		t.Error("the texts over ab of the length 2 are aa, ab, ba and bb", texts, ok)
	}
}
