package tests

import (
	"math"
	"regexp"
	"slices"
	"strconv"
	"strings"
	"testing"

	"loop.example/g01097/impl"
)

// The tests of this file are for promise 10: the console.

// numberForm is the form of the lines with a number.
var numberForm = regexp.MustCompile(`^(seed|segment) (0|[1-9][0-9]{0,4})$`)

// wordForm is the form of the lines with any word.
var wordForm = regexp.MustCompile(`^(add|drop|peeled|ordinal|rank|prefix|longest) ([^ ]*)$`)

// orNone returns words, separated by blanks, or none.
func orNone(words []string) string {
	if len(words) == 0 {
		return "none"
	}
	return strings.Join(words, " ")
}

// orNo returns a number, if there is one.
func orNo(n int, ok bool) string {
	if !ok {
		return "no"
	}
	return strconv.Itoa(n)
}

// cloneDesk returns a Desk in other memory.
func cloneDesk(d impl.Desk) impl.Desk {
	d.Keys = slices.Clone(d.Keys)
	return d
}

// sameDesk reports whether two Desks are equal.
func sameDesk(a impl.Desk, b impl.Desk) bool {
	return a.Seed == b.Seed && a.Segment == b.Segment && slices.Equal(a.Keys, b.Keys)
}

// plainNumberReply returns the Desk after a line with a number, and the reply.
func plainNumberReply(d impl.Desk, verb string, number int) (impl.Desk, string) {
	if verb == "seed" && number <= 9999 {
		d.Seed = number
		return d, "ok"
	}
	if verb == "segment" && 1 <= number && number <= 24 {
		d.Segment = number
		return d, "ok"
	}
	return d, "no"
}

// plainWordReply returns the Desk after a line with a word, and the reply.
func plainWordReply(d impl.Desk, verb string, word string) (impl.Desk, string) {
	switch verb {
	case "add":
		if !impl.IsKey(word) || slices.Contains(d.Keys, word) || len(d.Keys) >= 40 {
			return d, "no"
		}
		d.Keys = append(d.Keys, word)
		slices.Sort(d.Keys)
		return d, strconv.Itoa(len(d.Keys))
	case "drop":
		if !slices.Contains(d.Keys, word) {
			return d, "no"
		}
		d.Keys = slices.DeleteFunc(d.Keys, func(key string) bool { return key == word })
		return d, strconv.Itoa(len(d.Keys))
	case "peeled":
		p, ok := plainPeeled(d.Seed, d.Keys, d.Segment)
		if !ok || !impl.IsKey(word) {
			return d, "no"
		}
		return d, orNo(plainIndex(p, word))
	case "ordinal":
		o, ok := plainOrdered(d.Seed, d.Keys, d.Segment)
		if !ok || !impl.IsKey(word) {
			return d, "no"
		}
		return d, strconv.Itoa(plainOrdinal(o, word))
	case "rank":
		return d, strconv.Itoa(keysBelow(d.Keys, word))
	case "prefix":
		return d, orNone(keysBeginning(d.Keys, word))
	}
	longest, has := longestIn(d.Keys, word)
	if !has {
		longest = "none"
	}
	return d, longest
}

// plainReply returns the Desk after a line, in other memory, and the reply.
func plainReply(before impl.Desk, line string) (impl.Desk, string) {
	d := cloneDesk(before)
	if parts := numberForm.FindStringSubmatch(line); parts != nil {
		number, _ := strconv.Atoi(parts[2])
		return plainNumberReply(d, parts[1], number)
	}
	if parts := wordForm.FindStringSubmatch(line); parts != nil {
		return plainWordReply(d, parts[1], parts[2])
	}
	switch line {
	case "keys":
		return d, orNone(d.Keys)
	case "core":
		return d, strconv.Itoa(len(plainCore(plainHyper(d.Seed, d.Keys, d.Segment))))
	case "image":
		return d, trieImage(d.Keys)
	}
	return d, "what"
}

// mustFailDesk checks that a call failed with the zero Desk and no reply.
func mustFailDesk(t *testing.T, what string, d impl.Desk, reply string, ok bool) {
	t.Helper()
	if ok || reply != "" || !sameDesk(d, impl.Desk{}) {
		t.Errorf("%s: got %v, %q, %v; it must fail with zero values", what, d, reply, ok)
	}
}

// checkLine checks a line on a Desk, and returns the Desk behind it and the reply.
func checkLine(t *testing.T, d impl.Desk, line string) (impl.Desk, string) {
	t.Helper()
	want, wanted := plainReply(d, line)
	after, reply, ok := impl.DeskLine(d, line)
	if !ok || reply != wanted || !sameDesk(after, want) || !impl.IsDesk(after) {
		t.Fatalf("the line %q on %v is answered by %q and leaves %v, not %q and %v, %v", line[:min(len(line), 80)], d, wanted, want, reply, after, ok)
	}
	return after, reply
}

// wordVerbs are the first words of the lines with a word.
var wordVerbs = []string{"add", "drop", "peeled", "ordinal", "rank", "prefix", "longest"}

// singleVerbs are the lines of one word.
var singleVerbs = []string{"keys", "core", "image"}

// someDesks returns Desks: without keys, with few, with as many as the limit, with and without a core, and for the least and the greatest numbers.
func someDesks() []impl.Desk {
	all := []impl.Desk{{Seed: 1, Segment: 8}, {Segment: 1}, {Seed: impl.MaxSeed, Segment: impl.MaxSegment}, {Seed: 3, Segment: 20, Keys: twins}, {Seed: 3, Segment: 20, Keys: append([]string{"a"}, append(slices.Clone(twins), "zz")...)}}
	lists := append(keyLists(), []string{"a", "ab", "abc", "b", "ba"}, []string{"no", "none", "ok", "what"}, chain("k", impl.MaxKey), broadKeys())
	for i, keys := range lists {
		all = append(all, impl.Desk{Seed: []int{0, 5, impl.MaxSeed}[i%3], Segment: []int{1, 4, 13, impl.MaxSegment}[i%4], Keys: keys}, impl.Desk{Seed: i, Segment: impl.MaxSegment, Keys: keys}, impl.Desk{Seed: i, Segment: 1 + i, Keys: keys})
	}
	return all
}

// someWords returns words: keys, beginnings of them, the empty one, and such that are no part of a key.
func someWords() []string {
	return append(badWords(), "a", "ab", "abc", "abcd", "b", "ba", "k", "k1", "k10", "k100", "k1000", "kk", "!", "}", "no", "none", "nonesuch", "ap!", "bbC", "zz", "keys", "add", "0", "1", "07", strings.Repeat("k", impl.MaxKey), strings.Repeat("k", impl.MaxKey+1), "}}}}}}}}}}}}", "!}}}}}}}}}}}")
}

// badWords returns words that are no keys.
func badWords() []string {
	return slices.DeleteFunc(append(badKeys(), "", "~", "a\t", "\tb", "a\n", "a\r", "\x7f", "\x80", "\xc3\xa9", "k\x1f"), func(s string) bool { return strings.Contains(s, " ") })
}

func TestLinesWithWords(t *testing.T) {
	replies := map[string]map[string]bool{}
	for _, d := range someDesks() {
		for _, verb := range wordVerbs {
			for _, word := range append(someWords(), d.Keys...) {
				_, reply := checkLine(t, d, verb+" "+word)
				if replies[verb] == nil {
					replies[verb] = map[string]bool{}
				}
				replies[verb][reply] = true
			}
		}
	}
	for _, verb := range []string{"add", "drop", "peeled", "ordinal"} {
		if !replies[verb]["no"] || !replies[verb]["1"] {
			t.Error("both kinds of replies must have been met", verb, replies[verb])
		}
	}
	for _, verb := range []string{"prefix", "longest"} {
		if !replies[verb]["none"] || !replies[verb]["k100"] {
			t.Error("both kinds of replies must have been met", verb, replies[verb])
		}
	}
	if len(replies["rank"]) != impl.MaxKeys+1 {
		t.Error("all ranks must have been met", replies["rank"])
	}
}

func TestLinesOfOneWord(t *testing.T) {
	replies := map[string]bool{}
	for _, d := range someDesks() {
		for _, verb := range singleVerbs {
			after, reply := checkLine(t, d, verb)
			if !sameDesk(after, d) {
				t.Error("this changes nothing", verb, d, after)
			}
			replies[verb+" "+reply] = true
		}
	}
	for _, reply := range []string{"keys none", "core 0", "core 2", "core " + strconv.Itoa(impl.MaxKeys), "image trie~1063"} {
		if !replies[reply] {
			t.Error("this reply must have been met", reply)
		}
	}
}

func TestLinesWithNumbers(t *testing.T) {
	for _, d := range []impl.Desk{impl.FirstDesk(), {Seed: 77, Segment: 5, Keys: []string{"a", "b"}}} {
		for n := -3; n <= 120; n++ {
			checkLine(t, d, "seed "+strconv.Itoa(n))
			checkLine(t, d, "segment "+strconv.Itoa(n))
		}
		for _, n := range []int{math.MinInt, -99999, -10000, 998, 999, 1000, 9998, 9999, 10000, 10001, 65536, 99998, 99999, 100000, 100001, 1000000, 1 << 32, 1<<32 + 5, math.MaxInt} {
			checkLine(t, d, "seed "+strconv.Itoa(n))
			checkLine(t, d, "segment "+strconv.Itoa(n))
		}
	}
	for line, reply := range map[string]string{"seed 9999": "ok", "seed 10000": "no", "seed 99999": "no", "seed 100000": "what", "segment 0": "no", "segment 1": "ok", "segment 24": "ok", "segment 25": "no", "segment 99999": "no", "segment 100000": "what", "seed -1": "what", "segment -1": "what", "seed 0": "ok"} {
		if _, told := checkLine(t, impl.FirstDesk(), line); told != reply {
			t.Errorf("the reply to %q is %q, not %q", line, reply, told)
		}
	}
}

// wrongNumbers are words that are no numbers in a text.
var wrongNumbers = []string{"", "00", "01", "007", "000001", "099999", "+1", "-1", "-0", "+0", "--1", "1.", ".1", "1.0", "1e1", "1_0", "0x1", "0b1", "0o7", "1,", "a", "1a", "a1", "\t1", "1\t", "1\n", "\n1", "1\x00", "\u0661", "\u00b9", "\uff11", "100000", "999999", "4294967297", "18446744073709551617", "9223372036854775807", "-9223372036854775808", strings.Repeat("1", 1<<16), strings.Repeat("0", 1<<16)}

func TestWrongNumbers(t *testing.T) {
	for _, d := range []impl.Desk{impl.FirstDesk(), {Seed: 77, Segment: 5, Keys: []string{"a", "b"}}} {
		for _, verb := range []string{"seed", "segment"} {
			for _, word := range wrongNumbers {
				if after, reply := checkLine(t, d, verb+" "+word); reply != "what" || !sameDesk(after, d) {
					t.Errorf("the line %q is none: %q, %v", verb+" "+word, reply, after)
				}
			}
		}
	}
}

// wrongLines returns lines that are none of the table's: with superfluous blanks, with missing or further words, and others.
func wrongLines() []string {
	all := []string{"", " ", "  ", "a", "a b", "fly", "what", "ok", "no", "none", "help", "\x00", "\n", "\r", "\xff", "~", "0", strings.Repeat(" ", 1<<16), strings.Repeat("add", 1<<16), strings.Repeat("add a ", 1<<16)}
	for _, verb := range append(append([]string{"seed", "segment"}, wordVerbs...), singleVerbs...) {
		all = append(all, " "+verb, verb+"  ", verb+" 1 ", verb+"  1", " "+verb+" 1", verb+" 1 2", verb+" 1  2", verb+" a b", verb+"\t1", verb+"\n1", verb+"1", verb+"\x001", verb+"\u00a01", verb+"s", verb+"s 1", verb[1:], verb[1:]+" 1", strings.ToUpper(verb), strings.ToUpper(verb)+" 1", strings.ToUpper(verb[:1])+verb[1:]+" 1", verb+"\n", verb+"\r", "the "+verb+" 1", verb+" "+verb+" 1", verb+", 1")
	}
	for _, verb := range append([]string{"seed", "segment"}, wordVerbs...) {
		all = append(all, verb)
	}
	for _, verb := range append([]string{"seed", "segment"}, singleVerbs...) {
		all = append(all, verb+" ", verb+" a")
	}
	for _, verb := range singleVerbs {
		all = append(all, verb+" 1", verb+" ~", verb+" keys")
	}
	return all
}

func TestWrongLines(t *testing.T) {
	for i, d := range someDesks() {
		for _, line := range wrongLines() {
			if i%5 > 0 && len(line) > 100 {
				continue
			}
			if after, reply := checkLine(t, d, line); reply != "what" || !sameDesk(after, d) {
				t.Errorf("the line %q is none: %q, %v", line[:min(len(line), 80)], reply, after)
			}
		}
	}
}

func TestFirstDesk(t *testing.T) {
	d := impl.FirstDesk()
	if !sameDesk(d, impl.Desk{Seed: 1, Segment: 8}) || !impl.IsDesk(d) {
		t.Error("the first Desk has the Seed 1, the Segment 8 and no Keys", d)
	}
	d.Keys = append(d.Keys, "a")
	d.Seed = 9
	if again := impl.FirstDesk(); !sameDesk(again, impl.Desk{Seed: 1, Segment: 8}) {
		t.Error("no state is kept", again)
	}
}

// badDesks returns Desks that are not valid, by what is wrong.
func badDesks() map[string]impl.Desk {
	bad := map[string]impl.Desk{"the zero value": {}, "no segment": {Seed: 1, Keys: []string{"a"}}}
	for _, keys := range [][]string{nil, {"a"}, manyKeys(impl.MaxKeys)} {
		what := " with " + strconv.Itoa(len(keys)) + " keys"
		for _, seed := range outsideSeeds {
			bad["the seed "+strconv.Itoa(seed)+what] = impl.Desk{Seed: seed, Segment: 8, Keys: keys}
		}
		for _, segment := range outsideSegments {
			bad["the segment "+strconv.Itoa(segment)+what] = impl.Desk{Seed: 1, Segment: segment, Keys: keys}
		}
	}
	for i, list := range badLists() {
		bad["no keys "+strconv.Itoa(i)] = impl.Desk{Seed: 1, Segment: 8, Keys: list}
	}
	return bad
}

func TestIsDesk(t *testing.T) {
	for _, d := range someDesks() {
		if !impl.IsDesk(d) {
			t.Error("this is a Desk:", d)
		}
	}
	for name, d := range badDesks() {
		if impl.IsDesk(d) {
			t.Error("this is no Desk:", name)
		}
		for _, line := range []string{"", "fly", "seed 1", "segment 8", "add b", "drop a", "keys", "core", "peeled a", "ordinal a", "rank a", "prefix a", "longest a", "image", "add", " "} {
			after, reply, ok := impl.DeskLine(d, line)
			mustFailDesk(t, "DeskLine "+line+" with "+name, after, reply, ok)
		}
	}
}

func TestDeskOfMostKeys(t *testing.T) {
	d := impl.FirstDesk()
	keys := manyKeys(impl.MaxKeys + 1)
	order := append(slices.Clone(keys[20:impl.MaxKeys]), keys[:20]...)
	slices.Reverse(order[5:30])
	var reply string
	for i, key := range order {
		if d, reply = checkLine(t, d, "add "+key); reply != strconv.Itoa(i+1) {
			t.Fatal("a key more", key, reply)
		}
		if _, reply = checkLine(t, d, "add "+key); reply != "no" {
			t.Fatal("the key is there already", key, reply)
		}
	}
	if !slices.Equal(d.Keys, keys[:impl.MaxKeys]) {
		t.Fatal("the keys are in order", d.Keys)
	}
	for _, key := range []string{keys[impl.MaxKeys], "a", "zz", keys[0]} {
		if after, reply := checkLine(t, d, "add "+key); reply != "no" || !sameDesk(after, d) {
			t.Error("there are as many keys as the limit", key, reply)
		}
	}
	if d, reply = checkLine(t, d, "drop "+keys[7]); reply != strconv.Itoa(impl.MaxKeys-1) {
		t.Error("a key less", reply)
	}
	if d, reply = checkLine(t, d, "add zz"); reply != strconv.Itoa(impl.MaxKeys) || d.Keys[impl.MaxKeys-1] != "zz" {
		t.Error("there is room for another key", reply, d)
	}
	for count := impl.MaxKeys - 1; count >= 0; count-- {
		if d, reply = checkLine(t, d, "drop "+d.Keys[count*7%len(d.Keys)]); reply != strconv.Itoa(count) {
			t.Fatal("a key less", count, reply)
		}
	}
	if _, reply := checkLine(t, d, "keys"); reply != "none" {
		t.Error("there are no keys", reply)
	}
}

func TestExampleOfTheConsole(t *testing.T) {
	replies, ok := impl.RunScript("add b\nadd a\nrank b\nkeys\nlongest bc\nfly\n")
	if !ok || !slices.Equal(replies, []string{"1", "2", "1", "a b", "b", "what"}) {
		t.Error("the replies are 1, 2, 1, a b, b and what", replies, ok)
	}
	replies, ok = impl.RunScript("keys\nimage\nordinal a\npeeled a\ncore\nadd a\nordinal a\npeeled a\nsegment 1\nadd b\ncore\npeeled a\nprefix \nlongest \ndrop a\ndrop a\n")
	if !ok || !slices.Equal(replies, []string{"none", "trie~1063", "no", "no", "0", "1", "0", "0", "ok", "2", "2", "no", "a b", "none", "1", "no"}) {
		t.Error("these are other replies", replies, ok)
	}
}

// plainScript returns the replies to the lines of a script.
func plainScript(text string) []string {
	d := impl.Desk{Seed: 1, Segment: 8}
	var replies []string
	for text != "" {
		line, rest, _ := strings.Cut(text, "\n")
		after, reply := plainReply(d, line)
		d, text, replies = after, rest, append(replies, reply)
	}
	return replies
}

// someScripts returns scripts: lines in no plain order, for many keys and for few, with numbers and with lines that are none.
func someScripts() []string {
	all := []string{"", "\n", "\n\n", " \n", "keys\n", "fly\n", "add a\r\n", "\r\n", "add \n", "\x00\n\xff\n", "image\nadd a\nimage\ndrop a\nimage\n", strings.Repeat("\n", impl.MaxLines)}
	pools := [][]string{{"a", "b", "c"}, {"a", "ab", "abc", "b", "", "~"}, append(manyKeys(30), "k1", "k"), append(slices.Clone(twins), "a", "x", "}")}
	lines := wrongLines()
	for number := range 400 {
		picks := scatteredNumbers(3*impl.MaxLines, 1<<20, number)
		pool := pools[number%len(pools)]
		text := ""
		for i := range impl.MaxLines {
			a, b, c := picks[3*i], picks[3*i+1], picks[3*i+2]
			line := "add " + pool[b%len(pool)]
			switch a % 8 {
			case 0, 1:
				line = wordVerbs[c%len(wordVerbs)] + " " + pool[b%len(pool)]
			case 2:
				line = singleVerbs[b%len(singleVerbs)]
			case 3:
				line = []string{"seed ", "segment "}[c%2] + strconv.Itoa([]int{b % 30, b % 11000, b % 110000}[c/2%3])
			case 4:
				line = lines[b%len(lines)]
			}
			if !strings.Contains(line, "\n") && len(text)+len(line) < impl.MaxScript {
				text += line + "\n"
			}
		}
		all = append(all, text)
	}
	return all
}

func TestRunScript(t *testing.T) {
	lines, seen := 0, map[string]bool{}
	for _, text := range someScripts() {
		want := plainScript(text)
		replies, ok := impl.RunScript(text)
		if !ok || !slices.Equal(replies, want) {
			t.Fatalf("the replies to %q are %q, not %q, %v", text, want, replies, ok)
		}
		d := impl.FirstDesk()
		for i, line := range strings.Split(strings.TrimSuffix(text, "\n"), "\n") {
			if text != "" {
				after, reply, ok := impl.DeskLine(d, line)
				if !ok || reply != replies[i] {
					t.Fatalf("the reply to the line %d of %q is %q, not %q, %v", i, text, replies[i], reply, ok)
				}
				d = after
				lines++
				seen[reply] = true
			}
		}
	}
	if lines < 10000 || len(seen) < 300 {
		t.Error("many different replies must have been met", lines, len(seen))
	}
}

func TestBeginningsOfScripts(t *testing.T) {
	for number, text := range someScripts() {
		if number%4 > 0 {
			continue
		}
		replies, ok := impl.RunScript(text)
		if !ok {
			t.Fatalf("this is a script: %q", text)
		}
		for i := range len(text) + 1 {
			beginning := text[:i]
			told, ok := impl.RunScript(beginning)
			if i > 0 && text[i-1] != '\n' {
				mustFailList(t, "RunScript of "+beginning, told, ok)
				continue
			}
			if count := strings.Count(beginning, "\n"); !ok || !slices.Equal(told, replies[:count]) {
				t.Fatalf("the replies to %q are %q, not %q, %v", beginning, replies[:count], told, ok)
			}
		}
	}
}

func TestScriptsWithoutLines(t *testing.T) {
	if replies, ok := impl.RunScript(""); !ok || len(replies) != 0 {
		t.Error("an empty script has no replies, which is no failure", replies, ok)
	}
	if replies, ok := impl.RunScript("\n"); !ok || !slices.Equal(replies, []string{"what"}) {
		t.Error("an empty line is none of the table's", replies, ok)
	}
}

func TestLimitsOfScripts(t *testing.T) {
	for _, line := range []string{"", "keys", "add a", strings.Repeat("x", 49)} {
		replies, ok := impl.RunScript(strings.Repeat(line+"\n", impl.MaxLines))
		if !ok || len(replies) != impl.MaxLines {
			t.Error("there may be as many lines as the limit", line, replies, ok)
		}
		replies, ok = impl.RunScript(strings.Repeat(line+"\n", impl.MaxLines+1))
		mustFailList(t, "RunScript of one line too many", replies, ok)
		replies, ok = impl.RunScript(strings.Repeat(line+"\n", impl.MaxLines) + "x")
		mustFailList(t, "RunScript of one line too many that is not ended", replies, ok)
	}
	for _, beginning := range []string{"", "keys\n", "add a\nkeys\n", strings.Repeat("\n", impl.MaxLines-1)} {
		for _, size := range []int{impl.MaxScript - 1, impl.MaxScript} {
			text := beginning + strings.Repeat("x", size-1-len(beginning)) + "\n"
			if replies, ok := impl.RunScript(text); !ok || !slices.Equal(replies, plainScript(text)) {
				t.Error("there may be as many bytes as the limit", size, replies, ok)
			}
		}
		for _, size := range []int{impl.MaxScript + 1, impl.MaxScript + 2, 5 * impl.MaxScript, 1 << 20} {
			replies, ok := impl.RunScript(beginning + strings.Repeat("x", size-1-len(beginning)) + "\n")
			mustFailList(t, "RunScript of too many bytes", replies, ok)
		}
	}
	for _, text := range []string{"x", " ", "keys", "keys\nkeys", "\nx", "keys\r", "keys\n ", "\x00", "add a\n\xff", strings.Repeat("x", impl.MaxScript), strings.Repeat("\n", 1<<16), strings.Repeat("x", 1<<20)} {
		replies, ok := impl.RunScript(text)
		mustFailList(t, "RunScript of no script", replies, ok)
	}
}
