package tests

import (
	"strconv"
	"strings"
	"testing"

	"loop.example/g01097/impl"
)

// The tests of this file are for promise 10: sealed texts.

// plainCheck returns the check of a text, byte by byte from the last one on.
func plainCheck(s string) int {
	check := 0
	for number := len(s); number > 0; number-- {
		for range int(s[number-1]) {
			check = (check + number) % 65521
		}
	}
	return check
}

// plainSeal returns a text, sealed.
func plainSeal(s string) string {
	return s + "~" + strconv.Itoa(plainCheck(s))
}

// longText returns a text of a length with all bytes that a text may have, in another order for each number.
func longText(length int, number int) string {
	text := make([]byte, length)
	for i, n := range scatteredNumbers(length, 94, number) {
		text[i] = byte(32 + n)
	}
	return string(text)
}

// someTexts returns texts: the empty one, all of one byte, some of all lengths, and such of the greatest length.
func someTexts() []string {
	all := []string{"", "a b", "  ", "0", "}", "}}", "a97", "bits 0110", strings.Repeat(" ", impl.MaxSealed), strings.Repeat("}", impl.MaxSealed-1), strings.Repeat("}", impl.MaxSealed)}
	for c := byte(32); c <= 125; c++ {
		all = append(all, string([]byte{c}), string([]byte{'x', c}))
	}
	for length := range 60 {
		all = append(all, longText(length, length))
	}
	for _, length := range []int{100, 500, 1023, 4101, impl.MaxSealed - 2, impl.MaxSealed - 1, impl.MaxSealed} {
		all = append(all, longText(length, length))
	}
	return all
}

// badTexts returns what is no text that can be sealed.
func badTexts() map[string]string {
	bad := map[string]string{
		"one byte too many":     longText(impl.MaxSealed+1, 1),
		"blanks, one too many":  strings.Repeat(" ", impl.MaxSealed+1),
		"twice as many":         longText(2*impl.MaxSealed, 2),
		"very many":             strings.Repeat("a", 1<<20),
		"a letter of two bytes": "\u00e9",
		"sealed":                "a~97",
	}
	for value := range 256 {
		if value < 32 || value > 125 {
			c := string([]byte{byte(value)})
			for _, s := range []string{c, c + "a", "a" + c, "a" + c + "b", longText(impl.MaxSealed-1, 3) + c} {
				bad["the byte "+strconv.Itoa(value)+" among "+strconv.Itoa(len(s))] = s
			}
		}
	}
	return bad
}

func TestSealText(t *testing.T) {
	known := map[string]string{"": "~0", "a": "a~97", " ": " ~32", "ab": "ab~293", "ba": "ba~292", "   ": "   ~192", "}}}": "}}}~750"}
	for s, want := range known {
		if sealed, ok := impl.SealText(s); !ok || sealed != want {
			t.Errorf("%q is sealed as %q, not %q, %v", s, want, sealed, ok)
		}
	}
	for _, s := range someTexts() {
		if sealed, ok := impl.SealText(s); !ok || sealed != plainSeal(s) {
			t.Fatalf("%q is sealed as %q, not %q, %v", s, plainSeal(s), sealed, ok)
		}
	}
	for name, s := range badTexts() {
		sealed, ok := impl.SealText(s)
		mustFail(t, "SealText of "+name, sealed, ok)
	}
}

func TestGreatestAndLeastChecks(t *testing.T) {
	// 63 blanks have the sum 64512, and a 0 as the last one of them adds 16 times 63.
	blanks := strings.Repeat(" ", 60)
	for text, check := range map[string]int{"  " + blanks + "0": 65520, "! " + blanks + "0": 0, " !" + blanks + "0": 1} {
		if len(text) != 63 || plainCheck(text) != check {
			t.Fatal("this text has another check", text, plainCheck(text))
		}
		if sealed, ok := impl.SealText(text); !ok || sealed != text+"~"+strconv.Itoa(check) {
			t.Errorf("%q has the check %d, not %q, %v", text, check, sealed, ok)
		}
		if opened, ok := impl.OpenSeal(text + "~" + strconv.Itoa(check)); !ok || opened != text {
			t.Errorf("%q has the check %d, so it opens: %q, %v", text, check, opened, ok)
		}
		for _, other := range []string{strconv.Itoa(check + 65521), strconv.Itoa(check - 65521), "-" + strconv.Itoa(check), ""} {
			mustNotOpen(t, text+"~"+other)
		}
	}
}

func TestOpenSeal(t *testing.T) {
	for _, s := range someTexts() {
		if opened, ok := impl.OpenSeal(plainSeal(s)); !ok || opened != s {
			t.Fatalf("%q opens to %q, not %q, %v", plainSeal(s), s, opened, ok)
		}
	}
	for name, s := range badTexts() {
		opened, ok := impl.OpenSeal(plainSeal(s))
		mustFail(t, "OpenSeal of "+name, opened, ok)
	}
}

// mustNotOpen checks that a text is not a sealed one.
func mustNotOpen(t *testing.T, s string) {
	t.Helper()
	opened, ok := impl.OpenSeal(s)
	mustFail(t, "OpenSeal of "+strconv.Quote(s[:min(len(s), 60)]), opened, ok)
}

func TestWhatIsNotSealed(t *testing.T) {
	bad := []string{"", "~", "a", "a97", "97", "~97", "~1", "~00", "~-0", "~+0", "~0 ", " ~0", "~ 0", "~0~0", "0~", "a~", "a~~97", "a~97~", "a~97~97", "~a~97", "a~ 97", "a~97 ", "a~097", "a~+97", "a~-97", "a~97\n", "\na~97",
		"a~97.0", "a~0x61", "a~9_7", "a~97\x00", "a ~97", " a~97", "A~97", "a~98", "a~96", "a~9", "a~7", "a~970", "a~997", "a~65618", "a~-65424", "a~9223372036854775904", "a~18446744073709551713", "a~" + strings.Repeat("0", 1<<16) + "97",
		strings.Repeat("a", 1<<20), strings.Repeat("~", 1<<16), "a~" + strings.Repeat("9", 1<<16), "ab~292", "ba~293", "a\u06f9~97", "a~\u06f9\u06f7"}
	for _, s := range bad {
		mustNotOpen(t, s)
	}
}

// withByte returns a text with another byte at i.
func withByte(s string, i int, c byte) string {
	return s[:i] + string([]byte{c}) + s[i+1:]
}

func TestEachDamageShows(t *testing.T) {
	for _, s := range []string{"", "a", " ", "}}", "a b", "bits 0110", "sparse 24 3 5 21", "trie a ab c", longText(90, 1), strings.Repeat("}", 33), strings.Repeat(" ", 64)} {
		sealed := plainSeal(s)
		for i := range len(sealed) {
			for value := range 256 {
				if byte(value) != sealed[i] {
					mustNotOpen(t, withByte(sealed, i, byte(value)))
				}
			}
			mustNotOpen(t, sealed[:i]+sealed[i+1:])
			mustNotOpen(t, sealed[:i])
			for _, c := range []string{"~", "0", "1", "9", " ", "a", "\x00", "\xff"} {
				mustNotOpen(t, sealed[:i]+c+sealed[i:])
				mustNotOpen(t, sealed+c)
			}
		}
	}
}

func TestEachDamageOfLongTextsShows(t *testing.T) {
	for _, s := range []string{longText(impl.MaxSealed, 5), strings.Repeat("}", impl.MaxSealed), strings.Repeat(" ", impl.MaxSealed-1)} {
		sealed := plainSeal(s)
		for i := 0; i < len(sealed); i += 1 + i%97 {
			for _, c := range []byte{31, 32, 48, 57, 97, 125, 126, 255} {
				if c != sealed[i] {
					mustNotOpen(t, withByte(sealed, i, c))
				}
			}
		}
		for i := len(s); i < len(sealed); i++ {
			for value := range 256 {
				if byte(value) != sealed[i] {
					mustNotOpen(t, withByte(sealed, i, byte(value)))
				}
			}
		}
		// Neighbours that are exchanged have another sum.
		for i := 1; i < len(s); i += 13 {
			if s[i] != s[i-1] {
				mustNotOpen(t, sealed[:i-1]+sealed[i:i+1]+sealed[i-1:i]+sealed[i+1:])
			}
		}
	}
}
