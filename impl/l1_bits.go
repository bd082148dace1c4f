package impl

import (
	"math/bits"
	"slices"
)

const MaxBits = 4096
const MaxWidth = 24
const MaxKey = 12
const MaxKeys = 40
const MaxSeed = 9999
const HashPrime = 65521

const wordBits = 16
const maxPart = 9
const maxLoads = 64
const firstKeyByte = 33
const lastKeyByte = 125

type Bits struct {
	Size  int
	Words []int
}

// IsBits reports whether b is valid.
func IsBits(b Bits) bool {
	if b.Size < 0 || b.Size > MaxBits || len(b.Words) != wordCount(b.Size) {
		return false
	}
	for i, word := range b.Words {
		width := min(wordBits, b.Size-wordBits*i)
		if word < 0 || word >= 1<<width {
			return false
		}
	}
	return true
}

// NewBits returns the bit vector with a size in 0..MaxBits whose bits are all off.
func NewBits(size int) (Bits, bool) {
	if size < 0 || size > MaxBits {
		return Bits{}, false
	}
	return Bits{Size: size, Words: growWords(nil, size)}, true
}

// BitAt reports whether the bit i, in 0..Size - 1, is on.
func BitAt(b Bits, i int) (bool, bool) {
	value, ok := ReadField(b, i, 1)
	return value == 1, ok
}

// PutBit returns the vector with the bit i, in 0..Size - 1, on or off as told.
func PutBit(b Bits, i int, on bool) (Bits, bool) {
	value := 0
	if on {
		value = 1
	}
	return PutField(b, i, 1, value)
}

// CountBits returns the number of bits that are on from the bit from up to the bit until - 1, for 0 <= from <= until <= Size.
func CountBits(b Bits, from int, until int) (int, bool) {
	if !hasRange(b, from, until) {
		return 0, false
	}
	count := 0
	for at := from; at < until; at += wordBits {
		field := fieldOf(b.Words, at, min(wordBits, until-at))
		count += bits.OnesCount(uint(field))
	}
	return count, true
}

// NextBit returns the least i, at least from, in 0..Size, whose bit is on or off as told. It fails if there is none.
func NextBit(b Bits, from int, on bool) (int, bool) {
	if !IsBits(b) || from < 0 {
		return 0, false
	}
	for i := from; i < b.Size; i++ {
		if isOn(b.Words, i) == on {
			return i, true
		}
	}
	return 0, false
}

// ReadField returns the value of a field of a width in 0..MaxWidth, at a place of at least 0, that ends within the vector.
func ReadField(b Bits, at int, width int) (int, bool) {
	if !hasField(b, at, width) {
		return 0, false
	}
	return fieldOf(b.Words, at, width), true
}

// PutField returns the vector in which such a field has a value in 0..2^width - 1.
func PutField(b Bits, at int, width int, value int) (Bits, bool) {
	if !hasField(b, at, width) || value < 0 || value >= 1<<width {
		return Bits{}, false
	}
	words := growWords(b.Words, b.Size)
	setField(words, at, width, value)
	return Bits{Size: b.Size, Words: words}, true
}

// JoinBits returns the vector with the bits of a and, behind them, those of b. It fails if there are more than MaxBits.
func JoinBits(a Bits, b Bits) (Bits, bool) {
	if !IsBits(a) || !IsBits(b) || a.Size+b.Size > MaxBits {
		return Bits{}, false
	}
	size := a.Size + b.Size
	words := growWords(a.Words, size)
	for i, word := range b.Words {
		done := wordBits * i
		setField(words, a.Size+done, min(wordBits, b.Size-done), word)
	}
	return Bits{Size: size, Words: words}, true
}

// CutBits returns the vector with the bits from..until - 1, for 0 <= from <= until <= Size.
func CutBits(b Bits, from int, until int) (Bits, bool) {
	if !hasRange(b, from, until) {
		return Bits{}, false
	}
	size := until - from
	words := growWords(nil, size)
	for i := range words {
		done := wordBits * i
		words[i] = fieldOf(b.Words, from+done, min(wordBits, size-done))
	}
	return Bits{Size: size, Words: words}, true
}

// XorBits returns the vector of those bits that are on in just one of two vectors of the same Size. It fails for different Sizes.
func XorBits(a Bits, b Bits) (Bits, bool) {
	if !IsBits(a) || !IsBits(b) || a.Size != b.Size {
		return Bits{}, false
	}
	words := growWords(a.Words, a.Size)
	for i, word := range b.Words {
		words[i] ^= word
	}
	return Bits{Size: a.Size, Words: words}, true
}

// BitsText returns a character 0 or 1 for each bit in order, or - for no bits.
func BitsText(b Bits) (string, bool) {
	if !IsBits(b) {
		return "", false
	}
	if b.Size == 0 {
		return "-", true
	}
	text := make([]byte, b.Size)
	for i := range text {
		text[i] = '0'
		if isOn(b.Words, i) {
			text[i] = '1'
		}
	}
	return string(text), true
}

// ParseBits returns the vector with a BitsText. It fails if there is none.
func ParseBits(s string) (Bits, bool) {
	if s == "-" {
		return Bits{}, true
	}
	if len(s) < 1 || len(s) > MaxBits {
		return Bits{}, false
	}
	words := growWords(nil, len(s))
	for i := range len(s) {
		switch s[i] {
		case '0':
		case '1':
			setField(words, i, 1, 1)
		default:
			return Bits{}, false
		}
	}
	return Bits{Size: len(s), Words: words}, true
}

// IsKey reports whether s is a key.
func IsKey(s string) bool {
	if len(s) < 1 || len(s) > MaxKey {
		return false
	}
	for i := range len(s) {
		if s[i] < firstKeyByte || s[i] > lastKeyByte {
			return false
		}
	}
	return true
}

// AreKeys reports whether list are keys.
func AreKeys(list []string) bool {
	if len(list) > MaxKeys {
		return false
	}
	for i, key := range list {
		if !IsKey(key) || i > 0 && list[i-1] >= key {
			return false
		}
	}
	return true
}

// HashOf returns the hash of a key.
func HashOf(seed int, part int, key string) (int, bool) {
	if !isHashNumber(seed, part) || !IsKey(key) {
		return 0, false
	}
	return hashKey(seed, part, key), true
}

// PlaceOf returns the place of a key among places, in 1..MaxBits.
func PlaceOf(seed int, part int, key string, places int) (int, bool) {
	if !isHashNumber(seed, part) || !IsKey(key) || places < 1 || places > MaxBits {
		return 0, false
	}
	return placeKey(seed, part, key, places), true
}

// LoadsOf returns, for each place among places, in 1..64, how many of the keys have it.
func LoadsOf(seed int, part int, keys []string, places int) ([]int, bool) {
	if !isHashNumber(seed, part) || !AreKeys(keys) || places < 1 || places > maxLoads {
		return nil, false
	}
	loads := make([]int, places)
	for _, key := range keys {
		loads[placeKey(seed, part, key, places)]++
	}
	return loads, true
}

// CollisionOf returns the lexicographically first pair of indices i < k of keys with the same place among places, in 1..MaxBits. It fails if there is none.
func CollisionOf(seed int, part int, keys []string, places int) (int, int, bool) {
	if !isHashNumber(seed, part) || !AreKeys(keys) || places < 1 || places > MaxBits {
		return 0, 0, false
	}
	found := make([]int, len(keys))
	for i, key := range keys {
		found[i] = placeKey(seed, part, key, places)
	}
	for i, place := range found {
		if behind := slices.Index(found[i+1:], place); behind >= 0 {
			return i, i + 1 + behind, true
		}
	}
	return 0, 0, false
}

// wordCount returns how many words are begun by a number of bits.
func wordCount(size int) int {
	return (size + wordBits - 1) / wordBits
}

// growWords returns the words for size bits in new memory: the given ones, and empty ones behind them.
func growWords(words []int, size int) []int {
	count := wordCount(size)
	// Grow may make more room than asked for, and does not say what is in it.
	grown := slices.Grow([]int(nil), count)[:count:count]
	copied := copy(grown, words)
	clear(grown[copied:])
	return grown
}

// equalBits reports whether two values have the same Size and Words.
func equalBits(a Bits, b Bits) bool {
	return a.Size == b.Size && slices.Equal(a.Words, b.Words)
}

// hasRange reports whether b is valid and has the bits from..until - 1.
func hasRange(b Bits, from int, until int) bool {
	return IsBits(b) && 0 <= from && from <= until && until <= b.Size
}

// hasField reports whether b is valid and has a field at a place.
// The place is compared with a difference because a sum could overflow.
func hasField(b Bits, at int, width int) bool {
	return IsBits(b) && 0 <= width && width <= MaxWidth && 0 <= at && at <= b.Size-width
}

// isOn reports whether a bit of the words is on.
func isOn(words []int, i int) bool {
	return words[i/wordBits]>>(i%wordBits)&1 == 1
}

// fieldOf returns the value of a field that ends within the words.
func fieldOf(words []int, at int, width int) int {
	value := 0
	for done := 0; done < width; {
		shift := (at + done) % wordBits
		value |= words[(at+done)/wordBits] >> shift << done
		done += wordBits - shift
	}
	return value & (1<<width - 1)
}

// setField gives a field that ends within the words a value, in their own memory.
func setField(words []int, at int, width int, value int) {
	for width > 0 {
		shift := at % wordBits
		part := min(width, wordBits-shift)
		mask := (1<<part - 1) << shift
		word := &words[at/wordBits]
		*word = *word&^mask | value<<shift&mask
		at, width, value = at+part, width-part, value>>part
	}
}

// isHashNumber reports whether there is a hash for a seed and a part.
func isHashNumber(seed int, part int) bool {
	return 0 <= seed && seed <= MaxSeed && 0 <= part && part <= maxPart
}

// hashKey returns the hash of a key; all arguments are valid.
func hashKey(seed int, part int, key string) int {
	h := (31*seed + 977*part + 7) % HashPrime
	for i := range len(key) {
		h = (263*h + int(key[i])) % HashPrime
	}
	hash := 1
	for range 11 {
		hash = hash * h % HashPrime
	}
	return hash
}

// placeKey returns the place of a key among places; all arguments are valid.
func placeKey(seed int, part int, key string, places int) int {
	return hashKey(seed, part, key) * places / HashPrime
}
