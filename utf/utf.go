// Package utf: bytes and runes: see doc/01-utf.md.
package utf

import (
	"iter"
	"slices"
	"strings"

	"guise/api"
)

const (
	widest  = 4        // bytes of the longest sequence
	realBad = "\ufffd" // the sequence of a U+FFFD that is not bad
)

// Spot is what stands at one place of a text: a rune, or a bad byte.
type Spot struct {
	Rune  rune
	Bytes int
	Bad   bool
}

// badSpot is the spot of a byte that begins no sequence.
func badSpot() Spot { return Spot{Rune: api.Bad, Bytes: 1, Bad: true} }

// spotOf tells the spot at the beginning of rest, where ranging meets r.
// Ranging answers U+FFFD for a bad byte as well as for a real one: it is by its bytes that the real one is known.
func spotOf(rest string, r rune) Spot {
	if r == api.Bad && !strings.HasPrefix(rest, realBad) {
		return badSpot()
	}
	return Spot{Rune: r, Bytes: Width(r)}
}

// First tells the first spot.
func First(s string) (Spot, bool) {
	for _, x := range Spots(s) {
		return x, true
	}
	return Spot{}, false
}

// Last tells the last spot.
// A sequence's first byte stands within no other sequence, so a sequence that ends the text is a spot of it, whatever is ahead.
func Last(s string) (Spot, bool) {
	if s == "" {
		return Spot{}, false
	}
	for n := 1; n <= widest && n <= len(s); n++ {
		if x, _ := First(s[len(s)-n:]); x.Bytes == n && !x.Bad {
			return x, true
		}
	}
	return badSpot(), true
}

// Spots hands out the spots, each with the number of its first byte.
func Spots(s string) iter.Seq2[int, Spot] {
	return func(yield func(int, Spot) bool) {
		for at, r := range s {
			if !yield(at, spotOf(s[at:], r)) {
				return
			}
		}
	}
}

// Back hands out the spots from the last one on.
func Back(s string) iter.Seq2[int, Spot] {
	return func(yield func(int, Spot) bool) {
		for at := len(s); at > 0; {
			x, _ := Last(s[:at])
			at -= x.Bytes
			if !yield(at, x) {
				return
			}
		}
	}
}

// Count tells how many spots there are.
func Count(s string) int {
	n := 0
	for range s {
		n++
	}
	return n
}

// Valid tells the first bad spot's place; true: there is none.
func Valid(s string) (api.Place, bool) {
	n := 0
	for at, x := range Spots(s) {
		if x.Bad {
			return api.Place{Byte: at, Rune: n}, false
		}
		n++
	}
	return api.Place{}, true
}

// Clean puts U+FFFD for bad spots.
func Clean(s string) string { return string(Runes(s)) }

// Runes tells the runes of the spots.
func Runes(s string) []rune { return []rune(s) }

// Text makes a text of runes.
func Text(l ...rune) (string, api.Errno) {
	for _, r := range l {
		if Width(r) == 0 {
			return "", api.ErrRune
		}
	}
	return string(l), api.OK
}

// Width tells how many bytes a rune has; 0: it is none.
func Width(r rune) int {
	switch {
	case r < 0 || 0xd800 <= r && r <= 0xdfff || r > 0x10ffff:
		return 0
	case r <= 0x7f:
		return 1
	case r <= 0x7ff:
		return 2
	case r <= 0xffff:
		return 3
	}
	return widest
}

// Append lays a rune behind bytes, in new memory.
func Append(b []byte, r rune) ([]byte, api.Errno) {
	if Width(r) == 0 {
		return nil, api.ErrRune
	}
	return slices.Concat(b, []byte(string(r))), api.OK
}

// Bound tells whether a text may be cut there.
// Every sequence of a text is a spot of it (see Last), so what forbids a cut is one that begins shortly ahead and goes on behind.
func Bound(s string, at int) bool {
	if at < 0 || at > len(s) {
		return false
	}
	for n := 1; n < widest && n <= at; n++ {
		if x, _ := First(s[at-n:]); x.Bytes > n {
			return false
		}
	}
	return true
}

// Cut cuts a text at the greatest bound that is not above at.
func Cut(s string, at int) (string, string) {
	at = min(max(at, 0), len(s))
	for !Bound(s, at) {
		at--
	}
	return s[:at], s[at:]
}

// Joins tells whether two texts' spots stay what they are when they are joined.
// A sequence that begins in s and ends in t has fewer than widest bytes of each.
func Joins(s, t string) bool {
	s = s[max(len(s)-widest+1, 0):]
	t = t[:min(len(t), widest-1)]
	return Bound(s+t, len(s))
}
