package scan_test

import (
	"math"
	"math/rand"
	"strings"
	"testing"
	"unicode/utf8"

	"guise/api"
	"guise/scan"
)

func TestP4_2Where(t *testing.T) {
	rnd := rand.New(rand.NewSource(42))
	bits := []string{"a", "\n", "\r", "\u00e9", "\u20ac", "\U0001f600", "\ufffd", "\xc3", "\xe2\x82", "\xf0\x9f\x98", "\x80", "\xff", "\x00", "\u2028"}
	for range 3000 {
		var s string
		for range rnd.Intn(8) {
			s += bits[rnd.Intn(len(bits))]
		}
		for at := -2; at <= len(s)+2; at++ {
			if p := scan.Where(s, at); p != wantWhere(s, at) {
				t.Errorf("%q: Where(%d): %+v, want %+v", s, at, p, wantWhere(s, at))
			}
		}
	}
}

func TestP4_2FarOff(t *testing.T) {
	for s, end := range map[string]api.At{"": {Byte: 0, Line: 1, Column: 1}, "a\u00e9": {Byte: 3, Line: 1, Column: 3}, "a\n": {Byte: 2, Line: 2, Column: 1}} {
		for _, at := range []int{math.MinInt, -1} {
			if p := scan.Where(s, at); p != (api.At{Line: 1, Column: 1}) {
				t.Errorf("%q: Where(%d): %+v", s, at, p)
			}
		}
		for _, at := range []int{len(s), len(s) + 1, math.MaxInt} {
			if p := scan.Where(s, at); p != end {
				t.Errorf("%q: Where(%d): %+v", s, at, p)
			}
		}
	}
}

// Where takes texts that are too long for Words.
func TestP4_2LongText(t *testing.T) {
	s := strings.Repeat("\u00e9\n", api.MaxRules)
	if p := scan.Where(s, len(s)-2); p != (api.At{Byte: len(s) - 2, Line: api.MaxRules, Column: 1}) {
		t.Errorf("%+v", p)
	}
	if p := scan.Where(s, len(s)-1); p != (api.At{Byte: len(s) - 1, Line: api.MaxRules, Column: 2}) {
		t.Errorf("%+v", p)
	}
}

func TestP4_3Legal(t *testing.T) {
	for _, b := range []byte(allBytes()) {
		bit := string([]byte{b})
		for _, s := range []string{bit, "a" + bit, "ab" + bit + "c"} {
			if scan.Legal(s) != names.MatchString(s) {
				t.Errorf("%q: %v", s, scan.Legal(s))
			}
		}
	}
	for s, want := range map[string]bool{
		"": false, "a": true, "z": true, "a-": true, "a--9": true, "-a": false, "9a": false, "a ": false, " a": false, "a\n": false, "a\u00e9": false, "\u00e9": false, "a;": false, "U+0041": false, "aA": false, "a_": false, "a.b": false, "a#": false,
		strings.Repeat("q", 32): true, strings.Repeat("q", 33): false, "q" + strings.Repeat("-", 31): true, "q" + strings.Repeat("-", 32): false, strings.Repeat("q", api.MaxRules+1): false,
	} {
		if scan.Legal(s) != want {
			t.Errorf("%.40q: %v", s, !want)
		}
	}
}

func TestP4_3Text(t *testing.T) {
	for r, want := range map[rune]string{
		0: "U+0000", 0x1f: "U+001F", ' ': "U+0020", '!': "'!'", '"': "'\"'", '&': "'&'", '\'': "U+0027", '(': "'('", '#': "'#'", '0': "'0'", 'A': "'A'", 'z': "'z'", '~': "'~'", 0x7f: "U+007F", 0x80: "U+0080",
		0xabc: "U+0ABC", 0xd7ff: "U+D7FF", 0xe000: "U+E000", api.Bad: "U+FFFD", 0xffff: "U+FFFF", 0x10000: "U+10000", 0xd8000: "U+D8000", 0xfffff: "U+FFFFF", 0x100000: "U+100000", 0x10ffff: "U+10FFFF",
	} {
		if s, e := scan.Text(r); s != want || e != api.OK {
			t.Errorf("%x: %q, %v", r, s, e)
		}
	}
	for _, r := range []rune{math.MinInt32, -0x61, -1, 0xd800, 0xdbff, 0xdc00, 0xdfff, 0x110000, math.MaxInt32} {
		if s, e := scan.Text(r); s != "" || e != api.ErrRune {
			t.Errorf("%x: %q, %v", r, s, e)
		}
	}
}

// Every number that isn't a rune is refused, and every rune is written in one of two ways.
func TestP4_3TextOfAll(t *testing.T) {
	for r := rune(-3); r < 0x110003; r++ {
		s, e := scan.Text(r)
		quoted := len(s) == 3 && s[0] == '\'' && s[2] == '\'' && rune(s[1]) == r
		switch {
		case !utf8.ValidRune(r):
			if s != "" || e != api.ErrRune {
				t.Fatalf("%x: %q, %v", r, s, e)
			}
		case e != api.OK || quoted != (0x21 <= r && r <= 0x7e && r != '\'') || !quoted && !strings.HasPrefix(s, "U+"):
			t.Fatalf("%x: %q, %v", r, s, e)
		}
	}
}
