package utf_test

import (
	"bytes"
	"math"
	"slices"
	"strings"
	"testing"

	"guise/api"
	"guise/utf"
)

// noRunes are the numbers next to the runes, and the farthest ones.
var noRunes = []rune{math.MinInt32, -0xfffd, -1, 0xd800, 0xdabc, 0xdfff, 0x110000, 0x11fffd, math.MaxInt32}

// edgeRunes are the first and the last runes of each width, and those beside the surrogates.
var edgeRunes = map[rune]int{0: 1, 'a': 1, 0x7f: 1, 0x80: 2, 0x7ff: 2, 0x800: 3, 0xd7ff: 3, 0xe000: 3, 0xfffd: 3, 0xffff: 3, 0x10000: 4, 0x10ffff: 4}

func TestP1_5Clean(t *testing.T) {
	for s, want := range map[string]string{
		"":                 "",
		"a\xff":            "a\xef\xbf\xbd",
		"\xe2\x82":         "\ufffd\ufffd",
		"\ufffd\xff":       "\ufffd\ufffd",
		"\xed\xa0\x80":     "\ufffd\ufffd\ufffd",
		"\u00e9\u20ac":     "\u00e9\u20ac",
		"\xef\xbf\ufffd":   "\ufffd\ufffd\ufffd",
		"\xf4\x90\x80\x80": "\ufffd\ufffd\ufffd\ufffd",
	} {
		if c := utf.Clean(s); c != want {
			t.Errorf("Clean(%q): %q", s, c)
		}
	}
}

func TestP1_5P1_6OfAnyBytes(t *testing.T) {
	eachText(3, func(s string) {
		var clean strings.Builder
		var runes []rune
		for _, p := range wantSpots(s) {
			runes = append(runes, p.spot.Rune)
			if p.spot.Bad {
				clean.WriteString("\xef\xbf\xbd")
			} else {
				clean.WriteString(s[p.at : p.at+p.spot.Bytes])
			}
		}
		if c := utf.Clean(s); c != clean.String() {
			t.Fatalf("P1.5: Clean(%q): %q", s, c)
		}
		if l := utf.Runes(s); !slices.Equal(l, runes) {
			t.Fatalf("P1.6: Runes(%q): %x", s, l)
		}
	})
}

func TestP1_6Runes(t *testing.T) {
	if l := utf.Runes(""); len(l) != 0 {
		t.Errorf("of the empty text: %x", l)
	}
	if l := utf.Runes("a\u00e9\xff\ufffd\U0001f600"); !slices.Equal(l, []rune{'a', 0xe9, api.Bad, api.Bad, 0x1f600}) {
		t.Errorf("Runes: %x", l)
	}
}

func TestP1_6Text(t *testing.T) {
	if s, e := utf.Text('a', 0xe9, 0x20ac, 0x1f600, api.Bad, 0); s != "a\u00e9\u20ac\U0001f600\xef\xbf\xbd\x00" || e != api.OK {
		t.Errorf("Text: %q, %v", s, e)
	}
	if s, e := utf.Text(); s != "" || e != api.OK {
		t.Errorf("Text of none: %q, %v", s, e)
	}
	if s, e := utf.Text([]rune{}...); s != "" || e != api.OK {
		t.Errorf("Text of an empty list: %q, %v", s, e)
	}
}

func TestP1_6TextOfNoRunes(t *testing.T) {
	for _, r := range noRunes {
		for _, l := range [][]rune{{r}, {r, 'a'}, {0x20ac, r}, {'a', r, 'b'}} {
			if s, e := utf.Text(l...); s != "" || e != api.ErrRune {
				t.Errorf("Text(%x): %q, %v", l, s, e)
			}
		}
	}
}

func TestP1_7Width(t *testing.T) {
	for r, want := range edgeRunes {
		if n := utf.Width(r); n != want {
			t.Errorf("Width(%x): %d", r, n)
		}
	}
	for _, r := range noRunes {
		if n := utf.Width(r); n != 0 {
			t.Errorf("Width(%x): %d", r, n)
		}
	}
}

func TestP1_7Append(t *testing.T) {
	for _, head := range [][]byte{nil, {}, []byte("x"), []byte("\xe2\x82")} {
		for r, n := range edgeRunes {
			b, e := utf.Append(head, r)
			if e != api.OK || len(b) != len(head)+n || !bytes.HasPrefix(b, head) || wantFirst(string(b[len(head):])) != good(r, n) {
				t.Errorf("Append(%q, %x): %q, %v", head, r, b, e)
			}
		}
		for _, r := range noRunes {
			if b, e := utf.Append(head, r); len(b) != 0 || e != api.ErrRune {
				t.Errorf("Append(%q, %x): %q, %v", head, r, b, e)
			}
		}
	}
}

// R2: what is handed in stays as it was, its spare room included, and an answer shares no memory with it.
func TestR2Append(t *testing.T) {
	room := []byte("abcdefgh")
	b, _ := utf.Append(room[:2], 0x20ac)
	c, _ := utf.Append(room[:2], 0xe9)
	if string(b) != "ab\u20ac" || string(c) != "ab\u00e9" || string(room) != "abcdefgh" {
		t.Errorf("%q, %q, and what was handed in: %q", b, c, room)
	}
	spoil(b)
	spoil(c)
	if string(room) != "abcdefgh" {
		t.Errorf("behind writing into the answers: %q", room)
	}
	b, _ = utf.Append(room[:2], 0xe9)
	room[0] = 'z'
	if string(b) != "ab\u00e9" {
		t.Errorf("behind writing into what was handed in: %q", b)
	}
	if utf.Append(room[:2], 0xd800); string(room) != "zbcdefgh" {
		t.Errorf("behind a refusal: %q", room)
	}
}

func TestR2TextAndRunes(t *testing.T) {
	room := []rune{'a', 0xe9, 'x', 0xd800}
	s, e := utf.Text(room[:2]...)
	if s != "a\u00e9" || e != api.OK || !slices.Equal(room, []rune{'a', 0xe9, 'x', 0xd800}) {
		t.Errorf("%q, %v, and what was handed in: %x", s, e, room)
	}
	room[0] = 'z'
	if s != "a\u00e9" {
		t.Errorf("behind writing into what was handed in: %q", s)
	}
	l, m := utf.Runes(s), utf.Runes(s)
	spoil(l)
	if !slices.Equal(m, []rune{'a', 0xe9}) || s != "a\u00e9" {
		t.Errorf("behind writing into an answer: %x, %q", m, s)
	}
}

// spoil writes over all of a list, its spare room too.
func spoil[T any](l []T) {
	clear(l[:cap(l)])
}
