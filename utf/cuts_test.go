package utf_test

import (
	"math"
	"testing"

	"guise/utf"
)

func TestP1_8Bound(t *testing.T) {
	for _, c := range []struct {
		s    string
		at   int
		want bool
	}{
		{"", 0, true}, {"", 1, false}, {"", -1, false},
		{"\u00e9", 0, true}, {"\u00e9", 1, false}, {"\u00e9", 2, true}, {"\u00e9", 3, false},
		{"\xe2\x82", 1, true}, {"\xe2\x82", 2, true},
		{"a\U0001f600", 1, true}, {"a\U0001f600", 2, false}, {"a\U0001f600", 3, false}, {"a\U0001f600", 4, false}, {"a\U0001f600", 5, true},
		{"\xe2\u00e9", 1, true}, {"\xe2\u00e9", 2, false},
		{"a", math.MinInt, false}, {"a", math.MaxInt, false},
	} {
		if ok := utf.Bound(c.s, c.at); ok != c.want {
			t.Errorf("Bound(%q, %d): %v", c.s, c.at, ok)
		}
	}
}

func TestP1_9Cut(t *testing.T) {
	for _, c := range []struct {
		s          string
		at         int
		head, tail string
	}{
		{"a\u00e9", 2, "a", "\u00e9"}, {"a\u00e9", -5, "", "a\u00e9"}, {"a\u00e9", 3, "a\u00e9", ""}, {"a\u00e9", 4, "a\u00e9", ""},
		{"a\u00e9", math.MinInt, "", "a\u00e9"}, {"a\u00e9", math.MaxInt, "a\u00e9", ""},
		{"", 0, "", ""}, {"", -1, "", ""}, {"", 1, "", ""},
		{"\U0001f600", 3, "", "\U0001f600"}, {"\xf0\x9f\x98", 2, "\xf0\x9f", "\x98"}, {"a\u20ac\x80", 4, "a\u20ac", "\x80"}, {"a\u20ac\x80", 3, "a", "\u20ac\x80"},
	} {
		if head, tail := utf.Cut(c.s, c.at); head != c.head || tail != c.tail {
			t.Errorf("Cut(%q, %d): %q, %q", c.s, c.at, head, tail)
		}
	}
}

func TestP1_8P1_9OfAnyBytes(t *testing.T) {
	eachText(4, func(s string) {
		bounds := wantBounds(s)
		greatest := 0
		for at := -2; at <= len(s)+2; at++ {
			inside := 0 <= at && at <= len(s)
			if inside && bounds[at] {
				greatest = at
			}
			if ok := utf.Bound(s, at); ok != (inside && bounds[at]) {
				t.Fatalf("P1.8: Bound(%q, %d): %v", s, at, ok)
			}
			if head, tail := utf.Cut(s, at); head != s[:greatest] || tail != s[greatest:] {
				t.Fatalf("P1.9: Cut(%q, %d): %q, %q", s, at, head, tail)
			}
		}
	})
}

func TestP1_10Joins(t *testing.T) {
	for _, c := range []struct {
		s, t string
		want bool
	}{
		{"\xe2\x82", "\xac", false}, {"\xe2", "\xac", true}, {"\u00e9", "\x80", true},
		{"\xf0", "\x9f\x98\x80", false}, {"\xf0\x9f", "\x98\x80", false}, {"\xf0\x9f\x98", "\x80", false}, {"\xf0\x9f", "\x98", true},
		{"", "", true}, {"", "\x80", true}, {"\xe2", "", true},
		{"\xed", "\xa0\x80", true}, {"\xed", "\x9f\xbf", false}, {"\xc3", "\xa9", false}, {"\xc0", "\x80", true},
		{"ab\xf0\x9f\x98", "\x80cd", false}, {"ab\xe2", "\x82\xaccd", false}, {"\xef\xbf", "\xbd", false},
	} {
		if ok := utf.Joins(c.s, c.t); ok != c.want {
			t.Errorf("Joins(%q, %q): %v", c.s, c.t, ok)
		}
	}
}

func TestP1_10OfAnyBytes(t *testing.T) {
	eachText(4, func(s string) {
		for n := range len(s) + 1 {
			if ok := utf.Joins(s[:n], s[n:]); ok != wantJoins(s[:n], s[n:]) {
				t.Fatalf("Joins(%q, %q): %v", s[:n], s[n:], ok)
			}
		}
	})
}
