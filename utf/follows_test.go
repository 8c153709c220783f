package utf_test

import (
	"math"
	"slices"
	"testing"

	"guise/api"
	"guise/utf"
)

func TestP1_11Clean(t *testing.T) {
	eachText(3, func(s string) {
		c := utf.Clean(s)
		if _, ok := utf.Valid(c); !ok || utf.Clean(c) != c {
			t.Fatalf("%q: Clean is %q, Clean of it %q", s, c, utf.Clean(c))
		}
		runes := utf.Runes(s)
		if !slices.Equal(utf.Runes(c), runes) {
			t.Fatalf("%q: Runes %x, Runes of Clean %x", s, runes, utf.Runes(c))
		}
		if text, e := utf.Text(runes...); text != c || e != api.OK {
			t.Fatalf("%q: Text of Runes %q, %v", s, text, e)
		}
		if _, ok := utf.Valid(s); ok != (c == s) {
			t.Fatalf("%q: valid: %v, Clean %q", s, ok, c)
		}
	})
}

func TestP1_12OneIsValid(t *testing.T) {
	eachText(2, func(s string) {
		for _, v := range []string{"", "a", "\u00e9", "\ufffd", "z\U0001f600", "\u20ac\U0010ffff"} {
			if !utf.Joins(s, v) || !utf.Joins(v, s) {
				t.Fatalf("%q and %q don't join", s, v)
			}
		}
	})
}

func TestP1_12ThreeBytes(t *testing.T) {
	heads := []string{"", "a", "\xe2", "\xf0\x9f", "\xf0\x9f\x98", "\U0001f600", "\x80\x80\x80\x80"}
	for _, s := range []string{"\xf0\x9f\x98", "\x80\xe2\x82", "aa\xc3", "\xed\xed\xed", "\x9f\x98\x80", "\xf0\xf0\xf0"} {
		for _, u := range []string{"\x80\x80\x80", "\xac\x80a", "\xa9aa", "\xa0\x80\x80", "\x9f\x98\x80", "\xff\xff\xff"} {
			want := utf.Joins(s, u)
			for _, far := range heads {
				if utf.Joins(far+s, u+far) != want || wantJoins(far+s, u+far) != want {
					t.Errorf("%q, %q with %q at both ends", s, u, far)
				}
			}
		}
	}
}

func TestP1_12CutJoins(t *testing.T) {
	eachText(3, func(s string) {
		for at := -1; at <= len(s)+1; at++ {
			head, tail := utf.Cut(s, at)
			if !utf.Joins(head, tail) || head+tail != s {
				t.Fatalf("Cut(%q, %d): %q, %q", s, at, head, tail)
			}
		}
	})
}

// TestRuns goes through the chapter's table 'Runs', row by row.
func TestRuns(t *testing.T) {
	check := func(run string, ok bool) {
		t.Helper()
		if !ok {
			t.Error(run)
		}
	}
	x, ok := utf.First("\u00e9")
	check("First of U+00E9", x == good(0xe9, 2) && ok)
	x, ok = utf.First("\xc3")
	check("First of C3", x == bad && ok)
	x, ok = utf.First("")
	check("First of nothing", x == utf.Spot{} && !ok)
	x, ok = utf.Last("a\xe2\x82")
	check("Last of a, E2, 82", x == bad && ok)
	x, ok = utf.Last("\u20ac")
	check("Last of U+20AC", x == good(0x20ac, 3) && ok)
	check("Count", utf.Count("a\xe2\x82b") == 4 && utf.Count("\xed\xa0\x80") == 3 && utf.Count("\xf4\x90\x80\x80") == 4)
	p, ok := utf.Valid("\u00e9\xffx")
	check("Valid with FF", p == api.Place{Byte: 2, Rune: 1} && !ok)
	p, ok = utf.Valid("\xef\xbf\xbd")
	check("Valid of a real U+FFFD", p == api.Place{} && ok)
	check("Clean", utf.Clean("a\xff") == "a\xef\xbf\xbd")
	s, e := utf.Text(0x20ac, 0xd800)
	check("Text with a surrogate", s == "" && e == api.ErrRune)
	s, e = utf.Text()
	check("Text of none", s == "" && e == api.OK)
	check("Width", utf.Width(-1) == 0 && utf.Width(0x7ff) == 2 && utf.Width(0x800) == 3 && utf.Width(0xdfff) == 0 && utf.Width(0x10ffff) == 4)
	check("Bound", !utf.Bound("\u00e9", 1) && utf.Bound("\xe2\x82", 1) && utf.Bound("\u00e9", 2) && !utf.Bound("\u00e9", 3))
	head, tail := utf.Cut("a\u00e9", 2)
	check("Cut at 2", head == "a" && tail == "\u00e9")
	head, tail = utf.Cut("a\u00e9", -5)
	check("Cut at -5", head == "" && tail == "a\u00e9")
	check("Joins", !utf.Joins("\xe2\x82", "\xac") && utf.Joins("\xe2", "\xac") && utf.Joins("\u00e9", "\x80"))
}

// TestExamples goes through the chapter's 'Examples'.
func TestExamples(t *testing.T) {
	if got := collect(utf.Spots("\xc0\x80")); !slices.Equal(got, []placed{{0, bad}, {1, bad}}) {
		t.Errorf("1: %+v", got)
	}
	if got := collect(utf.Back("a\xe2\x82")); !slices.Equal(got, []placed{{2, bad}, {1, bad}, {0, good('a', 1)}}) {
		t.Errorf("2: %+v", got)
	}
	if utf.Joins("\xf0", "\x9f\x98\x80") || utf.Clean("\xf0"+"\x9f\x98\x80") != "\U0001f600" {
		t.Error("3")
	}
}

// R1: whatever a call is given, it ends and doesn't panic.
func TestR1Anything(t *testing.T) {
	for _, s := range oddTexts {
		for _, at := range []int{math.MinInt, math.MinInt32, -1, 0, 1, len(s), len(s) + 1, math.MaxInt32, math.MaxInt} {
			head, tail := utf.Cut(s, at)
			if head+tail != s || utf.Bound(s, at) && len(head) != at {
				t.Errorf("Cut(%q, %d): %q, %q", s, at, head, tail)
			}
		}
	}
	if s, e := utf.Text([]rune(nil)...); s != "" || e != api.OK {
		t.Errorf("Text of nil: %q, %v", s, e)
	}
	if b, e := utf.Append(nil, 'a'); string(b) != "a" || e != api.OK {
		t.Errorf("Append of nil: %q, %v", b, e)
	}
}
