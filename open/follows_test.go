package open_test

import (
	"slices"
	"strings"
	"testing"

	"guise/api"
	"guise/open"
	"guise/standard"
	"guise/tables"
	"guise/utf"
)

func TestP9_5OpenOfOpen(t *testing.T) {
	b := book(t)
	eachText(func(s string) {
		once := open.Open(b, s)
		if p, ok := open.First(b, once); ok {
			t.Errorf("%+q: %+q is not open at %+v", s, once, p)
		}
		if twice := open.Open(b, once); twice != once {
			t.Errorf("%+q: %+q, then %+q", s, once, twice)
		}
		if _, out := open.First(b, s); out == (once == s) {
			t.Errorf("%+q: not open: %v, and Open is %+q", s, out, once)
		}
		if !open.Twins(b, s, once) {
			t.Errorf("%+q is no twin of %+q", s, once)
		}
	})
}

// safe are the bytes at which a text begins, ends, or has a spot that is no mark.
func safe(b *tables.Book, s string) []int {
	l := []int{0}
	for at, x := range utf.Spots(s) {
		if at > 0 && b.Class(x.Rune) == 0 {
			l = append(l, at)
		}
	}
	return append(l, len(s))
}

func TestP9_6Pieces(t *testing.T) {
	b := book(t)
	eachText(func(s string) {
		all := open.Open(b, s)
		var parts []string
		from := 0
		for _, at := range safe(b, s) {
			head, tail := open.Open(b, s[:at]), open.Open(b, s[at:])
			if head+tail != all {
				t.Errorf("%+q at %d: %+q and %+q, want %+q", s, at, head, tail, all)
			}
			parts = append(parts, open.Open(b, s[from:at]))
			from = at
		}
		if got := strings.Join(parts, ""); got != all {
			t.Errorf("%+q in pieces: %+q, want %+q", s, got, all)
		}
	})
}

// The runs, with the table that they give and with that of the house.
func TestRuns(t *testing.T) {
	for _, b := range []*tables.Book{book(t), standard.Book()} {
		if l := open.Rune(b, 0x1ebf); !slices.Equal(l, []rune{'e', 0x302, 0x301}) {
			t.Errorf("Rune: %U", l)
		}
		if s := open.Open(b, "\u00e9"+dot); s != "e"+dot+acute {
			t.Errorf("Open: %+q", s)
		}
		if !open.Twins(b, "\u1ebf", "e"+hat+acute) || open.Twins(b, "\u1ebf", "e"+acute+hat) {
			t.Error("Twins")
		}
		if p, ok := open.First(b, "ae"+dot+acute); p != (api.Place{}) || ok {
			t.Errorf("First: %+v, %v", p, ok)
		}
		if p, ok := open.First(b, "a\u00e9"); p != place(1, 1) || !ok {
			t.Errorf("First: %+v, %v", p, ok)
		}
	}
}

func TestExamples(t *testing.T) {
	b := standard.Book()
	for _, s := range []string{"", "abc", "A-9.\x00", "\u0430\u4e00\u200d\ufffd", "\U0010ffff"} {
		if p, ok := open.First(b, s); ok || open.Open(b, s) != s {
			t.Errorf("%+q is not open at %+v: %+q", s, p, open.Open(b, s))
		}
	}
	for _, s := range []string{"\xff", "\xc3", "\xe2\x82", "\xed\xa0\x80", "\xf4\x90\x80\x80", "\xc0\x80\xff"} {
		if got := open.Open(b, s); got != strings.Repeat("\ufffd", len(s)) {
			t.Errorf("%+q: %+q", s, got)
		}
	}
	if !open.Twins(b, "", "") {
		t.Error("the empty text is no twin of itself")
	}
	for _, s := range []string{"a", "\x00", "\u0301", "\ufffd", "\xff"} {
		if open.Twins(b, "", s) {
			t.Errorf("%+q is a twin of the empty text", s)
		}
	}
}
