package strip_test

import (
	"strings"
	"testing"

	"guise/api"
	"guise/standard"
	"guise/strip"
	"guise/tables"
	"guise/utf"
)

func TestP11_6StripOfStrip(t *testing.T) {
	for n, x := range append(otherTables(), table()) {
		b := bookOf(t, x)
		eachText(func(s string) {
			form := strip.Strip(b, s)
			if p, ok := utf.Valid(form); !ok {
				t.Errorf("%d: %+q: %+q is not valid at %+v", n, s, form, p)
			}
			if twice := strip.Strip(b, form); twice != form || strip.Count(b, form) != 0 {
				t.Errorf("%d: %+q: %+q, then %+q", n, s, form, twice)
			}
			if p, ok := strip.First(b, form); ok {
				t.Errorf("%d: %+q: %+q has something at %+v", n, s, form, p)
			}
			if utf.Count(form) != utf.Count(s)-strip.Count(b, s) {
				t.Errorf("%d: %+q: %+q, but Count is %d", n, s, form, strip.Count(b, s))
			}
			if !strip.Same(b, s, form) {
				t.Errorf("%d: %+q is not the same as %+q", n, s, form)
			}
		})
	}
}

func TestP11_6Equivalence(t *testing.T) {
	b, texts := book(t), fewTexts()
	var same [][]bool
	for _, s := range texts {
		var l []bool
		for _, other := range texts {
			l = append(l, strip.Same(b, s, other))
		}
		same = append(same, l)
	}
	for i, s := range texts {
		if !same[i][i] {
			t.Errorf("%+q is not the same as itself", s)
		}
		for j, other := range texts {
			if same[i][j] != same[j][i] {
				t.Errorf("%+q, %+q: the same one way alone", s, other)
			}
			for k, third := range texts {
				if same[i][j] && same[j][k] && !same[i][k] {
					t.Errorf("%+q, %+q, %+q: the first and the last are not the same", s, other, third)
				}
			}
		}
	}
}

// Each text cut at each of its bytes, between spots or not: where the parts join, the strip is theirs.
func TestP11_7Joined(t *testing.T) {
	for n, x := range append(otherTables(), table()) {
		b := bookOf(t, x)
		eachText(func(s string) {
			form := strip.Strip(b, s)
			for at := range len(s) + 1 {
				head, tail := s[:at], s[at:]
				if got := strip.Strip(b, head) + strip.Strip(b, tail); utf.Joins(head, tail) && got != form {
					t.Errorf("%d: %+q and %+q: %+q, want %+q", n, head, tail, got, form)
				}
			}
		})
	}
	// Where they don't join, it may be another one.
	if b := book(t); strip.Strip(b, "\xc2"+"\xad") != "" || strip.Strip(b, "\xc2")+strip.Strip(b, "\xad") != "\ufffd\ufffd" {
		t.Error("C2 and AD")
	}
}

// The runs, with a table that drops just these two runes, with one that drops more, and with that of the house.
func TestRuns(t *testing.T) {
	x := table()
	x.Drops = []api.Span{{Lo: 0xad, Hi: 0xad}, {Lo: 0x200b, Hi: 0x200b}}
	for _, b := range []*tables.Book{bookOf(t, x), book(t), standard.Book()} {
		check := func(run string, ok bool) {
			t.Helper()
			if !ok {
				t.Error(run)
			}
		}
		first := func(s string, want api.Place, is bool) bool {
			p, ok := strip.First(b, s)
			return p == want && ok == is
		}
		at := func(n int, want api.Place, is bool) bool {
			p, ok := strip.Place(b, "\u00e9\u00adb", n)
			return p == want && ok == is
		}
		check("Strip", strip.Strip(b, "a\u00adb") == "ab" && strip.Strip(b, "\xff") == "\ufffd" && strip.Strip(b, "\u200b") == "")
		check("First", first("a\u00ad", place(1, 1), true) && first("\u00e9\xff", place(2, 1), true) && first("ab", api.Place{}, false))
		check("Count", strip.Count(b, "a\u00ad\u200b\xff") == 2)
		check("Place", at(0, place(0, 0), true) && at(1, place(4, 2), true) && at(2, place(5, 3), true) && at(3, api.Place{}, false))
		check("Same", strip.Same(b, "a\u00ad", "a") && !strip.Same(b, "a", "b"))
	}
	if strip.Strip(nil, "a") != "" || strip.Same(nil, "a", "a") {
		t.Error("of a nil Book")
	}
}

func TestExamples(t *testing.T) {
	b := book(t)
	blanks := " \t\n\v\f\r\u0085\u00a0\u2003\u2028\u3000"
	if got := strip.Strip(b, blanks); got != blanks || strip.Count(b, blanks) != 0 {
		t.Errorf("1: %+q", got)
	}
	x := table()
	x.Drops = []api.Span{{Lo: 0xa0, Hi: 0xa0}, {Lo: 0x3000, Hi: 0x3000}}
	if got := strip.Strip(bookOf(t, x), blanks); got != strings.NewReplacer("\u00a0", "", "\u3000", "").Replace(blanks) {
		t.Errorf("1, two of them dropped: %+q", got)
	}
	if got := strip.Strip(b, zero+" \x00a\u0301 \n"+soft); got != " \x00a\u0301 \n" {
		t.Errorf("2: %+q", got)
	}
	if got := strip.Strip(b, "\xe2"+soft+"\x82\xac"); got != "\ufffd\ufffd\ufffd" {
		t.Errorf("3: %+q", got)
	}
}
