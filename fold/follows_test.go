package fold_test

import (
	"slices"
	"strings"
	"testing"

	"guise/api"
	"guise/fold"
	"guise/open"
	"guise/standard"
	"guise/tables"
	"guise/utf"
)

func TestP12_7FoldOfFold(t *testing.T) {
	for n, x := range append(otherTables(), table()) {
		b := bookOf(t, x)
		eachText(func(s string) {
			form := fold.Fold(b, s)
			if p, ok := utf.Valid(form); !ok {
				t.Errorf("%d: %+q: %+q is not valid at %+v", n, s, form, p)
			}
			if p, ok := fold.First(b, form); ok {
				t.Errorf("%d: %+q: %+q is not folded at %+v", n, s, form, p)
			}
			if twice := fold.Fold(b, form); twice != form {
				t.Errorf("%d: %+q: %+q, then %+q", n, s, form, twice)
			}
			if p, ok := fold.First(b, s); ok == (s == form) || !strings.HasPrefix(form, s[:p.Byte]) {
				t.Errorf("%d: %+q: %+v, %v, and Fold is %+q", n, s, p, ok, form)
			}
			if runes, spots := utf.Count(form), utf.Count(s); runes < spots || runes > api.MaxTo*spots || runes != fold.Count(b, s) {
				t.Errorf("%d: %+q: %d spots, %+q: %d runes", n, s, spots, form, runes)
			}
		})
	}
}

// Both ends of how many runes a form has are met.
func TestP12_7Ends(t *testing.T) {
	b := book(t)
	if n := fold.Count(b, grin+grin); n != 2*api.MaxTo {
		t.Errorf("%d runes", n)
	}
	if n := fold.Count(b, kelvin+kelvin); n != 2 {
		t.Errorf("%d runes", n)
	}
}

// Each text cut at each of its bytes, between spots or not: where the parts join, the form is theirs.
func TestP12_8Joined(t *testing.T) {
	for n, x := range append(otherTables(), table()) {
		b := bookOf(t, x)
		eachText(func(s string) {
			form, pieces := fold.Fold(b, s), ""
			for _, piece := range fold.Pieces(b, s) {
				pieces += piece
			}
			if pieces != form {
				t.Errorf("%d: %+q: pieces %+q, want %+q", n, s, pieces, form)
			}
			for at := range len(s) + 1 {
				head, tail := s[:at], s[at:]
				if !utf.Joins(head, tail) {
					continue
				}
				if got := fold.Fold(b, head) + fold.Fold(b, tail); got != form {
					t.Errorf("%d: %+q and %+q: %+q, want %+q", n, head, tail, got, form)
				}
			}
		})
	}
	// Where they don't join, it may be another one.
	if b := book(t); fold.Fold(b, "\xc3"+"\x9f") != "ss" || fold.Fold(b, "\xc3")+fold.Fold(b, "\x9f") != "\ufffd\ufffd" {
		t.Error("C3 and 9F")
	}
}

func TestP12_9Open(t *testing.T) {
	for n, x := range append(otherTables(), table(), standard.Book().Tables()) {
		b := bookOf(t, x)
		eachText(func(s string) {
			apart := open.Open(b, s)
			form, back := fold.Fold(b, apart), fold.Fold(b, s)
			if p, ok := open.First(b, form); ok {
				t.Errorf("%d: %+q: %+q is not open at %+v", n, s, form, p)
			}
			if got := fold.Fold(b, open.Open(b, back)); got != form {
				t.Errorf("%d: %+q: folded first %+q, want %+q", n, s, got, form)
			}
			if !fold.Twins(b, s, apart) || !fold.Twins(b, back, s) || !fold.Twins(b, s, form) {
				t.Errorf("%d: %+q is no twin of its forms", n, s)
			}
		})
	}
}

func TestP12_9Equivalence(t *testing.T) {
	b, texts := book(t), fewTexts()
	var twins [][]bool
	for _, s := range texts {
		var l []bool
		for _, other := range texts {
			l = append(l, fold.Twins(b, s, other))
		}
		twins = append(twins, l)
	}
	for i, s := range texts {
		if !twins[i][i] {
			t.Errorf("%+q is no twin of itself", s)
		}
		for j, other := range texts {
			if twins[i][j] != twins[j][i] {
				t.Errorf("%+q, %+q: twins one way alone", s, other)
			}
			for k, third := range texts {
				if twins[i][j] && twins[j][k] && !twins[i][k] {
					t.Errorf("%+q, %+q, %+q: the first and the last are no twins", s, other, third)
				}
			}
		}
	}
}

// The runs, with a table that has just what they ask for, with one that has more, and with that of the house.
func TestRuns(t *testing.T) {
	x := table()
	x.Looks, x.Drops = nil, nil
	x.Marks = []api.Mark{{Rune: 0x301, Class: 230}}
	x.Pairs = []api.Pair{{Whole: 0xc9, Base: 'E', Mark: 0x301}, {Whole: 0xe9, Base: 'e', Mark: 0x301}}
	x.Folds = []api.Map{{From: 'A', To: "a"}, {From: 0xdf, To: "ss"}, {From: 'E', To: "e"}}
	for _, b := range []*tables.Book{bookOf(t, x), book(t), standard.Book()} {
		check := func(run string, ok bool) {
			t.Helper()
			if !ok {
				t.Error(run)
			}
		}
		runes := func(r rune, want ...rune) bool { return slices.Equal(fold.Rune(b, r), want) }
		first := func(s string, want api.Place, is bool) bool {
			p, ok := fold.First(b, s)
			return p == want && ok == is
		}
		of := func(n int, want api.Place, is bool) bool {
			p, ok := fold.Of(b, "A\u00df\u00c9", n)
			return p == want && ok == is
		}
		check("Rune", runes('A', 'a') && runes('b', 'b') && runes(0xdf, 's', 's'))
		check("Fold", fold.Fold(b, "A\u00df\u00c9") == "ass\u00c9" && fold.Fold(b, "A\xff") == "a\ufffd")
		check("First", first("a\u00df", place(1, 1), true) && first("\u00c9", api.Place{}, false) && first("a\xff", place(1, 1), true))
		check("Count", fold.Count(b, "A\u00df\u00c9") == 4)
		check("Of", of(2, place(1, 1), true) && of(3, place(3, 2), true) && of(4, api.Place{}, false) && of(-1, api.Place{}, false))
		check("Pieces", slices.Equal(collect(fold.Pieces(b, "\u00dfa")), []placed{{place(0, 0), "ss"}, {place(2, 1), "a"}}))
		check("Twins", fold.Twins(b, "\u00c9", "e\u0301") && fold.Twins(b, "\u00c9", "\u00e9"))
	}
}

func TestExamples(t *testing.T) {
	b := book(t)
	if s := fold.Fold(b, ""); s != "" {
		t.Errorf("1: %+q", s)
	}
	x := table()
	x.Folds = nil
	none := bookOf(t, x)
	eachText(func(s string) {
		if got := fold.Fold(none, s); got != utf.Clean(s) {
			t.Errorf("2: %+q: %+q", s, got)
		}
	})
	if s, other := open.Open(b, great), open.Open(b, small); s != "E"+acute || other != "e"+acute || fold.Fold(b, s) != "e"+acute || fold.Fold(b, other) != "e"+acute {
		t.Errorf("3: %+q, %+q", s, other)
	}
}
