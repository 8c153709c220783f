package script_test

import (
	"strings"
	"testing"

	"guise/api"
	"guise/script"
	"guise/tables"
)

func TestP14_2EachText(t *testing.T) {
	eachPair(t, func(x api.Tables, b *tables.Book, s string) {
		want, is := wantStop(x, s)
		if got, ok := script.Stop(b, s); got != want || ok != is {
			t.Errorf("%+q: %+v, %v, want %+v, %v", s, got, ok, want, is)
		}
	})
}

func TestP14_2ByHand(t *testing.T) {
	b := book(t)
	for s, want := range map[string]api.Place{
		"?":                             place(0, 0),
		"\xff":                          place(0, 0),
		"\ufffd":                        place(0, 0),
		acute + "?":                     place(2, 1),
		"a\u0430":                       place(1, 1),
		"\u0430a":                       place(2, 1),
		"a" + acute + "1\u0430a":        place(4, 3),
		sun + "\u3042a":                 place(6, 2),
		rare + sun + "\u0430":           place(7, 2),
		fi + "a" + soft:                 place(4, 2), // two scripts, one left, none left
		fi + soft + "a":                 place(5, 2),
		"a\xd0":                         place(1, 1),
		"\u0430\xd0\xb0\xd0":            place(4, 2),
		"12\u00e8":                      place(2, 2),
		"\u00e9\u00e8":                  place(2, 1),
		high + longer + "\u0430\xb0":    place(9, 3),
		"a" + zero:                      place(1, 1),
		"a b":                           place(1, 1),
		"\xf0\xa0\x80":                  place(0, 0),
		"\xf0\xa0\x80\x80" + "\x80\x80": place(4, 1),
	} {
		if got, ok := script.Stop(b, s); got != want || !ok {
			t.Errorf("%+q: %+v, %v, want %+v", s, got, ok, want)
		}
	}
	for _, s := range []string{"", "1", "-.", acute, dot + high + longer, "a", "a" + acute + "1", sun, sun + "\u3042" + rare, fi + "z", fi + soft, soft, "5\u04305", "\xd0\xb0"} {
		if got, ok := script.Stop(b, s); got != (api.Place{}) || ok {
			t.Errorf("%+q: %+v, %v", s, got, ok)
		}
	}
}

// A text of free spots is never mixed; one with a bound spot always is, of a table without scripts.
func TestP14_2NoScripts(t *testing.T) {
	bare := api.Tables{
		Common:  []api.Span{{Lo: '-', Hi: '9'}},
		Allowed: []api.Span{{Lo: '-', Hi: '-'}, {Lo: '0', Hi: '9'}, {Lo: 'a', Hi: 'z'}},
	}
	for _, x := range []api.Tables{bare, noScripts()} {
		b := bookOf(t, x)
		for _, s := range []string{"", "1", "12-.", "99999"} {
			if got, ok := script.Stop(b, s); got != (api.Place{}) || ok {
				t.Errorf("%+q: %+v, %v", s, got, ok)
			}
		}
		for s, want := range map[string]api.Place{"a": place(0, 0), "12a": place(2, 2), "1\u65e5": place(1, 1), "\xff": place(0, 0)} {
			if got, ok := script.Stop(b, s); got != want || !ok {
				t.Errorf("%+q: %+v, %v", s, got, ok)
			}
		}
	}
	if got, ok := script.Stop(bookOf(t, noScripts()), acute+dot+"1"); got != (api.Place{}) || ok {
		t.Errorf("marks: %+v, %v", got, ok)
	}
	if got, ok := script.Stop(bookOf(t, bare), "1"+acute); got != place(1, 1) || !ok {
		t.Errorf("what is no mark of this table: %+v, %v", got, ok)
	}
}

func TestP14_2Long(t *testing.T) {
	b, n := book(t), 4*api.MaxText
	long := strings.Repeat(sun+acute, n)
	if got, ok := script.Stop(b, long+"\u3042"); got != (api.Place{}) || ok {
		t.Errorf("%+v, %v", got, ok)
	}
	if got, ok := script.Stop(b, long+"a"); got != place(5*n, 2*n) || !ok {
		t.Errorf("%+v, %v", got, ok)
	}
}

func TestP14_2NilBook(t *testing.T) {
	for _, s := range []string{"", "1", "a", "a\u0430", "\xff"} {
		if got, ok := script.Stop(nil, s); got != (api.Place{}) || ok {
			t.Errorf("%+q: %+v, %v", s, got, ok)
		}
	}
}
