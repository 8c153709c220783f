package open_test

import (
	"strings"
	"testing"

	"guise/api"
	"guise/open"
)

func TestP9_3First(t *testing.T) {
	b, x := book(t), table()
	eachText(func(s string) {
		p, ok := open.First(b, s)
		if want, is := wantFirst(x, s); p != want || ok != is {
			t.Errorf("%+q: %+v, %v, want %+v, %v", s, p, ok, want, is)
		}
	})
}

func TestP9_3ByHand(t *testing.T) {
	b := book(t)
	for s, want := range map[string]api.Place{
		"\xff":                               place(0, 0),
		"\u00e9":                             place(0, 0),
		"e" + acute + "\u00ea\xff":           place(3, 2),
		"e" + acute + dot + "\xff\u00e9":     place(3, 2),
		"e" + acute + "\xff" + hat + dot:     place(3, 2),
		acute + low:                          place(2, 1),
		"\U0001f600" + high + acute + low:    place(8, 2),
		"\ufffd" + dot + hat + "\xff\ufffd":  place(7, 3),
		"\ufffd\xe2\x83":                     place(3, 1),
		dot + hat + "e" + low + dot + dotted: place(10, 5),
		"\u0435" + deepest:                   place(2, 1),
		onBad:                                place(0, 0),
	} {
		if p, ok := open.First(b, s); p != want || !ok {
			t.Errorf("%+q: %+v, %v, want %+v", s, p, ok, want)
		}
	}
	for _, s := range []string{
		"", "e", "E", "\x00", "\ufffd", "\u200d", "\u0435\u0303", "\U0001f600" + low + dot + hat + high,
		acute, acute + hat, hat + acute, acute + acute, acute + "e" + dot, acute + "\ufffd" + dot, "\ufffd" + dot,
		"e" + acute, // it could be put together, but it is open
	} {
		if p, ok := open.First(b, s); p != (api.Place{}) || ok {
			t.Errorf("%+q: %+v, %v", s, p, ok)
		}
	}
}

func TestP9_3Long(t *testing.T) {
	b := book(t)
	s := strings.Repeat("\u0435"+dot+acute, api.MaxText)
	if p, ok := open.First(b, s); p != (api.Place{}) || ok {
		t.Errorf("%+v, %v", p, ok)
	}
	for _, end := range []string{"\xff", "\u00e9", dot} {
		if p, ok := open.First(b, s+end+"e"); p != place(len(s), 3*api.MaxText) || !ok {
			t.Errorf("%+q: %+v, %v", end, p, ok)
		}
	}
}

func TestP9_3NilBook(t *testing.T) {
	for _, s := range []string{"", "e", "\u00e9", acute + dot, "\xff"} {
		if p, ok := open.First(nil, s); p != (api.Place{}) || ok {
			t.Errorf("%+q: %+v, %v", s, p, ok)
		}
	}
}
