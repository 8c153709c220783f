package shut_test

import (
	"strings"
	"testing"

	"guise/api"
	"guise/shut"
)

func TestP10_2First(t *testing.T) {
	b, x := book(t), table()
	eachText(func(s string) {
		p, ok := shut.First(b, s)
		if want, is := wantFirst(s, wantShut(b, x, s)); p != want || ok != is {
			t.Errorf("%+q: %+v, %v, want %+v, %v", s, p, ok, want, is)
		}
	})
}

func TestP10_2ByHand(t *testing.T) {
	b := book(t)
	for s, want := range map[string]api.Place{
		"\xff":                              place(0, 0),
		"e" + acute:                         place(0, 0),
		"xe" + acute:                        place(1, 1),
		"\u00e9e" + acute + "\xff":          place(2, 1),
		"\u00e9\xffe" + acute:               place(2, 1),
		"\xef":                              place(0, 0), // the form's first byte, but bad
		"\ufffd\xef\xbf":                    place(3, 1),
		"\u00e9\xc3":                        place(2, 1),
		"\ufffd\xe2\x83":                    place(3, 1),
		"\xe2\x83\x92\xe2\x83":              place(3, 1), // the first three bytes are a mark
		dotted:                              place(0, 0),
		"x" + acute + dot:                   place(1, 1), // the two marks' first bytes are one
		"x" + dot + acute + dot:             place(3, 2),
		acute + low:                         place(0, 0),
		low + acute + dot:                   place(3, 1),
		"\u00e9" + acute + dot:              place(0, 0),
		"\u1eb9" + hat + dot:                place(3, 1), // the seat stays, the marks behind it change places
		face + falling:                      place(4, 1), // another rune with the same three bytes ahead
		rising + face + "e\u00ea" + acute:   place(9, 3),
		foot + low:                          place(0, 0),
		"\u200d\u0435\ufffd" + dot + "\xff": place(5, 2),
		"e\xff" + acute:                     place(1, 1),
	} {
		if p, ok := shut.First(b, s); p != want || !ok {
			t.Errorf("%+q: %+v, %v, want %+v", s, p, ok, want)
		}
	}
	for _, s := range []string{
		"", "e", "E", "\x00", "\ufffd", "\u200d", "\u0435" + acute, "e\u0303", "x" + dot + acute + hat,
		acute, acute + hat, hat + acute, acute + acute, dot + acute + "e", acute + "\u00e9",
		"\u00e9", "\u00e9" + hat, "\u1ebf", "\u1eb9" + hat, "\u1eb9" + acute, rising, narrow, thrice, onBad + acute,
		"\U0001f601" + hat, "e\u200d" + acute,
	} {
		if p, ok := shut.First(b, s); p != (api.Place{}) || ok {
			t.Errorf("%+q: %+v, %v", s, p, ok)
		}
	}
}

// First is false just of the texts that are their own shut form, and up to its place a text is that of the form.
func TestP10_2JustThen(t *testing.T) {
	b := book(t)
	eachText(func(s string) {
		form := shut.Shut(b, s)
		p, ok := shut.First(b, s)
		if ok == (s == form) || !strings.HasPrefix(form, s[:p.Byte]) {
			t.Errorf("%+q: %+v, %v, and Shut is %+q", s, p, ok, form)
		}
	})
}

func TestP10_2Long(t *testing.T) {
	b := book(t)
	s := strings.Repeat("\u00e9"+hat+"x"+dot+acute, api.MaxText)
	if p, ok := shut.First(b, s); p != (api.Place{}) || ok {
		t.Errorf("%+v, %v", p, ok)
	}
	for _, end := range []string{"\xff", "e" + hat, dotted} {
		if p, ok := shut.First(b, s+end+"e"); p != place(len(s), 5*api.MaxText) || !ok {
			t.Errorf("%+q: %+v, %v", end, p, ok)
		}
	}
}

func TestP10_2NilBook(t *testing.T) {
	for _, s := range []string{"", "e", "e" + acute, acute + dot, "\xff"} {
		if p, ok := shut.First(nil, s); p != (api.Place{}) || ok {
			t.Errorf("%+q: %+v, %v", s, p, ok)
		}
	}
}
