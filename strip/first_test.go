package strip_test

import (
	"strings"
	"testing"

	"guise/api"
	"guise/strip"
)

func TestP11_2First(t *testing.T) {
	for n, x := range append(otherTables(), table()) {
		b := bookOf(t, x)
		eachText(func(s string) {
			p, ok := strip.First(b, s)
			if want, is := wantFirst(x, s); p != want || ok != is {
				t.Errorf("%d: %+q: %+v, %v, want %+v, %v", n, s, p, ok, want, is)
			}
		})
	}
}

func TestP11_2ByHand(t *testing.T) {
	b := book(t)
	for s, want := range map[string]api.Place{
		"\xff":                    place(0, 0),
		soft:                      place(0, 0),
		soft + "\xff":             place(0, 0),
		"\xff" + soft:             place(0, 0),
		"a" + zero + soft:         place(1, 1),
		"a\xff" + soft:            place(1, 1),
		"\u20ac\u00e9" + most:     place(5, 2),
		"\ufffd" + under:          place(3, 1),
		"\ufffd\xef":              place(3, 1),
		"\ufffd\xef\xbf" + soft:   place(3, 1),
		"\u200a\xe2\x80":          place(3, 1),
		"\U0001f400a\xf0\x9f\x8f": place(5, 2),
		"\u0430\u0301\xed\xa0":    place(4, 2),
		"\x7f" + least:            place(1, 1),
	} {
		if p, ok := strip.First(b, s); p != want || !ok {
			t.Errorf("%+q: %+v, %v, want %+v", s, p, ok, want)
		}
	}
	for _, s := range []string{"", "a", "A", " ", "\x00", "\x7f", "\u0081", "\u00e9", "e\u0301", "\u0301\u0323", "\u0430", "\ufffd", "\ufffd\ufffd", "\u200a\u200e", "\U0001f400\U0010fffe"} {
		if p, ok := strip.First(b, s); p != (api.Place{}) || ok {
			t.Errorf("%+q: %+v, %v", s, p, ok)
		}
	}
}

// First is false just of the texts that are their own strip.
func TestP11_2JustThen(t *testing.T) {
	b := book(t)
	eachText(func(s string) {
		form := strip.Strip(b, s)
		if p, ok := strip.First(b, s); ok == (s == form) || !strings.HasPrefix(form, s[:p.Byte]) {
			t.Errorf("%+q: %+v, %v, and Strip is %+q", s, p, ok, form)
		}
	})
}

func TestP11_2Long(t *testing.T) {
	b := book(t)
	s := strings.Repeat("\u20aca", api.MaxText)
	if p, ok := strip.First(b, s); p != (api.Place{}) || ok {
		t.Errorf("%+v, %v", p, ok)
	}
	for _, end := range []string{"\xff", soft, tone} {
		if p, ok := strip.First(b, s+end+"a"); p != place(len(s), 2*api.MaxText) || !ok {
			t.Errorf("%+q: %+v, %v", end, p, ok)
		}
	}
}

func TestP11_2NilBook(t *testing.T) {
	for _, s := range []string{"", "a", soft, "a" + zero, "\xff"} {
		if p, ok := strip.First(nil, s); p != (api.Place{}) || ok {
			t.Errorf("%+q: %+v, %v", s, p, ok)
		}
	}
}
