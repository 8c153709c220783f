package fold_test

import (
	"strings"
	"testing"

	"guise/api"
	"guise/fold"
)

func TestP12_3First(t *testing.T) {
	for n, x := range append(otherTables(), table()) {
		b := bookOf(t, x)
		eachText(func(s string) {
			p, ok := fold.First(b, s)
			if want, is := wantFirst(x, s); p != want || ok != is {
				t.Errorf("%d: %+q: %+v, %v, want %+v, %v", n, s, p, ok, want, is)
			}
		})
	}
}

func TestP12_3ByHand(t *testing.T) {
	b := book(t)
	for s, want := range map[string]api.Place{
		"A":                       place(0, 0),
		"\xff":                    place(0, 0),
		"A\xff":                   place(0, 0),
		"\xffA":                   place(0, 0),
		"aA":                      place(1, 1),
		"a\xffA":                  place(1, 1),
		"s" + sharp:               place(1, 1),
		small + "A":               place(2, 1),
		great + acute + "E":       place(4, 2),
		"\ufffd" + under:          place(3, 1),
		"\ufffd\xef":              place(3, 1),
		"\ufffd\xef\xbf":          place(3, 1), // two bytes of U+FFFD's
		"\xef\xef\xbf\xbd":        place(0, 0),
		"k" + kelvin:              place(1, 1),
		fourWide + grin:           place(16, 4),
		"\U0001f601a\xf0\x9f\x98": place(5, 2),
		"\u0430" + acute + ahead:  place(4, 2),
		"\x7f" + least:            place(1, 1),
		"\u200d" + most:           place(3, 1),
		"S\xc3\xc3\x9f":           place(1, 1),
	} {
		if p, ok := fold.First(b, s); p != want || !ok {
			t.Errorf("%+q: %+v, %v, want %+v", s, p, ok, want)
		}
	}
	for _, s := range []string{"", "a", "B", " ", "\x00", "\x7f", "@[", "\u0081", great, small, greatBoth, sharpAcute, "e" + acute + dot, "\u0430", "l", "\u200d", "\ufffd", "\ufffd\ufffd", fourWide, "\U0010fffe"} {
		if p, ok := fold.First(b, s); p != (api.Place{}) || ok {
			t.Errorf("%+q: %+v, %v", s, p, ok)
		}
	}
}

// What is folded may become runes that stand behind it, too: it is told for all that.
func TestP12_3NotWhatStandsBehind(t *testing.T) {
	b := book(t)
	for _, s := range []string{"Aa", sharp + "ss", kelvin + "k", grin + fourWide, least + "\u0081", "\xff\ufffd", "\xef\ufffd", "\xbf\xbd\ufffd"} {
		if p, ok := fold.First(b, s); p != (api.Place{}) || !ok {
			t.Errorf("%+q: %+v, %v", s, p, ok)
		}
	}
}

func TestP12_3Long(t *testing.T) {
	b := book(t)
	s := strings.Repeat("\u20aca", api.MaxText)
	if p, ok := fold.First(b, s); p != (api.Place{}) || ok {
		t.Errorf("%+v, %v", p, ok)
	}
	for _, end := range []string{"\xff", "A", sharp, grin} {
		if p, ok := fold.First(b, s+end+"A"); p != place(len(s), 2*api.MaxText) || !ok {
			t.Errorf("%+q: %+v, %v", end, p, ok)
		}
	}
}

func TestP12_3NilBook(t *testing.T) {
	for _, s := range []string{"", "a", "A", "a" + sharp, "\xff"} {
		if p, ok := fold.First(nil, s); p != (api.Place{}) || ok {
			t.Errorf("%+q: %+v, %v", s, p, ok)
		}
	}
}
