package norm_test

import (
	"strings"
	"testing"

	"guise/api"
	"guise/norm"
)

func TestP13_2First(t *testing.T) {
	b, x := book(t), table()
	eachText(func(s string) {
		p, ok := norm.First(b, s)
		if want, is := wantFirst(x, s); p != want || ok != is {
			t.Errorf("%+q: %+v, %v, want %+v, %v", s, p, ok, want, is)
		}
	})
}

func TestP13_2FirstByHand(t *testing.T) {
	b := book(t)
	for s, want := range map[string]api.Place{
		"A":                                   place(0, 0),
		"aA":                                  place(1, 1),
		"a" + zero:                            place(1, 1), // the form is the text's beginning
		small + soft:                          place(2, 1),
		zero + "a":                            place(0, 0),
		small + great:                         place(2, 1),
		"e" + acute:                           place(0, 0),
		"ae" + acute:                          place(1, 1),
		"x" + acute + dot:                     place(1, 1),
		"x" + acute + zero:                    place(3, 2),
		under + hat + zero + "e":              place(5, 2),
		dotted:                                place(0, 0),
		"s" + sharp:                           place(1, 1), // the form goes on with the same runes
		sharp + "ss":                          place(0, 0),
		"a" + zero + "a":                      place(1, 1),
		"\xff":                                place(0, 0),
		"\xef":                                place(0, 0), // the form's first byte, but bad
		"\ufffd\xef\xbf":                      place(3, 1),
		"\xef\xef\xbf\xbd":                    place(0, 0),
		"\ufffd" + dot:                        place(0, 0),
		"A\xff":                               place(0, 0),
		"\xffA":                               place(0, 0),
		small + "\xc3":                        place(2, 1),
		fourWide + "\U0001f600":               place(16, 4),
		fourWide[:12] + fourWide[12:] + acute: place(12, 3),
		"\U0001f601" + tag + "\U0001f601":     place(4, 1),
		zero[:2] + "a":                        place(0, 0),
		"a" + zero[:2]:                        place(1, 1),
		"\u20ac" + kelvin + "a":               place(3, 1),
	} {
		if p, ok := norm.First(b, s); p != want || !ok {
			t.Errorf("%+q: %+v, %v, want %+v", s, p, ok, want)
		}
	}
	for _, s := range []string{"", "a", "e", " ", "\x00", "\ufffd", small, both, under + hat, "x" + acute, acute, dot + acute, "\u0435" + acute, "B", "l1", "\u0303", fourWide, onBad, sDot, wideAcute + hat, "e" + low} {
		if p, ok := norm.First(b, s); p != (api.Place{}) || ok {
			t.Errorf("%+q: %+v, %v", s, p, ok)
		}
	}
}

// First is false just of the texts that are normal, and up to its place a text is that of the form.
func TestP13_2FirstJustThen(t *testing.T) {
	b := book(t)
	eachText(func(s string) {
		form := norm.Norm(b, s)
		p, ok := norm.First(b, s)
		if ok == (s == form) || !strings.HasPrefix(form, s[:p.Byte]) {
			t.Errorf("%+q: %+v, %v, and Norm is %+q", s, p, ok, form)
		}
	})
}

func TestP13_2FirstLong(t *testing.T) {
	b := book(t)
	s := strings.Repeat(small+hat+"x"+dot+acute, api.MaxText)
	if p, ok := norm.First(b, s); p != (api.Place{}) || ok {
		t.Errorf("%+v, %v", p, ok)
	}
	for _, end := range []string{"\xff", "A", great, sharp, "e" + hat} {
		if p, ok := norm.First(b, s+end+"A"); p != place(len(s), 5*api.MaxText) || !ok {
			t.Errorf("%+q: %+v, %v", end, p, ok)
		}
	}
}
