package strip_test

import (
	"iter"
	"slices"
	"strings"
	"testing"

	"guise/api"
	"guise/strip"
)

type placed struct {
	place api.Place
	r     rune
}

func collect(seq iter.Seq2[api.Place, rune]) []placed {
	var l []placed
	for p, r := range seq {
		l = append(l, placed{p, r})
	}
	return l
}

func wantPlaced(x api.Tables, s string) []placed {
	var l []placed
	for _, spot := range wantSeen(x, s) {
		l = append(l, placed{spot.place, spot.r})
	}
	return l
}

func TestP11_3Seen(t *testing.T) {
	for n, x := range append(otherTables(), table()) {
		b := bookOf(t, x)
		eachText(func(s string) {
			if got, want := collect(strip.Seen(b, s)), wantPlaced(x, s); !slices.Equal(got, want) {
				t.Errorf("%d: %+q: %+v, want %+v", n, s, got, want)
			}
		})
	}
}

func TestP11_3SeenByHand(t *testing.T) {
	b := book(t)
	for s, want := range map[string][]placed{
		"":                          {},
		soft + zero:                 {},
		"a":                         {{place(0, 0), 'a'}},
		soft + "\u00e9":             {{place(2, 1), 0xe9}},
		zero + "\xff" + tone + "b":  {{place(3, 1), 0xfffd}, {place(8, 3), 'b'}},
		"\ufffd" + under + "\xef":   {{place(0, 0), 0xfffd}, {place(6, 2), 0xfffd}},
		"\x00" + soft + soft + "\n": {{place(0, 0), 0}, {place(5, 3), '\n'}},
		"\xe2" + soft + "\x82\xac":  {{place(0, 0), 0xfffd}, {place(3, 2), 0xfffd}, {place(4, 3), 0xfffd}},
	} {
		if got := collect(strip.Seen(b, s)); !slices.Equal(got, want) {
			t.Errorf("%+q: %+v, want %+v", s, got, want)
		}
	}
}

func TestP11_3SeenRangedOverAgain(t *testing.T) {
	b, s := book(t), soft+"a"+zero+"\u00e9\xff"+tone
	want := wantPlaced(table(), s)
	l := strip.Seen(b, s)
	for range 3 {
		if got := collect(l); !slices.Equal(got, want) {
			t.Errorf("%+v", got)
		}
	}
	i := 0
	for p, r := range l {
		if inner := collect(l); want[i] != (placed{p, r}) || !slices.Equal(inner, want) {
			t.Errorf("one within the other: %+v, %U, %+v", p, r, inner)
		}
		i++
	}
}

// It is left at each spot, the last one too, and hands out none behind that; then it may be ranged over from the beginning on.
func TestP11_3SeenLeftEarly(t *testing.T) {
	b, x := book(t), table()
	for _, s := range []string{"a", soft + "a", "a" + soft, soft + "a" + zero + "\u00e9\xff" + tone + "b" + soft} {
		want := wantPlaced(x, s)
		l := strip.Seen(b, s)
		for end := 1; end <= len(want); end++ {
			var got []placed
			l(func(p api.Place, r rune) bool {
				got = append(got, placed{p, r})
				return len(got) != end
			})
			if !slices.Equal(got, want[:end]) {
				t.Errorf("%+q left at %d: %+v", s, end, got)
			}
		}
	}
}

func TestP11_3SeenLong(t *testing.T) {
	b, n := book(t), 0
	for p, r := range strip.Seen(b, strings.Repeat("\u20ac"+soft, api.MaxText+1)) {
		if p != place(5*n, 2*n) || r != 0x20ac {
			t.Fatalf("%d: %+v, %U", n, p, r)
		}
		n++
	}
	if n != api.MaxText+1 {
		t.Errorf("%d are seen", n)
	}
}

func TestP11_3Count(t *testing.T) {
	for n, x := range append(otherTables(), table()) {
		b := bookOf(t, x)
		eachText(func(s string) {
			if got, want := strip.Count(b, s), wantCount(x, s); got != want {
				t.Errorf("%d: %+q: %d, want %d", n, s, got, want)
			}
		})
	}
}

func TestP11_3CountByHand(t *testing.T) {
	b := book(t)
	for s, want := range map[string]int{
		"":                                0,
		"abc":                             0,
		"\xff\xc2\ufffd":                  0,
		soft:                              1,
		soft + soft:                       2,
		least + most + tone + "a":         3,
		"\xc2" + soft + "\xad":            1,
		"\xed\xa0\x80" + ahead + behind:   2,
		strings.Repeat("a"+soft, 1+1<<16): 1 + 1<<16,
	} {
		if got := strip.Count(b, s); got != want {
			t.Errorf("%+q: %d, want %d", s[:min(len(s), 20)], got, want)
		}
	}
}

func TestP11_3NilBook(t *testing.T) {
	for _, s := range []string{"", "a", soft, "a" + zero, "\xff"} {
		for p, r := range strip.Seen(nil, s) {
			t.Errorf("%+q: %+v, %U", s, p, r)
		}
		if n := strip.Count(nil, s); n != 0 {
			t.Errorf("%+q: %d", s, n)
		}
	}
}
