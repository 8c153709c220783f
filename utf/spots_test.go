package utf_test

import (
	"iter"
	"slices"
	"testing"

	"guise/api"
	"guise/utf"
)

var bad = utf.Spot{Rune: api.Bad, Bytes: 1, Bad: true}

func good(r rune, bytes int) utf.Spot { return utf.Spot{Rune: r, Bytes: bytes} }

func collect(l iter.Seq2[int, utf.Spot]) []placed {
	var out []placed
	for at, x := range l {
		out = append(out, placed{at, x})
	}
	return out
}

func TestP1_1FirstAndLast(t *testing.T) {
	for _, c := range []struct {
		s           string
		first, last utf.Spot
	}{
		{"\u00e9", good(0xe9, 2), good(0xe9, 2)},
		{"\xc3", bad, bad},
		{"a\xe2\x82", good('a', 1), bad},
		{"\u20ac", good(0x20ac, 3), good(0x20ac, 3)},
		{"\ufffd\xff", good(api.Bad, 3), bad},
		{"\xff\ufffd", bad, good(api.Bad, 3)},
		{"\xef\xbf", bad, bad},
		{"\xc0\x80", bad, bad},
		{"\xed\xa0\x80", bad, bad},
		{"\U0010ffffa\U00010000", good(0x10ffff, 4), good(0x10000, 4)},
		{"\u20ac\x80", good(0x20ac, 3), bad},
		{"\xf0\x9f\x98", bad, bad},
		{"\x00", good(0, 1), good(0, 1)},
	} {
		if x, ok := utf.First(c.s); x != c.first || !ok {
			t.Errorf("First(%q): %+v, %v", c.s, x, ok)
		}
		if x, ok := utf.Last(c.s); x != c.last || !ok {
			t.Errorf("Last(%q): %+v, %v", c.s, x, ok)
		}
	}
}

func TestP1_1NoSpot(t *testing.T) {
	if x, ok := utf.First(""); x != (utf.Spot{}) || ok {
		t.Errorf("First: %+v, %v", x, ok)
	}
	if x, ok := utf.Last(""); x != (utf.Spot{}) || ok {
		t.Errorf("Last: %+v, %v", x, ok)
	}
}

func TestP1_1To1_5OfAnyBytes(t *testing.T) {
	eachText(4, func(s string) {
		want := wantSpots(s)
		if got := collect(utf.Spots(s)); !slices.Equal(got, want) {
			t.Fatalf("P1.2: Spots(%q): %+v", s, got)
		}
		got := collect(utf.Back(s))
		slices.Reverse(got)
		if !slices.Equal(got, want) {
			t.Fatalf("P1.2: Back(%q): the other way %+v", s, got)
		}
		if n := utf.Count(s); n != len(want) {
			t.Fatalf("P1.3: Count(%q): %d", s, n)
		}
		checkValid(t, s, want)
		checkEnds(t, s, want)
	})
}

func checkEnds(t *testing.T, s string, want []placed) {
	t.Helper()
	if len(want) == 0 {
		return
	}
	if x, ok := utf.First(s); x != want[0].spot || !ok {
		t.Fatalf("P1.1: First(%q): %+v, %v", s, x, ok)
	}
	if x, ok := utf.Last(s); x != want[len(want)-1].spot || !ok {
		t.Fatalf("P1.1: Last(%q): %+v, %v", s, x, ok)
	}
}

func checkValid(t *testing.T, s string, want []placed) {
	t.Helper()
	at := api.Place{}
	n := slices.IndexFunc(want, func(p placed) bool { return p.spot.Bad })
	if n >= 0 {
		at = api.Place{Byte: want[n].at, Rune: n}
	}
	if p, ok := utf.Valid(s); p != at || ok != (n < 0) {
		t.Fatalf("P1.4: Valid(%q): %+v, %v", s, p, ok)
	}
}

func TestP1_1To1_7EveryRune(t *testing.T) {
	for r := rune(0); r <= 0x10ffff; r++ {
		if r == 0xd800 {
			r = 0xe000
		}
		s, e := utf.Text(r)
		if e != api.OK {
			t.Fatalf("P1.6: Text(%x): %v", r, e)
		}
		want := good(r, utf.Width(r))
		if x := wantFirst(s); x != want || len(s) != want.Bytes {
			t.Fatalf("P1.6, P1.7: Text(%x): %q, Width: %d", r, s, want.Bytes)
		}
		first, _ := utf.First(s)
		last, _ := utf.Last(s)
		if first != want || last != want {
			t.Fatalf("P1.1: %x: %+v, %+v", r, first, last)
		}
	}
}

func TestP1_2Order(t *testing.T) {
	s := "a\xe2\x82\u20ac\ufffd"
	want := []placed{{0, good('a', 1)}, {1, bad}, {2, bad}, {3, good(0x20ac, 3)}, {6, good(api.Bad, 3)}}
	if got := collect(utf.Spots(s)); !slices.Equal(got, want) {
		t.Errorf("Spots: %+v", got)
	}
	slices.Reverse(want)
	if got := collect(utf.Back(s)); !slices.Equal(got, want) {
		t.Errorf("Back: %+v", got)
	}
	if got := slices.Concat(collect(utf.Spots("")), collect(utf.Back(""))); len(got) > 0 {
		t.Errorf("of the empty text: %+v", got)
	}
}

func TestP1_2AgainAndLeftEarly(t *testing.T) {
	s := "a\u00e9\xff\u20ac"
	for name, spots := range map[string]func(string) iter.Seq2[int, utf.Spot]{"Spots": utf.Spots, "Back": utf.Back} {
		l := spots(s)
		whole := collect(l)
		for n := 1; n <= len(whole); n++ {
			var got []placed
			l(func(at int, x utf.Spot) bool {
				got = append(got, placed{at, x})
				return len(got) < n
			})
			if !slices.Equal(got, whole[:n]) {
				t.Errorf("%s left behind %d: %+v", name, n, got)
			}
		}
		if again := collect(l); !slices.Equal(again, whole) || len(again) != utf.Count(s) {
			t.Errorf("%s again: %+v", name, again)
		}
	}
}

func TestP1_2Nested(t *testing.T) {
	s := "a\u00e9\xff"
	for name, l := range map[string]iter.Seq2[int, utf.Spot]{"Spots": utf.Spots(s), "Back": utf.Back(s)} {
		n := 0
		for range l {
			for range l {
				n++
			}
		}
		if n != 9 {
			t.Errorf("%s within itself: %d", name, n)
		}
	}
}

func TestP1_3Count(t *testing.T) {
	for s, want := range map[string]int{"": 0, "a\xe2\x82b": 4, "\xed\xa0\x80": 3, "\xf4\x90\x80\x80": 4, "\u00e9\u20ac\U0001f600": 3, "\xc0\x80": 2, "\ufffd": 1} {
		if n := utf.Count(s); n != want {
			t.Errorf("Count(%q): %d", s, n)
		}
	}
}

func TestP1_4Valid(t *testing.T) {
	for s, want := range map[string]api.Place{"\u00e9\xffx": {Byte: 2, Rune: 1}, "a\ufffd\xe2\x82": {Byte: 4, Rune: 2}, "a\U0001f600\x80": {Byte: 5, Rune: 2}} {
		if p, ok := utf.Valid(s); p != want || ok {
			t.Errorf("Valid(%q): %+v, %v", s, p, ok)
		}
	}
	if p, ok := utf.Valid("\xff\xff"); p != (api.Place{}) || ok {
		t.Errorf("bad at the beginning: %+v, %v", p, ok)
	}
	for _, s := range []string{"", "\ufffd", "a\u00e9\u20ac\U0010ffff"} {
		if p, ok := utf.Valid(s); p != (api.Place{}) || !ok {
			t.Errorf("Valid(%q): %+v, %v", s, p, ok)
		}
	}
}
