package spots_test

import (
	"strings"
	"testing"

	"guise/api"
	"guise/spots"
	"guise/utf"
)

func TestP2_1New(t *testing.T) {
	eachText(func(s string) {
		x := text(t, s)
		if x.String() != s || x.Count() != len(wantRows(s))-1 {
			t.Errorf("%q: %q, %d spots", s, x.String(), x.Count())
		}
	})
}

func TestP2_1Longest(t *testing.T) {
	for _, c := range []struct {
		bit    string
		spots  int
		lines  int
		column int
	}{{"x", 65536, 1, 65537}, {"\n", 65536, 65537, 1}, {"\xff", 65536, 1, 65537}, {"\u00e9", 32768, 1, 32769}, {"\U0001f600", 16384, 1, 16385}} {
		s := strings.Repeat(c.bit, api.MaxText/len(c.bit))
		x := text(t, s)
		if x.String() != s || x.Count() != c.spots || x.Lines() != c.lines {
			t.Errorf("%q: %d spots, %d lines", c.bit, x.Count(), x.Lines())
		}
		if p, ok := x.Place(c.spots); p != place(65536, c.spots) || !ok {
			t.Errorf("%q: the end: %+v, %v", c.bit, p, ok)
		}
		if p, ok := x.Where(65536); p != at(65536, c.lines, c.column) || !ok {
			t.Errorf("%q: behind the end: %+v, %v", c.bit, p, ok)
		}
		for _, more := range []string{"x", "\xff", "\n", "\u00e9", s} {
			if y, e := spots.New(s + more); y != nil || e != api.ErrLong {
				t.Errorf("%q and %.3q more: %v, %v", c.bit, more, y != nil, e)
			}
		}
	}
}

func TestP2_2PlaceAndSpot(t *testing.T) {
	eachText(func(s string) {
		x, rows := text(t, s), wantRows(s)
		for _, n := range numbers(len(rows)) {
			var want row
			within := 0 <= n && n < len(rows)
			if within {
				want = rows[n]
			}
			if p, ok := x.Place(n); p != want.place || ok != within {
				t.Errorf("%q: Place(%d): %+v, %v", s, n, p, ok)
			}
			if y, ok := x.Spot(n); y != want.spot || ok != (within && n != len(rows)-1) {
				t.Errorf("%q: Spot(%d): %+v, %v", s, n, y, ok)
			}
		}
	})
}

func TestP2_2RealAndBad(t *testing.T) {
	x := text(t, "\ufffd\xff\xef\xbf")
	for n, want := range []utf.Spot{{Rune: api.Bad, Bytes: 3}, {Rune: api.Bad, Bytes: 1, Bad: true}, {Rune: api.Bad, Bytes: 1, Bad: true}, {Rune: api.Bad, Bytes: 1, Bad: true}} {
		if y, ok := x.Spot(n); y != want || !ok {
			t.Errorf("Spot(%d): %+v, %v", n, y, ok)
		}
	}
}

func TestP2_3Of(t *testing.T) {
	eachText(func(s string) {
		x, rows := text(t, s), wantRows(s)
		for _, b := range numbers(len(s)) {
			want, within := api.Place{}, 0 <= b && b <= len(s)
			for _, y := range rows {
				if within && y.place.Byte <= b {
					want = y.place
				}
			}
			if p, ok := x.Of(b); p != want || ok != within {
				t.Errorf("%q: Of(%d): %+v, %v", s, b, p, ok)
			}
		}
	})
}
