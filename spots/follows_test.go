package spots_test

import (
	"iter"
	"slices"
	"strings"
	"testing"

	"guise/api"
	"guise/spots"
	"guise/utf"
)

type told struct {
	place api.Place
	spot  utf.Spot
}

func collect(l iter.Seq2[api.Place, utf.Spot]) []told { return first(l, -1) }

// first goes through l and leaves it behind n of them.
func first(l iter.Seq2[api.Place, utf.Spot], n int) []told {
	var out []told
	for p, x := range l {
		if out = append(out, told{p, x}); len(out) == n {
			break
		}
	}
	return out
}

func want(rows []row) []told {
	var l []told
	for _, y := range rows {
		l = append(l, told{y.place, y.spot})
	}
	return l
}

func wantBads(rows []row) []api.Place {
	var l []api.Place
	for _, y := range rows {
		if y.spot.Bad {
			l = append(l, y.place)
		}
	}
	return l
}

func TestP2_10PlacesAgree(t *testing.T) {
	eachText(func(s string) {
		x := text(t, s)
		for n := range x.Count() + 1 {
			p, _ := x.Place(n)
			if q, ok := x.Of(p.Byte); q != p || !ok {
				t.Errorf("%q: Of(%d): %+v, not %+v", s, p.Byte, q, p)
			}
			a, _ := x.Where(p.Byte)
			if q, ok := x.Find(a.Line, a.Column); q != p || !ok {
				t.Errorf("%q: Find(%d, %d): %+v, not %+v", s, a.Line, a.Column, q, p)
			}
			head, _ := x.Slice(0, n)
			tail, _ := x.Slice(n, x.Count())
			if !utf.Joins(head, tail) || head+tail != s {
				t.Errorf("%q: %q and %q don't join", s, head, tail)
			}
		}
	})
}

func TestP2_11LinesJoin(t *testing.T) {
	eachText(func(s string) {
		x := text(t, s)
		var l []string
		for n := 1; n <= x.Lines(); n++ {
			line, _ := x.Line(n)
			l = append(l, line)
		}
		if strings.Join(l, "\n") != s {
			t.Errorf("%q: %q", s, l)
		}
	})
}

func none(p any, ok bool) bool {
	return !ok && (p == api.Place{} || p == api.At{} || p == utf.Spot{} || p == "")
}

func TestRunsPlaces(t *testing.T) {
	x := text(t, "a\u00e9\n\xe2\x82z")
	if x.Count() != 6 || x.Lines() != 2 {
		t.Errorf("%d spots, %d lines", x.Count(), x.Lines())
	}
	for _, c := range []struct {
		call func(int) (api.Place, bool)
		n    int
		want api.Place
	}{{x.Place, 2, place(3, 2)}, {x.Place, 6, place(7, 6)}, {x.Of, 2, place(1, 1)}, {x.Of, 5, place(5, 4)}, {x.Of, 7, place(7, 6)}} {
		if p, ok := c.call(c.n); p != c.want || !ok {
			t.Errorf("%d: %+v, %v", c.n, p, ok)
		}
	}
	p, ok := x.Place(7)
	q, more := x.Place(-1)
	if !none(p, ok) || !none(q, more) {
		t.Errorf("Place(7): %+v, %v; Place(-1): %+v, %v", p, ok, q, more)
	}
	if p, ok := x.Of(8); !none(p, ok) {
		t.Errorf("Of(8): %+v, %v", p, ok)
	}
	if y, ok := x.Spot(3); y != (utf.Spot{Rune: api.Bad, Bytes: 1, Bad: true}) || !ok {
		t.Errorf("Spot(3): %+v, %v", y, ok)
	}
	if y, ok := x.Spot(6); !none(y, ok) {
		t.Errorf("Spot(6): %+v, %v", y, ok)
	}
	if l := slices.Collect(x.Bads()); !slices.Equal(l, []api.Place{place(4, 3), place(5, 4)}) {
		t.Errorf("Bads: %+v", l)
	}
}

func TestRunsLinesAndPieces(t *testing.T) {
	x := text(t, "a\u00e9\n\xe2\x82z")
	for _, want := range []api.At{at(2, 1, 2), at(3, 1, 3), at(4, 2, 1), at(7, 2, 4)} {
		if p, ok := x.Where(want.Byte); p != want || !ok {
			t.Errorf("Where(%d): %+v, %v", want.Byte, p, ok)
		}
	}
	for _, c := range []struct {
		line, column int
		want         api.Place
		ok           bool
	}{{1, 3, place(3, 2), true}, {2, 4, place(7, 6), true}, {2, 5, place(0, 0), false}, {3, 1, place(0, 0), false}} {
		if p, ok := x.Find(c.line, c.column); p != c.want || ok != c.ok {
			t.Errorf("Find(%d, %d): %+v, %v", c.line, c.column, p, ok)
		}
	}
	for n, want := range []string{1: "a\u00e9", 2: "\xe2\x82z"} {
		if s, ok := x.Line(n); s != want || ok != (n > 0) {
			t.Errorf("Line(%d): %q, %v", n, s, ok)
		}
	}
	if s, ok := x.Slice(1, 4); s != "\u00e9\n\xe2" || !ok {
		t.Errorf("Slice(1, 4): %q, %v", s, ok)
	}
	if s, ok := x.Slice(4, 1); !none(s, ok) {
		t.Errorf("Slice(4, 1): %q, %v", s, ok)
	}
	if l := x.Parts(1, 3, 99); !slices.Equal(l, []string{"a", "\u00e9\n\xe2", "\x82z", ""}) {
		t.Errorf("Parts: %q", l)
	}
}

func TestExamples(t *testing.T) {
	x := text(t, "")
	if p, ok := x.Place(0); x.Lines() != 1 || x.Count() != 0 || p != place(0, 0) || !ok {
		t.Errorf("1: %d lines, %d spots, %+v, %v", x.Lines(), x.Count(), p, ok)
	}
	x = text(t, "\n")
	above, ok := x.Line(1)
	below, more := x.Line(2)
	if x.Lines() != 2 || above != "" || below != "" || !ok || !more {
		t.Errorf("2: %d lines: %q, %v, %q, %v", x.Lines(), above, ok, below, more)
	}
	if p, ok := x.Find(1, 1); p != place(0, 0) || !ok {
		t.Errorf("2: Find(1, 1): %+v, %v", p, ok)
	}
	if p, ok := x.Find(2, 1); p != place(1, 1) || !ok {
		t.Errorf("2: Find(2, 1): %+v, %v", p, ok)
	}
	if y, e := spots.New(strings.Repeat("x", 65537)); y != nil || e != api.ErrLong {
		t.Errorf("3: %v, %v", y != nil, e)
	}
}
