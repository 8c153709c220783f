package spots_test

import (
	"math"
	"strings"
	"testing"

	"guise/api"
)

func TestP2_4Lines(t *testing.T) {
	eachText(func(s string) {
		x, want := text(t, s), strings.Split(s, "\n")
		if x.Lines() != len(want) {
			t.Errorf("%q: %d lines", s, x.Lines())
		}
		for _, n := range numbers(len(want)) {
			line, within := "", 1 <= n && n <= len(want)
			if within {
				line = want[n-1]
			}
			if y, ok := x.Line(n); y != line || ok != within {
				t.Errorf("%q: Line(%d): %q, %v", s, n, y, ok)
			}
		}
	})
}

// Only the byte 10 ends a line: neither a return nor a separator does.
func TestP2_4NoOtherEnds(t *testing.T) {
	s := "a\rb\vc\fd\u0085e\u2028f\u2029g"
	x := text(t, s)
	if line, ok := x.Line(1); x.Lines() != 1 || line != s || !ok {
		t.Errorf("%d lines, %q, %v", x.Lines(), line, ok)
	}
	if line, ok := text(t, "a\r\nb").Line(1); line != "a\r" || !ok {
		t.Errorf("%q, %v", line, ok)
	}
}

func TestP2_5Where(t *testing.T) {
	eachText(func(s string) {
		x, rows := text(t, s), wantRows(s)
		for _, b := range numbers(len(s)) {
			want, within := api.At{}, 0 <= b && b <= len(s)
			for _, y := range rows {
				if within && y.place.Byte <= b {
					want = at(b, y.line, y.column)
				}
			}
			if p, ok := x.Where(b); p != want || ok != within {
				t.Errorf("%q: Where(%d): %+v, %v", s, b, p, ok)
			}
		}
	})
}

// Each byte of a rune has its own number, and all of them the column of their spot.
func TestP2_5WithinARune(t *testing.T) {
	x := text(t, "\n\u00e9\U0001f600")
	for b, want := range []api.At{at(0, 1, 1), at(1, 2, 1), at(2, 2, 1), at(3, 2, 2), at(4, 2, 2), at(5, 2, 2), at(6, 2, 2), at(7, 2, 3)} {
		if p, ok := x.Where(b); p != want || !ok {
			t.Errorf("Where(%d): %+v, %v", b, p, ok)
		}
	}
}

func TestP2_6Find(t *testing.T) {
	eachText(func(s string) {
		x, rows := text(t, s), wantRows(s)
		for _, line := range numbers(x.Lines()) {
			for _, column := range numbers(len(rows)) {
				want, there := api.Place{}, false
				for _, y := range rows {
					if y.line == line && y.column == column {
						want, there = y.place, true
					}
				}
				if p, ok := x.Find(line, column); p != want || ok != there {
					t.Errorf("%q: Find(%d, %d): %+v, %v", s, line, column, p, ok)
				}
			}
		}
	})
}

// A column that is counted on from a later line must not go round the numbers' end.
func TestP2_6GreatColumns(t *testing.T) {
	x := text(t, "ab\ncd\nef")
	for _, column := range []int{math.MinInt, math.MinInt + 6, math.MaxInt - 6, math.MaxInt - 5, math.MaxInt} {
		if p, ok := x.Find(3, column); p != (api.Place{}) || ok {
			t.Errorf("Find(3, %d): %+v, %v", column, p, ok)
		}
	}
}
