package fold_test

import (
	"iter"
	"slices"
	"strings"
	"testing"

	"guise/api"
	"guise/fold"
	"guise/tables"
)

type placed struct {
	place api.Place
	piece string
}

func collect(seq iter.Seq2[api.Place, string]) []placed {
	var l []placed
	for p, piece := range seq {
		l = append(l, placed{p, piece})
	}
	return l
}

func wantPlaced(x api.Tables, s string) []placed {
	var l []placed
	for _, spot := range rowsOf(x, s) {
		l = append(l, placed{spot.place, spot.to})
	}
	return l
}

// checkAll holds what each call but Rune and Twins answers of a text against the second telling.
func checkAll(t *testing.T, x api.Tables, b *tables.Book, s string) {
	t.Helper()
	if got, want := collect(fold.Pieces(b, s)), wantPlaced(x, s); !slices.Equal(got, want) {
		t.Errorf("%+v: %+q: %+v, want %+v", x.Folds, s, got, want)
	}
	if got, want := fold.Fold(b, s), wantFold(x, s); got != want {
		t.Errorf("%+v: %+q: %+q, want %+q", x.Folds, s, got, want)
	}
	p, ok := fold.First(b, s)
	if want, is := wantFirst(x, s); p != want || ok != is {
		t.Errorf("%+v: %+q: %+v, %v, want %+v, %v", x.Folds, s, p, ok, want, is)
	}
	places := wantPlaces(x, s)
	if n := fold.Count(b, s); n != len(places) {
		t.Errorf("%+v: %+q: %d, want %d", x.Folds, s, n, len(places))
	}
	for n, want := range places {
		if p, ok := fold.Of(b, s, n); p != want || !ok {
			t.Errorf("%+v: %+q, %d: %+v, %v, want %+v", x.Folds, s, n, p, ok, want)
		}
	}
}

func TestP12_5Pieces(t *testing.T) {
	for n, x := range append(otherTables(), table()) {
		b := bookOf(t, x)
		eachText(func(s string) {
			if got, want := collect(fold.Pieces(b, s)), wantPlaced(x, s); !slices.Equal(got, want) {
				t.Errorf("%d: %+q: %+v, want %+v", n, s, got, want)
			}
		})
	}
}

func TestP12_5ByHand(t *testing.T) {
	b := book(t)
	for s, want := range map[string][]placed{
		"":                    {},
		"a":                   {{place(0, 0), "a"}},
		"A":                   {{place(0, 0), "a"}},
		grin + kelvin:         {{place(0, 0), fourWide}, {place(4, 1), "k"}},
		great + acute + "E":   {{place(0, 0), great}, {place(2, 1), acute}, {place(4, 2), "e"}},
		"\xff\ufffdA":         {{place(0, 0), "\ufffd"}, {place(1, 1), "\ufffd"}, {place(4, 2), "a"}},
		"\xc3" + sharp + "\n": {{place(0, 0), "\ufffd"}, {place(1, 1), "ss"}, {place(3, 2), "\n"}},
		"\x00\u200d":          {{place(0, 0), "\x00"}, {place(1, 1), "\u200d"}},
	} {
		if got := collect(fold.Pieces(b, s)); !slices.Equal(got, want) {
			t.Errorf("%+q: %+v, want %+v", s, got, want)
		}
	}
}

func TestP12_5RangedOverAgain(t *testing.T) {
	b, s := book(t), "A"+sharp+"b"+great+"\xff"+grin
	want := wantPlaced(table(), s)
	l := fold.Pieces(b, s)
	for range 3 {
		if got := collect(l); !slices.Equal(got, want) {
			t.Errorf("%+v", got)
		}
	}
	i := 0
	for p, piece := range l {
		if inner := collect(l); want[i] != (placed{p, piece}) || !slices.Equal(inner, want) {
			t.Errorf("one within the other: %+v, %+q, %+v", p, piece, inner)
		}
		i++
	}
}

// It is left at each spot, the last one too, and hands out none behind that; then it may be ranged over from the beginning on.
func TestP12_5LeftEarly(t *testing.T) {
	b, x := book(t), table()
	for _, s := range []string{"a", "A", sharp + "a", "a\xff", "A" + sharp + "b" + great + "\xff" + grin} {
		want := wantPlaced(x, s)
		l := fold.Pieces(b, s)
		for end := 1; end <= len(want); end++ {
			var got []placed
			l(func(p api.Place, piece string) bool {
				got = append(got, placed{p, piece})
				return len(got) != end
			})
			if !slices.Equal(got, want[:end]) {
				t.Errorf("%+q left at %d: %+v", s, end, got)
			}
		}
	}
}

func TestP12_5Long(t *testing.T) {
	b, n := book(t), 0
	for p, piece := range fold.Pieces(b, strings.Repeat(sharp, api.MaxText+1)) {
		if p != place(2*n, n) || piece != "ss" {
			t.Fatalf("%d: %+v, %+q", n, p, piece)
		}
		n++
	}
	if n != api.MaxText+1 {
		t.Errorf("%d pieces", n)
	}
}

func TestP12_5NilBook(t *testing.T) {
	for _, s := range []string{"", "a", "A", sharp, "\xff"} {
		for p, piece := range fold.Pieces(nil, s) {
			t.Errorf("%+q: %+v, %+q", s, p, piece)
		}
	}
}
