package fold_test

import (
	"math"
	"strings"
	"testing"

	"guise/api"
	"guise/fold"
)

func TestP12_4CountAndOf(t *testing.T) {
	for i, x := range append(otherTables(), table()) {
		b := bookOf(t, x)
		eachText(func(s string) {
			want := wantPlaces(x, s)
			if n := fold.Count(b, s); n != len(want) {
				t.Errorf("%d: %+q: %d runes, want %d", i, s, n, len(want))
			}
			for n := range want {
				if p, ok := fold.Of(b, s, n); p != want[n] || !ok {
					t.Errorf("%d: %+q, %d: %+v, %v, want %+v", i, s, n, p, ok, want[n])
				}
			}
			for _, n := range []int{-1, len(want)} {
				if p, ok := fold.Of(b, s, n); p != (api.Place{}) || ok {
					t.Errorf("%d: %+q, %d: %+v, %v", i, s, n, p, ok)
				}
			}
		})
	}
}

func TestP12_4CountByHand(t *testing.T) {
	b := book(t)
	for s, want := range map[string]int{
		"":                         0,
		"abc":                      3,
		"A":                        1,
		sharp:                      2,
		"AZ" + grin:                8,
		kelvin + great + acute:     3,
		"\xff\xc3\ufffd":           3,
		"\x9f\xc3":                 2,
		"\xed\xa0\x80" + ahead:     5,
		strings.Repeat("Z", 1<<16): 3 << 16,
	} {
		if got := fold.Count(b, s); got != want {
			t.Errorf("%+q: %d, want %d", s[:min(len(s), 20)], got, want)
		}
	}
}

func TestP12_4OfByHand(t *testing.T) {
	b := book(t)
	for _, run := range []struct {
		s    string
		n    int
		want api.Place
	}{
		{"a", 0, place(0, 0)},
		{grin + "a", 0, place(0, 0)},
		{grin + "a", 3, place(0, 0)}, // the last of its runes, too
		{grin + "a", 4, place(4, 1)},
		{sharp + sharp, 1, place(0, 0)},
		{sharp + sharp, 2, place(2, 1)},
		{kelvin + "Z", 1, place(3, 1)},
		{"\xffZ\ufffd", 0, place(0, 0)},
		{"\xffZ\ufffd", 3, place(1, 1)},
		{"\xffZ\ufffd", 4, place(2, 2)},
		{"\xc3" + sharp + "\x9f", 3, place(3, 2)},
	} {
		if p, ok := fold.Of(b, run.s, run.n); p != run.want || !ok {
			t.Errorf("%+q, %d: %+v, %v, want %+v", run.s, run.n, p, ok, run.want)
		}
	}
}

func TestP12_4OutOfRange(t *testing.T) {
	b := book(t)
	for s, count := range map[string]int{"": 0, "a": 1, "A": 1, sharp: 2, grin: 4, "\xff": 1, great: 1} {
		for _, n := range []int{math.MinInt, math.MinInt + 1, math.MinInt32, -2, -1, count, count + 1, math.MaxInt32, math.MaxInt32 + 1, math.MaxInt} {
			if p, ok := fold.Of(b, s, n); p != (api.Place{}) || ok {
				t.Errorf("%+q, %d: %+v, %v", s, n, p, ok)
			}
		}
	}
}

func TestP12_4Long(t *testing.T) {
	b, many := book(t), 2*api.MaxText
	s := strings.Repeat("Z\u20ac", many) // to four runes each, of two spots and four bytes
	if n := fold.Count(b, s); n != 4*many {
		t.Errorf("%d runes", n)
	}
	for n, want := range map[int]api.Place{0: place(0, 0), 2: place(0, 0), 3: place(1, 1), 2 * many: place(2*many, many), 4*many - 1: place(4*many-3, 2*many-1)} {
		if p, ok := fold.Of(b, s, n); p != want || !ok {
			t.Errorf("%d: %+v, %v, want %+v", n, p, ok, want)
		}
	}
	if p, ok := fold.Of(b, s, 4*many); p != (api.Place{}) || ok {
		t.Errorf("%+v, %v", p, ok)
	}
}

func TestP12_4NilBook(t *testing.T) {
	for _, s := range []string{"", "a", "A", sharp, "\xff"} {
		if n := fold.Count(nil, s); n != 0 {
			t.Errorf("%+q: %d", s, n)
		}
		for _, n := range []int{-1, 0, 1} {
			if p, ok := fold.Of(nil, s, n); p != (api.Place{}) || ok {
				t.Errorf("%+q, %d: %+v, %v", s, n, p, ok)
			}
		}
	}
}
