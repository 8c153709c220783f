package strip_test

import (
	"math"
	"strings"
	"testing"

	"guise/api"
	"guise/strip"
)

func TestP11_4Place(t *testing.T) {
	for i, x := range append(otherTables(), table()) {
		b := bookOf(t, x)
		eachText(func(s string) {
			want := wantPlaces(x, s)
			for n := range want {
				if p, ok := strip.Place(b, s, n); p != want[n] || !ok {
					t.Errorf("%d: %+q, %d: %+v, %v, want %+v", i, s, n, p, ok, want[n])
				}
			}
			for _, n := range []int{-1, len(want)} {
				if p, ok := strip.Place(b, s, n); p != (api.Place{}) || ok {
					t.Errorf("%d: %+q, %d: %+v, %v", i, s, n, p, ok)
				}
			}
		})
	}
}

func TestP11_4ByHand(t *testing.T) {
	b := book(t)
	for _, run := range []struct {
		s    string
		n    int
		want api.Place
	}{
		{"", 0, place(0, 0)},
		{soft, 0, place(2, 1)}, // the strip is empty: its end is the text's
		{soft + zero, 0, place(5, 2)},
		{soft + "a", 0, place(2, 1)},
		{soft + "a", 1, place(3, 2)},
		{"a" + soft, 1, place(3, 2)}, // not where what is dropped begins
		{"a" + zero + tone + "b", 1, place(8, 3)},
		{"\xff" + soft + "\ufffd", 1, place(3, 2)},
		{"\xe2" + soft + "\x82\xac", 2, place(4, 3)},
		{"\xe2" + soft + "\x82\xac", 3, place(5, 4)},
	} {
		if p, ok := strip.Place(b, run.s, run.n); p != run.want || !ok {
			t.Errorf("%+q, %d: %+v, %v, want %+v", run.s, run.n, p, ok, run.want)
		}
	}
}

func TestP11_4OutOfRange(t *testing.T) {
	b := book(t)
	for _, s := range []string{"", "a", soft, soft + "a", "a" + zero, "\xff" + soft} {
		for _, n := range []int{math.MinInt, math.MinInt32, -2, -1, 2, 3, math.MaxInt32, math.MaxInt32 + 1, math.MaxInt} {
			if p, ok := strip.Place(b, s, n); p != (api.Place{}) || ok {
				t.Errorf("%+q, %d: %+v, %v", s, n, p, ok)
			}
		}
	}
	for _, s := range []string{"", soft, zero + tone} {
		if p, ok := strip.Place(b, s, 1); p != (api.Place{}) || ok {
			t.Errorf("%+q, 1: %+v, %v", s, p, ok)
		}
	}
}

func TestP11_4Long(t *testing.T) {
	b, many := book(t), 2*api.MaxText
	s := strings.Repeat(zero+"a", many)
	for n, want := range map[int]api.Place{0: place(3, 1), many / 2: place(2*many+3, many+1), many - 1: place(4*many-1, 2*many-1), many: place(4*many, 2*many)} {
		if p, ok := strip.Place(b, s, n); p != want || !ok {
			t.Errorf("%d: %+v, %v, want %+v", n, p, ok, want)
		}
	}
	if p, ok := strip.Place(b, s, many+1); p != (api.Place{}) || ok {
		t.Errorf("%+v, %v", p, ok)
	}
}

func TestP11_4NilBook(t *testing.T) {
	for _, s := range []string{"", "a", soft, "\xff"} {
		for _, n := range []int{-1, 0, 1} {
			if p, ok := strip.Place(nil, s, n); p != (api.Place{}) || ok {
				t.Errorf("%+q, %d: %+v, %v", s, n, p, ok)
			}
		}
	}
}
