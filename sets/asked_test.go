package sets_test

import (
	"iter"
	"math/rand"
	"slices"
	"testing"

	"guise/api"
	"guise/sets"
)

func TestP3_3InOfEveryNumber(t *testing.T) {
	l := []api.Span{span(0, 3), span('a', 'z'), span(0xd7ff, 0xe000), span(0xfffd, 0xfffd), span(0x10fffe, 0x10ffff)}
	s, m := of(t, l...), wantOf(l)
	for r := rune(-10); r < 0x110010; r++ {
		if s.In(r) != m.has(r) {
			t.Fatalf("In(%#x): %v", r, s.In(r))
		}
	}
}

// Between the ends of a span that goes on over the gap there are numbers that are in no set.
func TestP3_3NoSurrogates(t *testing.T) {
	all := of(t, span(0, 0x10ffff))
	for r := rune(0xd800); r <= 0xdfff; r++ {
		if x, ok := all.Next(r); all.In(r) || all.Below(r) != 0xd800 || x != 0xe000 || !ok {
			t.Fatalf("%#x: %v, %d, %#x, %v", r, all.In(r), all.Below(r), x, ok)
		}
	}
}

func TestP3_4Same(t *testing.T) {
	groups := [][]*sets.Set{
		{of(t), sets.Text(""), of(t, span(0, 0x10ffff)).Not()},
		{of(t, span('a', 'c')), of(t, span('b', 'c'), span('a', 'b')), sets.Text("cab"), sets.Text("abcabc")},
		{of(t, span('a', 'b'))},
		{of(t, span('a', 'd'))},
		{of(t, span('a', 'a'), span('c', 'c'))},
		{of(t, span('a', 'c'), span(0, 0))},
		{of(t, span(0xd7ff, 0xe000)), sets.Text("\ue000\ud7ff")},
		{sets.Text("\xff"), sets.Text("\ufffd"), of(t, span(api.Bad, api.Bad))},
	}
	for i, a := range groups {
		for j, b := range groups {
			for _, s := range a {
				for _, o := range b {
					if s.Same(o) != (i == j) {
						t.Errorf("%x, %x: %v", s.Spans(), o.Spans(), s.Same(o))
					}
				}
			}
		}
		for _, s := range a {
			if s.Same(nil) != (i == 0) {
				t.Errorf("%x and a nil set: %v", s.Spans(), s.Same(nil))
			}
		}
	}
}

func TestP3_5Made(t *testing.T) {
	pick := rand.New(rand.NewSource(35))
	empty := &marks{}
	for range 20 {
		la, lb := drawSpans(pick, 6), drawSpans(pick, 6)
		a, b, ma, mb := of(t, la...), of(t, lb...), wantOf(la), wantOf(lb)
		check(t, "Union", a.Union(b), wantBoth(ma, mb, func(x, y bool) bool { return x || y }))
		check(t, "Meet", a.Meet(b), wantBoth(ma, mb, func(x, y bool) bool { return x && y }))
		check(t, "Minus", a.Minus(b), wantBoth(ma, mb, func(x, y bool) bool { return x && !y }))
		check(t, "Not", a.Not(), wantBoth(ma, empty, func(x, _ bool) bool { return !x }))
	}
}

func TestP3_5OfNil(t *testing.T) {
	l := []api.Span{span('a', 'c'), span(0xe000, 0xe000)}
	for _, l := range [][]api.Span{nil, l} {
		s, m := of(t, l...), wantOf(l)
		check(t, "Union with nil", s.Union(nil), m)
		check(t, "Meet with nil", s.Meet(nil), &marks{})
		check(t, "Minus nil", s.Minus(nil), m)
	}
}

// leave ranges over l and leaves it behind n runes.
func leave(l iter.Seq[rune], n int) []rune {
	var out []rune
	for r := range l {
		if out = append(out, r); len(out) == n {
			break
		}
	}
	return out
}

func TestP3_7Ranges(t *testing.T) {
	pick := rand.New(rand.NewSource(37))
	for range 30 {
		l := drawSpans(pick, 5)
		s, want := of(t, l...), wantOf(l).runes()
		all, back := s.All(), s.Back()
		for range 2 { // the same iterators once more
			if got := slices.Collect(all); !slices.Equal(got, want) {
				t.Fatalf("%x: All: %d runes, want %d", l, len(got), len(want))
			}
			got := slices.Collect(back)
			slices.Reverse(got)
			if !slices.Equal(got, want) {
				t.Fatalf("%x: Back, turned round: %d runes, want %d", l, len(got), len(want))
			}
		}
	}
}

func TestP3_7LeftEarly(t *testing.T) {
	s := of(t, span('a', 'c'), span(0xd7fe, 0xe001), span(0x10ffff, 0x10ffff))
	want := []rune{'a', 'b', 'c', 0xd7fe, 0xd7ff, 0xe000, 0xe001, 0x10ffff}
	falling := slices.Clone(want)
	slices.Reverse(falling)
	all, back := s.All(), s.Back()
	for n := 1; n <= len(want); n++ {
		if l := leave(all, n); !slices.Equal(l, want[:n]) {
			t.Errorf("All, left behind %d: %x", n, l)
		}
		if l := leave(back, n); !slices.Equal(l, falling[:n]) {
			t.Errorf("Back, left behind %d: %x", n, l)
		}
	}
	if l := slices.Collect(all); !slices.Equal(l, want) {
		t.Errorf("All, gone through once more: %x", l)
	}
	if l := slices.Collect(back); !slices.Equal(l, falling) {
		t.Errorf("Back, gone through once more: %x", l)
	}
	none := of(t)
	if leave(none.All(), 1) != nil || leave(none.Back(), 1) != nil {
		t.Error("runes of the empty set")
	}
}

// One iterator ranged over within itself: neither loop may move the other on.
func TestP3_7WithinItself(t *testing.T) {
	all := of(t, span('a', 'c')).All()
	got := ""
	for a := range all {
		for b := range all {
			got += string(a) + string(b)
		}
	}
	if got != "aaabacbabbbccacbcc" {
		t.Error(got)
	}
}
