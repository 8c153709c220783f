package sets_test

import (
	"math/rand"
	"slices"
	"testing"

	"guise/api"
	"guise/sets"
)

// eachPair calls with pairs of sets drawn by a fixed seed, the empty one and that of all runes among them.
func eachPair(t *testing.T, call func(a, b *sets.Set)) {
	t.Helper()
	pick := rand.New(rand.NewSource(38))
	some := []*sets.Set{of(t), of(t, span(0, 0x10ffff))}
	for range 60 {
		some = append(some, of(t, drawSpans(pick, 7)...))
	}
	for _, a := range some {
		for _, b := range some {
			call(a, b)
		}
	}
}

func TestP3_8(t *testing.T) {
	eachPair(t, func(a, b *sets.Set) {
		if s := of(t, a.Spans()...); !s.Same(a) || !a.Same(s) {
			t.Fatalf("%x: Of its Spans: %x", a.Spans(), s.Spans())
		}
		if s := a.Not().Not(); !s.Same(a) {
			t.Fatalf("%x: Not of Not: %x", a.Spans(), s.Spans())
		}
		if s := a.Minus(b); !s.Same(a.Meet(b.Not())) {
			t.Fatalf("%x, %x: Minus: %x", a.Spans(), b.Spans(), s.Spans())
		}
		if a.Union(b).Size()+a.Meet(b).Size() != a.Size()+b.Size() {
			t.Fatalf("%x, %x: Sizes %d, %d, of Union %d, of Meet %d", a.Spans(), b.Spans(), a.Size(), b.Size(), a.Union(b).Size(), a.Meet(b).Size())
		}
	})
}

func TestP3_9(t *testing.T) {
	pick := rand.New(rand.NewSource(39))
	for range 40 {
		s := of(t, drawSpans(pick, 4)...)
		for r := range s.All() {
			if x, ok := s.At(s.Below(r)); x != r || !ok {
				t.Fatalf("%x: At(Below(%#x)): %#x, %v", s.Spans(), r, x, ok)
			}
		}
	}
	eachPair(t, func(a, b *sets.Set) {
		for _, s := range []*sets.Set{a.Union(b), a.Meet(b), a.Minus(b), a.Not()} {
			if row, e := sets.Right(s.Spans()); row != 0 || e != api.OK {
				t.Fatalf("Right(%x): %d, %v", s.Spans(), row, e)
			}
		}
	})
}

func TestRunsMade(t *testing.T) {
	if l := of(t, span(0x61, 0x63), span(0x62, 0x7a)).Spans(); !slices.Equal(l, []api.Span{{Lo: 0x61, Hi: 0x7a}}) {
		t.Errorf("one span: %x", l)
	}
	for _, c := range []struct {
		l    []api.Span
		want api.Errno
	}{{[]api.Span{span(5, 4)}, api.ErrRange}, {[]api.Span{span(0xd800, 0xdfff)}, api.ErrRune}, {[]api.Span{span(-1, 5), span(5, 4)}, api.ErrRune}} {
		if s, e := sets.Of(c.l...); s != nil || e != c.want {
			t.Errorf("Of(%x): %v, %v", c.l, s != nil, e)
		}
	}
	s := of(t, span(0xd7ff, 0xd7ff), span(0xe000, 0xe000))
	if l := s.Spans(); !slices.Equal(l, []api.Span{{Lo: 0xd7ff, Hi: 0xe000}}) || s.Size() != 2 {
		t.Errorf("at the gap: %x, %d", l, s.Size())
	}
	s = of(t).Not()
	if l := s.Spans(); s.Size() != 1112064 || !slices.Equal(l, []api.Span{{Lo: 0, Hi: 0x10ffff}}) {
		t.Errorf("Not of none: %x, %d", l, s.Size())
	}
	s, e := sets.From('b', 'a', 'b')
	if e != api.OK || s.Size() != 2 {
		t.Fatalf("From: %v", e)
	}
	if r, ok := s.At(1); r != 'b' || !ok {
		t.Errorf("From: At(1): %q, %v", r, ok)
	}
	if r, ok := s.At(2); r != 0 || ok {
		t.Errorf("From: At(2): %q, %v", r, ok)
	}
	if l := sets.Text("\u00e9\xff").Spans(); !slices.Equal(l, []api.Span{{Lo: 0xe9, Hi: 0xe9}, {Lo: 0xfffd, Hi: 0xfffd}}) {
		t.Errorf("Text: %x", l)
	}
}

func TestRunsAsked(t *testing.T) {
	s := of(t, span('a', 'z'))
	if s.Below('c') != 2 || s.Below(-5) != 0 || s.Below(0x7fffffff) != 26 {
		t.Errorf("Below: %d, %d, %d", s.Below('c'), s.Below(-5), s.Below(0x7fffffff))
	}
	for _, c := range []struct {
		r, want rune
		ok      bool
	}{{'y', 'z', true}, {'z', 0, false}, {-1, 'a', true}} {
		if x, ok := s.Next(c.r); x != c.want || ok != c.ok {
			t.Errorf("Next(%d): %d, %v", c.r, x, ok)
		}
	}
	for _, c := range []struct {
		l   []api.Span
		row int
		why api.Errno
	}{{[]api.Span{span(1, 5), span(6, 9)}, 0, api.OK}, {[]api.Span{span(1, 5), span(5, 9)}, 1, api.ErrOrder}, {[]api.Span{span(9, 1)}, 0, api.ErrRange}} {
		if row, why := sets.Right(c.l); row != c.row || why != c.why {
			t.Errorf("Right(%x): %d, %v", c.l, row, why)
		}
	}
}

func TestExamples(t *testing.T) {
	two := []api.Span{span('a', 'c'), span('d', 'f')}
	if row, e := sets.Right(two); len(of(t, two...).Spans()) != 1 || row != 0 || e != api.OK {
		t.Errorf("1: %x; %d, %v", of(t, two...).Spans(), row, e)
	}
	s := of(t, span('a', 'z'), span(0xe000, 0x10ffff))
	if m := s.Minus(s); m.Size() != 0 || len(m.Spans()) != 0 || !m.Same(of(t)) {
		t.Errorf("2: %x", m.Spans())
	}
	if l := leave(of(t, span('a', 'z')).All(), 3); !slices.Equal(l, []rune{'a', 'b', 'c'}) {
		t.Errorf("3: %q", l)
	}
}
