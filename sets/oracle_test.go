package sets_test

import (
	"math"
	"math/rand"
	"slices"
	"testing"

	"guise/api"
	"guise/sets"
)

// What the chapter says of sets, once more and in the slowest way: a mark for each rune, and no spans.

type marks [0x110000]bool

func isRune(r rune) bool { return 0 <= r && r <= 0x10ffff && (r < 0xd800 || r > 0xdfff) }

func (m *marks) has(r rune) bool { return isRune(r) && m[r] }

func wantOf(l []api.Span) *marks {
	m := &marks{}
	for _, x := range l {
		for r := x.Lo; r <= x.Hi; r++ {
			m[r] = isRune(r)
		}
	}
	return m
}

// wantBoth makes the marks of what keep says of two sets' marks, rune by rune.
func wantBoth(a, b *marks, keep func(a, b bool) bool) *marks {
	m := &marks{}
	for r := range m {
		m[r] = isRune(rune(r)) && keep(a[r], b[r])
	}
	return m
}

func (m *marks) runes() []rune {
	var l []rune
	for r, in := range m {
		if in {
			l = append(l, rune(r))
		}
	}
	return l
}

// spans goes from rune to rune: a span ends where the next higher rune is missing.
func (m *marks) spans() []api.Span {
	var l []api.Span
	open := false
	for r := range m {
		switch {
		case !isRune(rune(r)):
		case !m[r]:
			open = false
		case open:
			l[len(l)-1].Hi = rune(r)
		default:
			l, open = append(l, span(rune(r), rune(r))), true
		}
	}
	return l
}

// check holds everything that a set tells against its marks.
func check(t *testing.T, what string, s *sets.Set, m *marks) {
	t.Helper()
	if s == nil {
		t.Fatalf("%s: no set", what)
	}
	runes, spans := m.runes(), m.spans()
	if l := s.Spans(); !slices.Equal(l, spans) {
		t.Fatalf("%s: P3.4: Spans: %x, want %x", what, l, spans)
	}
	if s.Size() != len(runes) {
		t.Fatalf("%s: P3.3: Size: %d, want %d", what, s.Size(), len(runes))
	}
	for _, r := range numbers(spans) {
		if s.In(r) != m.has(r) {
			t.Fatalf("%s: P3.3: In(%#x): %v", what, r, s.In(r))
		}
		below, found := slices.BinarySearch(runes, r)
		if n := s.Below(r); n != below {
			t.Fatalf("%s: P3.6: Below(%#x): %d, want %d", what, r, n, below)
		}
		if found {
			below++
		}
		checkRune(t, what, runes, below, func() (rune, bool) { return s.Next(r) })
	}
	for _, n := range []int{math.MinInt, -0x110000, -2, -1, 0, 1, 2, len(runes) / 2, len(runes) - 2, len(runes) - 1, len(runes), len(runes) + 1, 1<<32 + 1, math.MaxInt} {
		checkRune(t, what, runes, n, func() (rune, bool) { return s.At(n) })
	}
}

// checkRune holds an answer against the rune number n, or none.
func checkRune(t *testing.T, what string, runes []rune, n int, call func() (rune, bool)) {
	t.Helper()
	want, within := rune(0), 0 <= n && n < len(runes)
	if within {
		want = runes[n]
	}
	if r, ok := call(); r != want || ok != within {
		t.Fatalf("%s: P3.6: the rune number %d: %#x, %v, want %#x, %v", what, n, r, ok, want, within)
	}
}

// numbers are those around both ends of each span, of the gap and of all runes, and far outside.
func numbers(l []api.Span) []rune {
	var at []rune
	for _, x := range append(slices.Clone(l), span(0, 0x10ffff), span(0xd800, 0xdfff), span(0xd900, 0xda00)) {
		for d := rune(-2); d <= 2; d++ {
			at = append(at, x.Lo+d, x.Hi+d)
		}
	}
	return append(at, math.MinInt32, math.MinInt32+1, -5, 0x200000, math.MaxInt32-1, math.MaxInt32)
}

func span(lo, hi rune) api.Span { return api.Span{Lo: lo, Hi: hi} }

func of(t *testing.T, l ...api.Span) *sets.Set {
	t.Helper()
	s, e := sets.Of(l...)
	if s == nil || e != api.OK {
		t.Fatalf("Of(%x): %v, %v", l, s != nil, e)
	}
	return s
}

// edges are runes where spans easily go wrong: all around both ends of the gap and of all runes, and a few between.
func edges() []rune {
	var l []rune
	for d := range rune(5) {
		l = append(l, d, 0x60+d, 0xd7ff-d, 0xe000+d, 0x10ffff-d)
	}
	return l
}

// drawSpans picks up to n right spans whose ends are edges, in no order, often over one another, few of them long.
func drawSpans(pick *rand.Rand, n int) []api.Span {
	at := edges()
	slices.Sort(at)
	var l []api.Span
	for range pick.Intn(n + 1) {
		i := pick.Intn(len(at))
		j := min(i+pick.Intn(4), len(at)-1)
		l = append(l, span(at[i], at[j]))
	}
	return l
}
