package sets_test

import (
	"math"
	"math/rand"
	"slices"
	"sync"
	"testing"

	"guise/api"
	"guise/sets"
)

func TestP3_1Of(t *testing.T) {
	for what, l := range map[string][]api.Span{
		"none":              nil,
		"one rune":          {span('a', 'a')},
		"nought":            {span(0, 0)},
		"the last rune":     {span(0x10ffff, 0x10ffff)},
		"all":               {span(0, 0x10ffff)},
		"apart":             {span('a', 'c'), span('e', 'g')},
		"touching":          {span('a', 'c'), span('d', 'g')},
		"over one another":  {span('a', 'd'), span('c', 'g')},
		"within another":    {span('a', 'z'), span('c', 'd'), span('z'+1, 'z'+1)},
		"falling rows":      {span('x', 'z'), span('a', 'c'), span('w', 'w')},
		"twice":             {span('a', 'c'), span('a', 'c')},
		"one beginning":     {span('a', 'z'), span('a', 'c'), span('a', 'e')},
		"up to the gap":     {span(0xd7fe, 0xd7ff)},
		"from the gap on":   {span(0xe000, 0xe001)},
		"both, touching":    {span(0xe000, 0xe001), span(0xd7fe, 0xd7ff)},
		"both, not quite":   {span(0xe001, 0xe001), span(0xd7fe, 0xd7ff)},
		"over the gap":      {span(0xd7ff, 0xe000)},
		"behind a long one": {span(0, 0xffff), span(5, 9), span(0x10000, 0x10000)},
	} {
		check(t, what, of(t, l...), wantOf(l))
	}
}

func TestP3_1OfAnySpans(t *testing.T) {
	pick := rand.New(rand.NewSource(31))
	for range 60 {
		l := drawSpans(pick, 8)
		check(t, "drawn", of(t, l...), wantOf(l))
	}
}

func TestP3_1OfRefused(t *testing.T) {
	good := span('a', 'z')
	for _, c := range []struct {
		l    []api.Span
		want api.Errno
	}{
		{[]api.Span{span(5, 4)}, api.ErrRange},
		{[]api.Span{good, span(0xe000, 0xd7ff)}, api.ErrRange},
		{[]api.Span{span(0x10ffff, 0), good}, api.ErrRange},
		{[]api.Span{span(0xd800, 0xdfff)}, api.ErrRune},
		{[]api.Span{span(0xd800, 0xe000)}, api.ErrRune},
		{[]api.Span{span(0xd7ff, 0xdfff)}, api.ErrRune},
		{[]api.Span{span(-1, 5)}, api.ErrRune},
		{[]api.Span{span(-5, -1)}, api.ErrRune},
		{[]api.Span{good, span(1, 0x110000)}, api.ErrRune},
		{[]api.Span{span(math.MinInt32, math.MaxInt32)}, api.ErrRune},
		{[]api.Span{span(5, -1)}, api.ErrRune},                       // both at one span
		{[]api.Span{span(-1, 5), span(5, 4)}, api.ErrRune},           // both at two ..
		{[]api.Span{span(5, 4), good, span(9, 0xdabc)}, api.ErrRune}, // .. and the later one of them is named first
	} {
		if s, e := sets.Of(c.l...); s != nil || e != c.want {
			t.Errorf("Of(%x): %v, %v, want %v", c.l, s != nil, e, c.want)
		}
	}
}

type (
	small int32
	whole uint32
	wide  int
)

// from asks From of one list of numbers, as every kind that they fit.
func from[R ~int32 | ~uint32 | ~int](t *testing.T, l ...R) {
	t.Helper()
	m, want := &marks{}, api.OK
	for _, x := range l {
		if n := int64(x); n < 0 || n > 0x10ffff || !isRune(rune(n)) {
			want = api.ErrRune
		} else {
			m[n] = true
		}
	}
	s, e := sets.From(l...)
	if e != want || (s != nil) != (want == api.OK) {
		t.Errorf("From(%x) of %T: %v, %v", l, l, s != nil, e)
	}
	if s != nil {
		check(t, "From", s, m)
	}
}

func TestP3_1From(t *testing.T) {
	from[rune](t)
	from[whole](t)
	from(t, []wide{}...)
	from(t, 'b', 'a', 'b')
	from(t, small('z'), 'a', 'b', 'c', 0xe000, 0xd7ff)
	from(t, whole(0x10ffff), 0, 0x10fffe, 1)
	from(t, wide(0xe001), 0xd7ff)
	from(t, 3, 2, 1, 0)
	from(t, uint32(7))
	from(t, int32(0xfffd), 0xfffd)
}

func TestP3_1FromRefused(t *testing.T) {
	from(t, 'a', -1)
	from(t, small(math.MinInt32))
	from(t, small(0xd800), 'a')
	from(t, wide('a'), 0xdfff)
	from(t, whole(0x110000))
	from(t, whole(math.MaxUint32), 'a')
	from(t, uint32(1<<31+'a'))
	from(t, int(1<<32+'a'))
	from(t, wide(-1<<32+'a'))
	from(t, math.MinInt)
	from(t, wide('a'), math.MaxInt)
	from(t, 1<<40)
}

func TestP3_1Text(t *testing.T) {
	for _, s := range []string{"", "a", "ba", "zaaz", "\u00e9\xff", "\ufffd", "\xff\xfe\ufffd", "\xed\xa0\x80", "a\xe2\x82b\u20ac", "\U0010ffff\x00\ue000\ud7ff", "\xf4\x90\x80\x80"} {
		m := &marks{}
		for _, r := range s {
			m[r] = true
		}
		check(t, s, sets.Text(s), m)
	}
}

func TestP3_2Right(t *testing.T) {
	for _, c := range []struct {
		l   []api.Span
		row int
		why api.Errno
	}{
		{nil, 0, api.OK}, {[]api.Span{}, 0, api.OK},
		{[]api.Span{span(0, 0)}, 0, api.OK}, {[]api.Span{span(0, 0x10ffff)}, 0, api.OK}, {[]api.Span{span(0xd7ff, 0xe000)}, 0, api.OK},
		{[]api.Span{span(1, 5), span(6, 9)}, 0, api.OK},
		{[]api.Span{span(1, 0xd7ff), span(0xe000, 0xe000), span(0xe002, 0x10ffff)}, 0, api.OK},
		{[]api.Span{span(1, 5), span(5, 9)}, 1, api.ErrOrder},
		{[]api.Span{span(1, 5), span(2, 3)}, 1, api.ErrOrder},
		{[]api.Span{span(1, 5), span(1, 5)}, 1, api.ErrOrder},
		{[]api.Span{span(6, 9), span(1, 5), span(-1, 0)}, 1, api.ErrOrder},
		{[]api.Span{span(9, 1)}, 0, api.ErrRange},
		{[]api.Span{span(1, 2), span(4, 3), span(0xd800, 5)}, 1, api.ErrRange},
		{[]api.Span{span(1, 2), span(0, 0xd800)}, 1, api.ErrRune},
		{[]api.Span{span(-1, 2)}, 0, api.ErrRune}, {[]api.Span{span(1, 0x110000)}, 0, api.ErrRune}, {[]api.Span{span(0xdfff, 0xe000)}, 0, api.ErrRune},
		{[]api.Span{span(1, 2), span(3, 4), span(9, -1)}, 2, api.ErrRune},     // no rune, and falling
		{[]api.Span{span(5, 9), span(-7, -9)}, 1, api.ErrRune},                // no rune, falling, not above
		{[]api.Span{span(1, 5), span(4, 3)}, 1, api.ErrRange},                 // falling, not above
		{[]api.Span{span(1, 5), span(5, 6), span(-1, 1)}, 1, api.ErrOrder},    // the first row, whatever stands behind
		{[]api.Span{span(1, 5), span(7, 9), span(6, 6), {}}, 2, api.ErrOrder}, // above an earlier one, not the one ahead
	} {
		if row, why := sets.Right(c.l); row != c.row || why != c.why {
			t.Errorf("Right(%x): %d, %v, want %d, %v", c.l, row, why, c.row, c.why)
		}
	}
}

// R2: what is handed in is neither changed, its spare room included, nor kept; answers are new memory.
func TestR2NewMemory(t *testing.T) {
	room := []api.Span{span('x', 'z'), span('a', 'c'), span('c', 'e'), span(1, 2)}
	given := slices.Clone(room)
	s := of(t, room[:3]...)
	if sets.Right(room[:3]); !slices.Equal(room, given) {
		t.Errorf("spans are changed: %x", room)
	}
	want := wantOf(given[:3])
	room[0], room[1], room[2] = span(5, 5), span(7, 7), span(9, 9)
	check(t, "behind a change of what was given", s, want)
	l := s.Spans()
	l[0] = span(0, 0x10ffff)
	_ = append(l[:0], span(1, 1), span(2, 2), span(3, 3))
	check(t, "behind a change of its Spans", s, want)

	numbers := []rune{'c', 'b', 'a', 'z'}
	f, _ := sets.From(numbers[:3]...)
	if !slices.Equal(numbers, []rune{'c', 'b', 'a', 'z'}) {
		t.Errorf("numbers are changed: %q", numbers)
	}
	numbers[0] = 'q'
	check(t, "behind a change of the numbers", f, wantOf([]api.Span{span('a', 'c')}))
}

func TestP3_1NeverChanges(t *testing.T) {
	la, lb := []api.Span{span('a', 'f'), span(0xe000, 0xe002)}, []api.Span{span('d', 'k'), span(0xd7ff, 0xd7ff)}
	a, b := of(t, la...), of(t, lb...)
	for _, made := range []*sets.Set{a.Union(b), a.Meet(b), a.Minus(b), a.Not(), a.Union(nil), a.Minus(nil), a.Union(a), a.Meet(a)} {
		if made == a || made == b {
			t.Error("an old set in the place of a new one")
		}
	}
	check(t, "s behind all calls", a, wantOf(la))
	check(t, "o behind all calls", b, wantOf(lb))
}

// Several goroutines ask one set at once; run with -race this tells more.
func TestP3_1AskedAtOnce(t *testing.T) {
	a, b := of(t, span('a', 'f'), span(0xd700, 0xe002)), of(t, span('d', 'k'))
	var all sync.WaitGroup
	sizes := make([]int, 8)
	for i := range sizes {
		all.Go(func() {
			for r := range a.All() {
				n := a.Below(r)
				if x, ok := a.At(n); ok && x == r && a.In(r) {
					sizes[i]++
				}
			}
			sizes[i] += a.Union(b).Size() + a.Meet(b).Size() - b.Size() - a.Minus(b).Not().Not().Size()
		})
	}
	all.Wait()
	for i, n := range sizes {
		if want := a.Size() + a.Meet(b).Size(); n != want {
			t.Errorf("goroutine %d: %d, want %d", i, n, want)
		}
	}
}
