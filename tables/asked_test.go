package tables_test

import (
	"math"
	"math/rand"
	"slices"
	"sync"
	"testing"

	"guise/api"
	"guise/tables"
)

// roomy gives each list of a table spare room that is filled, so that whoever reads or writes it is caught.
func roomy(t api.Tables) api.Tables {
	t.Scripts = slices.Clone(t.Scripts)
	for i := range t.Scripts {
		t.Scripts[i].Spans = room(t.Scripts[i].Spans, span(7, 7))
	}
	t.Scripts = room(t.Scripts, api.Script{Name: "spare", Spans: []api.Span{span(8, 8)}})
	t.Common, t.Drops, t.Allowed = room(t.Common, span(1, 1)), room(t.Drops, span(2, 2)), room(t.Allowed, span(3, 3))
	t.Marks, t.Pairs = room(t.Marks, api.Mark{Rune: 4}), room(t.Pairs, api.Pair{Whole: 5})
	t.Folds, t.Looks = room(t.Folds, api.Map{From: 6}), room(t.Looks, api.Map{From: 7})
	return t
}

func room[E any](l []E, x E) []E {
	out := append(append(make([]E, 0, len(l)+3), l...), x, x, x)
	return out[:len(l)]
}

// whole is a table with the rows in its spare room.
func whole(t api.Tables) api.Tables {
	t.Scripts = slices.Clone(t.Scripts[:cap(t.Scripts)])
	for i, s := range t.Scripts {
		t.Scripts[i].Spans = slices.Clone(s.Spans[:cap(s.Spans)])
	}
	t.Common, t.Drops, t.Allowed = slices.Clone(t.Common[:cap(t.Common)]), slices.Clone(t.Drops[:cap(t.Drops)]), slices.Clone(t.Allowed[:cap(t.Allowed)])
	t.Marks, t.Pairs = slices.Clone(t.Marks[:cap(t.Marks)]), slices.Clone(t.Pairs[:cap(t.Pairs)])
	t.Folds, t.Looks = slices.Clone(t.Folds[:cap(t.Folds)]), slices.Clone(t.Looks[:cap(t.Looks)])
	return t
}

// copied is a table with memory of its own, without spare room.
func copied(t api.Tables) api.Tables {
	t.Scripts = slices.Clone(t.Scripts)
	for i, s := range t.Scripts {
		t.Scripts[i].Spans = slices.Clone(s.Spans)
	}
	t.Common, t.Drops, t.Allowed = slices.Clone(t.Common), slices.Clone(t.Drops), slices.Clone(t.Allowed)
	t.Marks, t.Pairs, t.Folds, t.Looks = slices.Clone(t.Marks), slices.Clone(t.Pairs), slices.Clone(t.Folds), slices.Clone(t.Looks)
	return t
}

// overwrite writes over all that a table holds, its spare room too.
func overwrite(t api.Tables) {
	for _, s := range t.Scripts[:cap(t.Scripts)] {
		overwriteList(s.Spans, span('q', 'q'))
	}
	overwriteList(t.Scripts, api.Script{Name: "spoiled"})
	overwriteList(t.Common, span('q', 'q'))
	overwriteList(t.Marks, api.Mark{Rune: 'q', Class: 7})
	overwriteList(t.Pairs, api.Pair{Whole: 'q', Base: 'q', Mark: 'q'})
	overwriteList(t.Folds, api.Map{From: 'q', To: "spoiled"})
	overwriteList(t.Looks, api.Map{From: 'q', To: "spoiled"})
	overwriteList(t.Drops, span('q', 'q'))
	overwriteList(t.Allowed, span('q', 'q'))
}

func overwriteList[E any](l []E, x E) {
	l = l[:cap(l)]
	for i := range l {
		l[i] = x
	}
}

func TestR2NotChanged(t *testing.T) {
	rnd := rand.New(rand.NewSource(62))
	for n := range 500 {
		u := rightTable(rnd)
		if n%2 > 0 {
			spoil(rnd, &u)
		}
		u = roomy(u)
		before := copied(whole(u))
		check(t, u)
		if !same(before, whole(u)) {
			t.Fatalf("%+v, was %+v", whole(u), before)
		}
	}
}

// Nothing that is done to t behind New, or to an answer, changes a Book.
func TestP6_2Kept(t *testing.T) {
	rnd := rand.New(rand.NewSource(620))
	for range 300 {
		u := roomy(rightTable(rnd))
		want := copied(u)
		b := book(t, u)
		overwrite(u)
		checkBook(t, b, want)
		overwrite(b.Tables())
		overwriteList(b.Names(), "spoiled")
		overwriteList(b.Froms(), 'q')
		for _, r := range numbers(want) {
			fold, _ := b.Fold(r)
			look, _ := b.Look(r)
			overwriteList(fold, 'q')
			overwriteList(look, 'q')
			overwriteList(b.Scripts(r), 7)
		}
		checkBook(t, b, want)
	}
}

// No two lists of one answer share memory, nor two answers: what is written over one is not seen in another.
func TestP6_2ListsApart(t *testing.T) {
	u := bare()
	u.Common = append(u.Common, span('a', 'z'))
	u.Drops = []api.Span{span(0xad, 0xad)}
	u.Scripts = []api.Script{{Name: "a", Spans: u.Allowed}, {Name: "b", Spans: u.Allowed}, {Name: "c", Spans: u.Allowed[:1]}}
	u.Folds = []api.Map{{From: 'A', To: "a"}, {From: 'B', To: "b"}}
	u.Looks = u.Folds
	b := book(t, u)
	spans := func(t api.Tables) [][]api.Span {
		return [][]api.Span{t.Scripts[0].Spans, t.Scripts[1].Spans, t.Scripts[2].Spans, t.Common, t.Drops, t.Allowed}
	}
	want := spans(b.Tables())
	for i := range want {
		other := b.Tables()
		l := spans(b.Tables())
		overwriteList(l[i], span('q', 'q'))
		for j := range l {
			if j != i && !slices.Equal(l[j], want[j]) {
				t.Errorf("lists %d and %d share memory", i, j)
			}
		}
		if !same(other, u) {
			t.Errorf("two answers share memory: %+v", other)
		}
	}
	v := b.Tables()
	overwriteList(v.Folds, api.Map{From: 'q'})
	if !slices.Equal(v.Looks, u.Looks) {
		t.Errorf("folds and looks share memory: %+v", v.Looks)
	}
}

// nil and empty lists mean the same.
func TestR4EmptyLists(t *testing.T) {
	u := bare()
	u.Scripts, u.Marks, u.Pairs, u.Folds, u.Looks, u.Drops = []api.Script{{Name: "a", Spans: []api.Span{}}, {Name: "b"}}, []api.Mark{}, []api.Pair{}, []api.Map{}, make([]api.Map, 0, 9), []api.Span{}
	checkBook(t, book(t, u), u)
	if _, w := tables.New(api.Tables{Common: []api.Span{}, Allowed: []api.Span{}}); w != (api.Wrong{Why: api.ErrForm, List: api.LCommon}) {
		t.Errorf("%+v", w)
	}
}

func TestP6_3Scripts(t *testing.T) {
	u := bare()
	u.Scripts = []api.Script{{Name: "z", Spans: []api.Span{span('a', 'c'), span('d', 'f')}}, {Name: "none"}, {Name: "b", Spans: []api.Span{span('c', 'd'), span(0xd7ff, 0xe000)}}, {Name: "a", Spans: []api.Span{span(0, 0x10ffff)}}}
	b := book(t, u)
	if l := b.Names(); !slices.Equal(l, []string{"z", "none", "b", "a"}) {
		t.Errorf("%q", l)
	}
	for r, want := range map[rune][]int{'a': {0, 3}, 'c': {0, 2, 3}, 'd': {0, 2, 3}, 'f': {0, 3}, 'g': {3}, 0xd7ff: {2, 3}, 0xe000: {2, 3}, 0xd800: nil, 0xdfff: nil, -1: nil, 0x110000: nil, 0: {3}, 0x10ffff: {3}} {
		if l := b.Scripts(r); !slices.Equal(l, want) {
			t.Errorf("%#x: %v, want %v", r, l, want)
		}
	}
}

// Of what is no rune: no script, false, 0.
func TestP6_4NoRunes(t *testing.T) {
	u := bare()
	all := []api.Span{span(0x80, 0x10ffff)}
	u.Scripts, u.Common, u.Allowed = []api.Script{{Name: "a", Spans: all}}, append(u.Common, all...), append(u.Allowed, all...)
	u.Drops = []api.Span{span(0xd7ff, 0xe000)}
	b := book(t, u)
	for _, r := range []rune{math.MinInt32, -1, 0xd800, 0xdbff, 0xdc00, 0xdfff, 0x110000, math.MaxInt32} {
		if a := saysOf(b, r); !a.same(answers{}) {
			t.Errorf("%#x: %+v", r, a)
		}
		for _, q := range []rune{'a', r, 0x301} {
			if x, ok := b.Joined(q, r); x != 0 || ok {
				t.Errorf("Joined(%#x, %#x): %#x, %v", q, r, x, ok)
			}
			if x, ok := b.Joined(r, q); x != 0 || ok {
				t.Errorf("Joined(%#x, %#x): %#x, %v", r, q, x, ok)
			}
		}
	}
}

// A pair is joined by base and mark in this order, not by either alone.
func TestP6_4Joined(t *testing.T) {
	u := bare()
	u.Marks = []api.Mark{{Rune: 0x301, Class: 230}, {Rune: 0x302, Class: 230}}
	u.Pairs = []api.Pair{{Whole: 0xe9, Base: 'e', Mark: 0x301}, {Whole: 0xe1, Base: 'a', Mark: 0x301}, {Whole: 0xe2, Base: 'a', Mark: 0x302}, {Whole: 0x1ea5, Base: 0xe2, Mark: 0x301}}
	b := book(t, u)
	for x, want := range map[[2]rune]rune{{'e', 0x301}: 0xe9, {'a', 0x301}: 0xe1, {'a', 0x302}: 0xe2, {0xe2, 0x301}: 0x1ea5, {'e', 0x302}: 0, {0x301, 'e'}: 0, {'a', 'a'}: 0, {0xe9, 0x301}: 0, {0, 0}: 0} {
		if r, ok := b.Joined(x[0], x[1]); r != want || ok != (want != 0) {
			t.Errorf("Joined(%#x, %#x): %#x, %v", x[0], x[1], r, ok)
		}
	}
	for _, r := range []rune{'e', 'a', 0x301, 0} {
		if base, mark, ok := b.Pair(r); base != 0 || mark != 0 || ok {
			t.Errorf("Pair(%#x): %#x, %#x, %v", r, base, mark, ok)
		}
	}
}

// A rune that has no place of its own in a table is plain, a look's From too; a fold's is not.
func TestP6_4Plain(t *testing.T) {
	u := bare()
	u.Marks, u.Pairs = []api.Mark{{Rune: 0x301, Class: 1}}, []api.Pair{{Whole: 0xe9, Base: 'e', Mark: 0x301}}
	u.Folds, u.Looks = []api.Map{{From: 'A', To: "a"}}, []api.Map{{From: 'm', To: "rn"}, {From: 'A', To: "b"}}
	u.Drops = []api.Span{span(0xad, 0xad), span(0xd7ff, 0xe000)}
	b := book(t, u)
	for r, want := range map[rune]bool{'a': true, 'B': true, 'm': true, 'e': true, 0: true, 0x10ffff: true, 0xfffd: true, '-': true, 'A': false, 0x301: false, 0xe9: false, 0xad: false, 0xd7ff: false, 0xe000: false, 0xd800: false, -1: false, 0x110000: false} {
		if b.Plain(r) != want {
			t.Errorf("%#x: %v", r, b.Plain(r))
		}
	}
}

// Froms rises whatever order the rows stand in, and tells a rune that is folded and looks like another once.
func TestP6_5Froms(t *testing.T) {
	rnd := rand.New(rand.NewSource(65))
	for range 3 {
		u := rightTable(rnd)
		if l, want := book(t, u).Froms(), wantFroms(u); !slices.Equal(l, want) {
			t.Errorf("%x, want %x", l, want)
		}
	}
	u := bare()
	u.Folds, u.Looks = []api.Map{{From: 'B', To: "b"}, {From: 'A', To: "a"}}, []api.Map{{From: 'A', To: "n"}, {From: 0x10ffff, To: "n"}, {From: ' ', To: "n"}}
	for range 20 {
		if l := book(t, u).Froms(); !slices.Equal(l, []rune{' ', 'A', 'B', 0x10ffff}) {
			t.Errorf("%x", l)
		}
	}
	if l := book(t, bare()).Froms(); len(l) != 0 {
		t.Errorf("%x", l)
	}
}

func TestR9Together(t *testing.T) {
	u := rightTable(rand.New(rand.NewSource(69)))
	b := book(t, u)
	var g sync.WaitGroup
	for range 8 {
		g.Go(func() {
			checkBook(t, b, u)
			overwrite(b.Tables())
			overwriteList(b.Froms(), 'q')
		})
	}
	g.Wait()
	checkBook(t, b, u)
}
