package tables_test

import (
	"math/rand"
	"slices"
	"testing"

	"guise/api"
	"guise/tables"
)

func TestP6_6Pairs(t *testing.T) {
	rnd := rand.New(rand.NewSource(66))
	deepest := 0
	for range 1000 {
		u := rightTable(rnd)
		b := book(t, u)
		for _, p := range u.Pairs {
			r, n := p.Whole, 0
			for base, mark, ok := b.Pair(r); ok; base, mark, ok = b.Pair(r) {
				if whole, joined := b.Joined(base, mark); whole != r || !joined {
					t.Errorf("%+v: Joined(%#x, %#x): %#x, %v", u, base, mark, whole, joined)
				}
				r = base
				n++
			}
			if n > 4 || b.Class(r) != 0 || b.Dropped(r) {
				t.Errorf("%+v: %#x ends behind %d at %#x", u, p.Whole, n, r)
			}
			deepest = max(deepest, n)
		}
	}
	if deepest != 4 {
		t.Errorf("no more than %d deep", deepest)
	}
}

func TestP6_7Once(t *testing.T) {
	rnd := rand.New(rand.NewSource(67))
	for range 1000 {
		u := rightTable(rnd)
		b := book(t, u)
		for _, from := range b.Froms() {
			fold, _ := b.Fold(from)
			look, _ := b.Look(from)
			for _, r := range fold {
				if _, again := b.Fold(r); again || !b.Plain(r) {
					t.Errorf("%+v: %#x is folded to %#x", u, from, r)
				}
			}
			for _, r := range look {
				_, again := b.Look(r)
				_, folded := b.Fold(r)
				if again || folded || !b.Plain(r) {
					t.Errorf("%+v: %#x looks like %#x", u, from, r)
				}
			}
		}
	}
}

func TestP6_8AnyOrder(t *testing.T) {
	rnd := rand.New(rand.NewSource(68))
	for range 500 {
		u := rightTable(rnd)
		v := copied(u)
		shuffle(rnd, &v)
		b, c := book(t, u), book(t, v)
		if !slices.Equal(b.Names(), c.Names()) || !slices.Equal(b.Froms(), c.Froms()) {
			t.Errorf("%+v and %+v: %x, %x", u, v, b.Froms(), c.Froms())
		}
		for _, r := range numbers(u) {
			if x, y := saysOf(b, r), saysOf(c, r); !x.same(y) {
				t.Errorf("%+v and %+v: %#x: %+v, %+v", u, v, r, x, y)
			}
		}
		for _, p := range u.Pairs {
			if r, ok := c.Joined(p.Base, p.Mark); r != p.Whole || !ok {
				t.Errorf("%+v: Joined(%#x, %#x): %#x, %v", v, p.Base, p.Mark, r, ok)
			}
		}
	}
}

// accent is the bare table with a mark and a pair.
func accent() api.Tables {
	t := bare()
	t.Marks, t.Pairs = []api.Mark{{Rune: 0x301, Class: 230}}, []api.Pair{{Whole: 0xe9, Base: 'e', Mark: 0x301}}
	return t
}

func TestRuns(t *testing.T) {
	mark := []api.Mark{{Rune: 0x301, Class: 230}}
	for name, c := range map[string]struct {
		turn func(t *api.Tables)
		want api.Wrong
	}{
		"the empty table": {func(t *api.Tables) { *t = api.Tables{} }, api.Wrong{Why: api.ErrForm, List: api.LCommon}},
		"the bare one":    {func(t *api.Tables) {}, api.Wrong{}},
		"a falling span":  {func(t *api.Tables) { t.Drops = []api.Span{span(0xad, 0xad), span('b', 'a')} }, api.Wrong{Why: api.ErrRange, List: api.LDrops, Row: 1}},
		"around the gap":  {func(t *api.Tables) { t.Drops = []api.Span{span(0xd7ff, 0xe000)} }, api.Wrong{}},
		"from the gap on": {func(t *api.Tables) { t.Drops = []api.Span{span(0xd800, 0xe000)} }, api.Wrong{Why: api.ErrRune, List: api.LDrops}},
		"a dropped base":  {func(t *api.Tables) { *t = accent(); t.Drops = []api.Span{span('e', 'e')} }, api.Wrong{Why: api.ErrDrop, List: api.LPairs}},
		"a ring": {func(t *api.Tables) {
			t.Marks, t.Pairs = mark, []api.Pair{{Whole: 'a', Base: 'b', Mark: 0x301}, {Whole: 'b', Base: 'a', Mark: 0x301}}
		}, api.Wrong{Why: api.ErrRing, List: api.LPairs}},
		"five pairs":       {func(t *api.Tables) { t.Marks = mark; t.Pairs = chainOf(5) }, api.Wrong{Why: api.ErrDeep, List: api.LPairs, Row: 4}},
		"a fold to a fold": {func(t *api.Tables) { t.Folds = []api.Map{{From: 'A', To: "a"}, {From: 'B', To: "A"}} }, api.Wrong{Why: api.ErrTo, List: api.LFolds, Row: 1}},
		"a look at a look": {func(t *api.Tables) { t.Looks = []api.Map{{From: 0x430, To: "a"}, {From: 0x251, To: "\u0430"}} }, api.Wrong{Why: api.ErrLook, List: api.LLooks, Row: 1}},
		"look 1":           {func(t *api.Tables) { t.Looks = []api.Map{{From: '1', To: "l"}} }, api.Wrong{}},
		"look -":           {func(t *api.Tables) { t.Looks = []api.Map{{From: '-', To: "l"}} }, api.Wrong{Why: api.ErrForm, List: api.LLooks}},
		"a mark x":         {func(t *api.Tables) { t.Marks = []api.Mark{{Rune: 'x', Class: 230}} }, api.Wrong{Why: api.ErrForm, List: api.LMarks}},
		"fold to nothing":  {func(t *api.Tables) { t.Folds = []api.Map{{From: 'A', To: ""}} }, api.Wrong{Why: api.ErrTo, List: api.LFolds}},
		"fold to five":     {func(t *api.Tables) { t.Folds = []api.Map{{From: 'A', To: "abcde"}} }, api.Wrong{Why: api.ErrTo, List: api.LFolds}},
		"fold to bad":      {func(t *api.Tables) { t.Folds = []api.Map{{From: 'A', To: "\xff"}} }, api.Wrong{Why: api.ErrTo, List: api.LFolds}},
		"fold to a look": {func(t *api.Tables) {
			t.Looks = []api.Map{{From: 'l', To: "1"}}
			t.Folds = []api.Map{{From: 'L', To: "l"}}
		}, api.Wrong{}},
	} {
		u := bare()
		c.turn(&u)
		if b, w := tables.New(u); w != c.want || (b == nil) != (c.want.Why != api.OK) {
			t.Errorf("%s: %+v, want %+v", name, w, c.want)
		}
	}
}

func TestRunsAsked(t *testing.T) {
	u := accent()
	u.Folds, u.Looks = []api.Map{{From: 'L', To: "l"}}, []api.Map{{From: 'l', To: "1"}}
	u.Drops = []api.Span{span(0xd7ff, 0xe000)}
	b := book(t, u)
	base, mark, ok := b.Pair(0xe9)
	whole, joined := b.Joined('e', 0x301)
	if base != 'e' || mark != 0x301 || !ok || whole != 0xe9 || !joined {
		t.Errorf("%#x, %#x, %v; %#x, %v", base, mark, ok, whole, joined)
	}
	if !b.Dropped(0xd7ff) || b.Dropped(0xd800) || !b.Dropped(0xe000) || b.Class(0xd800) != 0 || b.Allowed(-1) || !b.Plain('l') {
		t.Errorf("%+v, %+v", saysOf(b, 0xd800), saysOf(b, 'l'))
	}
}

func TestExamples(t *testing.T) {
	u := accent()
	u.Folds = []api.Map{{From: 'A', To: "a"}}
	b := book(t, u)
	if l := b.Froms(); !slices.Equal(l, []rune{'A', 0xe9}) {
		t.Errorf("%x", l)
	}
	if l := b.Scripts('a'); len(l) != 0 {
		t.Errorf("%v", l)
	}
}
