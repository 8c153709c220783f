package tables

import (
	"cmp"
	"slices"

	"guise/api"
	"guise/sets"
	"guise/utf"
)

// wrong tells how the rows, right one by one, don't stand together.
func (b *Book) wrong() api.Wrong {
	for _, step := range []func() api.Wrong{b.mispaired, b.endless, b.unseen, b.unplainFroms, b.unplainTos, b.unlikeOthers} {
		if w := step(); w.Why != api.OK {
			return w
		}
	}
	return api.Wrong{}
}

func (b *Book) mispaired() api.Wrong {
	return firstRow(api.LPairs, b.tables.Pairs, func(p api.Pair) api.Errno {
		return when(b.Class(p.Whole) != 0 || b.Class(p.Base) != 0 || b.Class(p.Mark) == 0, api.ErrPair)
	})
}

func (b *Book) endless() api.Wrong { return firstRow(api.LPairs, b.tables.Pairs, b.chainWrong) }

// chainWrong goes along a row's chain: one that has more rows than there are comes back to one of them, and does not end.
func (b *Book) chainWrong(p api.Pair) api.Errno {
	rows := 1
	for base, _, more := b.Pair(p.Base); more; base, _, more = b.Pair(base) {
		rows++
		if rows > len(b.pairs) {
			return api.ErrRing
		}
	}
	return when(rows > api.MaxDeep, api.ErrDeep)
}

func (b *Book) unseen() api.Wrong {
	from := func(m api.Map) api.Errno { return b.anyDropped(m.From) }
	return cmp.Or(
		firstRow(api.LMarks, b.tables.Marks, func(m api.Mark) api.Errno { return b.anyDropped(m.Rune) }),
		firstRow(api.LPairs, b.tables.Pairs, func(p api.Pair) api.Errno { return b.anyDropped(p.Whole, p.Base, p.Mark) }),
		firstRow(api.LFolds, b.tables.Folds, from),
		firstRow(api.LLooks, b.tables.Looks, from),
	)
}

func (b *Book) anyDropped(l ...rune) api.Errno {
	return when(slices.ContainsFunc(l, b.Dropped), api.ErrDrop)
}

func (b *Book) unplainFroms() api.Wrong {
	from := func(m api.Map) api.Errno { return when(b.markOrWhole(m.From), api.ErrPlain) }
	return cmp.Or(firstRow(api.LFolds, b.tables.Folds, from), firstRow(api.LLooks, b.tables.Looks, from))
}

func (b *Book) unplainTos() api.Wrong {
	unplain := func(r rune) bool { return !b.Plain(r) }
	unsteady := func(r rune) bool {
		_, looks := b.looks[r]
		return looks || unplain(r)
	}
	return cmp.Or(
		firstRow(api.LFolds, b.tables.Folds, func(m api.Map) api.Errno {
			return when(slices.ContainsFunc(utf.Runes(m.To), unplain), api.ErrTo)
		}),
		firstRow(api.LLooks, b.tables.Looks, func(m api.Map) api.Errno {
			return when(slices.ContainsFunc(utf.Runes(m.To), unsteady), api.ErrLook)
		}),
	)
}

// unlikeOthers tells where a table says otherwise what every table says alike.
func (b *Book) unlikeOthers() api.Wrong {
	ascii := setOf([]api.Span{{Lo: 0, Hi: 0x7f}})
	low := ascii.Union(setOf([]api.Span{{Lo: api.Bad, Hi: api.Bad}}))
	unfolded := low.Minus(setOf([]api.Span{{Lo: 'A', Hi: 'Z'}}))
	still := setOf([]api.Span{{Lo: 0, Hi: 0x1f}, {Lo: '-', Hi: '.'}, {Lo: api.Bad, Hi: api.Bad}})
	common := setOf([]api.Span{{Lo: '-', Hi: '.'}, {Lo: '0', Hi: '9'}})
	label := setOf([]api.Span{{Lo: '-', Hi: '-'}, {Lo: '0', Hi: '9'}, {Lo: 'a', Hi: 'z'}})
	never := ascii.Minus(label)
	return cmp.Or(
		lacking(api.LCommon, b.common, common),
		firstRow(api.LMarks, b.tables.Marks, func(m api.Mark) api.Errno { return anyOf(low, m.Rune) }),
		firstRow(api.LPairs, b.tables.Pairs, func(p api.Pair) api.Errno { return anyOf(low, p.Whole) }),
		firstRow(api.LFolds, b.tables.Folds, func(m api.Map) api.Errno {
			return cmp.Or(anyOf(unfolded, m.From), anyOf(still, utf.Runes(m.To)...))
		}),
		firstRow(api.LLooks, b.tables.Looks, func(m api.Map) api.Errno {
			return cmp.Or(anyOf(still, m.From), anyOf(still, utf.Runes(m.To)...))
		}),
		firstRow(api.LDrops, b.tables.Drops, func(x api.Span) api.Errno { return anyWithin(low, x) }),
		firstRow(api.LAllowed, b.tables.Allowed, func(x api.Span) api.Errno { return anyWithin(never, x) }),
		lacking(api.LAllowed, b.allowed, label),
	)
}

// lacking refuses a list that is without one of the runes that it must have. No row is at fault: the first one's number stands for the list.
func lacking(list int, has, must *sets.Set) api.Wrong {
	if must.Minus(has).Size() == 0 {
		return api.Wrong{}
	}
	return api.Wrong{Why: api.ErrForm, List: list}
}

// anyOf refuses runes of which one is in a set.
func anyOf(s *sets.Set, l ...rune) api.Errno {
	return when(slices.ContainsFunc(l, s.In), api.ErrForm)
}

// anyWithin refuses a span of which a rune is in a set.
func anyWithin(s *sets.Set, x api.Span) api.Errno {
	next, ok := s.Next(x.Lo)
	return when(s.In(x.Lo) || ok && next <= x.Hi, api.ErrForm)
}
