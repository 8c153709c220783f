package tables

import (
	"cmp"
	"slices"

	"guise/api"
	"guise/sets"
	"guise/utf"
)

const (
	maxScriptName = 32
	maxClass      = 254
)

// rowsWrong tells what is wrong with a table's rows one by one, and which of them are there twice.
func rowsWrong(t api.Tables) api.Wrong {
	for _, step := range []func(api.Tables) api.Wrong{tooMany, misformed, twice} {
		if w := step(t); w.Why != api.OK {
			return w
		}
	}
	return api.Wrong{}
}

// firstRow tells the first row of a list that is refused.
func firstRow[E any](list int, l []E, refuse func(E) api.Errno) api.Wrong {
	for row, x := range l {
		if why := refuse(x); why != api.OK {
			return api.Wrong{Why: why, List: list, Row: row}
		}
	}
	return api.Wrong{}
}

// when is a refusal, if there is a reason for it.
func when(reason bool, why api.Errno) api.Errno {
	if reason {
		return why
	}
	return api.OK
}

func tooMany(t api.Tables) api.Wrong {
	return cmp.Or(
		longer(api.LScripts, len(t.Scripts), api.MaxScripts),
		firstRow(api.LScripts, t.Scripts, func(s api.Script) api.Errno { return when(len(s.Spans) > api.MaxSpans, api.ErrMany) }),
		longer(api.LCommon, len(t.Common), api.MaxSpans),
		longer(api.LMarks, len(t.Marks), api.MaxMarks),
		longer(api.LPairs, len(t.Pairs), api.MaxPairs),
		longer(api.LFolds, len(t.Folds), api.MaxMaps),
		longer(api.LLooks, len(t.Looks), api.MaxMaps),
		longer(api.LDrops, len(t.Drops), api.MaxSpans),
		longer(api.LAllowed, len(t.Allowed), api.MaxSpans),
	)
}

func longer(list, length, limit int) api.Wrong {
	if length <= limit {
		return api.Wrong{}
	}
	return api.Wrong{Why: api.ErrMany, List: list, Row: limit}
}

func misformed(t api.Tables) api.Wrong {
	return cmp.Or(
		firstRow(api.LScripts, t.Scripts, scriptWrong),
		spansWrong(api.LCommon, t.Common),
		firstRow(api.LMarks, t.Marks, markWrong),
		firstRow(api.LPairs, t.Pairs, pairWrong),
		firstRow(api.LFolds, t.Folds, mapWrong),
		firstRow(api.LLooks, t.Looks, mapWrong),
		spansWrong(api.LDrops, t.Drops),
		spansWrong(api.LAllowed, t.Allowed),
	)
}

func spansWrong(list int, l []api.Span) api.Wrong {
	row, why := sets.Right(l)
	if why == api.OK {
		return api.Wrong{}
	}
	return api.Wrong{Why: why, List: list, Row: row}
}

func scriptWrong(s api.Script) api.Errno {
	_, why := sets.Right(s.Spans)
	return cmp.Or(when(!isScriptName(s.Name), api.ErrName), why)
}

func isScriptName(s string) bool {
	if len(s) == 0 || len(s) > maxScriptName || !isSmall(s[0]) {
		return false
	}
	for i := range len(s) {
		if c := s[i]; !isSmall(c) && c != '-' && (c < '0' || c > '9') {
			return false
		}
	}
	return true
}

func isSmall(c byte) bool { return 'a' <= c && c <= 'z' }

func markWrong(m api.Mark) api.Errno {
	return cmp.Or(noRune(m.Rune), when(m.Class < 1 || m.Class > maxClass, api.ErrClass))
}

func pairWrong(p api.Pair) api.Errno { return noRune(p.Whole, p.Base, p.Mark) }

func mapWrong(m api.Map) api.Errno {
	return cmp.Or(noRune(m.From), when(!isTo(m.To), api.ErrTo))
}

func noRune(l ...rune) api.Errno {
	return when(slices.ContainsFunc(l, func(r rune) bool { return utf.Width(r) == 0 }), api.ErrRune)
}

// isTo counts no further than it must: a text may be long.
func isTo(s string) bool {
	n := 0
	for _, x := range utf.Spots(s) {
		n++
		if x.Bad || n > api.MaxTo {
			return false
		}
	}
	return n > 0
}

func twice(t api.Tables) api.Wrong {
	whole := again(func(p api.Pair) rune { return p.Whole })
	parts := again(func(p api.Pair) [2]rune { return [2]rune{p.Base, p.Mark} })
	from := func(m api.Map) rune { return m.From }
	return cmp.Or(
		firstRow(api.LScripts, t.Scripts, again(func(s api.Script) string { return s.Name })),
		firstRow(api.LMarks, t.Marks, again(func(m api.Mark) rune { return m.Rune })),
		firstRow(api.LPairs, t.Pairs, func(p api.Pair) api.Errno { return cmp.Or(whole(p), parts(p)) }),
		firstRow(api.LFolds, t.Folds, again(from)),
		firstRow(api.LLooks, t.Looks, again(from)),
	)
}

// again makes what refuses a row whose key was in a row ahead.
func again[E any, K comparable](key func(E) K) func(E) api.Errno {
	seen := map[K]struct{}{}
	return func(x E) api.Errno {
		k := key(x)
		_, was := seen[k]
		seen[k] = struct{}{}
		return when(was, api.ErrTwice)
	}
}
