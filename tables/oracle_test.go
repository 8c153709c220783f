package tables_test

import (
	"cmp"
	"math"
	"slices"
	"testing"
	"unicode/utf8"

	"guise/api"
	"guise/tables"
)

// What the chapter says of tables, once more and in the slowest way: every row is gone through for every question, all that is wrong is gathered, in no order, and the first of it is sought behind that.

func isRune(r rune) bool { return 0 <= r && r <= 0x10ffff && (r < 0xd800 || r > 0xdfff) }

func of(l []api.Span, r rune) bool {
	return isRune(r) && slices.ContainsFunc(l, func(x api.Span) bool { return x.Lo <= r && r <= x.Hi })
}

func markAt(t api.Tables, r rune) int {
	return slices.IndexFunc(t.Marks, func(m api.Mark) bool { return m.Rune == r })
}

func wholeAt(t api.Tables, r rune) int {
	return slices.IndexFunc(t.Pairs, func(p api.Pair) bool { return p.Whole == r })
}

func fromAt(l []api.Map, r rune) int {
	return slices.IndexFunc(l, func(m api.Map) bool { return m.From == r })
}

func isMark(t api.Tables, r rune) bool  { return markAt(t, r) >= 0 }
func isWhole(t api.Tables, r rune) bool { return wholeAt(t, r) >= 0 }

func isPlain(t api.Tables, r rune) bool {
	return isRune(r) && !isMark(t, r) && !isWhole(t, r) && !of(t.Drops, r) && fromAt(t.Folds, r) < 0
}

// chain is how many rows a pair's chain has; 0: it does not end.
func chain(t api.Tables, row int) int {
	var been []int
	for row >= 0 {
		if slices.Contains(been, row) {
			return 0
		}
		been = append(been, row)
		row = wholeAt(t, t.Pairs[row].Base)
	}
	return len(been)
}

// faults are all that is wrong: each with its step (1 to 9), its list, where it stands in it, and its turn among what is wrong there.
type fault struct {
	step, list, place, turn int
	wrong                   api.Wrong
}

type faults []fault

func (f *faults) add(reason bool, step, list, row, turn int, why api.Errno) {
	if reason {
		*f = append(*f, fault{step, list, row, turn, api.Wrong{Why: why, List: list, Row: row}})
	}
}

// wantWrong is what New must tell.
func wantWrong(t api.Tables) api.Wrong {
	var f faults
	f.together(t)
	f.alike(t)
	f.rows(t)
	f.again(t)
	f.many(t)
	if len(f) == 0 {
		return api.Wrong{}
	}
	return slices.MinFunc(f, func(a, b fault) int {
		return cmp.Or(cmp.Compare(a.step, b.step), cmp.Compare(a.list, b.list), cmp.Compare(a.place, b.place), cmp.Compare(a.turn, b.turn))
	}).wrong
}

func (f *faults) many(t api.Tables) {
	for list, l := range map[int][2]int{
		api.LScripts: {len(t.Scripts), 64}, api.LCommon: {len(t.Common), 1024}, api.LMarks: {len(t.Marks), 512}, api.LPairs: {len(t.Pairs), 4096},
		api.LFolds: {len(t.Folds), 4096}, api.LLooks: {len(t.Looks), 4096}, api.LDrops: {len(t.Drops), 1024}, api.LAllowed: {len(t.Allowed), 1024},
	} {
		f.add(l[0] > l[1], 1, list, l[1], 0, api.ErrMany)
	}
	for row, s := range t.Scripts {
		f.add(len(t.Scripts) <= 64 && len(s.Spans) > 1024, 1, api.LScripts, row, 0, api.ErrMany)
	}
}

func (f *faults) rows(t api.Tables) {
	for row, s := range t.Scripts {
		f.add(!isName(s.Name), 2, api.LScripts, row, -1, api.ErrName)
		var g faults
		g.spans(s.Spans, 0)
		for _, x := range g {
			f.add(true, 2, api.LScripts, row, 3*x.place+x.turn, x.wrong.Why)
		}
	}
	f.spans(t.Common, api.LCommon)
	f.spans(t.Drops, api.LDrops)
	f.spans(t.Allowed, api.LAllowed)
	for row, m := range t.Marks {
		f.add(!isRune(m.Rune), 2, api.LMarks, row, 0, api.ErrRune)
		f.add(m.Class < 1 || m.Class > 254, 2, api.LMarks, row, 1, api.ErrClass)
	}
	for row, p := range t.Pairs {
		f.add(!isRune(p.Whole) || !isRune(p.Base) || !isRune(p.Mark), 2, api.LPairs, row, 0, api.ErrRune)
	}
	for list, l := range map[int][]api.Map{api.LFolds: t.Folds, api.LLooks: t.Looks} {
		for row, m := range l {
			n := utf8.RuneCountInString(m.To)
			f.add(!isRune(m.From), 2, list, row, 0, api.ErrRune)
			f.add(n < 1 || n > 4 || !utf8.ValidString(m.To), 2, list, row, 1, api.ErrTo)
		}
	}
}

func (f *faults) spans(l []api.Span, list int) {
	for row, x := range l {
		f.add(!isRune(x.Lo) || !isRune(x.Hi), 2, list, row, 0, api.ErrRune)
		f.add(x.Lo > x.Hi, 2, list, row, 1, api.ErrRange)
		f.add(row > 0 && l[max(row-1, 0)].Hi >= x.Lo, 2, list, row, 2, api.ErrOrder)
	}
}

func isName(s string) bool {
	for i, r := range s {
		small, other := 'a' <= r && r <= 'z', '0' <= r && r <= '9' || r == '-'
		if !small && (i == 0 || !other) {
			return false
		}
	}
	return 1 <= len(s) && len(s) <= 32
}

func (f *faults) again(t api.Tables) {
	for row, s := range t.Scripts {
		f.add(slices.ContainsFunc(t.Scripts[:row], func(o api.Script) bool { return o.Name == s.Name }), 3, api.LScripts, row, 0, api.ErrTwice)
	}
	for row, m := range t.Marks {
		f.add(markAt(t, m.Rune) < row, 3, api.LMarks, row, 0, api.ErrTwice)
	}
	for row, p := range t.Pairs {
		f.add(wholeAt(t, p.Whole) < row, 3, api.LPairs, row, 0, api.ErrTwice)
		f.add(slices.ContainsFunc(t.Pairs[:row], func(o api.Pair) bool { return o.Base == p.Base && o.Mark == p.Mark }), 3, api.LPairs, row, 0, api.ErrTwice)
	}
	for row, m := range t.Folds {
		f.add(fromAt(t.Folds, m.From) < row, 3, api.LFolds, row, 0, api.ErrTwice)
	}
	for row, m := range t.Looks {
		f.add(fromAt(t.Looks, m.From) < row, 3, api.LLooks, row, 0, api.ErrTwice)
	}
}

func (f *faults) together(t api.Tables) {
	for row, m := range t.Marks {
		f.add(of(t.Drops, m.Rune), 6, api.LMarks, row, 0, api.ErrDrop)
	}
	for row, p := range t.Pairs {
		f.add(isMark(t, p.Whole) || isMark(t, p.Base) || !isMark(t, p.Mark), 4, api.LPairs, row, 0, api.ErrPair)
		n := chain(t, row)
		f.add(n == 0, 5, api.LPairs, row, 0, api.ErrRing)
		f.add(n > 4, 5, api.LPairs, row, 0, api.ErrDeep)
		f.add(of(t.Drops, p.Whole) || of(t.Drops, p.Base) || of(t.Drops, p.Mark), 6, api.LPairs, row, 0, api.ErrDrop)
	}
	for list, l := range map[int][]api.Map{api.LFolds: t.Folds, api.LLooks: t.Looks} {
		for row, m := range l {
			f.add(of(t.Drops, m.From), 6, list, row, 0, api.ErrDrop)
			f.add(isMark(t, m.From) || isWhole(t, m.From), 7, list, row, 0, api.ErrPlain)
			for _, r := range m.To {
				f.add(list == api.LFolds && !isPlain(t, r), 8, list, row, 0, api.ErrTo)
				f.add(list == api.LLooks && (!isPlain(t, r) || fromAt(t.Looks, r) >= 0), 8, list, row, 0, api.ErrLook)
			}
		}
	}
}

// still are runes that no table folds to, or looks at.
func still(r rune) bool { return r < 0x20 || r == '-' || r == '.' || r == 0xfffd }

func (f *faults) alike(t api.Tables) {
	for _, r := range "0123456789-." {
		f.add(!of(t.Common, r), 9, api.LCommon, 0, 0, api.ErrForm)
	}
	for row, m := range t.Marks {
		f.add(m.Rune < 0x80 || m.Rune == 0xfffd, 9, api.LMarks, row, 0, api.ErrForm)
	}
	for row, p := range t.Pairs {
		f.add(p.Whole < 0x80 || p.Whole == 0xfffd, 9, api.LPairs, row, 0, api.ErrForm)
	}
	for row, m := range t.Folds {
		f.add(m.From < 'A' || 'Z' < m.From && m.From < 0x80 || m.From == 0xfffd, 9, api.LFolds, row, 0, api.ErrForm)
		f.add(slices.ContainsFunc([]rune(m.To), still), 9, api.LFolds, row, 0, api.ErrForm)
	}
	for row, m := range t.Looks {
		f.add(slices.ContainsFunc([]rune(string(m.From)+m.To), still), 9, api.LLooks, row, 0, api.ErrForm)
	}
	for row, x := range t.Drops {
		f.add(x.Lo < 0x80 || of(t.Drops[row:row+1], 0xfffd), 9, api.LDrops, row, 0, api.ErrForm)
	}
	for r := range rune(0x80) {
		must := 'a' <= r && r <= 'z' || '0' <= r && r <= '9' || r == '-'
		for row := range t.Allowed {
			f.add(!must && of(t.Allowed[row:row+1], r), 9, api.LAllowed, row, 0, api.ErrForm)
		}
		if must && !of(t.Allowed, r) {
			*f = append(*f, fault{9, api.LAllowed, math.MaxInt, 0, api.Wrong{Why: api.ErrForm, List: api.LAllowed}})
		}
	}
}

// answers is all that a Book says of one rune.
type answers struct {
	scripts                         []int
	common, dropped, allowed, plain bool
	class                           int
	base, mark                      rune
	whole                           bool
	fold, look                      []rune
	folds, looks                    bool
}

func (a answers) same(o answers) bool {
	same := slices.Equal(a.scripts, o.scripts) && slices.Equal(a.fold, o.fold) && slices.Equal(a.look, o.look)
	return same && a.common == o.common && a.dropped == o.dropped && a.allowed == o.allowed && a.plain == o.plain && a.class == o.class &&
		a.base == o.base && a.mark == o.mark && a.whole == o.whole && a.folds == o.folds && a.looks == o.looks
}

func wantOf(t api.Tables, r rune) answers {
	a := answers{common: of(t.Common, r), dropped: of(t.Drops, r), allowed: of(t.Allowed, r), plain: isPlain(t, r)}
	for n, s := range t.Scripts {
		if of(s.Spans, r) {
			a.scripts = append(a.scripts, n)
		}
	}
	if row := markAt(t, r); row >= 0 {
		a.class = t.Marks[row].Class
	}
	if row := wholeAt(t, r); row >= 0 {
		a.base, a.mark, a.whole = t.Pairs[row].Base, t.Pairs[row].Mark, true
	}
	if row := fromAt(t.Folds, r); row >= 0 {
		a.fold, a.folds = []rune(t.Folds[row].To), true
	}
	if row := fromAt(t.Looks, r); row >= 0 {
		a.look, a.looks = []rune(t.Looks[row].To), true
	}
	return a
}

func saysOf(b *tables.Book, r rune) answers {
	a := answers{scripts: b.Scripts(r), common: b.Common(r), dropped: b.Dropped(r), allowed: b.Allowed(r), plain: b.Plain(r), class: b.Class(r)}
	a.base, a.mark, a.whole = b.Pair(r)
	a.fold, a.folds = b.Fold(r)
	a.look, a.looks = b.Look(r)
	return a
}

func wantJoined(t api.Tables, base, mark rune) (rune, bool) {
	for _, p := range t.Pairs {
		if p.Base == base && p.Mark == mark {
			return p.Whole, true
		}
	}
	return 0, false
}

// wantFroms goes through all runes there are.
func wantFroms(t api.Tables) []rune {
	var l []rune
	for r := range rune(0x110000) {
		if isWhole(t, r) || fromAt(t.Folds, r) >= 0 || fromAt(t.Looks, r) >= 0 {
			l = append(l, r)
		}
	}
	return l
}

func names(t api.Tables) []string {
	var l []string
	for _, s := range t.Scripts {
		l = append(l, s.Name)
	}
	return l
}

func same(t, u api.Tables) bool {
	scripts := slices.EqualFunc(t.Scripts, u.Scripts, func(a, b api.Script) bool { return a.Name == b.Name && slices.Equal(a.Spans, b.Spans) })
	return scripts && slices.Equal(t.Common, u.Common) && slices.Equal(t.Marks, u.Marks) && slices.Equal(t.Pairs, u.Pairs) &&
		slices.Equal(t.Folds, u.Folds) && slices.Equal(t.Looks, u.Looks) && slices.Equal(t.Drops, u.Drops) && slices.Equal(t.Allowed, u.Allowed)
}

// numbers are those that a table speaks of, those beside them, and those at which runes begin and end.
func numbers(t api.Tables) []rune {
	l := []rune{math.MinInt32, -1, 0, 0x7f, 0x80, 0xd7ff, 0xd800, 0xdabc, 0xdfff, 0xe000, 0xfffd, 0x10ffff, 0x110000, math.MaxInt32}
	for r := range rune(0x80) {
		l = append(l, r)
	}
	spans := slices.Concat(t.Common, t.Drops, t.Allowed)
	for _, s := range t.Scripts {
		spans = append(spans, s.Spans...)
	}
	for _, x := range spans {
		l = append(l, x.Lo-1, x.Lo, x.Lo+1, x.Hi-1, x.Hi, x.Hi+1)
	}
	for _, m := range t.Marks {
		l = append(l, m.Rune-1, m.Rune, m.Rune+1)
	}
	for _, p := range t.Pairs {
		l = append(l, p.Whole-1, p.Whole, p.Whole+1, p.Base, p.Mark)
	}
	for _, m := range slices.Concat(t.Folds, t.Looks) {
		l = append(append(l, m.From-1, m.From, m.From+1), []rune(m.To)...)
	}
	slices.Sort(l)
	return slices.Compact(l)
}

// book makes a Book of a right table.
func book(t *testing.T, u api.Tables) *tables.Book {
	t.Helper()
	b, w := tables.New(u)
	if b == nil || w != (api.Wrong{}) {
		t.Fatalf("%+v: %+v", u, w)
	}
	return b
}

// check holds New's answer, and all that a Book says, against the oracle.
func check(t *testing.T, u api.Tables) api.Wrong {
	t.Helper()
	want := wantWrong(u)
	b, w := tables.New(u)
	if w != want || (b == nil) != (want.Why != api.OK) {
		t.Errorf("%+v: %+v, want %+v", u, w, want)
	}
	if w == want && b != nil {
		checkBook(t, b, u)
	}
	return want
}

func checkBook(t *testing.T, b *tables.Book, u api.Tables) {
	t.Helper()
	if v := b.Tables(); !same(u, v) {
		t.Errorf("P6.2: %+v, want %+v", v, u)
	}
	if l := b.Names(); !slices.Equal(l, names(u)) {
		t.Errorf("P6.3: %q", l)
	}
	l := numbers(u)
	var froms []rune
	for _, r := range l {
		a, want := saysOf(b, r), wantOf(u, r)
		if !a.same(want) {
			t.Errorf("P6.3, P6.4: %+v: %#x: %+v, want %+v", u, r, a, want)
		}
		if want.whole || want.folds || want.looks {
			froms = append(froms, r)
		}
	}
	if got := b.Froms(); !slices.Equal(got, froms) {
		t.Errorf("P6.5: %x, want %x", got, froms)
	}
	for _, p := range u.Pairs {
		for _, q := range u.Pairs {
			for _, x := range [][2]rune{{p.Base, q.Mark}, {p.Mark, q.Base}, {p.Whole, q.Mark}, {p.Base, q.Base}} {
				want, wantOK := wantJoined(u, x[0], x[1])
				if r, ok := b.Joined(x[0], x[1]); r != want || ok != wantOK {
					t.Errorf("P6.4: Joined(%#x, %#x): %#x, %v", x[0], x[1], r, ok)
				}
			}
		}
	}
}
