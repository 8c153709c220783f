package tables_test

import (
	"math/rand"
	"slices"
	"strings"

	"guise/api"
)

// Tables by chance: right ones, and such with something spoiled in them.

func span(lo, hi rune) api.Span { return api.Span{Lo: lo, Hi: hi} }

// bare is the bare table.
func bare() api.Tables {
	return api.Tables{Common: []api.Span{span('-', '9')}, Allowed: []api.Span{span('-', '-'), span('0', '9'), span('a', 'z')}}
}

func pick[E any](rnd *rand.Rand, l []E) E { return l[rnd.Intn(len(l))] }

// rightTable makes a right table. What it speaks of lies apart: marks from 0x300 on, wholes from 0x1e00 on, dropped runes from 0x2000 on, what is folded among great letters and from 0x400 on, what looks like others from 0x500 on and among small letters.
func rightTable(rnd *rand.Rand) api.Tables {
	t := bare()
	bases := []rune{'A', 'e', 0x410, 0x501, '~', 0x800, 0xfffd, '-', 0}
	for n := range rnd.Intn(4) {
		t.Scripts = append(t.Scripts, api.Script{Name: pick(rnd, []string{"a", "b-", "c9", "latin"}) + strings.Repeat("x", n), Spans: rightSpans(rnd, rnd.Intn(200), 4)})
		t.Marks = append(t.Marks, api.Mark{Rune: rune(0x300 + n), Class: pick(rnd, []int{1, 2, 230, 254})})
	}
	for n := range rnd.Intn(8) {
		p := api.Pair{Whole: rune(0x1e00 + n), Base: pick(rnd, bases), Mark: rune(0x300 + rnd.Intn(4))}
		if _, twice := wantJoined(t, p.Base, p.Mark); isMark(t, p.Mark) && !twice {
			bases = append(bases, p.Whole, p.Whole)
			t.Pairs = append(t.Pairs, p)
			if slices.ContainsFunc(t.Pairs, func(q api.Pair) bool { return chain(t, wholeAt(t, q.Whole)) > 4 }) {
				t.Pairs = t.Pairs[:len(t.Pairs)-1]
			}
		}
	}
	plain := []rune{'a', 'n', '0', ' ', 0x7f, 0x80, 0x900, 0x20ac, 0xffff, 0x10ffff}
	for n := range rnd.Intn(5) {
		from := pick(rnd, []rune{rune('A' + n), rune(0x400 + 0x10*n)})
		t.Folds = append(t.Folds, api.Map{From: from, To: drawTo(rnd, append(plain, 0x500), 1+rnd.Intn(4))})
		like := pick(rnd, []rune{rune('p' + n), rune(0x500 + n), '1' + rune(n), from})
		t.Looks = append(t.Looks, api.Map{From: like, To: drawTo(rnd, plain, 1+rnd.Intn(4))})
	}
	t.Common = append(t.Common, rightSpans(rnd, 0x80, 3)...)
	t.Drops = rightSpans(rnd, 0x2000, 3)
	t.Allowed = append(t.Allowed, rightSpans(rnd, 0x80, 3)...)
	shuffle(rnd, &t)
	return t
}

// shuffle puts the rows whose order doesn't matter in another one.
func shuffle(rnd *rand.Rand, t *api.Tables) {
	rnd.Shuffle(len(t.Marks), func(i, j int) { t.Marks[i], t.Marks[j] = t.Marks[j], t.Marks[i] })
	rnd.Shuffle(len(t.Pairs), func(i, j int) { t.Pairs[i], t.Pairs[j] = t.Pairs[j], t.Pairs[i] })
	rnd.Shuffle(len(t.Folds), func(i, j int) { t.Folds[i], t.Folds[j] = t.Folds[j], t.Folds[i] })
	rnd.Shuffle(len(t.Looks), func(i, j int) { t.Looks[i], t.Looks[j] = t.Looks[j], t.Looks[i] })
}

// rightSpans makes up to n spans from lo on that sets.Right takes; now and then one goes over the gap.
func rightSpans(rnd *rand.Rand, lo, n int) []api.Span {
	var l []api.Span
	for range rnd.Intn(n + 1) {
		hi := lo + rnd.Intn(3)
		l = append(l, span(rune(lo), rune(hi)))
		lo = hi + 1 + rnd.Intn(3)
	}
	if rnd.Intn(3) == 0 {
		l = append(l, span(0xd7ff, 0xe000))
	}
	return l
}

func drawTo(rnd *rand.Rand, l []rune, n int) string {
	var to []rune
	for range n {
		to = append(to, pick(rnd, l))
	}
	return string(to)
}

// odd are numbers at which something changes, and some that the tables above speak of.
func odd(rnd *rand.Rand, t api.Tables) rune {
	if rnd.Intn(3) > 0 {
		return pick(rnd, numbers(t))
	}
	return pick(rnd, []rune{-1, 0, 0x1f, 0x20, '-', '.', '/', '0', '9', ':', '@', 'A', 'Z', '[', '`', 'a', 'z', '{', 0x7f, 0x80, 0x300, 0x301, 0x1e00, 0x1e01, 0x2000, 0x400, 0x500, 0xd7ff, 0xd800, 0xdfff, 0xe000, 0xfffc, 0xfffd, 0xfffe, 0x10ffff, 0x110000})
}

// spoil changes one thing, so that the table may be right or wrong behind it.
func spoil(rnd *rand.Rand, t *api.Tables) {
	r := odd(rnd, *t)
	switch rnd.Intn(10) {
	case 0:
		spoilScript(rnd, t)
	case 1:
		t.Common = spoilSpans(rnd, t.Common, r)
	case 2:
		t.Drops = spoilSpans(rnd, t.Drops, r)
	case 3:
		t.Allowed = spoilSpans(rnd, t.Allowed, r)
	case 4:
		t.Marks = put(rnd, t.Marks, api.Mark{Rune: r, Class: pick(rnd, []int{-1 << 40, -1, 0, 1, 254, 255, 256, 1<<32 + 1})})
	case 5:
		tie(rnd, t.Pairs)
	case 6:
		p := api.Pair{Whole: r, Base: odd(rnd, *t), Mark: odd(rnd, *t)}
		if len(t.Pairs) > 0 && rnd.Intn(3) > 0 {
			p = pick(rnd, t.Pairs)
			*pick(rnd, []*rune{&p.Whole, &p.Base, &p.Mark}) = r
		}
		t.Pairs = put(rnd, t.Pairs, p)
	case 7, 8:
		t.Folds = put(rnd, t.Folds, oddMap(rnd, *t, t.Folds))
	default:
		t.Looks = put(rnd, t.Looks, oddMap(rnd, *t, t.Looks))
	}
}

// tie puts wholes for some bases: chains grow longer, and come round.
func tie(rnd *rand.Rand, l []api.Pair) {
	if rnd.Intn(2) == 0 {
		for i := 1; i < len(l); i++ {
			l[i].Base = l[i-1].Whole
		}
		return
	}
	for range len(l) {
		l[rnd.Intn(len(l))].Base = pick(rnd, l).Whole
	}
}

// put lays a row between the others, or in the place of one.
func put[E any](rnd *rand.Rand, l []E, x E) []E {
	i := rnd.Intn(len(l) + 1)
	l = slices.Insert(slices.Clone(l), i, x)
	if i+1 < len(l) && rnd.Intn(2) == 0 {
		l = slices.Delete(l, i+1, i+2)
	}
	return l
}

func oddMap(rnd *rand.Rand, t api.Tables, l []api.Map) api.Map {
	m := api.Map{From: odd(rnd, t), To: drawTo(rnd, []rune{'a', 0x900}, 1+rnd.Intn(2))}
	if len(l) > 0 && rnd.Intn(2) == 0 {
		m = pick(rnd, l)
		switch n := rnd.Intn(8); n {
		case 0:
			m.To = ""
		case 1:
			m.To += pick(rnd, []string{"\xff", "\xc3", "\xed\xa0\x80", "abcd", "abc"})
		default:
			m.To = drawTo(rnd, append(slices.DeleteFunc(numbers(t), func(r rune) bool { return !isRune(r) }), 'a'), 1) + "a"
		}
	}
	return m
}

func spoilScript(rnd *rand.Rand, t *api.Tables) {
	s := api.Script{Name: pick(rnd, []string{"", "A", "-a", "9a", "a", "a b", "latin", "z-9", "\xff", strings.Repeat("y", 32), strings.Repeat("y", 33)})}
	if len(t.Scripts) > 0 && rnd.Intn(2) == 0 {
		s = pick(rnd, t.Scripts)
		if rnd.Intn(3) > 0 {
			s.Name = "fresh"
			s.Spans = spoilSpans(rnd, s.Spans, odd(rnd, *t))
		}
	}
	t.Scripts = put(rnd, t.Scripts, s)
}

func spoilSpans(rnd *rand.Rand, l []api.Span, r rune) []api.Span {
	l = slices.Clone(l)
	if len(l) == 0 || rnd.Intn(4) == 0 {
		return put(rnd, l, span(r, r+rune(rnd.Intn(2))))
	}
	i := rnd.Intn(len(l))
	switch rnd.Intn(4) {
	case 0:
		l[i].Lo = r
	case 1:
		l[i].Hi = r
	case 2:
		return slices.Delete(l, i, i+1)
	default:
		l[i].Lo, l[i].Hi = l[i].Lo+rune(rnd.Intn(3)-1), l[i].Hi+rune(rnd.Intn(3)-1)
	}
	return l
}
