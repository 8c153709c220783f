package whole_test

import (
	"slices"
	"strings"
	"testing"

	"guise/api"
	"guise/look"
	"guise/norm"
	"guise/open"
	"guise/script"
	"guise/shut"
	"guise/standard"
	"guise/strip"
	"guise/tables"
	"guise/utf"
	"guise/whole"
)

// holdsFound asks of one text what P16.6 says of what is found.
func holdsFound(t *testing.T, b *tables.Book, s string) {
	t.Helper()
	for n := range b.Names() {
		text, e := whole.Find(b, s, n)
		k, _ := whole.Reach(b, s, n)
		if runes := utf.Count(look.Skeleton(b, s)); (k == runes) != (e == api.OK) || k > runes {
			t.Errorf("P16.6: %+q, %d: %+q, %v, but Reach is %d of %d", s, n, text, e, k, runes)
		}
		if e != api.OK {
			continue
		}
		if !script.Can(b, text, n) || !look.Alike(b, s, text) {
			t.Errorf("P16.6: %+q, %d: %+q can be of %v, and looks like %+q", s, n, text, script.Of(b, text), look.Skeleton(b, text))
		}
		for _, r := range text {
			if !whole.Letter(b, r) {
				t.Errorf("P16.6: %+q, %d: %+q is not of letters", s, n, text)
			}
		}
	}
}

// holdsOthers asks of one text what P16.7 says.
func holdsOthers(t *testing.T, b *tables.Book, s string) {
	t.Helper()
	can, last := script.Of(b, s), -1
	l, _ := whole.Others(b, s)
	in, _ := whole.Scripts(b, s)
	for _, x := range l {
		if x.Text == s || slices.Contains(can, x.Script) || !slices.Contains(in, x.Script) || x.Script <= last {
			t.Errorf("P16.7: %+q can be of %v, others are of %v: %v", s, can, in, l)
		}
		last = x.Script
		for _, n := range script.Of(b, x.Text) {
			if n == x.Script && slices.Contains(can, n) {
				t.Errorf("P16.7: %+q: %v", s, x)
			}
		}
	}
	for _, n := range in {
		told := slices.ContainsFunc(l, func(x whole.Other) bool { return x.Script == n })
		if told == slices.Contains(can, n) {
			t.Errorf("P16.5: %+q can be of %v, others are of %v: %v", s, can, in, l)
		}
	}
}

// holdsAlike asks of two texts that are alike what P16.8 says.
func holdsAlike(t *testing.T, b *tables.Book, s, other string) {
	t.Helper()
	l, e := whole.Scripts(b, s)
	m, f := whole.Scripts(b, other)
	if !slices.Equal(l, m) || e != f {
		t.Errorf("P16.8: %+q: %v, %v, but %+q: %v, %v", s, l, e, other, m, f)
	}
	for n := range b.Names() {
		one, e := whole.Find(b, s, n)
		two, f := whole.Find(b, other, n)
		if one != two || e != f {
			t.Errorf("P16.8: %d: %+q: %+q, %v, but %+q: %+q, %v", n, s, one, e, other, two, f)
		}
	}
}

func TestP16_6To8EachText(t *testing.T) {
	asked := 0
	eachPair(t, func(k known, s string) {
		if asked++; asked%3 > 0 {
			return
		}
		holdsFound(t, k.b, s)
		holdsOthers(t, k.b, s)
		if asked%12 > 0 {
			return
		}
		for _, other := range []string{look.Skeleton(k.b, s), norm.Norm(k.b, s), shut.Shut(k.b, s), open.Open(k.b, s), strip.Strip(k.b, s), utf.Clean(s)} {
			holdsAlike(t, k.b, s, other)
		}
		for n := range k.b.Names() {
			if text, e := whole.Find(k.b, s, n); e == api.OK {
				holdsAlike(t, k.b, s, text)
			}
		}
	})
}

func TestP16_6To8House(t *testing.T) {
	b := standard.Book()
	for _, s := range []string{"", "copa", "\u0441\u043e\u0440\u0430", "c\u043epa", "p\u0430ypal", "11", "na\u00efve", "\u65e5\u672c", "\xff", "a\u0301"} {
		holdsFound(t, b, s)
		holdsOthers(t, b, s)
		holdsAlike(t, b, s, look.Skeleton(b, s))
		holdsAlike(t, b, s, norm.Norm(b, s))
	}
}

// eachOfLetters calls with all texts of up to so many letters of a script.
func eachOfLetters(k known, n, most int, call func(text string)) {
	var own []string
	for _, l := range k.signs {
		for _, c := range l {
			if c.of[n] {
				own = append(own, c.text)
			}
		}
	}
	slices.Sort(own)
	texts := []string{""}
	for range most + 1 {
		var longer []string
		for _, text := range texts {
			call(text)
			for _, c := range own {
				longer = append(longer, text+c)
			}
		}
		texts = longer
	}
}

// fewLetters is a table with few letters that can be put together in many ways.
func fewLetters() api.Tables {
	x := table()
	x.Scripts[latin].Spans = []api.Span{{Lo: 'a', Hi: 'd'}, {Lo: 'm', Hi: 'o'}, {Lo: 'r', Hi: 'r'}, {Lo: 0xe9, Hi: 0xe9}}
	x.Scripts[odd].Spans = []api.Span{{Lo: 'n', Hi: 'n'}, {Lo: 'r', Hi: 'r'}, {Lo: 0x431, Hi: 0x434}, {Lo: 0x1e900, Hi: 0x1e906}}
	x.Scripts[cyrillic].Spans = []api.Span{{Lo: 0x430, Hi: 0x437}, {Lo: 0x450, Hi: 0x450}}
	x.Scripts[greek].Spans = []api.Span{{Lo: 0x3b1, Hi: 0x3c0}}
	return x
}

// All texts of up to three letters of a script: what is told of each is the best of all that look like it, be they put together as they may.
func TestP16_6Best(t *testing.T) {
	k := know(t, fewLetters())
	for n := range k.x.Scripts {
		best := map[string]string{} // by skeletons
		eachOfLetters(k, n, 3, func(text string) {
			skeleton := look.Skeleton(k.b, text)
			was, met := best[skeleton]
			fewer := utf.Count(text) < utf.Count(was)
			if !met || fewer || utf.Count(text) == utf.Count(was) && text < was {
				best[skeleton] = text
			}
		})
		if len(best) < 1000 {
			t.Errorf("%d: %d texts", n, len(best))
		}
		for skeleton, text := range best {
			if got, e := whole.Find(k.b, skeleton, n); got != text || e != api.OK {
				t.Errorf("%d: %+q: %+q, %v, want %+q", n, skeleton, got, e, text)
			}
		}
	}
}

// Of each text of letters something is found, of no more runes.
func TestP16_6NoMore(t *testing.T) {
	k := know(t, fewLetters())
	for n := range k.x.Scripts {
		eachOfLetters(k, n, 2, func(text string) {
			got, e := whole.Find(k.b, text, n)
			if e != api.OK || utf.Count(got) > utf.Count(text) || utf.Count(got) == utf.Count(text) && got > text {
				t.Errorf("%d: %+q: %+q, %v", n, text, got, e)
			}
		})
	}
}

// The skeleton of a text of letters is their pieces.
func TestPieces(t *testing.T) {
	for _, x := range append(otherTables()[2:6], fewLetters()) {
		k := know(t, x)
		for n := range k.x.Scripts {
			eachOfLetters(k, n, 2, func(text string) {
				pieces := ""
				for _, r := range text {
					piece, _ := whole.Piece(k.b, r)
					pieces += piece
				}
				if got := look.Skeleton(k.b, text); got != pieces {
					t.Errorf("%+q: %+q, want %+q", text, got, pieces)
				}
			})
		}
	}
}

// Texts that are alike, but one is too long: what is told of the one is not of the other.
func TestP16_8Long(t *testing.T) {
	b := book(t)
	s := "a" + strings.Repeat(zero, 21845)
	if l, e := whole.Scripts(b, s); len(l) != 3 || e != api.OK || !look.Alike(b, s, s+zero) {
		t.Errorf("%v, %v", l, e)
	}
	neither(t, b, s+zero, api.ErrLong)
	nothing(t, b, s+zero, latin, api.ErrLong)
}

// runsTable has what the chapter's runs ask for.
func runsTable() api.Tables {
	return api.Tables{
		Scripts: []api.Script{{Name: "latin", Spans: []api.Span{{Lo: 'a', Hi: 'z'}}}, {Name: "cyrillic", Spans: []api.Span{{Lo: 0x430, Hi: 0x44f}}}},
		Common:  []api.Span{{Lo: '-', Hi: '9'}},
		Marks:   []api.Mark{{Rune: 0x301, Class: 230}},
		Looks:   []api.Map{{From: 0x430, To: "a"}, {From: 0x43e, To: "o"}, {From: 0x440, To: "p"}, {From: 0x441, To: "c"}, {From: '1', To: "l"}},
		Allowed: []api.Span{{Lo: '-', Hi: '-'}, {Lo: '0', Hi: '9'}, {Lo: 'a', Hi: 'z'}, {Lo: 0x301, Hi: 0x301}, {Lo: 0x430, Hi: 0x44f}},
	}
}

// The runs, with the chapter's table, and with one that has more scripts, marks, pairs, folds, looks of more runes.
func TestRuns(t *testing.T) {
	more := runsTable()
	more.Scripts = append(more.Scripts, api.Script{Name: "greek", Spans: []api.Span{{Lo: 0x3b1, Hi: 0x3c9}}})
	more.Marks = append(more.Marks, api.Mark{Rune: 0x323, Class: 220})
	more.Pairs = []api.Pair{{Whole: 0xe9, Base: 'e', Mark: 0x301}}
	more.Folds = []api.Map{{From: 'A', To: "a"}, {From: 0xdf, To: "ss"}}
	more.Looks = append(more.Looks, api.Map{From: 'm', To: "rn"}, api.Map{From: 0x448, To: "lll"})
	for i, x := range []api.Tables{runsTable(), more} {
		b := bookOf(t, x)
		find := func(s string, n int, want string, why api.Errno) {
			t.Helper()
			if got, e := whole.Find(b, s, n); got != want || e != why {
				t.Errorf("Find(%+q, %d): %+q, %v", s, n, got, e)
			}
		}
		scripts := func(s string, want ...int) {
			t.Helper()
			if got, e := whole.Scripts(b, s); !slices.Equal(got, want) || e != api.OK {
				t.Errorf("Scripts(%+q): %v, %v", s, got, e)
			}
		}
		others := func(s string, want ...whole.Other) {
			t.Helper()
			if got, e := whole.Others(b, s); !slices.Equal(got, want) || e != api.OK {
				t.Errorf("Others(%+q): %v, %v", s, got, e)
			}
		}
		piece := func(r rune, want string, is bool) {
			t.Helper()
			if got, ok := whole.Piece(b, r); got != want || ok != is {
				t.Errorf("Piece(%#x): %+q, %v", r, got, ok)
			}
		}
		sora := "\u0441\u043e\u0440\u0430"
		find(sora, 0, "copa", api.OK)
		find("copa", 1, sora, api.OK)
		find("cop", 0, "cop", api.OK)
		find("cat", 1, "", api.ErrNone)
		if k, e := whole.Reach(b, "cat", 1); k != 2 || e != api.OK {
			t.Errorf("Reach: %d, %v", k, e)
		}
		find("ca", 1, es+ah, api.OK)
		find("11", 1, "11", api.OK)
		find("l", 1, "1", api.OK)
		find("l", 0, "1", api.OK)
		find("\xff", 0, "", api.ErrNone)
		find(acute, 0, "", api.ErrNone)
		find("", 1, "", api.OK)
		find("a", len(x.Scripts), "", api.ErrArg)
		find("a", -1, "", api.ErrArg)
		scripts("copa", 0, 1)
		scripts("cat", 0)
		if i == 0 {
			scripts("1", 0, 1)
		}
		others("copa", whole.Other{Script: 1, Text: sora})
		others(sora, whole.Other{Script: 0, Text: "copa"})
		others("c\u043epa", whole.Other{Script: 0, Text: "copa"}, whole.Other{Script: 1, Text: sora})
		piece(0x430, "a", true)
		piece('.', "", false)
		piece(0x301, "", false)
	}
}

func TestExamples(t *testing.T) {
	b := book(t)
	if got, e := whole.Find(b, "rn", latin); got != "m" || e != api.OK {
		t.Errorf("1: %+q, %v", got, e)
	}
	if got, e := whole.Find(b, "e"+acute, latin); got != small || e != api.OK {
		t.Errorf("2: %+q, %v", got, e)
	}
	for _, s := range []string{"0", "12", "2026-11", "9-9", ""} {
		if got, e := whole.Others(b, s); len(got) > 0 || e != api.OK {
			t.Errorf("3: %+q: %v, %v", s, got, e)
		}
		if l, e := whole.Scripts(b, s); len(l) != len(b.Names()) || e != api.OK {
			t.Errorf("3: %+q: %v, %v", s, l, e)
		}
	}
}
