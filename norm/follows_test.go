package norm_test

import (
	"math/rand"
	"slices"
	"strings"
	"testing"

	"guise/api"
	"guise/fold"
	"guise/marks"
	"guise/norm"
	"guise/open"
	"guise/shut"
	"guise/standard"
	"guise/strip"
	"guise/tables"
	"guise/utf"
)

// holds asks of one text all that the chapter says to follow.
func holds(t *testing.T, b *tables.Book, s string) {
	t.Helper()
	form := norm.Norm(b, s)
	if twice := norm.Norm(b, form); twice != form {
		t.Errorf("P13.5: %+q: %+q, then %+q", s, form, twice)
	}
	if p, ok := utf.Valid(form); !ok {
		t.Errorf("P13.5: %+q: %+q is not valid at %+v", s, form, p)
	}
	if p, ok := norm.First(b, form); ok {
		t.Errorf("P13.5: %+q: %+q is not normal at %+v", s, form, p)
	}
	for _, other := range []string{strip.Strip(b, s), open.Open(b, s), shut.Shut(b, s), marks.Order(b, s), fold.Fold(b, s), utf.Clean(s)} {
		if got := norm.Norm(b, other); got != form {
			t.Errorf("P13.5: %+q: %+q, and of %+q %+q", s, form, other, got)
		}
	}
	holdsCut(t, b, s, form)
	holdsTwice(t, b, s)
}

func holdsCut(t *testing.T, b *tables.Book, s, form string) {
	t.Helper()
	for at := range len(s) + 1 {
		if !norm.Safe(b, s, at) {
			continue
		}
		if head, tail := norm.Norm(b, s[:at]), norm.Norm(b, s[at:]); head+tail != form {
			t.Errorf("P13.6: %+q at %d: %+q and %+q, want %+q", s, at, head, tail, form)
		}
	}
	var parts strings.Builder
	from := 0
	for at := range norm.Cuts(b, s) {
		parts.WriteString(norm.Norm(b, s[from:at]))
		from = at
	}
	parts.WriteString(norm.Norm(b, s[from:]))
	if parts.String() != form {
		t.Errorf("P13.6: %+q in pieces: %+q, want %+q", s, parts.String(), form)
	}
}

func holdsTwice(t *testing.T, b *tables.Book, s string) {
	t.Helper()
	run := func(names ...string) string {
		text, e := norm.Run(b, s, names...)
		if e != api.OK {
			t.Errorf("P13.7: %+q by %q: %v", s, names, e)
		}
		return text
	}
	for _, name := range norm.Passes() {
		if once, twice := run(name), run(name, name); once != twice {
			t.Errorf("P13.7: %s of %+q: %+q, then %+q", name, s, once, twice)
		}
	}
	if once, both := run("open"), run("shut", "open"); once != both {
		t.Errorf("P13.7: %+q: open %+q, behind shut %+q", s, once, both)
	}
	if once, both := run("shut"), run("open", "shut"); once != both {
		t.Errorf("P13.7: %+q: shut %+q, behind open %+q", s, once, both)
	}
}

func TestP13_5To7EachText(t *testing.T) {
	b := book(t)
	eachText(func(s string) { holds(t, b, s) })
}

func TestP13_5To7OtherTables(t *testing.T) {
	for _, x := range append(otherTables(), standard.Book().Tables()) {
		b := bookOf(t, x)
		eachShort(2, func(s string) { holds(t, b, s) })
		eachDrawn(func(s string) { holds(t, b, s) })
	}
}

func TestP13_5To7DrawnTables(t *testing.T) {
	pick := rand.New(rand.NewSource(135))
	for range 200 {
		b := bookOf(t, drawTable(pick))
		for range 50 {
			holds(t, b, drawRunes(pick))
		}
	}
}

// fewTexts are all texts of up to two of the bits, and some of three, among them many with one form.
func fewTexts() []string {
	var l []string
	eachShort(2, func(s string) { l = append(l, s) })
	for _, first := range []string{"e", "E", sharp, "\xc3", small, great} {
		for _, second := range bits[:8] {
			for _, third := range bits[:8] {
				l = append(l, first+second+third)
			}
		}
	}
	return l
}

// P13.5, W1: by whichever form two texts are twins, they have one normal form. And it is one just if they are one, stripped, opened and folded.
func TestP13_5Twins(t *testing.T) {
	b := book(t)
	byForm := map[string]string{} // a form's name and text: the normal form
	both, unlike := map[string]string{}, 0
	for _, s := range fewTexts() {
		form := norm.Norm(b, s)
		for name, text := range map[string]string{
			"open":  open.Open(b, s),
			"shut":  shut.Shut(b, s),
			"strip": strip.Strip(b, s),
			"fold":  fold.Fold(b, open.Open(b, s)),
			"all":   fold.Fold(b, open.Open(b, strip.Strip(b, s))),
		} {
			if other, ok := byForm[name+" "+text]; ok && other != form {
				t.Errorf("%+q is %s %+q: normal %+q and %+q", s, name, text, form, other)
			}
			byForm[name+" "+text] = form
		}
		bare := fold.Fold(b, open.Open(b, strip.Strip(b, s)))
		if other, ok := both[form]; ok && other != bare {
			t.Errorf("%+q is normal %+q: %+q and %+q", s, form, bare, other)
		} else if ok {
			unlike++
		}
		both[form] = bare
	}
	if unlike == 0 {
		t.Error("no two texts have one form")
	}
}

// The twins of the layers below, asked by their own calls.
func TestP13_5TwinsAsked(t *testing.T) {
	b, met := book(t), 0
	texts := fewTexts()
	for i := 0; i < len(texts); i += 3 {
		for j := 0; j < i; j++ {
			s, other := texts[i], texts[j]
			if strip.Same(b, s, other) || open.Twins(b, s, other) || fold.Twins(b, s, other) {
				met++
				if form, its := norm.Norm(b, s), norm.Norm(b, other); form != its {
					t.Fatalf("%+q, %+q: %+q, %+q", s, other, form, its)
				}
			}
		}
	}
	if met == 0 {
		t.Error("no twins")
	}
}

// At a place that is not safe the parts' forms may be others.
func TestP13_6NotSafe(t *testing.T) {
	b := book(t)
	for s, at := range map[string]int{"e" + acute: 1, "e" + zero + acute: 1, "e" + zero + acute + "x": 4, "\xc3\xa9": 1, "x" + acute + dot: 3} {
		if norm.Safe(b, s, at) || norm.Norm(b, s[:at])+norm.Norm(b, s[at:]) == norm.Norm(b, s) {
			t.Errorf("%+q at %d", s, at)
		}
	}
}

// The runs, with a table that has just what they ask for, with one without that whole, and with others that have more.
func TestRuns(t *testing.T) {
	x := table()
	x.Looks, x.Scripts = nil, nil
	x.Drops = []api.Span{{Lo: 0x200d, Hi: 0x200d}}
	x.Marks = []api.Mark{{Rune: 0x301, Class: 230}, {Rune: 0x302, Class: 230}, {Rune: 0x323, Class: 220}}
	x.Pairs = []api.Pair{{Whole: 0xe9, Base: 'e', Mark: 0x301}, {Whole: 0x1ebf, Base: 0xea, Mark: 0x301}, {Whole: 0xea, Base: 'e', Mark: 0x302}}
	x.Folds = []api.Map{{From: 'A', To: "a"}}
	without := bookOf(t, x)
	x.Pairs = append(x.Pairs, api.Pair{Whole: 0xe1, Base: 'a', Mark: 0x301})
	for want, l := range map[string][]*tables.Book{"\u00e1": {bookOf(t, x), standard.Book()}, "a" + acute: {without, book(t)}} {
		for _, b := range l {
			run := func(names ...string) string {
				s, e := norm.Run(b, "A", names...)
				if e != api.OK {
					return e.Error()
				}
				return s
			}
			if got := norm.Norm(b, "A"+zero+acute); got != want {
				t.Errorf("Norm: %+q, want %+q", got, want)
			}
			if run("fold", "shut") != "a" || run() != "A" || run("Fold") != api.ErrPass.Error() {
				t.Errorf("Run: %q, %q, %q", run("fold", "shut"), run(), run("Fold"))
			}
			if !norm.Safe(b, "ab", 1) || norm.Safe(b, "a"+zero+acute, 1) || norm.Safe(b, "a"+zero+acute, 2) || !norm.Safe(b, "a"+zero+"b", 1) {
				t.Error("Safe")
			}
			if norm.Safe(b, "a"+zero+acute, 4) { // the place that the run's 2 stands for, were the dropped rune one byte
				t.Error("Safe between the dropped rune and the mark")
			}
			if norm.Safe(b, "\u00e9", 1) {
				t.Error("Safe within a rune")
			}
			if got := norm.Join(b, "\xc3", "\xa9"); got != "\u00e9" {
				t.Errorf("Join: %+q", got)
			}
		}
	}
}

func TestExamples(t *testing.T) {
	b := book(t)
	for _, s := range []string{"\xff", "\xff\xfe", "\xc3\xc3", "\xed\xa0\x80", "\xf4\x90\x80\x80", "\x80\xbf\xc0\xc1"} {
		if got := norm.Norm(b, s); got != strings.Repeat("\ufffd", len(s)) {
			t.Errorf("1: %+q: %+q", s, got)
		}
	}
	if got := slices.Collect(norm.Cuts(b, "abc")); !slices.Equal(got, []int{1, 2}) {
		t.Errorf("2: %v", got)
	}
	if got, e := norm.Run(b, "a", slices.Repeat([]string{"fold"}, 17)...); got != "" || e != api.ErrMany {
		t.Errorf("3: %+q, %v", got, e)
	}
}
