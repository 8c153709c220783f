package shut_test

import (
	"math/rand"
	"strings"
	"testing"

	"guise/api"
	"guise/open"
	"guise/shut"
	"guise/standard"
	"guise/tables"
	"guise/utf"
)

// holds asks of one text all that the chapter says to follow.
func holds(t *testing.T, b *tables.Book, s string) {
	t.Helper()
	opened, form := open.Open(b, s), shut.Shut(b, s)
	if again := open.Open(b, form); again != opened {
		t.Errorf("P10.3: %+q: Open of %+q is %+q, want %+q", s, form, again, opened)
	}
	if twice := shut.Shut(b, form); twice != form {
		t.Errorf("P10.3: %+q: %+q, then %+q", s, form, twice)
	}
	if again := shut.Shut(b, opened); again != form {
		t.Errorf("P10.3: %+q: %+q, and of its open form %+q", s, form, again)
	}
	if p, ok := shut.First(b, form); ok {
		t.Errorf("P10.3: %+q: %+q is not shut at %+v", s, form, p)
	}
	if utf.Count(form) > utf.Count(opened) {
		t.Errorf("P10.4: %+q: %+q has more runes than %+q", s, form, opened)
	}
	if p, ok := utf.Valid(form); !ok {
		t.Errorf("%+q: %+q is not valid at %+v", s, form, p)
	}
	for at, x := range utf.Spots(s) {
		if b.Class(x.Rune) > 0 {
			continue
		}
		if head, tail := shut.Shut(b, s[:at]), shut.Shut(b, s[at:]); head+tail != form {
			t.Errorf("P10.5: %+q at %d: %+q and %+q, want %+q", s, at, head, tail, form)
		}
	}
}

func TestP10_3To5EachText(t *testing.T) {
	b := book(t)
	eachText(func(s string) { holds(t, b, s) })
}

func TestP10_3To5DrawnTables(t *testing.T) {
	pick := rand.New(rand.NewSource(103))
	for range 100 {
		x := drawTable(pick)
		b := bookOf(t, x)
		for range 100 {
			holds(t, b, drawRunes(pick, x))
		}
	}
}

// W1, P10.3: each text held against each: they have one shut form just if they have one open form, and that is so of different texts, too.
func TestP10_3EachPair(t *testing.T) {
	b := book(t)
	texts := append([]string{""}, bits...)
	for _, first := range bits[:20] {
		for _, second := range bits[:20] {
			texts = append(texts, first+second)
			for _, third := range bits[:5] {
				texts = append(texts, first+second+third)
			}
		}
	}
	shutOf, openOf := map[string]string{}, map[string]string{} // by the other form
	unlike := 0
	for _, s := range texts {
		opened, form := open.Open(b, s), shut.Shut(b, s)
		if other, ok := shutOf[opened]; ok && other != form {
			t.Errorf("%+q is open %+q: shut %+q and %+q", s, opened, form, other)
		}
		if other, ok := openOf[form]; ok && other != opened {
			t.Errorf("%+q is shut %+q: open %+q and %+q", s, form, opened, other)
		} else if ok {
			unlike++
		}
		shutOf[opened], openOf[form] = form, opened
	}
	if unlike == 0 {
		t.Error("no two texts have one form")
	}
}

func TestP10_5Pieces(t *testing.T) {
	b := book(t)
	eachText(func(s string) {
		var parts []string
		from := 0
		for at, x := range utf.Spots(s) {
			if at > 0 && b.Class(x.Rune) == 0 {
				parts = append(parts, shut.Shut(b, s[from:at]))
				from = at
			}
		}
		parts = append(parts, shut.Shut(b, s[from:]))
		if got, want := strings.Join(parts, ""), shut.Shut(b, s); got != want {
			t.Errorf("%+q in pieces: %+q, want %+q", s, got, want)
		}
	})
}

// The runs, with the table that they give and with that of the house.
func TestRuns(t *testing.T) {
	for _, b := range []*tables.Book{book(t), standard.Book()} {
		for _, run := range [][2]string{
			{"e" + acute, "\u00e9"},
			{"e" + dot + acute, "\u1eb9" + acute},
			{"e" + acute + dot, "\u1eb9" + acute},
			{"e" + hat + acute, "\u1ebf"},
			{"e" + acute + hat, "\u00e9" + hat},
			{acute + "e", acute + "e"},
			{"e" + acute + acute, "\u00e9" + acute},
		} {
			if got := shut.Shut(b, run[0]); got != run[1] {
				t.Errorf("Shut(%+q): %+q, want %+q", run[0], got, run[1])
			}
		}
		if p, ok := shut.First(b, "e"+acute); p != place(0, 0) || !ok {
			t.Errorf("First: %+v, %v", p, ok)
		}
	}
}

func TestExamples(t *testing.T) {
	b := book(t)
	if got := shut.Shut(b, "e"+acute+dot); got != "\u1eb9"+acute {
		t.Errorf("class 220 behind 230: %+q", got)
	}
	if got := shut.Shut(b, "e"+hat+acute); got != "\u1ebf" {
		t.Errorf("two of one class, the first not laid down: %+q", got)
	}
	if got := shut.Shut(b, "\u0435"+hat+acute); got != "\u0435"+hat+acute {
		t.Errorf("two of one class on what makes no whole: %+q", got)
	}
	x := table()
	x.Pairs = []api.Pair{{Whole: 0xe9, Base: 'e', Mark: 0x301}}
	if got := shut.Shut(bookOf(t, x), "e"+hat+acute); got != "e"+hat+acute {
		t.Errorf("two of one class, the first laid down: %+q", got)
	}
	x.Pairs = nil
	for _, s := range []string{"", "abc", "e" + dot + acute, acute + "\ufffd" + hat, "\u00e9"} {
		if got := shut.Shut(bookOf(t, x), s); got != s {
			t.Errorf("without pairs %+q: %+q", s, got)
		}
	}
}
