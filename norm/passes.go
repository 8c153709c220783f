package norm

import (
	"guise/fold"
	"guise/marks"
	"guise/open"
	"guise/shut"
	"guise/strip"
	"guise/tables"
)

const maxPasses = 16 // of one Run

// pass makes a text of a text.
type pass func(s string) string

// with holds the Book that passes go by: its methods, as values, are passes.
type with struct{ book *tables.Book }

func (w with) fold(s string) string  { return fold.Fold(w.book, s) }
func (w with) open(s string) string  { return open.Open(w.book, s) }
func (w with) order(s string) string { return marks.Order(w.book, s) }
func (w with) shut(s string) string  { return shut.Shut(w.book, s) }
func (w with) strip(s string) string { return strip.Strip(w.book, s) }

// byName gives the passes that go by a Book.
func byName(b *tables.Book) map[string]pass {
	w := with{b}
	return map[string]pass{
		"fold":  w.fold,
		"open":  w.open,
		"order": w.order,
		"shut":  w.shut,
		"strip": w.strip,
	}
}

// through runs a text through passes, from the first one on.
func through(s string, passes ...pass) string {
	for _, p := range passes {
		s = p(s)
	}
	return s
}
