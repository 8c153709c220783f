package script

import (
	"slices"

	"guise/tables"
	"guise/utf"
)

// boundTo tells the scripts that a spot is bound to, or that it is free.
func boundTo(b *tables.Book, x utf.Spot) (to []int, free bool) {
	switch {
	case x.Bad: // whatever the Book says of U+FFFD
		return nil, false
	case b.Common(x.Rune) || b.Class(x.Rune) > 0:
		return nil, true
	}
	return b.Scripts(x.Rune), false
}

// ties are what spots that stand together can be of. That one of them is bound is told apart: no script is left to free ones either, if the Book has none.
type ties struct {
	scripts []int // rising
	bound   bool
}

// untied are the ties of no spots.
func untied(b *tables.Book) ties {
	var t ties
	for n := range b.Names() {
		t.scripts = append(t.scripts, n)
	}
	return t
}

// with are the ties if one more spot stands there.
func (t ties) with(b *tables.Book, x utf.Spot) ties {
	to, free := boundTo(b, x)
	if free {
		return t
	}
	return ties{scripts: both(t.scripts, to), bound: true}
}

func (t ties) mixed() bool { return t.bound && len(t.scripts) == 0 }

// both are the numbers of two rising lists that stand in the one and the other, in new memory.
func both(l, m []int) []int {
	var in []int
	for _, n := range l {
		if _, ok := slices.BinarySearch(m, n); ok {
			in = append(in, n)
		}
	}
	return in
}
