package open_test

import (
	"slices"
	"testing"

	"guise/api"
	"guise/open"
	"guise/standard"
	"guise/utf"
)

func TestP9_1ByHand(t *testing.T) {
	b := book(t)
	for r, want := range map[rune][]rune{
		'e':      {'e'},
		0:        {0},
		0x301:    {0x301},
		0xfffd:   {0xfffd},
		0x200d:   {0x200d}, // nothing is dropped, folded or looked at here
		'E':      {'E'},
		0x435:    {0x435},
		0xe9:     {'e', 0x301},
		0xc9:     {'E', 0x301},
		0xea:     {'e', 0x302},
		0x1ebf:   {'e', 0x302, 0x301},
		0x1ec7:   {'e', 0x302, 0x323}, // as the pairs stand in one another, whatever the classes
		0xfdd0:   {0xfffd, 0x323},
		0x1f600:  {0x1f600},
		0x1f601:  {0x1f600, 0x1d165},
		0x1f602:  {0x1f600, 0x1d165, 0x302},
		0x1f603:  {0x1f600, 0x1d165, 0x302, 0x323},
		0x1f604:  {0x1f600, 0x1d165, 0x302, 0x323, 0x20d2},
		0x10ffff: {0x10ffff},
	} {
		if l := open.Rune(b, r); !slices.Equal(l, want) {
			t.Errorf("%U: %U, want %U", r, l, want)
		}
	}
}

// What is no rune is no whole: it is answered alone.
func TestP9_1NoRunes(t *testing.T) {
	b := book(t)
	for _, r := range []rune{-1, -0x80000000, 0xd800, 0xdfff, 0x110000, 0x7fffffff} {
		if l := open.Rune(b, r); !slices.Equal(l, []rune{r}) {
			t.Errorf("%d: %d", r, l)
		}
	}
}

// Of every rune, in the table of the runs and in that of the house.
func TestP9_1EveryRune(t *testing.T) {
	for _, x := range []api.Tables{table(), standard.Book().Tables()} {
		b := bookOf(t, x)
		for r := rune(0); r <= 0x10ffff; r++ {
			l := open.Rune(b, r)
			if _, _, whole := b.Pair(r); !whole {
				if len(l) != 1 || l[0] != r {
					t.Errorf("%U: %U", r, l)
				}
				continue
			}
			if want := wantRune(x, r); !slices.Equal(l, want) {
				t.Errorf("%U: %U, want %U", r, l, want)
			}
			if len(l) > api.MaxDeep+1 || isWhole(x, l[0]) || classOf(x, l[0]) != 0 {
				t.Errorf("%U: %U", r, l)
			}
		}
	}
}

// What is a whole hangs on the table: in one without pairs there is none.
func TestP9_1OtherTable(t *testing.T) {
	x := table()
	x.Pairs = nil
	b := bookOf(t, x)
	for _, p := range table().Pairs {
		if l := open.Rune(b, p.Whole); !slices.Equal(l, []rune{p.Whole}) {
			t.Errorf("%U: %U", p.Whole, l)
		}
	}
}

// An answer is new memory, its spare room too: what is done to it changes no other one.
func TestP9_1NewMemory(t *testing.T) {
	b, x := book(t), table()
	var all [][]rune
	l := utf.Runes("e" + acute + "\u00e9\u1ebf" + deepest)
	for range 2 {
		for _, r := range l {
			all = append(all, open.Rune(b, r))
		}
	}
	for i, got := range all {
		if want := wantRune(x, l[i%len(l)]); !slices.Equal(got, want) {
			t.Errorf("answer %d: %U, want %U", i, got, want)
		}
		got = got[:cap(got)]
		for j := range got {
			got[j] = 'x'
		}
	}
	for _, r := range l {
		if got, want := open.Rune(b, r), wantRune(x, r); !slices.Equal(got, want) {
			t.Errorf("%U behind a change of answers: %U, want %U", r, got, want)
		}
	}
}

func TestP9_1NilBook(t *testing.T) {
	for _, r := range []rune{-1, 0, 'e', 0xe9, 0x301, 0xd800} {
		if l := open.Rune(nil, r); len(l) != 0 {
			t.Errorf("%U: %U", r, l)
		}
	}
}
