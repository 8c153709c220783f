package fold_test

import (
	"math"
	"slices"
	"testing"

	"guise/api"
	"guise/fold"
	"guise/standard"
)

func TestP12_1ByHand(t *testing.T) {
	b := book(t)
	for r, want := range map[rune][]rune{
		'A':      {'a'},
		'E':      {'e'},
		'Z':      {'z', 'z', 'z'},
		'L':      {'l'}, // what that looks like is not asked here
		0xdf:     {'s', 's'},
		0x212a:   {'k'},
		0x1f600:  {0x1f601, 0x1f602, 0x1f603, 0x1f604},
		0x80:     {0x81},
		0xfffc:   {'a', ' '},
		0xfffe:   {0xffff},
		0xd7ff:   {0xe001, 0xd7fe},
		0xe000:   {0x7f, 'a', 0x7f},
		0x10ffff: {0x10fffe, 0x10fffe},
		0:        {0},
		'a':      {'a'},
		'B':      {'B'},
		'@':      {'@'},
		'[':      {'['},
		'-':      {'-'},
		0xc9:     {0xc9}, // a whole is not folded, whatever its base is folded to
		0x1e901:  {0x1e901},
		0x301:    {0x301},
		0x200d:   {0x200d}, // nothing is dropped
		0x430:    {0x430},
		0xfffd:   {0xfffd},
	} {
		if l := fold.Rune(b, r); !slices.Equal(l, want) {
			t.Errorf("%U: %U, want %U", r, l, want)
		}
	}
}

// What is no rune is folded to nothing: it is answered alone.
func TestP12_1NoRunes(t *testing.T) {
	b := book(t)
	for _, r := range []rune{-1, math.MinInt32, 0xd800, 0xdfff, 0x110000, math.MaxInt32} {
		if l := fold.Rune(b, r); !slices.Equal(l, []rune{r}) {
			t.Errorf("%d: %d", r, l)
		}
	}
}

// Of every rune, in these tables and in that of the house.
func TestP12_1EveryRune(t *testing.T) {
	for n, x := range append(otherTables(), table(), standard.Book().Tables()) {
		b := bookOf(t, x)
		to := map[rune][]rune{}
		for _, m := range x.Folds {
			to[m.From] = []rune(m.To)
		}
		for r := rune(0); r <= 0x10ffff; r++ {
			want := to[r]
			if want == nil {
				want = []rune{r}
			}
			if l := fold.Rune(b, r); !slices.Equal(l, want) {
				t.Errorf("%d: %U: %U, want %U", n, r, l, want)
			}
		}
	}
}

// An answer is new memory, its spare room too: what is done to it changes no other one, and not the Book.
func TestP12_1NewMemory(t *testing.T) {
	b, x := book(t), table()
	l := []rune{'A', 0xdf, 'Z', 0x1f600, 'b', 0xc9, 'A', 0xdf}
	var all [][]rune
	for _, r := range l {
		all = append(all, fold.Rune(b, r))
	}
	for i, got := range all {
		if want := wantRune(x, l[i]); !slices.Equal(got, want) {
			t.Errorf("answer %d: %U, want %U", i, got, want)
		}
		got = got[:cap(got)]
		for j := range got {
			got[j] = 'x'
		}
	}
	for _, r := range l {
		if got, want := fold.Rune(b, r), wantRune(x, r); !slices.Equal(got, want) {
			t.Errorf("%U behind a change of answers: %U, want %U", r, got, want)
		}
		if s := string(r); fold.Fold(b, s) != wantFold(x, s) {
			t.Errorf("%+q behind a change of answers: %+q", s, fold.Fold(b, s))
		}
	}
}

func TestP12_1NilBook(t *testing.T) {
	for _, r := range []rune{-1, 0, 'A', 'b', 0xdf, api.Bad, 0xd800} {
		if l := fold.Rune(nil, r); len(l) != 0 {
			t.Errorf("%U: %U", r, l)
		}
	}
}
