package look_test

import (
	"math"
	"slices"
	"testing"

	"guise/api"
	"guise/look"
	"guise/standard"
)

func TestP15_1ByHand(t *testing.T) {
	b := book(t)
	for r, want := range map[rune][]rune{
		'm':      {'r', 'n'},
		'0':      {'o'},
		'k':      {'|', 0x2039, 0x138},
		'A':      {'4'}, // it is not folded ahead of that
		'Q':      {'O'},
		' ':      {'_'},
		0x430:    {'a'},
		0x435:    {'e'},
		0x80:     {0x81},
		0xd7ff:   {0xe000},
		0xfffc:   {0xfffe},
		0x10ffff: {0x10fffe},
		0x1f601:  {0x1f611, 0x1f612, 0x1f613, 0x1f614},
		'x':      {'x'},
		'a':      {'a'},
		'o':      {'o'},
		'L':      {'L'}, // what is folded to l does not look like it here
		'M':      {'M'},
		0xdf:     {0xdf},
		0xe9:     {0xe9}, // nothing is taken apart
		0x1e3f:   {0x1e3f},
		0x450:    {0x450},
		0x301:    {0x301},
		0x200d:   {0x200d}, // nothing is dropped
		0:        {0},
		0xe000:   {0xe000},
		0xfffd:   {0xfffd},
		0x10fffe: {0x10fffe},
	} {
		if l := look.Rune(b, r); !slices.Equal(l, want) {
			t.Errorf("%U: %U, want %U", r, l, want)
		}
	}
}

// What is no rune looks like nothing: it is answered alone.
func TestP15_1NoRunes(t *testing.T) {
	b := book(t)
	for _, r := range []rune{-1, math.MinInt32, 0xd800, 0xdfff, 0x110000, math.MaxInt32} {
		if l := look.Rune(b, r); !slices.Equal(l, []rune{r}) {
			t.Errorf("%d: %d", r, l)
		}
	}
}

// Of every rune, in these tables and in that of the house.
func TestP15_1EveryRune(t *testing.T) {
	for n, x := range append(otherTables(), table(), standard.Book().Tables()) {
		b := bookOf(t, x)
		like := map[rune][]rune{}
		for _, m := range x.Looks {
			like[m.From] = []rune(m.To)
		}
		for r := rune(0); r <= 0x10ffff; r++ {
			want := like[r]
			if want == nil {
				want = []rune{r}
			}
			if l := look.Rune(b, r); !slices.Equal(l, want) {
				t.Errorf("%d: %U: %U, want %U", n, r, l, want)
			}
		}
	}
}

// An answer is new memory, its spare room too: what is done to it changes no other one, and not the Book.
func TestP15_1NewMemory(t *testing.T) {
	b, x := book(t), table()
	l := []rune{'m', '0', 'k', 0x1f601, 'b', 0xc9, 'm', 'k'}
	var all [][]rune
	for _, r := range l {
		all = append(all, look.Rune(b, r))
	}
	for i, got := range all {
		if want := wantRune(x, l[i]); !slices.Equal(got, want) {
			t.Errorf("answer %d: %U, want %U", i, got, want)
		}
		got = got[:cap(got)]
		for j := range got {
			got[j] = 'x'
		}
	}
	for _, r := range l {
		if got, want := look.Rune(b, r), wantRune(x, r); !slices.Equal(got, want) {
			t.Errorf("%U behind a change of answers: %U, want %U", r, got, want)
		}
		if s := string(r); look.Skeleton(b, s) != wantSkeleton(x, s) {
			t.Errorf("%+q behind a change of answers: %+q", s, look.Skeleton(b, s))
		}
	}
}

func TestP15_1NilBook(t *testing.T) {
	for _, r := range []rune{-1, 0, 'm', 'x', 0x430, api.Bad, 0xd800} {
		if l := look.Rune(nil, r); len(l) > 0 {
			t.Errorf("%U: %U", r, l)
		}
	}
}
