package open_test

import (
	"math/rand"
	"slices"
	"strings"
	"testing"
	"unicode/utf8"

	"guise/api"
	"guise/tables"
)

// What the chapter says, once more and in the slowest way, from the table's rows: the first rune is taken apart till it is no whole; neighbours that stand out of order are swapped till none do.

func classOf(t api.Tables, r rune) int {
	for _, m := range t.Marks {
		if m.Rune == r {
			return m.Class
		}
	}
	return 0
}

func isWhole(t api.Tables, r rune) bool {
	return slices.ContainsFunc(t.Pairs, func(p api.Pair) bool { return p.Whole == r })
}

func wantRune(t api.Tables, r rune) []rune {
	l := []rune{r}
	for again := true; again; {
		again = false
		for _, p := range t.Pairs {
			if p.Whole == l[0] {
				l = slices.Concat([]rune{p.Base, p.Mark}, l[1:])
				again = true
			}
		}
	}
	return l
}

func wantOpen(t api.Tables, s string) string {
	var l []rune
	for _, r := range s {
		l = append(l, wantRune(t, r)...)
	}
	for swapped := true; swapped; {
		swapped = false
		for i := 1; i < len(l); i++ {
			if c := classOf(t, l[i]); 0 < c && c < classOf(t, l[i-1]) {
				l[i-1], l[i] = l[i], l[i-1]
				swapped = true
			}
		}
	}
	return string(l)
}

func wantFirst(t api.Tables, s string) (api.Place, bool) {
	ahead := 0
	for at, n := 0, 0; at < len(s); n++ {
		r, width := utf8.DecodeRuneInString(s[at:])
		class := classOf(t, r)
		if r == utf8.RuneError && width == 1 || isWhole(t, r) || 0 < class && class < ahead {
			return place(at, n), true
		}
		at, ahead = at+width, class
	}
	return api.Place{}, false
}

func place(b, n int) api.Place { return api.Place{Byte: b, Rune: n} }

// The runes of the chapter's runs: acute and hat of class 230, dot of class 220; and marks of the classes at the ends, of three and of four bytes.
const (
	acute = "\u0301"
	hat   = "\u0302"
	dot   = "\u0323"
	low   = "\u20d2"
	high  = "\U0001d165"
)

// Wholes that the chapter has not.
const (
	dotted  = "\u1ec7"     // of e-hat and dot: what it is taken apart to is out of order
	deepest = "\U0001f604" // of as many pairs in one another as may be
	onBad   = "\ufdd0"     // of U+FFFD and dot
)

// table is that of the runs, its pairs in no order, with these wholes, a whole of a base that is folded, a dropped rune and one that looks like another.
func table() api.Tables {
	return api.Tables{
		Common: []api.Span{{Lo: '-', Hi: '9'}},
		Marks:  []api.Mark{{Rune: 0x301, Class: 230}, {Rune: 0x302, Class: 230}, {Rune: 0x323, Class: 220}, {Rune: 0x20d2, Class: 1}, {Rune: 0x1d165, Class: 254}},
		Pairs: []api.Pair{
			{Whole: 0x1f604, Base: 0x1f603, Mark: 0x20d2},
			{Whole: 0x1ebf, Base: 0xea, Mark: 0x301},
			{Whole: 0x1f602, Base: 0x1f601, Mark: 0x302},
			{Whole: 0xe9, Base: 'e', Mark: 0x301},
			{Whole: 0x1f601, Base: 0x1f600, Mark: 0x1d165},
			{Whole: 0xea, Base: 'e', Mark: 0x302},
			{Whole: 0x1f603, Base: 0x1f602, Mark: 0x323},
			{Whole: 0x1ec7, Base: 0xea, Mark: 0x323},
			{Whole: 0xfdd0, Base: 0xfffd, Mark: 0x323},
			{Whole: 0xc9, Base: 'E', Mark: 0x301},
		},
		Folds:   []api.Map{{From: 'E', To: "e"}},
		Looks:   []api.Map{{From: 0x435, To: "e"}},
		Drops:   []api.Span{{Lo: 0x200d, Hi: 0x200d}},
		Allowed: []api.Span{{Lo: '-', Hi: '-'}, {Lo: '0', Hi: '9'}, {Lo: 'a', Hi: 'z'}},
	}
}

func bookOf(t *testing.T, x api.Tables) *tables.Book {
	t.Helper()
	b, w := tables.New(x)
	if b == nil {
		t.Fatal(w)
	}
	return b
}

func book(t *testing.T) *tables.Book {
	t.Helper()
	return bookOf(t, table())
}

// bits are what the texts of eachText are made of: wholes, marks, what is neither, bad bytes, and pieces that are a whole or a mark only when they stand together.
var bits = []string{
	"\u00e9", "\u00ea", "\u1ebf", "\u00c9", dotted, deepest, onBad,
	acute, hat, dot, low, high,
	"e", "E", "\u0435", "\u200d", "\u0303", "\U0001f600", "\ufffd", "\x00",
	"\xff", "\xc3", "\xa9", "\xe2\x83", "\x92", "\xf0\x9f\x98",
}

// eachText calls with all texts of up to three of the bits, and longer ones picked by a fixed seed, most of them of wholes and marks.
func eachText(call func(s string)) {
	short := []string{""}
	call("")
	for range 3 {
		var next []string
		for _, s := range short {
			for _, bit := range bits {
				next = append(next, s+bit)
				call(s + bit)
			}
		}
		short = next
	}
	pick := rand.New(rand.NewSource(9))
	for range 2000 {
		call(drawText(pick, 4+pick.Intn(30)))
	}
}

func drawText(pick *rand.Rand, n int) string {
	var b strings.Builder
	for range n {
		from := bits
		if pick.Intn(4) > 0 {
			from = bits[:12]
		}
		b.WriteString(from[pick.Intn(len(from))])
	}
	return b.String()
}
