package shut_test

import (
	"math/rand"
	"slices"
	"strings"
	"testing"
	"unicode/utf8"

	"guise/api"
	"guise/open"
	"guise/tables"
)

// What the chapter says, once more and in the slowest way, from the table's rows: a mark looks back to its seat past the marks that are still there, and goes if it makes a whole with it.

func classOf(t api.Tables, r rune) int {
	for _, m := range t.Marks {
		if m.Rune == r {
			return m.Class
		}
	}
	return 0
}

func wantJoined(t api.Tables, base, mark rune) (rune, bool) {
	for _, p := range t.Pairs {
		if p.Base == base && p.Mark == mark {
			return p.Whole, true
		}
	}
	return 0, false
}

// seatOf tells where the seat of the mark at i is; -1, if it has none, or a mark between them blocks it.
func seatOf(t api.Tables, l []rune, i int) int {
	for seat := i - 1; seat >= 0; seat-- {
		class := classOf(t, l[seat])
		if class == 0 {
			return seat
		}
		if class >= classOf(t, l[i]) {
			return -1
		}
	}
	return -1
}

func wantRunes(t api.Tables, l []rune) []rune {
	l = slices.Clone(l)
	for i := 0; i < len(l); {
		if seat := seatOf(t, l, i); classOf(t, l[i]) > 0 && seat >= 0 {
			if whole, ok := wantJoined(t, l[seat], l[i]); ok {
				l[seat] = whole
				l = slices.Delete(l, i, i+1)
				continue
			}
		}
		i++
	}
	return l
}

func wantShut(b *tables.Book, t api.Tables, s string) string {
	return string(wantRunes(t, []rune(open.Open(b, s))))
}

func wantFirst(s, shut string) (api.Place, bool) {
	if s == shut {
		return api.Place{}, false
	}
	n := 0
	for at := 0; at < len(s); n++ {
		r, width := utf8.DecodeRuneInString(s[at:])
		if bad := r == utf8.RuneError && width == 1; bad || at+width > len(shut) || s[at:at+width] != shut[at:at+width] {
			return place(at, n), true
		}
		at += width
	}
	return place(-1, -1), true // the chapter has no answer for this: it must not be
}

func place(b, n int) api.Place { return api.Place{Byte: b, Rune: n} }

// The marks of the chapter's runs: acute and hat of class 230, dot of class 220; and marks of the classes at the ends, of three and of four bytes.
const (
	acute = "\u0301"
	hat   = "\u0302"
	dot   = "\u0323"
	low   = "\u20d2"
	high  = "\U0001d165"
)

// Wholes that the chapter has not.
const (
	dotted  = "\u1ec7"     // of e-hat and dot: its marks stand out of order, so it is not made again
	falling = "\U0001f604" // of as many pairs in one another as may be, their classes falling
	rising  = "\U0001f614" // of as many pairs in one another as may be, their classes rising
	narrow  = "\u0132"     // of 0x1f610 and low, as the first pair of these: fewer bytes than its base
	twice   = "\u2461"     // of a, acute and acute
	thrice  = "\u2462"     // of that and hat, of the same class
	onBad   = "\ufdd0"     // of U+FFFD and dot
	face    = "\U0001f600" // the base of falling
	foot    = "\U0001f610" // the base of rising
)

// table is that of the runs, its pairs in no order, with these wholes, a whole of a base that is folded, a dropped rune and one that looks like another.
func table() api.Tables {
	return api.Tables{
		Common: []api.Span{{Lo: '-', Hi: '9'}},
		Marks:  []api.Mark{{Rune: 0x301, Class: 230}, {Rune: 0x302, Class: 230}, {Rune: 0x323, Class: 220}, {Rune: 0x20d2, Class: 1}, {Rune: 0x1d165, Class: 254}},
		Pairs: []api.Pair{
			{Whole: 0x1f604, Base: 0x1f603, Mark: 0x20d2},
			{Whole: 0x1ebf, Base: 0xea, Mark: 0x301},
			{Whole: 0x1f602, Base: 0x1f601, Mark: 0x302},
			{Whole: 0xe9, Base: 'e', Mark: 0x301},
			{Whole: 0x1f601, Base: 0x1f600, Mark: 0x1d165},
			{Whole: 0x1f605, Base: 0x1f600, Mark: 0x323},
			{Whole: 0xea, Base: 'e', Mark: 0x302},
			{Whole: 0x1eb9, Base: 'e', Mark: 0x323},
			{Whole: 0x1f603, Base: 0x1f602, Mark: 0x323},
			{Whole: 0x1ec7, Base: 0xea, Mark: 0x323},
			{Whole: 0x1f614, Base: 0x1f613, Mark: 0x1d165},
			{Whole: 0x1f613, Base: 0x1f612, Mark: 0x301},
			{Whole: 0x1f612, Base: 0x132, Mark: 0x323},
			{Whole: 0x132, Base: 0x1f610, Mark: 0x20d2},
			{Whole: 0x2462, Base: 0x2461, Mark: 0x302},
			{Whole: 0x2461, Base: 0x2460, Mark: 0x301},
			{Whole: 0x2460, Base: 'a', Mark: 0x301},
			{Whole: 0xfdd0, Base: 0xfffd, Mark: 0x323},
			{Whole: 0xc9, Base: 'E', Mark: 0x301},
		},
		Folds:   []api.Map{{From: 'E', To: "e"}},
		Looks:   []api.Map{{From: 0x435, To: "e"}},
		Drops:   []api.Span{{Lo: 0x200d, Hi: 0x200d}},
		Allowed: []api.Span{{Lo: '-', Hi: '-'}, {Lo: '0', Hi: '9'}, {Lo: 'a', Hi: 'z'}},
	}
}

func bookOf(t *testing.T, x api.Tables) *tables.Book {
	t.Helper()
	b, w := tables.New(x)
	if b == nil {
		t.Fatal(w)
	}
	return b
}

func book(t *testing.T) *tables.Book {
	t.Helper()
	return bookOf(t, table())
}

// bits are what the texts of eachText are made of: marks, wholes, what is neither, bad bytes, and pieces that are a whole, a mark or a U+FFFD only when they stand together. (0xef alone is bad, and it is the first byte of what is put for it.)
var bits = []string{
	acute, hat, dot, low, high,
	"e", "a", face, foot, "\u00e9", "\u00ea", "\u1ebf", "\u1eb9", dotted, falling, rising, narrow, twice, thrice, onBad,
	"E", "\u00c9", "\u0435", "\u200d", "\u0303", "\ufffd", "\x00",
	"\xff", "\xc3", "\xa9", "\xe2\x83", "\x92", "\xf0\x9f\x98", "\xef", "\xbf",
}

// eachText calls with all texts of up to three of the bits, and longer ones picked by a fixed seed, most of them of marks.
func eachText(call func(s string)) {
	short := []string{""}
	call("")
	for range 3 {
		var next []string
		for _, s := range short {
			for _, bit := range bits {
				next = append(next, s+bit)
				call(s + bit)
			}
		}
		short = next
	}
	pick := rand.New(rand.NewSource(10))
	for range 4000 {
		call(drawText(pick, 4+pick.Intn(30)))
	}
}

func drawText(pick *rand.Rand, n int) string {
	var b strings.Builder
	for range n {
		from := bits
		switch pick.Intn(5) {
		case 0, 1, 2:
			from = bits[:5]
		case 3:
			from = bits[5:20]
		}
		b.WriteString(from[pick.Intn(len(from))])
	}
	return b.String()
}

// drawTable has marks from U+0300 on, of few classes, and wholes from U+1000 on, each on a letter or on a whole ahead of it that is not too deep.
func drawTable(pick *rand.Rand) api.Tables {
	x := table()
	x.Marks, x.Pairs = nil, nil
	for i := range rune(6) {
		x.Marks = append(x.Marks, api.Mark{Rune: 0x300 + i, Class: 1 + pick.Intn(4)*80})
	}
	deep := map[rune]int{}
	was := map[[2]rune]int{}
	for i := range rune(30) {
		p := api.Pair{Whole: 0x1000 + i, Base: 'a' + rune(pick.Intn(3)), Mark: 0x300 + rune(pick.Intn(6))}
		if i > 0 && pick.Intn(3) > 0 {
			p.Base = 0x1000 + rune(pick.Intn(int(i)))
		}
		if parts := [2]rune{p.Base, p.Mark}; deep[p.Base] < api.MaxDeep && was[parts] == 0 {
			x.Pairs = append(x.Pairs, p)
			deep[p.Whole] = deep[p.Base] + 1
			was[parts] = 1
		}
	}
	pick.Shuffle(len(x.Pairs), func(i, j int) { x.Pairs[i], x.Pairs[j] = x.Pairs[j], x.Pairs[i] })
	return x
}

func drawRunes(pick *rand.Rand, x api.Tables) string {
	var l []rune
	for range pick.Intn(12) {
		switch pick.Intn(5) {
		case 0:
			l = append(l, 'a'+rune(pick.Intn(3)))
		case 1:
			l = append(l, 0x1000+rune(pick.Intn(30)))
		default:
			l = append(l, x.Marks[pick.Intn(len(x.Marks))].Rune)
		}
	}
	return string(l)
}
