package norm_test

import (
	"math/rand"
	"slices"
	"strings"
	"testing"
	"unicode/utf8"

	"guise/api"
	"guise/tables"
)

// What the chapters 8 to 13 say, once more and in the slowest way, from the table's rows.

func dropped(x api.Tables, r rune) bool {
	return slices.ContainsFunc(x.Drops, func(s api.Span) bool { return s.Lo <= r && r <= s.Hi })
}

func classOf(x api.Tables, r rune) int {
	for _, m := range x.Marks {
		if m.Rune == r {
			return m.Class
		}
	}
	return 0
}

func wantStrip(x api.Tables, s string) string {
	return string(slices.DeleteFunc([]rune(s), func(r rune) bool { return dropped(x, r) }))
}

// wantOrder swaps neighbours till none is out of order.
func wantOrder(x api.Tables, s string) string {
	l := []rune(s)
	for swapped := true; swapped; {
		swapped = false
		for i := 1; i < len(l); i++ {
			if c := classOf(x, l[i]); 0 < c && c < classOf(x, l[i-1]) {
				l[i-1], l[i] = l[i], l[i-1]
				swapped = true
			}
		}
	}
	return string(l)
}

// wantOpen takes a whole apart as long as there is one.
func wantOpen(x api.Tables, s string) string {
	l := []rune(s)
	for i := 0; i < len(l); {
		at := slices.IndexFunc(x.Pairs, func(p api.Pair) bool { return p.Whole == l[i] })
		if at < 0 {
			i++
			continue
		}
		l = slices.Replace(l, i, i+1, x.Pairs[at].Base, x.Pairs[at].Mark)
	}
	return wantOrder(x, string(l))
}

func wantFold(x api.Tables, s string) string {
	var text strings.Builder
	for _, r := range s {
		to := string(r)
		for _, m := range x.Folds {
			if m.From == r {
				to = m.To
			}
		}
		text.WriteString(to)
	}
	return text.String()
}

// seatOf tells where the seat of the mark at i is; -1, if it has none, or a mark between them blocks it.
func seatOf(x api.Tables, l []rune, i int) int {
	for seat := i - 1; seat >= 0; seat-- {
		class := classOf(x, l[seat])
		if class == 0 {
			return seat
		}
		if class >= classOf(x, l[i]) {
			return -1
		}
	}
	return -1
}

func wantShut(x api.Tables, s string) string {
	l := []rune(wantOpen(x, s))
	for i := 0; i < len(l); {
		seat := -1
		if classOf(x, l[i]) > 0 {
			seat = seatOf(x, l, i)
		}
		at := slices.IndexFunc(x.Pairs, func(p api.Pair) bool { return seat >= 0 && p.Base == l[seat] && p.Mark == l[i] })
		if at < 0 {
			i++
			continue
		}
		l[seat] = x.Pairs[at].Whole
		l = slices.Delete(l, i, i+1)
	}
	return string(l)
}

func wantPass(x api.Tables, name, s string) string {
	switch name {
	case "fold":
		return wantFold(x, s)
	case "open":
		return wantOpen(x, s)
	case "order":
		return wantOrder(x, s)
	case "shut":
		return wantShut(x, s)
	case "strip":
		return wantStrip(x, s)
	}
	panic("no pass: " + name)
}

func wantRun(x api.Tables, s string, names ...string) string {
	for _, name := range names {
		s = wantPass(x, name, s)
	}
	return s
}

func wantNorm(x api.Tables, s string) string { return wantRun(x, s, "strip", "open", "fold", "shut") }

func wantFirst(x api.Tables, s string) (api.Place, bool) {
	form := wantNorm(x, s)
	if s == form {
		return api.Place{}, false
	}
	for n, spot := range spotsOf(s) {
		at, end := spot.at, spot.at+spot.width
		if spot.bad || end > len(form) || s[at:end] != form[at:end] {
			return place(at, n), true
		}
	}
	return place(-1, -1), true // the chapter has no answer for this: it must not be
}

type spot struct {
	at, width int
	r         rune
	bad       bool
}

func spotsOf(s string) []spot {
	var l []spot
	for at := 0; at < len(s); {
		r, width := utf8.DecodeRuneInString(s[at:])
		l = append(l, spot{at, width, r, r == utf8.RuneError && width == 1})
		at += width
	}
	return l
}

// wantSafe are the safe places, rising, 0 and the end among them.
func wantSafe(x api.Tables, s string) []int {
	var l []int
	spots := spotsOf(s)
	for n := range len(spots) + 1 {
		behind := spots[n:]
		at := len(s)
		if len(behind) > 0 {
			at = behind[0].at
		}
		for len(behind) > 0 && dropped(x, behind[0].r) {
			behind = behind[1:]
		}
		if len(behind) == 0 || classOf(x, behind[0].r) == 0 {
			l = append(l, at)
		}
	}
	return l
}

func wantCuts(x api.Tables, s string) []int {
	return slices.DeleteFunc(wantSafe(x, s), func(at int) bool { return at == 0 || at == len(s) })
}

func place(b, n int) api.Place { return api.Place{Byte: b, Rune: n} }

// Marks: acute and hat of class 230, dot of class 220, one of the lowest class, one of the highest, of four bytes.
const (
	acute = "\u0301"
	hat   = "\u0302"
	dot   = "\u0323"
	low   = "\u20d2"
	high  = "\U0001d165"
)

// Dropped runes, of two, three and four bytes.
const (
	soft = "\u00ad"
	zero = "\u200d"
	tag  = "\U000e0001"
)

// Wholes, and runes that are folded.
const (
	small     = "\u00e9"     // e and acute
	great     = "\u00c9"     // E and acute: its form is small
	both      = "\u1ebf"     // e-hat and acute
	greatBoth = "\u1ebe"     // E-hat and acute: its form is both
	under     = "\u1eb9"     // e and dot
	dotted    = "\u1ec7"     // e-hat and dot: its marks stand out of order, so it is not made again
	sharp     = "\u00df"     // folded to ss
	sharpDot  = "\U0001e901" // sharp and dot: its form is s and the next one
	sDot      = "\u1e63"     // s and dot
	greatX    = "\u1e8c"     // X and acute, of which there is no small one
	onBad     = "\ufdd0"     // U+FFFD and dot
	grin      = "\U0001f600" // folded to as many runes as may be, of as many bytes
	fourWide  = "\U0001f601\U0001f602\U0001f603\U0001f604"
	wideAcute = "\u2460" // the last rune of fourWide and acute
	kelvin    = "\u212a" // folded to k: fewer bytes
)

// table has these, and runes that look like others.
func table() api.Tables {
	return api.Tables{
		Scripts: []api.Script{{Name: "latin", Spans: []api.Span{{Lo: 'a', Hi: 'z'}}}},
		Common:  []api.Span{{Lo: '-', Hi: '9'}},
		Marks:   []api.Mark{{Rune: 0x301, Class: 230}, {Rune: 0x302, Class: 230}, {Rune: 0x323, Class: 220}, {Rune: 0x20d2, Class: 1}, {Rune: 0x1d165, Class: 254}},
		Pairs: []api.Pair{
			{Whole: 0x1ebe, Base: 0xca, Mark: 0x301},
			{Whole: 0x1ebf, Base: 0xea, Mark: 0x301},
			{Whole: 0xe9, Base: 'e', Mark: 0x301},
			{Whole: 0xea, Base: 'e', Mark: 0x302},
			{Whole: 0xca, Base: 'E', Mark: 0x302},
			{Whole: 0xc9, Base: 'E', Mark: 0x301},
			{Whole: 0x1eb9, Base: 'e', Mark: 0x323},
			{Whole: 0x1ec7, Base: 0xea, Mark: 0x323},
			{Whole: 0x1e901, Base: 0xdf, Mark: 0x323},
			{Whole: 0x1e63, Base: 's', Mark: 0x323},
			{Whole: 0x1e8c, Base: 'X', Mark: 0x301},
			{Whole: 0xfdd0, Base: 0xfffd, Mark: 0x323},
			{Whole: 0x2460, Base: 0x1f604, Mark: 0x301},
		},
		Folds: []api.Map{
			{From: 'A', To: "a"},
			{From: 'E', To: "e"},
			{From: 'X', To: "x"},
			{From: 0xdf, To: "ss"},
			{From: 0x212a, To: "k"},
			{From: 0x1f600, To: fourWide},
		},
		Looks:   []api.Map{{From: 'l', To: "1"}, {From: 0x435, To: "e"}, {From: 'A', To: "4"}},
		Drops:   []api.Span{{Lo: 0xad, Hi: 0xad}, {Lo: 0x200c, Hi: 0x200d}, {Lo: 0xe0001, Hi: 0xe0001}},
		Allowed: []api.Span{{Lo: '-', Hi: '-'}, {Lo: '0', Hi: '9'}, {Lo: 'a', Hi: 'z'}},
	}
}

// otherTables are the bare one; those that say nothing of marks, of folds, of what is dropped; one in which all marks have one class.
func otherTables() []api.Tables {
	bare, noMarks, noFolds, noDrops, oneClass := table(), table(), table(), table(), table()
	bare.Marks, bare.Pairs, bare.Folds, bare.Looks, bare.Drops = nil, nil, nil, nil, nil
	noMarks.Marks, noMarks.Pairs = nil, nil
	noFolds.Folds = nil
	noDrops.Drops = nil
	for i := range oneClass.Marks {
		oneClass.Marks[i].Class = 254
	}
	return []api.Tables{bare, noMarks, noFolds, noDrops, oneClass}
}

func bookOf(t *testing.T, x api.Tables) *tables.Book {
	t.Helper()
	b, w := tables.New(x)
	if b == nil {
		t.Fatal(w)
	}
	return b
}

func book(t *testing.T) *tables.Book {
	t.Helper()
	return bookOf(t, table())
}

// bits are what texts are made of: marks, dropped runes, wholes, folded runes, what is none of these, bad bytes, and pieces that are a rune only when they stand together. (0xef alone is bad, and it is the first byte of what is put for it.)
var bits = []string{
	acute, hat, dot, low, high,
	zero, soft, tag,
	"e", "E", small, great, both, greatBoth, dotted, sharp, sharpDot, greatX, onBad, grin,
	"a", "s", "A", kelvin, "\u0435", "\ufffd", " ",
	"\xff", "\xc3", "\xa9", "\xe2\x80", "\x8d", "\xef",
}

// eachText calls with all texts of up to three of the bits, and longer ones picked by a fixed seed.
func eachText(call func(s string)) {
	eachShort(3, call)
	eachDrawn(call)
}

// eachShort calls with all texts of up to n of the bits.
func eachShort(n int, call func(s string)) {
	short := []string{""}
	call("")
	for range n {
		var next []string
		for _, s := range short {
			for _, bit := range bits {
				next = append(next, s+bit)
				call(s + bit)
			}
		}
		short = next
	}
}

func eachDrawn(call func(s string)) {
	pick := rand.New(rand.NewSource(13))
	for range 1500 {
		call(drawText(pick, 4+pick.Intn(30)))
	}
}

// drawText draws more marks and dropped runes than there are in the bits: what they do hangs on the spots around them.
func drawText(pick *rand.Rand, n int) string {
	var b strings.Builder
	for range n {
		from := bits
		switch pick.Intn(5) {
		case 0, 1:
			from = bits[:5]
		case 2:
			from = bits[5:8]
		case 3:
			from = bits[8:20]
		}
		b.WriteString(from[pick.Intn(len(from))])
	}
	return b.String()
}

// drawTable has marks from U+0300 on, of few classes, wholes from U+1000 on, each on a letter, great or small, or on a whole ahead of it that is not too deep; great letters are folded to small ones, and U+2000 and what follows it is dropped.
func drawTable(pick *rand.Rand) api.Tables {
	x := table()
	x.Marks, x.Pairs, x.Folds, x.Looks = nil, nil, nil, nil
	x.Drops = []api.Span{{Lo: 0x2000, Hi: 0x2000 + rune(pick.Intn(3))}}
	for i := range rune(6) {
		x.Marks = append(x.Marks, api.Mark{Rune: 0x300 + i, Class: 1 + pick.Intn(4)*80})
	}
	for i := range rune(3) {
		var to []rune
		for range 1 + pick.Intn(api.MaxTo) {
			to = append(to, 'a'+rune(pick.Intn(3)))
		}
		x.Folds = append(x.Folds, api.Map{From: 'A' + i, To: string(to)})
	}
	deep, was := map[rune]int{}, map[[2]rune]int{}
	for i := range rune(30) {
		p := api.Pair{Whole: 0x1000 + i, Base: drawLetter(pick), Mark: 0x300 + rune(pick.Intn(6))}
		if i > 0 && pick.Intn(2) > 0 {
			p.Base = 0x1000 + rune(pick.Intn(int(i)))
		}
		if parts := [2]rune{p.Base, p.Mark}; deep[p.Base] < api.MaxDeep && was[parts] == 0 {
			x.Pairs = append(x.Pairs, p)
			deep[p.Whole] = deep[p.Base] + 1
			was[parts] = 1
		}
	}
	pick.Shuffle(len(x.Pairs), func(i, j int) { x.Pairs[i], x.Pairs[j] = x.Pairs[j], x.Pairs[i] })
	return x
}

func drawLetter(pick *rand.Rand) rune { return []rune("abcABC")[pick.Intn(6)] }

// drawRunes makes a text of what drawTable speaks of.
func drawRunes(pick *rand.Rand) string {
	var l []rune
	for range pick.Intn(12) {
		switch pick.Intn(6) {
		case 0:
			l = append(l, drawLetter(pick))
		case 1:
			l = append(l, 0x1000+rune(pick.Intn(30)))
		case 2:
			l = append(l, 0x2000+rune(pick.Intn(4)))
		default:
			l = append(l, 0x300+rune(pick.Intn(6)))
		}
	}
	return string(l)
}
