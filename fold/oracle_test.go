package fold_test

import (
	"math/rand"
	"slices"
	"strings"
	"testing"
	"unicode/utf8"

	"guise/api"
	"guise/tables"
)

// What the chapter says, once more and in the slowest way, from the table's rows: a row for each spot of a text, whether it is bad, whether its rune is folded, and what it becomes.

type row struct {
	place  api.Place
	bad    bool
	folded bool
	to     string
}

// wantTo is what the row of a rune says, if there is one.
func wantTo(x api.Tables, r rune) (string, bool) {
	for _, m := range x.Folds {
		if m.From == r {
			return m.To, true
		}
	}
	return "", false
}

func wantRune(x api.Tables, r rune) []rune {
	if to, ok := wantTo(x, r); ok {
		return []rune(to)
	}
	return []rune{r}
}

func rowsOf(x api.Tables, s string) []row {
	var l []row
	for at := 0; at < len(s); {
		r, width := utf8.DecodeRuneInString(s[at:])
		bad := r == utf8.RuneError && width == 1
		to, folded := wantTo(x, r)
		if !folded {
			to = string(r)
		}
		l = append(l, row{place(at, len(l)), bad, folded, to})
		at += width
	}
	return l
}

func wantFold(x api.Tables, s string) string {
	text := ""
	for _, spot := range rowsOf(x, s) {
		text += spot.to
	}
	return text
}

func wantFirst(x api.Tables, s string) (api.Place, bool) {
	for _, spot := range rowsOf(x, s) {
		if spot.bad || spot.folded {
			return spot.place, true
		}
	}
	return api.Place{}, false
}

// wantPlaces are the places out of which the runes of the folded text come, in their order.
func wantPlaces(x api.Tables, s string) []api.Place {
	var l []api.Place
	for _, spot := range rowsOf(x, s) {
		for range spot.to {
			l = append(l, spot.place)
		}
	}
	return l
}

// What chapter 9 says, in the slowest way: a whole that is there is taken apart, neighbours out of order are swapped, till nothing of that is left.

func classOf(x api.Tables, r rune) int {
	for _, m := range x.Marks {
		if m.Rune == r {
			return m.Class
		}
	}
	return 0
}

func wantOpen(x api.Tables, s string) string {
	l := []rune(s)
	for i := 0; i < len(l); {
		at := slices.IndexFunc(x.Pairs, func(p api.Pair) bool { return p.Whole == l[i] })
		if at < 0 {
			i++
			continue
		}
		l = slices.Replace(l, i, i+1, x.Pairs[at].Base, x.Pairs[at].Mark)
	}
	for swapped := true; swapped; {
		swapped = false
		for i := 1; i < len(l); i++ {
			if c := classOf(x, l[i]); 0 < c && c < classOf(x, l[i-1]) {
				l[i-1], l[i] = l[i], l[i-1]
				swapped = true
			}
		}
	}
	return string(l)
}

func place(b, n int) api.Place { return api.Place{Byte: b, Rune: n} }

// Folded runes: those of the chapter's runs; one whose bytes grow fewer; one to as many runes as may be, of as many bytes; the least one that is no ASCII; the neighbours of U+FFFD; those beside the surrogates; the greatest.
const (
	sharp  = "\u00df"
	kelvin = "\u212a"
	grin   = "\U0001f600"
	least  = "\u0080"
	under  = "\ufffc"
	above  = "\ufffe"
	ahead  = "\ud7ff"
	behind = "\ue000"
	most   = "\U0010ffff"
)

// Marks, and wholes whose bases are folded: to one rune, to two, base by base.
const (
	acute      = "\u0301"
	dot        = "\u0323"
	great      = "\u00c9"     // E and acute
	small      = "\u00e9"     // e and acute
	greatDot   = "\u1eb8"     // E and dot
	greatBoth  = "\U0001e900" // great and dot: what it is taken apart to is out of order
	sharpAcute = "\U0001e901" // sharp and acute
	onBad      = "\ufdd0"     // U+FFFD and dot
)

const fourWide = "\U0001f601\U0001f602\U0001f603\U0001f604"

// table folds these, and has a dropped rune, and runes that look like others: those that something is folded to among them.
func table() api.Tables {
	return api.Tables{
		Scripts: []api.Script{{Name: "latin", Spans: []api.Span{{Lo: 'a', Hi: 'z'}}}},
		Common:  []api.Span{{Lo: '-', Hi: '9'}},
		Marks:   []api.Mark{{Rune: 0x301, Class: 230}, {Rune: 0x323, Class: 220}},
		Pairs: []api.Pair{
			{Whole: 0x1e900, Base: 0xc9, Mark: 0x323},
			{Whole: 0xc9, Base: 'E', Mark: 0x301},
			{Whole: 0xe9, Base: 'e', Mark: 0x301},
			{Whole: 0x1eb8, Base: 'E', Mark: 0x323},
			{Whole: 0x1e901, Base: 0xdf, Mark: 0x301},
			{Whole: 0xfdd0, Base: 0xfffd, Mark: 0x323},
		},
		Folds: []api.Map{
			{From: 'A', To: "a"},
			{From: 0xdf, To: "ss"},
			{From: 'E', To: "e"},
			{From: 'Z', To: "zzz"},
			{From: 'L', To: "l"},
			{From: 0x212a, To: "k"},
			{From: 0x1f600, To: fourWide},
			{From: 0x80, To: "\u0081"},
			{From: 0xfffc, To: "a "},
			{From: 0xfffe, To: "\uffff"},
			{From: 0xd7ff, To: "\ue001\ud7fe"},
			{From: 0xe000, To: "\x7fa\x7f"},
			{From: 0x10ffff, To: "\U0010fffe\U0010fffe"},
		},
		Looks:   []api.Map{{From: 'l', To: "1"}, {From: 0x430, To: "a"}, {From: 'A', To: "4"}},
		Drops:   []api.Span{{Lo: 0x200d, Hi: 0x200d}},
		Allowed: []api.Span{{Lo: '-', Hi: '-'}, {Lo: '0', Hi: '9'}, {Lo: 'a', Hi: 'z'}},
	}
}

func bookOf(t *testing.T, x api.Tables) *tables.Book {
	t.Helper()
	b, w := tables.New(x)
	if b == nil {
		t.Fatal(w)
	}
	return b
}

func book(t *testing.T) *tables.Book {
	t.Helper()
	return bookOf(t, table())
}

// otherTables are one that folds nothing, one that folds some of the same runes otherwise, and one with as many folds as there may be, each to as many runes as may be.
func otherTables() []api.Tables {
	none, other, many := table(), table(), table()
	none.Folds = nil
	other.Folds = []api.Map{{From: 'S', To: sharp}, {From: 'A', To: "aa"}, {From: 0x81, To: least}, {From: 0xde, To: "EE"}}
	many.Folds, many.Pairs = nil, nil
	for i := range rune(api.MaxMaps) {
		many.Folds = append(many.Folds, api.Map{From: 0x1e000 + i, To: "ab\u00df" + string(0x80+i%0x40)})
	}
	return []api.Tables{none, other, many}
}

// bits are what the texts of eachText are made of: folded runes, what they are folded to, their neighbours, wholes, marks, bad bytes, and pieces that are a folded rune only when they stand together.
var bits = []string{
	"A", sharp, "E", kelvin, grin, least, under, above, ahead, behind, most,
	great, small, greatBoth, sharpAcute, acute, dot,
	"a", "s", "S", "@", "[", "\u0081", "\u00de", "\ufffd", "\u200d", "\U0001f601",
	"\xff", "\xc3", "\x9f", "\xe2\x84", "\xaa", "\xef\xbf", "\xed\xa0\x80",
}

// eachText calls with all texts of up to three of the bits, and longer ones picked by a fixed seed, half of them of folded runes, wholes and marks.
func eachText(call func(s string)) {
	short := []string{""}
	call("")
	for range 3 {
		var next []string
		for _, s := range short {
			for _, bit := range bits {
				next = append(next, s+bit)
				call(s + bit)
			}
		}
		short = next
	}
	pick := rand.New(rand.NewSource(12))
	for range 1000 {
		call(drawText(pick, 4+pick.Intn(30)))
	}
}

func drawText(pick *rand.Rand, n int) string {
	var b strings.Builder
	for range n {
		from := bits
		if pick.Intn(2) > 0 {
			from = bits[:17]
		}
		b.WriteString(from[pick.Intn(len(from))])
	}
	return b.String()
}
