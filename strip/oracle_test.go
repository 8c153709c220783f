package strip_test

import (
	"math/rand"
	"strings"
	"testing"
	"unicode/utf8"

	"guise/api"
	"guise/tables"
)

// What the chapter says, once more and in the slowest way, from the table's rows: a row for each spot of a text, and whether it is bad, and whether it is seen.

type row struct {
	place api.Place
	r     rune
	bad   bool
	seen  bool
}

func isDropped(x api.Tables, r rune) bool {
	for _, d := range x.Drops {
		if d.Lo <= r && r <= d.Hi {
			return true
		}
	}
	return false
}

func rowsOf(x api.Tables, s string) []row {
	var l []row
	for at := 0; at < len(s); {
		r, width := utf8.DecodeRuneInString(s[at:])
		bad := r == utf8.RuneError && width == 1
		l = append(l, row{place(at, len(l)), r, bad, bad || !isDropped(x, r)})
		at += width
	}
	return l
}

// wantSeen are the rows of what is seen.
func wantSeen(x api.Tables, s string) []row {
	var l []row
	for _, spot := range rowsOf(x, s) {
		if spot.seen {
			l = append(l, spot)
		}
	}
	return l
}

func wantStrip(x api.Tables, s string) string {
	text := ""
	for _, spot := range wantSeen(x, s) {
		text += string(spot.r)
	}
	return text
}

func wantFirst(x api.Tables, s string) (api.Place, bool) {
	for _, spot := range rowsOf(x, s) {
		if spot.bad || !spot.seen {
			return spot.place, true
		}
	}
	return api.Place{}, false
}

func wantCount(x api.Tables, s string) int { return len(rowsOf(x, s)) - len(wantSeen(x, s)) }

// wantPlaces are the places in the text of the strip's spots, and behind them the text's end.
func wantPlaces(x api.Tables, s string) []api.Place {
	var l []api.Place
	for _, spot := range wantSeen(x, s) {
		l = append(l, spot.place)
	}
	return append(l, place(len(s), len(rowsOf(x, s))))
}

func place(b, n int) api.Place { return api.Place{Byte: b, Rune: n} }

// Dropped runes: those of the chapter's runs; the least that may be; the neighbours of U+FFFD; those beside the surrogates; of four bytes; the greatest.
const (
	soft   = "\u00ad"
	zero   = "\u200b"
	least  = "\u0080"
	under  = "\ufffc"
	above  = "\ufffe"
	ahead  = "\ud7ff"
	behind = "\ue000"
	tone   = "\U0001f3fd"
	most   = "\U0010ffff"
)

// table drops these, and has a mark, a whole, and runes that are folded and look like others: they are seen.
func table() api.Tables {
	return api.Tables{
		Scripts: []api.Script{{Name: "latin", Spans: []api.Span{{Lo: 'a', Hi: 'z'}}}},
		Common:  []api.Span{{Lo: '-', Hi: '9'}, {Lo: 0x200b, Hi: 0x200b}},
		Marks:   []api.Mark{{Rune: 0x301, Class: 230}, {Rune: 0x323, Class: 220}},
		Pairs:   []api.Pair{{Whole: 0xe9, Base: 'e', Mark: 0x301}},
		Folds:   []api.Map{{From: 'A', To: "a"}},
		Looks:   []api.Map{{From: 0x430, To: "a"}},
		Drops: []api.Span{
			{Lo: 0x80, Hi: 0x80},
			{Lo: 0xad, Hi: 0xad},
			{Lo: 0x200b, Hi: 0x200c},
			{Lo: 0x200d, Hi: 0x200d},
			{Lo: 0xd7fe, Hi: 0xe001},
			{Lo: 0xfff9, Hi: 0xfffc},
			{Lo: 0xfffe, Hi: 0xffff},
			{Lo: 0x1f3fb, Hi: 0x1f3ff},
			{Lo: 0x10ffff, Hi: 0x10ffff},
		},
		Allowed: []api.Span{{Lo: '-', Hi: '-'}, {Lo: '0', Hi: '9'}, {Lo: 'a', Hi: 'z'}},
	}
}

func bookOf(t *testing.T, x api.Tables) *tables.Book {
	t.Helper()
	b, w := tables.New(x)
	if b == nil {
		t.Fatal(w)
	}
	return b
}

func book(t *testing.T) *tables.Book {
	t.Helper()
	return bookOf(t, table())
}

// otherTables are one that drops nothing, one that drops all that may be dropped, and one with as many spans as a list may have: every second rune from U+0800 on.
func otherTables() []api.Tables {
	none, all, many := table(), table(), table()
	none.Drops, many.Drops = nil, nil
	all.Marks, all.Pairs, all.Looks = nil, nil, nil
	all.Drops = []api.Span{{Lo: 0x80, Hi: 0xfffc}, {Lo: 0xfffe, Hi: 0x10ffff}}
	for i := range rune(api.MaxSpans) {
		many.Drops = append(many.Drops, api.Span{Lo: 0x801 + 2*i, Hi: 0x801 + 2*i})
	}
	return []api.Tables{none, all, many}
}

// bits are what the texts of eachText are made of: dropped runes, their neighbours and others that are seen, bad bytes, and pieces that are a dropped rune only when they stand together.
var bits = []string{
	soft, zero, least, under, above, ahead, behind, tone, most,
	"a", "A", " ", "\x00", "\x7f", "\u0081", "\u00ae", "\u00e9", "\u0301", "\u0430", "\u200a", "\u200e", "\ufffd", "\U0001f400",
	"\xff", "\xc2", "\xad", "\xe2\x80", "\x8b", "\xf0\x9f\x8f", "\xbd", "\xed\xa0\x80", "\xef\xbf",
}

// eachText calls with all texts of up to three of the bits, and longer ones picked by a fixed seed, half of them of dropped runes.
func eachText(call func(s string)) {
	short := []string{""}
	call("")
	for range 3 {
		var next []string
		for _, s := range short {
			for _, bit := range bits {
				next = append(next, s+bit)
				call(s + bit)
			}
		}
		short = next
	}
	pick := rand.New(rand.NewSource(11))
	for range 2000 {
		call(drawText(pick, 4+pick.Intn(40)))
	}
}

func drawText(pick *rand.Rand, n int) string {
	var b strings.Builder
	for range n {
		from := bits
		if pick.Intn(2) > 0 {
			from = bits[:9]
		}
		b.WriteString(from[pick.Intn(len(from))])
	}
	return b.String()
}
