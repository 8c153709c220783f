package script_test

import (
	"math/rand"
	"slices"
	"strconv"
	"strings"
	"testing"
	"unicode/utf8"

	"guise/api"
	"guise/script"
	"guise/tables"
)

// What the chapter says, once more and in the slowest way, from the table's rows: a row for each spot of a text, each question asked of all spots of all pieces.

type row struct {
	at, end api.Place // end: the place behind it
	r       rune
	bad     bool
	free    bool
	of      []int // the scripts that it is bound to
}

func lies(l []api.Span, r rune) bool {
	return slices.ContainsFunc(l, func(s api.Span) bool { return s.Lo <= r && r <= s.Hi })
}

func isMark(x api.Tables, r rune) bool {
	return slices.ContainsFunc(x.Marks, func(m api.Mark) bool { return m.Rune == r })
}

func rowsOf(x api.Tables, s string) []row {
	var l []row
	for at := 0; at < len(s); {
		r, width := utf8.DecodeRuneInString(s[at:])
		spot := row{at: place(at, len(l)), end: place(at+width, len(l)+1), r: r}
		spot.bad = r == utf8.RuneError && width == 1
		spot.free = !spot.bad && (lies(x.Common, r) || isMark(x, r))
		for n, script := range x.Scripts {
			if !spot.bad && !spot.free && lies(script.Spans, r) {
				spot.of = append(spot.of, n)
			}
		}
		l = append(l, spot)
		at += width
	}
	return l
}

func ofRows(x api.Tables, rows []row) []int {
	var l []int
	for n := range x.Scripts {
		if !slices.ContainsFunc(rows, func(spot row) bool { return !spot.free && !slices.Contains(spot.of, n) }) {
			l = append(l, n)
		}
	}
	return l
}

func mixedRows(x api.Tables, rows []row) bool {
	bound := slices.ContainsFunc(rows, func(spot row) bool { return !spot.free })
	return bound && len(ofRows(x, rows)) == 0
}

func wantOf(x api.Tables, s string) []int { return ofRows(x, rowsOf(x, s)) }

func wantStop(x api.Tables, s string) (api.Place, bool) {
	rows := rowsOf(x, s)
	for n, spot := range rows {
		if mixedRows(x, rows[:n+1]) {
			return spot.at, true
		}
	}
	return api.Place{}, false
}

func wantLevel(x api.Tables, s string) int {
	rows := rowsOf(x, s)
	if !slices.ContainsFunc(rows, func(spot row) bool { return spot.r >= 0x80 }) {
		return script.ASCII
	}
	if !mixedRows(x, rows) {
		return script.Single
	}
	if !slices.ContainsFunc(rows, func(spot row) bool { return !spot.free && len(spot.of) == 0 }) {
		return script.Several
	}
	return script.Any
}

func wantRuns(x api.Tables, s string) []script.Run {
	var l []script.Run
	for rest := rowsOf(x, s); len(rest) > 0; {
		n := len(rest)
		for n > 1 && mixedRows(x, rest[:n]) {
			n--
		}
		l = append(l, script.Run{From: rest[0].at, To: rest[n-1].end, Scripts: ofRows(x, rest[:n])})
		rest = rest[n:]
	}
	return l
}

func wantTally(x api.Tables, s string) []script.Share {
	var l []script.Share
	rows := rowsOf(x, s)
	for n := range x.Scripts {
		share := script.Share{Script: n}
		for _, spot := range rows {
			if slices.Contains(spot.of, n) {
				share.Spots++
			}
		}
		if share.Spots > 0 {
			l = append(l, share)
		}
	}
	return l
}

func place(b, n int) api.Place { return api.Place{Byte: b, Rune: n} }

func sameRun(x, y script.Run) bool {
	return x.From == y.From && x.To == y.To && slices.Equal(x.Scripts, y.Scripts)
}

// The numbers of table's scripts.
const (
	latin = iota
	cyrillic
	han
	japanese
	none
	odd
)

// Runes of table: of han and japanese; of japanese alone, of four bytes; of latin and odd; marks, of odd, of Common, of no script; of Common and of japanese; dropped, of odd; dropped, of no script.
const (
	sun    = "\u65e5"
	rare   = "\U00020000"
	fi     = "\ufb01"
	acute  = "\u0301"
	dot    = "\u0323"
	high   = "\U0001d165"
	longer = "\u30fc"
	soft   = "\u00ad"
	zero   = "\u200b"
)

// table has scripts over one another, one that is empty, and one whose runes are marks, Common, or dropped.
func table() api.Tables {
	return api.Tables{
		Scripts: []api.Script{
			latin:    {Name: "latin", Spans: []api.Span{{Lo: 'a', Hi: 'm'}, {Lo: 'n', Hi: 'z'}, {Lo: 0xe9, Hi: 0xe9}, {Lo: 0xfb00, Hi: 0xfb06}}},
			cyrillic: {Name: "cyrillic", Spans: []api.Span{{Lo: 0x430, Hi: 0x44f}}},
			han:      {Name: "han", Spans: []api.Span{{Lo: 0x4e00, Hi: 0x9fff}}},
			japanese: {Name: "japanese", Spans: []api.Span{{Lo: 0x3041, Hi: 0x3096}, {Lo: 0x30fc, Hi: 0x30fc}, {Lo: 0x4e00, Hi: 0x9fff}, {Lo: 0x20000, Hi: 0x2a6df}}},
			none:     {Name: "none"},
			odd:      {Name: "odd", Spans: []api.Span{{Lo: '5', Hi: '5'}, {Lo: 0xad, Hi: 0xad}, {Lo: 0x301, Hi: 0x301}, {Lo: 0xd7ff, Hi: 0xe000}, {Lo: 0xfb01, Hi: 0xfb01}, {Lo: 0x10ffff, Hi: 0x10ffff}}},
		},
		Common:  []api.Span{{Lo: '-', Hi: '9'}, {Lo: 0x323, Hi: 0x323}, {Lo: 0x30fc, Hi: 0x30fc}},
		Marks:   []api.Mark{{Rune: 0x301, Class: 230}, {Rune: 0x323, Class: 1}, {Rune: 0x1d165, Class: 254}},
		Pairs:   []api.Pair{{Whole: 0xe9, Base: 'e', Mark: 0x301}, {Whole: 0xe8, Base: 'e', Mark: 0x323}},
		Folds:   []api.Map{{From: 'A', To: "a"}},
		Looks:   []api.Map{{From: 0x430, To: "a"}},
		Drops:   []api.Span{{Lo: 0xad, Hi: 0xad}, {Lo: 0x200b, Hi: 0x200b}},
		Allowed: []api.Span{{Lo: '-', Hi: '-'}, {Lo: '0', Hi: '9'}, {Lo: 'a', Hi: 'z'}},
	}
}

// runsTable is that of the chapter's runs.
func runsTable() api.Tables {
	x := table()
	x.Scripts = []api.Script{{Name: "latin", Spans: []api.Span{{Lo: 'a', Hi: 'z'}}}, {Name: "cyrillic", Spans: []api.Span{{Lo: 0x430, Hi: 0x44f}}}}
	x.Common, x.Marks = x.Common[:1], x.Marks[:1]
	x.Pairs, x.Drops = nil, nil
	return x
}

// noScripts has none; what is bound is bound to none.
func noScripts() api.Tables {
	x := table()
	x.Scripts = nil
	return x
}

// fullTable has as many scripts as may be: of the rune U+1000 + i those from number i on are.
func fullTable() api.Tables {
	x := runsTable()
	x.Scripts = nil
	for n := range rune(api.MaxScripts) {
		x.Scripts = append(x.Scripts, api.Script{Name: "s" + strconv.Itoa(int(n)), Spans: []api.Span{{Lo: 0x1000, Hi: 0x1000 + n}}})
	}
	return x
}

// otherTables are the ones above; two to which U+FFFD is a script's rune and Common, as a bad spot is not; one to which all runes are Common; one to which all are of all scripts.
func otherTables() []api.Tables {
	letter, shared, free, all := table(), table(), table(), table()
	letter.Scripts[none].Spans = []api.Span{{Lo: 0xfffd, Hi: 0xfffd}}
	shared.Common = append(shared.Common, api.Span{Lo: 0xfffd, Hi: 0xfffd})
	free.Common = []api.Span{{Lo: 0, Hi: 0x10ffff}}
	for n := range all.Scripts {
		all.Scripts[n].Spans = []api.Span{{Lo: 0, Hi: 0x10ffff}}
	}
	return []api.Tables{runsTable(), noScripts(), fullTable(), letter, shared, free, all}
}

func bookOf(t *testing.T, x api.Tables) *tables.Book {
	t.Helper()
	b, w := tables.New(x)
	if b == nil {
		t.Fatal(w)
	}
	return b
}

func book(t *testing.T) *tables.Book {
	t.Helper()
	return bookOf(t, table())
}

// bits are what the texts of eachText are made of: letters of the scripts, free runes, those of no script, bad bytes, and pieces that are a rune only when they stand together.
var bits = []string{
	"a", "z", "\u0430", sun, "\u3042", rare, fi, "\ud7ff",
	"1", "5", "-", acute, dot, high, longer,
	"?", "A", "\u00e9", "\u00e8", soft, zero, "\u1000", "\u103f", "\ufffd", "\U0010ffff",
	"\xff", "\xd0", "\xb0", "\xe6\x97", "\xa5", "\xcc", "\x81",
}

func eachShort(most int, call func(s string)) {
	short := []string{""}
	call("")
	for range most {
		var next []string
		for _, s := range short {
			for _, bit := range bits {
				next = append(next, s+bit)
				call(s + bit)
			}
		}
		short = next
	}
}

func eachDrawn(call func(s string)) {
	pick := rand.New(rand.NewSource(14))
	for range 1000 {
		call(drawText(pick, 4+pick.Intn(24)))
	}
}

// eachText calls with all texts of up to three of the bits, and longer ones picked by a fixed seed.
func eachText(call func(s string)) {
	eachShort(3, call)
	eachDrawn(call)
}

// drawText draws more letters and free runes than there are in the bits: so there are runs of more than a spot or two.
func drawText(pick *rand.Rand, n int) string {
	var b strings.Builder
	for range n {
		from := bits
		switch pick.Intn(6) {
		case 0, 1:
			from = bits[:7]
		case 2, 3:
			from = bits[8:15]
		case 4:
			from = []string{sun, "\u3042", rare}
		}
		b.WriteString(from[pick.Intn(len(from))])
	}
	return b.String()
}

// drawTable has up to eight scripts over one another and over a few runes from U+1000 on, of which some are Common, and some marks.
func drawTable(pick *rand.Rand) api.Tables {
	x := runsTable()
	x.Scripts, x.Marks = nil, nil
	for n := range pick.Intn(9) {
		x.Scripts = append(x.Scripts, api.Script{Name: "s" + strconv.Itoa(n), Spans: drawSpans(pick, 2)})
	}
	x.Common = append(x.Common, drawSpans(pick, 5)...)
	for _, s := range drawSpans(pick, 5) {
		x.Marks = append(x.Marks, api.Mark{Rune: s.Lo, Class: 1 + pick.Intn(254)})
	}
	return x
}

// drawSpans takes each of the runes with a chance of one in so many, a span each, though some touch.
func drawSpans(pick *rand.Rand, of int) []api.Span {
	var l []api.Span
	for r := rune(0x1000); r < 0x100c; r++ {
		if pick.Intn(of) == 0 {
			l = append(l, api.Span{Lo: r, Hi: r})
		}
	}
	return l
}

// drawRunes makes a text of what drawTable speaks of.
func drawRunes(pick *rand.Rand) string {
	var l []rune
	for range pick.Intn(12) {
		l = append(l, 0x1000+rune(pick.Intn(12)))
	}
	return string(l)
}

// eachPair calls with tables, their Books and texts: all texts of table, fewer of the others, drawn texts of drawn tables.
func eachPair(t *testing.T, call func(x api.Tables, b *tables.Book, s string)) {
	t.Helper()
	x, b := table(), book(t)
	eachText(func(s string) { call(x, b, s) })
	for _, x := range otherTables() {
		b := bookOf(t, x)
		eachShort(2, func(s string) { call(x, b, s) })
		eachDrawn(func(s string) { call(x, b, s) })
	}
	pick := rand.New(rand.NewSource(141))
	for range 200 {
		x := drawTable(pick)
		b := bookOf(t, x)
		for range 50 {
			call(x, b, drawRunes(pick))
		}
	}
}
