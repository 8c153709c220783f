package whole_test

import (
	"math/rand"
	"slices"
	"strconv"
	"strings"
	"testing"
	"unicode/utf8"

	"guise/api"
	"guise/tables"
	"guise/whole"
)

// What the chapters 9, 11, 12, 14, 15 and 16 say, once more and in the slowest way, from the table's rows.

func lies(l []api.Span, r rune) bool {
	return slices.ContainsFunc(l, func(x api.Span) bool { return x.Lo <= r && r <= x.Hi })
}

func classOf(x api.Tables, r rune) int {
	for _, m := range x.Marks {
		if m.Rune == r {
			return m.Class
		}
	}
	return 0
}

func wantStrip(x api.Tables, s string) string {
	return string(slices.DeleteFunc([]rune(s), func(r rune) bool { return lies(x.Drops, r) }))
}

// wantOpen takes a whole apart as long as there is one; then it swaps neighbours till none is out of order.
func wantOpen(x api.Tables, s string) string {
	l := []rune(s)
	for i := 0; i < len(l); {
		at := slices.IndexFunc(x.Pairs, func(p api.Pair) bool { return p.Whole == l[i] })
		if at < 0 {
			i++
			continue
		}
		l = slices.Replace(l, i, i+1, x.Pairs[at].Base, x.Pairs[at].Mark)
	}
	for swapped := true; swapped; {
		swapped = false
		for i := 1; i < len(l); i++ {
			if c := classOf(x, l[i]); 0 < c && c < classOf(x, l[i-1]) {
				l[i-1], l[i] = l[i], l[i-1]
				swapped = true
			}
		}
	}
	return string(l)
}

// wantEach puts each rune by what a list's rows say of it.
func wantEach(rows []api.Map, s string) string {
	var text strings.Builder
	for _, r := range s {
		to := string(r)
		for _, m := range rows {
			if m.From == r {
				to = m.To
			}
		}
		text.WriteString(to)
	}
	return text.String()
}

func wantSkeleton(x api.Tables, s string) string {
	return wantEach(x.Looks, wantEach(x.Folds, wantOpen(x, wantStrip(x, s))))
}

func wantLetter(x api.Tables, r rune) bool {
	return utf8.ValidRune(r) && lies(x.Allowed, r) && classOf(x, r) == 0 && !lies(x.Drops, r)
}

// wantCan asks of each spot whether it keeps a text from being of a script.
func wantCan(x api.Tables, s string, n int) bool {
	for at := 0; at < len(s); {
		r, width := utf8.DecodeRuneInString(s[at:])
		bad := r == utf8.RuneError && width == 1
		if bad || !lies(x.Common, r) && classOf(x, r) == 0 && !lies(x.Scripts[n].Spans, r) {
			return false
		}
		at += width
	}
	return true
}

// known is a table with its Book, and all its letters by the rune that their pieces begin with.
type known struct {
	x     api.Tables
	b     *tables.Book
	signs map[rune][]sign
}

type sign struct {
	text, piece string
	of          []bool
}

func know(t *testing.T, x api.Tables) known {
	t.Helper()
	k := known{x: x, b: bookOf(t, x), signs: map[rune][]sign{}}
	for _, a := range x.Allowed {
		for r := a.Lo; r <= a.Hi; r++ {
			if !wantLetter(x, r) {
				continue
			}
			c := sign{text: string(r), piece: wantSkeleton(x, string(r))}
			for n := range x.Scripts {
				c.of = append(c.of, wantCan(x, c.text, n))
			}
			first, _ := utf8.DecodeRuneInString(c.piece)
			k.signs[first] = append(k.signs[first], c)
		}
	}
	return k
}

// want keeps, for so and so many letters, of all texts that have a beginning of the skeleton as theirs the least one, and tries all letters behind it.
func (k known) want(s string, n int) (text string, found bool, reach int) {
	skeleton := wantSkeleton(k.x, s)
	texts := map[int]string{0: ""} // by how many bytes of the skeleton they have
	for len(texts) > 0 {
		if text, ok := texts[len(skeleton)]; ok {
			return text, true, utf8.RuneCountInString(skeleton)
		}
		longer := map[int]string{}
		for at, text := range texts {
			reach = max(reach, utf8.RuneCountInString(skeleton[:at]))
			first, _ := utf8.DecodeRuneInString(skeleton[at:])
			for _, c := range k.signs[first] {
				if !c.of[n] || !strings.HasPrefix(skeleton[at:], c.piece) {
					continue
				}
				to := at + len(c.piece)
				if was, met := longer[to]; !met || text+c.text < was {
					longer[to] = text + c.text
				}
			}
		}
		texts = longer
	}
	return "", false, reach
}

func (k known) wantScripts(s string) []int {
	var l []int
	for n := range k.x.Scripts {
		if _, found, _ := k.want(s, n); found {
			l = append(l, n)
		}
	}
	return l
}

func (k known) wantOthers(s string) []whole.Other {
	var l []whole.Other
	for n := range k.x.Scripts {
		if text, found, _ := k.want(s, n); found && !wantCan(k.x, s, n) {
			l = append(l, whole.Other{Script: n, Text: text})
		}
	}
	return l
}

const (
	latin = iota
	cyrillic
	greek
	none // of no runes
	odd  // of runes of others, too
)

// Marks, and dropped runes.
const (
	acute = "\u0301"
	hat   = "\u0302"
	dot   = "\u0323"
	high  = "\U0001d165"
	soft  = "\u00ad"
	zero  = "\u200d"
)

// Letters, and some that could be but for one thing.
const (
	small    = "\u00e9"     // e and acute
	both     = "\u1ebf"     // e, hat, acute
	bare     = "\u00ea"     // e and hat: not allowed
	mAcute   = "\u1e3f"     // m and acute
	sharp    = "\u00df"     // folded to ss
	last     = "\u03c2"     // folded to sigma
	sigma    = "\u03c3"     // of greek
	ah       = "\u0430"     // looks like a
	es       = "\u0441"     // looks like c
	on       = "\u043e"     // looks like o
	omicron  = "\u03bf"     // looks like o
	ab       = "\u0431"     // looks like ab
	abc      = "\u0432"     // looks like abc
	cd       = "\u0433"     // looks like cd
	bcd      = "\u0434"     // looks like bcd
	de       = "\u0436"     // looks like d
	abcd     = "\u0437"     // looks like abcd
	dze      = "\u0455"     // looks like s, of cyrillic: not allowed
	middle   = "\u00b7"     // Common
	long     = "\u30fc"     // Common
	strange  = "\u0300"     // of no script
	oddN     = "\U0001e900" // looks like n
	oddMM    = "\U0001e903" // folded to mm
	oddMMDot = "\U0001e905" // that and dot
	oddEn    = "\U0001e906" // looks like an
)

func table() api.Tables {
	return api.Tables{
		Scripts: []api.Script{
			{Name: "latin", Spans: []api.Span{{Lo: 'a', Hi: 'z'}, {Lo: 0xdf, Hi: 0xdf}, {Lo: 0xe9, Hi: 0xea}, {Lo: 0x301, Hi: 0x301}, {Lo: 0x1e3f, Hi: 0x1e3f}, {Lo: 0x1ebf, Hi: 0x1ebf}}},
			{Name: "cyrillic", Spans: []api.Span{{Lo: 0x430, Hi: 0x45f}}},
			{Name: "greek", Spans: []api.Span{{Lo: 0x3b1, Hi: 0x3c9}}},
			{Name: "none"},
			{Name: "odd", Spans: []api.Span{{Lo: 'a', Hi: 'b'}, {Lo: 0x431, Hi: 0x431}, {Lo: 0x1e900, Hi: 0x1e90f}}},
		},
		Common: []api.Span{{Lo: '-', Hi: '9'}, {Lo: 0xb7, Hi: 0xb7}, {Lo: 0x200d, Hi: 0x200d}, {Lo: 0x30fc, Hi: 0x30fc}},
		Marks:  []api.Mark{{Rune: 0x301, Class: 230}, {Rune: 0x302, Class: 230}, {Rune: 0x323, Class: 220}, {Rune: 0x1d165, Class: 254}},
		Pairs: []api.Pair{
			{Whole: 0xe9, Base: 'e', Mark: 0x301},
			{Whole: 0xea, Base: 'e', Mark: 0x302},
			{Whole: 0x1ebf, Base: 0xea, Mark: 0x301},
			{Whole: 0x1e3f, Base: 'm', Mark: 0x301},
			{Whole: 0x450, Base: 0x435, Mark: 0x301},
			{Whole: 0x1e905, Base: 0x1e903, Mark: 0x323},
		},
		Folds: []api.Map{
			{From: 'A', To: "a"},
			{From: 'M', To: "m"},
			{From: 0xdf, To: "ss"},
			{From: 0x3c2, To: sigma},
			{From: 0x1e903, To: "mm"},
			{From: 0x1e904, To: "0a"},
		},
		Looks: []api.Map{
			{From: '0', To: "o"},
			{From: '1', To: "l"},
			{From: 'm', To: "rn"},
			{From: 'w', To: "vv"},
			{From: 0x430, To: "a"},
			{From: 0x431, To: "ab"},
			{From: 0x432, To: "abc"},
			{From: 0x433, To: "cd"},
			{From: 0x434, To: "bcd"},
			{From: 0x435, To: "e"},
			{From: 0x436, To: "d"},
			{From: 0x437, To: "abcd"},
			{From: 0x43e, To: "o"},
			{From: 0x441, To: "c"},
			{From: 0x455, To: "s"},
			{From: 0x3bd, To: "v"},
			{From: 0x3bf, To: "o"},
			{From: 0x1e900, To: "n"},
			{From: 0x1e906, To: "an"},
		},
		Drops: []api.Span{{Lo: 0xad, Hi: 0xad}, {Lo: 0x200c, Hi: 0x200d}},
		Allowed: []api.Span{
			{Lo: '-', Hi: '-'}, {Lo: '0', Hi: '9'}, {Lo: 'a', Hi: 'z'}, {Lo: 0xad, Hi: 0xad}, {Lo: 0xb7, Hi: 0xb7}, {Lo: 0xdf, Hi: 0xdf}, {Lo: 0xe9, Hi: 0xe9},
			{Lo: 0x300, Hi: 0x323}, {Lo: 0x3b1, Hi: 0x3c9}, {Lo: 0x430, Hi: 0x450}, {Lo: 0x1e3f, Hi: 0x1e3f}, {Lo: 0x1ebf, Hi: 0x1ebf}, {Lo: 0x200d, Hi: 0x200d}, {Lo: 0x30fc, Hi: 0x30fc}, {Lo: 0x1e900, Hi: 0x1e90f},
		},
	}
}

// otherTables are one that is bare but for a script; those without scripts, marks, folds, looks, drops; one that allows the least; those in which U+FFFD is a letter, of a script or of all; one in which every script has every rune.
func otherTables() []api.Tables {
	lean, noScripts, noMarks, noFolds, noLooks, noDrops, few, letter, shared, all := table(), table(), table(), table(), table(), table(), table(), table(), table(), table()
	lean.Scripts, lean.Marks, lean.Pairs, lean.Folds, lean.Looks, lean.Drops = lean.Scripts[:1], nil, nil, nil, nil, nil
	noScripts.Scripts = nil
	noMarks.Marks, noMarks.Pairs = nil, nil
	noFolds.Folds = nil
	noLooks.Looks = nil
	noDrops.Drops = nil
	few.Allowed = few.Allowed[:3]
	letter.Allowed = append(letter.Allowed, api.Span{Lo: 0x1f000, Hi: 0x1f000})
	letter.Allowed = slices.Insert(letter.Allowed, len(letter.Allowed)-2, api.Span{Lo: 0xfffd, Hi: 0xfffd})
	letter.Scripts[none].Spans = []api.Span{{Lo: 0xfffd, Hi: 0xfffd}}
	shared.Allowed = letter.Allowed
	shared.Common = append(shared.Common, api.Span{Lo: 0xfffd, Hi: 0xfffd})
	for n := range all.Scripts {
		all.Scripts[n].Spans = []api.Span{{Lo: 0, Hi: 0x10ffff}}
	}
	return []api.Tables{lean, noScripts, noMarks, noFolds, noLooks, noDrops, few, letter, shared, all}
}

// wideTable allows all that may be allowed.
func wideTable() api.Tables {
	x := table()
	x.Allowed = []api.Span{{Lo: '-', Hi: '-'}, {Lo: '0', Hi: '9'}, {Lo: 'a', Hi: 'z'}, {Lo: 0x80, Hi: 0x10ffff}}
	x.Scripts[none].Spans = []api.Span{{Lo: 0x80, Hi: 0xffff}}
	x.Scripts[greek].Spans = []api.Span{{Lo: 0x300, Hi: 0x10ffff}}
	return x
}

func bookOf(t *testing.T, x api.Tables) *tables.Book {
	t.Helper()
	b, w := tables.New(x)
	if b == nil {
		t.Fatal(w)
	}
	return b
}

func book(t *testing.T) *tables.Book {
	t.Helper()
	return bookOf(t, table())
}

// bits are what texts are made of: what letters look like, letters, marks, runes that are no letters, bad bytes, and pieces that are a rune only when they stand together.
var bits = []string{
	"a", "b", "c", "d", "o", "r", "n", "l", "s", "v", "e", "-",
	ah, es, on, omicron, ab, abc, cd, bcd, de, abcd, "m", "w", "0", "1", sharp, last, sigma, oddN, oddMM, oddEn,
	small, both, mAcute, oddMMDot, bare, acute, hat, dot,
	zero, soft, middle, long, "A", "?", ".", dze, strange, high, "\ufffd",
	"\xff", "\xd0", "\xb0",
}

// eachShort calls with all texts of up to two of the bits.
func eachShort(call func(s string)) {
	call("")
	for _, first := range bits {
		call(first)
		for _, second := range bits {
			call(first + second)
		}
	}
}

// eachDrawn calls with longer texts picked by a fixed seed.
func eachDrawn(count int, call func(s string)) {
	pick := rand.New(rand.NewSource(16))
	for range count {
		call(drawText(pick, 3+pick.Intn(20)))
	}
}

// drawText draws more of what letters look like than there is in the bits: in other texts little is found.
func drawText(pick *rand.Rand, n int) string {
	var b strings.Builder
	kind, spoilt := pick.Intn(4), pick.Intn(3) == 0
	for range n {
		from := bits[:32]
		switch {
		case spoilt && pick.Intn(8) == 0:
			from = bits
		case kind == 0:
			from = []string{"a", "b", "c", "d", "o", ab, abc, es}
		case kind == 1:
			from = []string{"a", "r", "n", "m", "o", oddN, oddMM, oddEn, "b"}
		}
		b.WriteString(from[pick.Intn(len(from))])
	}
	return b.String()
}

// What drawTable speaks of: letters, of which the last few are what others look like or are folded to; marks; wholes; dropped runes.
const (
	letters     = 30
	targets     = 3
	folded      = 5
	marksDrawn  = 3
	wholes      = 8
	firstLetter = 0x1200
	firstTarget = firstLetter + letters - targets
	firstWhole  = 0x1000
	firstMark   = 0x300
	firstDrop   = 0x2000
)

// drawTable makes a table with few things to be seen, of which many runes are made, so that there are many ways to write a text.
func drawTable(pick *rand.Rand) api.Tables {
	x := table()
	x.Marks, x.Pairs, x.Folds, x.Looks, x.Scripts = nil, nil, nil, nil, nil
	x.Drops = []api.Span{{Lo: firstDrop, Hi: firstDrop + 1}}
	for i := range rune(marksDrawn) {
		x.Marks = append(x.Marks, api.Mark{Rune: firstMark + i, Class: 1 + pick.Intn(2)*110})
	}
	for i := range rune(letters - targets) {
		from, to := firstLetter+i, drawTargets(pick)
		switch {
		case i < folded:
			x.Folds = append(x.Folds, api.Map{From: from, To: to})
		case pick.Intn(8) > 0:
			x.Looks = append(x.Looks, api.Map{From: from, To: to})
		}
	}
	x.Pairs = drawPairs(pick)
	for n := range 1 + pick.Intn(5) {
		x.Scripts = append(x.Scripts, api.Script{Name: "s" + strconv.Itoa(n), Spans: drawSpans(pick, 50+pick.Intn(50))})
	}
	x.Common = append(x.Common[:1:1], drawSpans(pick, 5)...)
	x.Allowed = append(x.Allowed[:3:3], api.Span{Lo: firstMark, Hi: firstMark + 1})
	x.Allowed = append(x.Allowed, drawSpans(pick, 80)...)
	x.Allowed = append(x.Allowed, api.Span{Lo: firstDrop, Hi: firstDrop + 3})
	return x
}

func drawTargets(pick *rand.Rand) string {
	var l []rune
	for range 1 + pick.Intn(api.MaxTo) {
		l = append(l, firstTarget+rune(pick.Intn(targets)))
	}
	return string(l)
}

// drawSpans takes each letter and each whole with a chance of so many in a hundred.
func drawSpans(pick *rand.Rand, chance int) []api.Span {
	var l []api.Span
	for r := rune(firstWhole); r < firstLetter+letters; r++ {
		if r == firstWhole+wholes {
			r = firstLetter
		}
		if pick.Intn(100) < chance {
			l = append(l, api.Span{Lo: r, Hi: r})
		}
	}
	return l
}

func drawPairs(pick *rand.Rand) []api.Pair {
	var l []api.Pair
	deep, was := map[rune]int{}, map[[2]rune]int{}
	for i := range rune(wholes) {
		p := api.Pair{Whole: firstWhole + i, Base: firstLetter + rune(pick.Intn(letters)), Mark: firstMark + rune(pick.Intn(marksDrawn))}
		if i > 0 && pick.Intn(2) > 0 {
			p.Base = firstWhole + rune(pick.Intn(int(i)))
		}
		if parts := [2]rune{p.Base, p.Mark}; deep[p.Base] < api.MaxDeep && was[parts] == 0 {
			l = append(l, p)
			deep[p.Whole] = deep[p.Base] + 1
			was[parts] = 1
		}
	}
	return l
}

// drawRunes makes a text of what drawTable speaks of: of letters and wholes alone, or of all.
func drawRunes(pick *rand.Rand) string {
	var l []rune
	kinds := 7
	if pick.Intn(3) == 0 {
		kinds = 9
	}
	for range pick.Intn(10) {
		switch pick.Intn(kinds) {
		case 0:
			l = append(l, firstWhole+rune(pick.Intn(wholes)))
		case 1, 2, 3:
			l = append(l, firstLetter+rune(pick.Intn(letters)))
		case 4, 5, 6:
			l = append(l, firstTarget+rune(pick.Intn(targets)))
		case 7:
			l = append(l, firstMark+rune(pick.Intn(marksDrawn)))
		case 8:
			l = append(l, firstDrop+rune(pick.Intn(4)))
		}
	}
	return string(l)
}

// eachPair calls with tables and texts: all texts of table, fewer of the others, drawn texts of drawn tables.
func eachPair(t *testing.T, call func(k known, s string)) {
	t.Helper()
	k := know(t, table())
	eachShort(func(s string) { call(k, s) })
	eachDrawn(1500, func(s string) { call(k, s) })
	for _, x := range otherTables() {
		k := know(t, x)
		for _, bit := range bits {
			call(k, bit)
		}
		eachDrawn(150, func(s string) { call(k, s) })
	}
	pick := rand.New(rand.NewSource(161))
	for range 80 {
		k := know(t, drawTable(pick))
		for range 30 {
			call(k, drawRunes(pick))
		}
	}
}
