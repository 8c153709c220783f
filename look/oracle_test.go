package look_test

import (
	"math/rand"
	"slices"
	"strings"
	"testing"
	"unicode/utf8"

	"guise/api"
	"guise/tables"
)

// What the chapters 9, 11, 12 and 15 say, once more and in the slowest way, from the table's rows.

func classOf(x api.Tables, r rune) int {
	for _, m := range x.Marks {
		if m.Rune == r {
			return m.Class
		}
	}
	return 0
}

func wantStrip(x api.Tables, s string) string {
	return string(slices.DeleteFunc([]rune(s), func(r rune) bool {
		return slices.ContainsFunc(x.Drops, func(d api.Span) bool { return d.Lo <= r && r <= d.Hi })
	}))
}

// wantOpen takes a whole apart as long as there is one; then it swaps neighbours till none is out of order.
func wantOpen(x api.Tables, s string) string {
	l := []rune(s)
	for i := 0; i < len(l); {
		at := slices.IndexFunc(x.Pairs, func(p api.Pair) bool { return p.Whole == l[i] })
		if at < 0 {
			i++
			continue
		}
		l = slices.Replace(l, i, i+1, x.Pairs[at].Base, x.Pairs[at].Mark)
	}
	for swapped := true; swapped; {
		swapped = false
		for i := 1; i < len(l); i++ {
			if c := classOf(x, l[i]); 0 < c && c < classOf(x, l[i-1]) {
				l[i-1], l[i] = l[i], l[i-1]
				swapped = true
			}
		}
	}
	return string(l)
}

// wantEach puts each rune by what a list's rows say of it.
func wantEach(rows []api.Map, s string) string {
	text := ""
	for _, r := range s {
		to := string(r)
		for _, m := range rows {
			if m.From == r {
				to = m.To
			}
		}
		text += to
	}
	return text
}

func wantSkeleton(x api.Tables, s string) string {
	return wantEach(x.Looks, wantEach(x.Folds, wantOpen(x, wantStrip(x, s))))
}

func wantRune(x api.Tables, r rune) []rune {
	for _, m := range x.Looks {
		if m.From == r {
			return []rune(m.To)
		}
	}
	return []rune{r}
}

// wantStrict tells nothing of nil Books and of texts that are too long.
func wantStrict(x api.Tables, s string) (string, api.Place, api.Errno) {
	n := 0
	for at := 0; at < len(s); n++ {
		r, width := utf8.DecodeRuneInString(s[at:])
		if r == utf8.RuneError && width == 1 {
			return "", place(at, n), api.ErrBad
		}
		at += width
	}
	return wantSkeleton(x, s), place(0, 0), api.OK
}

// wantParts tells it of two skeletons.
func wantParts(one, other string) (int, bool) {
	if one == other {
		return 0, false
	}
	l, m := []rune(one), []rune(other)
	n := min(len(l), len(m))
	for !slices.Equal(l[:n], m[:n]) {
		n--
	}
	return n, true
}

// wantClasses asks of each text which others have its skeleton.
func wantClasses(x api.Tables, l []string) [][]int {
	var skeletons []string
	for _, s := range l {
		skeletons = append(skeletons, wantSkeleton(x, s))
	}
	var all [][]int
	for n, skeleton := range skeletons {
		if slices.Index(skeletons, skeleton) < n {
			continue
		}
		var class []int
		for other := range l {
			if skeletons[other] == skeleton {
				class = append(class, other)
			}
		}
		all = append(all, class)
	}
	return all
}

func place(b, n int) api.Place { return api.Place{Byte: b, Rune: n} }

// Marks: acute and hat of class 230, dot of class 220, one of the lowest class, one of the highest, of four bytes.
const (
	acute = "\u0301"
	hat   = "\u0302"
	dot   = "\u0323"
	low   = "\u20d2"
	high  = "\U0001d165"
)

// Dropped runes, of two, three and four bytes.
const (
	soft = "\u00ad"
	zero = "\u200d"
	tag  = "\U000e0001"
)

// Folded runes, wholes, and runes that look like others.
const (
	small    = "\u00e9"     // e and acute
	great    = "\u00c9"     // E and acute
	both     = "\u1ebf"     // e, hat, acute
	dotted   = "\u1ec7"     // e, hat, dot: its marks stand out of order
	mAcute   = "\u1e3f"     // m and acute: the mark stands behind what m looks like
	yeGrave  = "\u0450"     // ye and acute
	sharp    = "\u00df"     // folded to ss
	sharpDot = "\U0001e901" // sharp and dot
	onBad    = "\ufdd0"     // U+FFFD and dot
	kelvin   = "\u212a"     // folded to k, which looks like three
	ah       = "\u0430"     // looks like a
	ye       = "\u0435"     // looks like e, and has wholes of its own
	least    = "\u0080"     // the least rune beyond ASCII, and those beside the surrogates, beside U+FFFD, and the greatest
	ahead    = "\ud7ff"
	under    = "\ufffc"
	most     = "\U0010ffff"
	grin     = "\U0001f600" // folded to as many runes as may be, each of which looks like as many as may be
	fourWide = "\U0001f601\U0001f602\U0001f603\U0001f604"
	deepest  = "\U0001e913" // grin and four marks, pair by pair: of no spot more runes may come
)

// table has these. Of the letters that are folded, A looks like something else, which is not asked of a text.
func table() api.Tables {
	return api.Tables{
		Scripts: []api.Script{{Name: "latin", Spans: []api.Span{{Lo: 'a', Hi: 'z'}}}},
		Common:  []api.Span{{Lo: '-', Hi: '9'}},
		Marks:   []api.Mark{{Rune: 0x301, Class: 230}, {Rune: 0x302, Class: 230}, {Rune: 0x323, Class: 220}, {Rune: 0x20d2, Class: 1}, {Rune: 0x1d165, Class: 254}},
		Pairs: []api.Pair{
			{Whole: 0x1e913, Base: 0x1e912, Mark: 0x20d2},
			{Whole: 0x1e912, Base: 0x1e911, Mark: 0x1d165},
			{Whole: 0x1e911, Base: 0x1e910, Mark: 0x301},
			{Whole: 0x1e910, Base: 0x1f600, Mark: 0x323},
			{Whole: 0xe9, Base: 'e', Mark: 0x301},
			{Whole: 0xc9, Base: 'E', Mark: 0x301},
			{Whole: 0xea, Base: 'e', Mark: 0x302},
			{Whole: 0x1ebf, Base: 0xea, Mark: 0x301},
			{Whole: 0x1ec7, Base: 0xea, Mark: 0x323},
			{Whole: 0x1e3f, Base: 'm', Mark: 0x301},
			{Whole: 0x450, Base: 0x435, Mark: 0x301},
			{Whole: 0x1e901, Base: 0xdf, Mark: 0x323},
			{Whole: 0xfdd0, Base: 0xfffd, Mark: 0x323},
		},
		Folds: []api.Map{
			{From: 'A', To: "a"},
			{From: 'E', To: "e"},
			{From: 'M', To: "m"},
			{From: 'L', To: "l"},
			{From: 0xdf, To: "ss"},
			{From: 0x212a, To: "k"},
			{From: 0x1f600, To: fourWide},
		},
		Looks: []api.Map{
			{From: 'm', To: "rn"},
			{From: '0', To: "o"},
			{From: 'l', To: "1"},
			{From: 's', To: "5"},
			{From: 'k', To: "|\u2039\u0138"},
			{From: 'A', To: "4"},
			{From: 'Q', To: "O"},
			{From: ' ', To: "_"},
			{From: 0x430, To: "a"},
			{From: 0x435, To: "e"},
			{From: 0x80, To: "\u0081"},
			{From: 0xd7ff, To: "\ue000"},
			{From: 0xfffc, To: "\ufffe"},
			{From: 0x10ffff, To: "\U0010fffe"},
			{From: 0x1f601, To: "\U0001f611\U0001f612\U0001f613\U0001f614"},
			{From: 0x1f602, To: "\U0001f612\U0001f612\U0001f612\U0001f612"},
			{From: 0x1f603, To: "wxyz"},
			{From: 0x1f604, To: "\U0001f611\U0001f611oo"},
		},
		Drops:   []api.Span{{Lo: 0xad, Hi: 0xad}, {Lo: 0x200c, Hi: 0x200d}, {Lo: 0xe0001, Hi: 0xe0001}},
		Allowed: []api.Span{{Lo: '-', Hi: '-'}, {Lo: '0', Hi: '9'}, {Lo: 'a', Hi: 'z'}},
	}
}

// otherTables are the bare one; those that say nothing of marks, of folds, of what is dropped, of looks; one in which all marks have one class; one with as many looks as there may be.
func otherTables() []api.Tables {
	bare, noMarks, noFolds, noDrops, noLooks, oneClass, many := table(), table(), table(), table(), table(), table(), table()
	bare.Marks, bare.Pairs, bare.Folds, bare.Looks, bare.Drops = nil, nil, nil, nil, nil
	noMarks.Marks, noMarks.Pairs = nil, nil
	noFolds.Folds = nil
	noDrops.Drops = nil
	noLooks.Looks = nil
	for i := range oneClass.Marks {
		oneClass.Marks[i].Class = 254
	}
	for i := range rune(api.MaxMaps) - rune(len(many.Looks)) {
		many.Looks = append(many.Looks, api.Map{From: 0x20000 + i, To: "ab\u0431" + string(0x10000+i%0x40)})
	}
	return []api.Tables{bare, noMarks, noFolds, noDrops, noLooks, oneClass, many}
}

func bookOf(t *testing.T, x api.Tables) *tables.Book {
	t.Helper()
	b, w := tables.New(x)
	if b == nil {
		t.Fatal(w)
	}
	return b
}

func book(t *testing.T) *tables.Book {
	t.Helper()
	return bookOf(t, table())
}

// bits are what texts are made of: marks, dropped runes, wholes, folded runes, those that look like others, what these look like, bad bytes, and pieces that are a rune only when they stand together.
var bits = []string{
	acute, hat, dot, low, high,
	zero, soft, tag,
	small, great, both, dotted, mAcute, yeGrave, sharpDot, onBad, deepest,
	"e", "E", "A", "M", sharp, kelvin, grin,
	"m", "l", "0", ye, ah, most,
	"a", "s", "1", "rn", "\ufffd", "-",
	"\xff", "\xc3", "\xa9", "\xd0", "\xb0",
}

// eachText calls with all texts of up to two of the bits, with those of three whose first is one of the first half, and with longer ones.
func eachText(call func(s string)) {
	eachShort(call)
	for _, first := range bits[:len(bits)/2] {
		for _, second := range bits {
			for _, third := range bits {
				call(first + second + third)
			}
		}
	}
	eachDrawn(call)
}

// eachShort calls with all texts of up to two of the bits.
func eachShort(call func(s string)) {
	call("")
	for _, first := range bits {
		call(first)
		for _, second := range bits {
			call(first + second)
		}
	}
}

// eachDrawn calls with longer texts picked by a fixed seed.
func eachDrawn(call func(s string)) {
	pick := rand.New(rand.NewSource(15))
	for range 1500 {
		call(drawText(pick, 4+pick.Intn(30)))
	}
}

// drawText draws more marks and dropped runes than there are in the bits: what they do hangs on the spots around them.
func drawText(pick *rand.Rand, n int) string {
	var b strings.Builder
	for range n {
		from := bits
		switch pick.Intn(5) {
		case 0, 1:
			from = bits[:5]
		case 2:
			from = bits[5:8]
		case 3:
			from = bits[8:30]
		}
		b.WriteString(from[pick.Intn(len(from))])
	}
	return b.String()
}

// What drawTable speaks of: letters, which may be folded or look like others; marks; wholes; dropped runes.
const (
	letters     = 12 // from firstLetter on, and so on
	marksDrawn  = 5
	wholes      = 20
	firstLetter = 0x1200
	firstWhole  = 0x1000
	firstMark   = 0x300
	firstDrop   = 0x2000
)

// drawTable parts the letters into folded ones, those that look like others, and the rest, to which both come; wholes stand on all of them, or on a whole ahead that is not too deep.
func drawTable(pick *rand.Rand) api.Tables {
	x := table()
	x.Marks, x.Pairs, x.Folds, x.Looks = nil, nil, nil, nil
	x.Drops = []api.Span{{Lo: firstDrop, Hi: firstDrop + rune(pick.Intn(3))}}
	for i := range rune(marksDrawn) {
		x.Marks = append(x.Marks, api.Mark{Rune: firstMark + i, Class: 1 + pick.Intn(3)*110})
	}
	folded, like := 1+pick.Intn(4), 4+pick.Intn(5) // numbers of letters: below the one folded, from there on up to the other alike
	for i := range letters - 1 {
		if i < folded {
			x.Folds = append(x.Folds, api.Map{From: firstLetter + rune(i), To: drawLetters(pick, folded)})
		}
		if pick.Intn(6) == 0 || folded <= i && i < like {
			x.Looks = append(x.Looks, api.Map{From: firstLetter + rune(i), To: string(rune(firstLetter + letters - 1))})
		}
	}
	for i, m := range x.Looks {
		if pick.Intn(3) > 0 {
			x.Looks[i].To = drawUnlike(pick, x.Looks, folded, m.To)
		}
	}
	x.Pairs = drawPairs(pick)
	return x
}

// drawLetters draws letters from a number on.
func drawLetters(pick *rand.Rand, from int) string {
	var l []rune
	for range 1 + pick.Intn(api.MaxTo) {
		l = append(l, firstLetter+rune(from+pick.Intn(letters-from)))
	}
	return string(l)
}

// drawUnlike draws letters that look like nothing else, and are not folded; else it is what is given.
func drawUnlike(pick *rand.Rand, looks []api.Map, folded int, other string) string {
	for range 50 {
		to := drawLetters(pick, folded)
		if !slices.ContainsFunc(looks, func(m api.Map) bool { return strings.ContainsRune(to, m.From) }) {
			return to
		}
	}
	return other
}

func drawPairs(pick *rand.Rand) []api.Pair {
	var l []api.Pair
	deep, was := map[rune]int{}, map[[2]rune]int{}
	for i := range rune(wholes) {
		p := api.Pair{Whole: firstWhole + i, Base: firstLetter + rune(pick.Intn(letters)), Mark: firstMark + rune(pick.Intn(marksDrawn))}
		if i > 0 && pick.Intn(2) > 0 {
			p.Base = firstWhole + rune(pick.Intn(int(i)))
		}
		if parts := [2]rune{p.Base, p.Mark}; deep[p.Base] < api.MaxDeep && was[parts] == 0 {
			l = append(l, p)
			deep[p.Whole] = deep[p.Base] + 1
			was[parts] = 1
		}
	}
	pick.Shuffle(len(l), func(i, j int) { l[i], l[j] = l[j], l[i] })
	return l
}

// drawRunes makes a text of what drawTable speaks of.
func drawRunes(pick *rand.Rand) string {
	var l []rune
	for range pick.Intn(12) {
		switch pick.Intn(6) {
		case 0, 1:
			l = append(l, firstLetter+rune(pick.Intn(letters)))
		case 2:
			l = append(l, firstWhole+rune(pick.Intn(wholes)))
		case 3:
			l = append(l, firstDrop+rune(pick.Intn(4)))
		default:
			l = append(l, firstMark+rune(pick.Intn(marksDrawn)))
		}
	}
	return string(l)
}
