package label_test

import (
	"errors"
	"math/rand"
	"slices"
	"strings"
	"testing"
	"unicode/utf8"

	"guise/api"
	"guise/boot"
	"guise/label"
	"guise/tables"
)

// What the chapters 9 to 14, 17 and 18 say, once more and in the slowest way, from the table's rows.

func lies(l []api.Span, r rune) bool {
	return slices.ContainsFunc(l, func(x api.Span) bool { return x.Lo <= r && r <= x.Hi })
}

func classOf(x api.Tables, r rune) int {
	for _, m := range x.Marks {
		if m.Rune == r {
			return m.Class
		}
	}
	return 0
}

// wantOpen takes a whole apart as long as there is one; then it swaps neighbours till none is out of order.
func wantOpen(x api.Tables, s string) string {
	l := []rune(s)
	for i := 0; i < len(l); {
		at := slices.IndexFunc(x.Pairs, func(p api.Pair) bool { return p.Whole == l[i] })
		if at < 0 {
			i++
			continue
		}
		l = slices.Replace(l, i, i+1, x.Pairs[at].Base, x.Pairs[at].Mark)
	}
	for swapped := true; swapped; {
		swapped = false
		for i := 1; i < len(l); i++ {
			if c := classOf(x, l[i]); 0 < c && c < classOf(x, l[i-1]) {
				l[i-1], l[i] = l[i], l[i-1]
				swapped = true
			}
		}
	}
	return string(l)
}

// seatOf tells where the seat of the mark at i is; -1, if it has none, or a mark between them blocks it.
func seatOf(x api.Tables, l []rune, i int) int {
	for seat := i - 1; seat >= 0; seat-- {
		class := classOf(x, l[seat])
		if class == 0 {
			return seat
		}
		if class >= classOf(x, l[i]) {
			return -1
		}
	}
	return -1
}

func wantShut(x api.Tables, s string) string {
	l := []rune(wantOpen(x, s))
	for i := 0; i < len(l); {
		seat := -1
		if classOf(x, l[i]) > 0 {
			seat = seatOf(x, l, i)
		}
		at := slices.IndexFunc(x.Pairs, func(p api.Pair) bool { return seat >= 0 && p.Base == l[seat] && p.Mark == l[i] })
		if at < 0 {
			i++
			continue
		}
		l[seat] = x.Pairs[at].Whole
		l = slices.Delete(l, i, i+1)
	}
	return string(l)
}

func wantNorm(x api.Tables, s string) string {
	s = string(slices.DeleteFunc([]rune(s), func(r rune) bool { return lies(x.Drops, r) }))
	var folded strings.Builder
	for _, r := range wantOpen(x, s) {
		to := string(r)
		for _, m := range x.Folds {
			if m.From == r {
				to = m.To
			}
		}
		folded.WriteString(to)
	}
	return wantShut(x, folded.String())
}

type spot struct {
	place api.Place
	width int
	r     rune
	bad   bool
}

func spotsOf(s string) []spot {
	var l []spot
	for at := 0; at < len(s); {
		r, width := utf8.DecodeRuneInString(s[at:])
		l = append(l, spot{place(at, len(l)), width, r, r == utf8.RuneError && width == 1})
		at += width
	}
	return l
}

func place(b, n int) api.Place { return api.Place{Byte: b, Rune: n} }

// wantMixed tells whether spots, none of them bad, can be of no script, and some of them must be of one.
func wantMixed(x api.Tables, l []spot) bool {
	l = slices.DeleteFunc(slices.Clone(l), func(s spot) bool { return lies(x.Common, s.r) || classOf(x, s.r) > 0 })
	return len(l) > 0 && !slices.ContainsFunc(x.Scripts, func(c api.Script) bool {
		return !slices.ContainsFunc(l, func(s spot) bool { return !lies(c.Spans, s.r) })
	})
}

type told struct {
	place api.Place
	why   api.Errno
}

// wantTold lists all that is said against a text, by the chapter's numbers, and takes the first; rules that need others to hold are asked only where they do.
func wantTold(x api.Tables, s string) told {
	if len(s) > api.MaxText {
		return told{why: api.ErrLong}
	}
	if s == "" {
		return told{why: api.ErrEmpty}
	}
	l, form := spotsOf(s), wantNorm(x, s)
	for _, x := range l {
		if x.bad {
			return told{x.place, api.ErrBad}
		}
	}
	for _, x := range l {
		if end := x.place.Byte + x.width; s != form && (end > len(form) || s[:end] != form[:end]) {
			return told{x.place, api.ErrNormal}
		}
	}
	for _, s := range l {
		if !lies(x.Allowed, s.r) {
			return told{s.place, api.ErrAllow}
		}
	}
	last := len(l) - 1
	for _, n := range []int{0, last, 2} {
		if n <= last && l[n].r == '-' && (n != 2 || n == last || l[3].r == '-') {
			return told{l[n].place, api.ErrHyphen}
		}
	}
	if classOf(x, l[0].r) > 0 {
		return told{why: api.ErrMark}
	}
	for n, s := range l {
		if wantMixed(x, l[:n+1]) {
			return told{s.place, api.ErrMixed}
		}
	}
	if len(wantForm(s)) > 63 {
		return told{why: api.ErrLong}
	}
	return told{}
}

// wantForm writes a form as RFC 3492 does, with the house's numbers: a delta that grows over all runes.
func wantForm(s string) string {
	basic := strings.Map(func(r rune) rune {
		if r < 0x80 {
			return r
		}
		return -1
	}, s)
	if basic == s {
		return s
	}
	form, n, delta, bias, h := "xq--"+basic, rune(0x80), 0, 64, len(basic)
	if h > 0 {
		form += "-"
	}
	high := []rune(s)
	slices.Sort(high)
	first := true
	for _, m := range slices.Compact(high[len(basic):]) {
		delta += int(m-n) * (h + 1)
		n = m
		for _, r := range s {
			if r < n {
				delta++
			}
			if r == n {
				form += wantDigits(delta, bias)
				bias = wantBias(delta, h+1, first)
				delta, h, first = 0, h+1, false
			}
		}
		delta++
		n++
	}
	return form
}

func wantDigits(v, bias int) string {
	const digits = "abcdefghijklmnopqrstuvwxyz0123456789"
	form := ""
	for k := 36; ; k += 36 {
		t := min(max(k-bias, 2), 24)
		if v < t {
			return form + digits[v:][:1]
		}
		form += digits[t+(v-t)%(36-t):][:1]
		v = (v - t) / (36 - t)
	}
}

func wantBias(v, n int, first bool) int {
	if first {
		v /= 600
	} else {
		v /= 2
	}
	k := 0
	for v += v / n; v > (36-2)*24/2; k += 36 {
		v /= 36 - 2
	}
	return k + (36-2+1)*v/(v+40)
}

func wantASCII(x api.Tables, s string) (string, told) {
	if no := wantTold(x, s); no != (told{}) {
		return "", no
	}
	return wantForm(s), told{}
}

func wantUnicode(x api.Tables, a string) (string, told) {
	if len(a) > 63 {
		return "", told{why: api.ErrLong}
	}
	s := a
	if len(a) < 4 || a[:4] != "xq--" {
		for _, x := range spotsOf(a) {
			if x.r >= 0x80 {
				return "", told{x.place, api.ErrPlainA}
			}
		}
	} else {
		text, at, e := boot.Decode(boot.House(), a[4:])
		if e != api.OK {
			return "", told{place(4+at, 4+at), e}
		}
		if len(text) == utf8.RuneCountInString(text) {
			return "", told{why: api.ErrPlainA}
		}
		s = text
	}
	if no := wantTold(x, s); no != (told{}) {
		return "", no
	}
	return s, told{}
}

func wantRepair(x api.Tables, s string) (string, bool) {
	l := slices.DeleteFunc([]rune(wantNorm(x, s)), func(r rune) bool { return !lies(x.Allowed, r) })
	for len(l) > 0 && l[0] == '-' {
		l = l[1:]
	}
	for len(l) > 0 && l[len(l)-1] == '-' {
		l = l[:len(l)-1]
	}
	if wantTold(x, string(l)) != (told{}) {
		return "", false
	}
	return string(l), true
}

// tell holds an error against what must be told: a Refusal that wraps its number, and of api's numbers no other one.
func tell(t *testing.T, what string, err error, want told) {
	t.Helper()
	if want == (told{}) {
		if err != nil {
			t.Errorf("%s: %v", what, err)
		}
		return
	}
	var r *label.Refusal
	if !errors.As(err, &r) || r.Place != want.place || r.Why != want.why || r.Unwrap() != want.why {
		t.Errorf("%s: %#v, want %+v", what, err, want)
		return
	}
	for e := range api.Errno(100) {
		if errors.Is(err, e) != (e == want.why) {
			t.Errorf("%s: of %v it is %v that it is %d", what, err, e != want.why, e)
		}
	}
	if err.Error() == "" || error(r) != err {
		t.Errorf("%s: %#v", what, err)
	}
}

// The scripts of table, and what the runes of them are.
const (
	latin = iota
	cyrillic
	han
	japanese
	none
)

const (
	acute   = "\u0301"     // a mark, allowed
	dot     = "\u0323"     // a mark of a lower class, allowed
	hat     = "\u0302"     // a mark, not allowed
	small   = "\u00e9"     // e and acute
	great   = "\u00c9"     // E and acute: its form is small
	hatted  = "\u00ea"     // e and hat: not allowed
	sharp   = "\u00df"     // folded to ss
	ah      = "\u0430"     // of cyrillic
	sun     = "\u65e5"     // of han and japanese
	no      = "\u306e"     // of japanese
	middle  = "\u00b7"     // Common, allowed
	quote   = "\u00ab"     // Common, not allowed
	soft    = "\u00ad"     // dropped
	zero    = "\u200d"     // dropped, though allowed
	strange = "\u0100"     // allowed, of no script
	far     = "\U0010ffff" // allowed, of latin
	wide    = "\U0001e900" // allowed, of cyrillic
	fig     = "\U0001f600" // folded to two far ones and a hyphen's neighbour
)

func table() api.Tables {
	return api.Tables{
		Scripts: []api.Script{
			latin:    {Name: "latin", Spans: []api.Span{{Lo: 'a', Hi: 'z'}, {Lo: 0x80, Hi: 0x80}, {Lo: 0xe9, Hi: 0xea}, {Lo: 0x10ffff, Hi: 0x10ffff}}},
			cyrillic: {Name: "cyrillic", Spans: []api.Span{{Lo: 0x430, Hi: 0x44f}, {Lo: 0x1e900, Hi: 0x1e90f}}},
			han:      {Name: "han", Spans: []api.Span{{Lo: 0x4e00, Hi: 0x9fff}}},
			japanese: {Name: "japanese", Spans: []api.Span{{Lo: 0x3041, Hi: 0x3096}, {Lo: 0x4e00, Hi: 0x9fff}}},
			none:     {Name: "none"},
		},
		Common: []api.Span{{Lo: '-', Hi: '9'}, {Lo: 0xab, Hi: 0xab}, {Lo: 0xb7, Hi: 0xb7}},
		Marks:  []api.Mark{{Rune: 0x301, Class: 230}, {Rune: 0x302, Class: 230}, {Rune: 0x323, Class: 220}},
		Pairs:  []api.Pair{{Whole: 0xe9, Base: 'e', Mark: 0x301}, {Whole: 0xc9, Base: 'E', Mark: 0x301}, {Whole: 0xea, Base: 'e', Mark: 0x302}},
		Folds:  []api.Map{{From: 'A', To: "a"}, {From: 'E', To: "e"}, {From: 0xdf, To: "ss"}, {From: 0x1f600, To: far + far + "a"}},
		Looks:  []api.Map{{From: '1', To: "l"}, {From: 0x430, To: "a"}},
		Drops:  []api.Span{{Lo: 0xad, Hi: 0xad}, {Lo: 0x200d, Hi: 0x200d}},
		Allowed: []api.Span{
			{Lo: '-', Hi: '-'}, {Lo: '0', Hi: '9'}, {Lo: 'a', Hi: 'z'}, {Lo: 0x80, Hi: 0x80}, {Lo: 0xb7, Hi: 0xb7}, {Lo: 0xdf, Hi: 0xdf}, {Lo: 0xe9, Hi: 0xe9}, {Lo: 0x100, Hi: 0x100},
			{Lo: 0x301, Hi: 0x301}, {Lo: 0x323, Hi: 0x323}, {Lo: 0x430, Hi: 0x44f}, {Lo: 0x200d, Hi: 0x200d}, {Lo: 0x3041, Hi: 0x3096}, {Lo: 0x4e00, Hi: 0x9fff}, {Lo: 0x1e900, Hi: 0x1e90f}, {Lo: 0x10ffff, Hi: 0x10ffff},
		},
	}
}

// otherTables are the bare one; those without scripts, folds, drops, marks; two that allow U+FFFD, of latin and Common; one that allows all that may be, of every script.
func otherTables() []api.Tables {
	bare, noScripts, noFolds, noDrops, noMarks, letter, shared, all := table(), table(), table(), table(), table(), table(), table(), table()
	bare = api.Tables{Common: bare.Common[:1], Allowed: bare.Allowed[:3]}
	noScripts.Scripts = nil
	noFolds.Folds = nil
	noDrops.Drops = nil
	noMarks.Marks, noMarks.Pairs = nil, nil
	letter.Allowed = slices.Insert(letter.Allowed, len(letter.Allowed)-2, api.Span{Lo: 0xfffd, Hi: 0xfffd})
	letter.Scripts[latin].Spans = slices.Insert(letter.Scripts[latin].Spans, 3, api.Span{Lo: 0xfffd, Hi: 0xfffd})
	shared.Allowed = letter.Allowed
	shared.Common = append(shared.Common, api.Span{Lo: 0xfffd, Hi: 0xfffd})
	all.Allowed = append(all.Allowed[:3:3], api.Span{Lo: 0x80, Hi: 0x10ffff})
	for n := range all.Scripts {
		all.Scripts[n].Spans = []api.Span{{Lo: 0, Hi: 0x10ffff}}
	}
	return []api.Tables{bare, noScripts, noFolds, noDrops, noMarks, letter, shared, all}
}

func bookOf(t *testing.T, x api.Tables) *tables.Book {
	t.Helper()
	b, w := tables.New(x)
	if b == nil {
		t.Fatal(w)
	}
	return b
}

func book(t *testing.T) *tables.Book {
	t.Helper()
	return bookOf(t, table())
}

// bits are what texts are made of: the first ones may be in a label.
var bits = []string{
	"a", "e", "z", "1", "-", "--", small, ah, sun, no, middle, acute, dot, far, wide, "\u0080",
	strange, "A", "E", ".", " ", great, hatted, sharp, hat, quote, soft, zero, fig, "\u4e00", "\ufffd", "\x00", "\x7f",
	"\xff", "\xc3", "\xa9", "xq--",
}

// eachShort calls with all texts of up to n of the bits.
func eachShort(n int, call func(s string)) {
	short := []string{""}
	call("")
	for range n {
		var next []string
		for _, s := range short {
			for _, bit := range bits {
				next = append(next, s+bit)
				call(s + bit)
			}
		}
		short = next
	}
}

// eachDrawn calls with longer texts, picked by a fixed seed: most of them of one script's runes, some spoilt.
func eachDrawn(count int, call func(s string)) {
	pick := rand.New(rand.NewSource(18))
	for range count {
		call(drawText(pick))
	}
}

func drawText(pick *rand.Rand) string {
	from := [][]string{
		{"a", "b", "e", "1", "-", small, far, middle, dot},
		{ah, "\u0431", "\u044f", wide, "-", "2"},
		{sun, no, "\u4e00", "\u9fff", "1", "-"},
		{"a", "b", "c", "0", "9", "-"},
	}[pick.Intn(4)]
	spoilt := pick.Intn(3) == 0
	var b strings.Builder
	for range 1 + pick.Intn(40) {
		if spoilt && pick.Intn(10) == 0 {
			b.WriteString(bits[pick.Intn(len(bits))])
		} else {
			b.WriteString(from[pick.Intn(len(from))])
		}
	}
	return b.String()
}

// eachOf calls with tables, their Books and texts.
func eachOf(t *testing.T, call func(x api.Tables, b *tables.Book, s string)) {
	t.Helper()
	for n, x := range append([]api.Tables{table()}, otherTables()...) {
		b, most := bookOf(t, x), 2
		if n == 0 {
			most = 3
		}
		eachShort(most, func(s string) { call(x, b, s) })
		eachDrawn(1500, func(s string) { call(x, b, s) })
	}
}
