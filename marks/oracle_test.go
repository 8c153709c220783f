package marks_test

import (
	"math/rand"
	"strings"
	"testing"
	"unicode/utf8"

	"guise/api"
	"guise/marks"
	"guise/tables"
)

// What the chapter says of marks, once more and in the slowest way: a row for each spot with its class; neighbours that stand out of order are swapped till none do.

type row struct {
	place api.Place
	bytes int
	r     rune
	class int
}

func classOf(t api.Tables, r rune) int {
	for _, m := range t.Marks {
		if m.Rune == r {
			return m.Class
		}
	}
	return 0
}

func rowsOf(t api.Tables, s string) []row {
	var l []row
	for at := 0; at < len(s); {
		r, n := utf8.DecodeRuneInString(s[at:])
		l = append(l, row{api.Place{Byte: at, Rune: len(l)}, n, r, classOf(t, r)})
		at += n
	}
	return l
}

func wantClusters(t api.Tables, s string) []marks.Cluster {
	rows := rowsOf(t, s)
	var l []marks.Cluster
	for from := 0; from < len(rows); {
		to := from + 1
		for to < len(rows) && rows[to].class > 0 {
			to++
		}
		c := marks.Cluster{Place: rows[from].place, Spots: to - from, Marks: to - from}
		if rows[from].class == 0 {
			c.Marks, c.Base, c.Based = c.Marks-1, rows[from].r, true
		}
		last := rows[to-1]
		c.Text = s[c.Place.Byte : last.place.Byte+last.bytes]
		l = append(l, c)
		from = to
	}
	return l
}

func wantOrder(t api.Tables, s string) string {
	rows := rowsOf(t, s)
	for i := 1; i < len(rows); i++ {
		for j := i; j > 0 && 0 < rows[j].class && rows[j].class < rows[j-1].class; j-- {
			rows[j-1], rows[j] = rows[j], rows[j-1]
		}
	}
	var l []rune
	for _, x := range rows {
		l = append(l, x.r)
	}
	return string(l)
}

func wantFirst(t api.Tables, s string) (api.Place, bool) {
	rows := rowsOf(t, s)
	for i, x := range rows {
		if i > 0 && x.class != 0 && x.class < rows[i-1].class {
			return x.place, true
		}
	}
	return api.Place{}, false
}

// Marks m and n of class 230, u of class 220 as in the chapter's runs, and one each of the classes at the ends, of three and of four bytes.
const (
	m    = "\u0301"
	n    = "\u0302"
	u    = "\u0323"
	low  = "\u20d2"
	high = "\U0001d165"
)

// table has these marks, a whole, a dropped rune, and runes that are folded and look like others: none of the latter is a mark.
func table() api.Tables {
	return api.Tables{
		Common:  []api.Span{{Lo: '-', Hi: '9'}},
		Marks:   []api.Mark{{Rune: 0x301, Class: 230}, {Rune: 0x302, Class: 230}, {Rune: 0x323, Class: 220}, {Rune: 0x20d2, Class: 1}, {Rune: 0x1d165, Class: 254}},
		Pairs:   []api.Pair{{Whole: 0xe9, Base: 'e', Mark: 0x301}},
		Folds:   []api.Map{{From: 'A', To: "a"}},
		Looks:   []api.Map{{From: 0x430, To: "a"}},
		Drops:   []api.Span{{Lo: 0x200d, Hi: 0x200d}},
		Allowed: []api.Span{{Lo: '-', Hi: '-'}, {Lo: '0', Hi: '9'}, {Lo: 'a', Hi: 'z'}},
	}
}

func bookOf(t *testing.T, x api.Tables) *tables.Book {
	t.Helper()
	b, w := tables.New(x)
	if b == nil {
		t.Fatal(w)
	}
	return b
}

func book(t *testing.T) *tables.Book {
	t.Helper()
	return bookOf(t, table())
}

// bits are what the texts of eachText are made of: marks, what is none, bad bytes, and pieces that are a mark only when they stand together.
var bits = []string{m, n, u, low, high, "a", "A", "\u00e9", "\u0430", "\u200d", "\u0303", "\ufffd", "\x00", "\xff", "\xcc", "\x81", "\xe2\x83", "\x92", "\xf0\x9d\x85"}

// eachText calls with all texts of up to three of the bits, and longer ones picked by a fixed seed, most of them of marks.
func eachText(call func(s string)) {
	short := []string{""}
	call("")
	for range 3 {
		var next []string
		for _, s := range short {
			for _, bit := range bits {
				next = append(next, s+bit)
				call(s + bit)
			}
		}
		short = next
	}
	pick := rand.New(rand.NewSource(8))
	for range 3000 {
		call(drawText(pick, 4+pick.Intn(40)))
	}
}

func drawText(pick *rand.Rand, bit int) string {
	var b strings.Builder
	for range bit {
		from := bits
		if pick.Intn(4) > 0 {
			from = bits[:5]
		}
		b.WriteString(from[pick.Intn(len(from))])
	}
	return b.String()
}
