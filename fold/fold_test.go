package fold_test

import (
	"math/rand"
	"strings"
	"testing"

	"guise/api"
	"guise/fold"
	"guise/standard"
	"guise/utf"
)

func TestP12_2Fold(t *testing.T) {
	b, x := book(t), table()
	eachText(func(s string) {
		if got, want := fold.Fold(b, s), wantFold(x, s); got != want {
			t.Errorf("%+q: %+q, want %+q", s, got, want)
		}
	})
}

func TestP12_2ByHand(t *testing.T) {
	b := book(t)
	for s, want := range map[string]string{
		"":                            "",
		"abc":                         "abc",
		"A":                           "a",
		"ABEZ":                        "aBezzz",
		"l1L":                         "l1l", // what looks like another stays
		"\u0430A":                     "\u0430a",
		sharp + "S" + sharp:           "ssSss",
		kelvin + grin + kelvin:        "k" + fourWide + "k",
		great + small:                 great + small, // nothing is taken apart
		greatBoth + sharpAcute:        greatBoth + sharpAcute,
		"e" + acute:                   "e" + acute, // nor put together
		"E" + acute:                   "e" + acute,
		"E" + acute + dot:             "e" + acute + dot, // nor ordered
		acute + dot + sharp + acute:   acute + dot + "ss" + acute,
		"A\u200dE":                    "a\u200de", // nor dropped
		"\xff":                        "\ufffd",
		"\xff\ufffd":                  "\ufffd\ufffd",
		"\xc3\x9f":                    "ss",
		"\x9f\xc3":                    "\ufffd\ufffd",
		"\xc3A\x9f":                   "\ufffda\ufffd",
		"\xc3\xc3\x9f\x9f":            "\ufffdss\ufffd",
		"\xe2\x84\xaa":                "k",
		"\xe2\x84A\xaa":               "\ufffd\ufffda\ufffd",
		"\xf0\x9f\x98":                "\ufffd\ufffd\ufffd",
		"\xed\xa0\x80":                "\ufffd\ufffd\ufffd", // a surrogate between two that are folded is no rune
		ahead + "\xed\xbf\xbf":        "\ue001\ud7fe\ufffd\ufffd\ufffd",
		under + "\ufffd" + above:      "a \ufffd\uffff",
		"\xef\xbf":                    "\ufffd\ufffd",
		"\xc1\x81" + least + "\u0081": "\ufffd\ufffd\u0081\u0081",
		"\x00\x1f\x7f@[`{\n-.":        "\x00\x1f\x7f@[`{\n-.",
		"\xf4\x90\x80\x80" + most:     "\ufffd\ufffd\ufffd\ufffd\U0010fffe\U0010fffe",
	} {
		if got := fold.Fold(b, s); got != want {
			t.Errorf("%+q: %+q, want %+q", s, got, want)
		}
	}
}

func TestP12_2OtherTables(t *testing.T) {
	for n, x := range otherTables() {
		b := bookOf(t, x)
		eachText(func(s string) {
			if got, want := fold.Fold(b, s), wantFold(x, s); got != want {
				t.Errorf("%d: %+q: %+q, want %+q", n, s, got, want)
			}
		})
	}
}

// Tables of drawn folds: among few runes, so that texts of these meet many of them.
func TestP12_2DrawnTables(t *testing.T) {
	pick := rand.New(rand.NewSource(122))
	for range 60 {
		x := drawTable(pick)
		b := bookOf(t, x)
		for range 40 {
			var l []rune
			for range pick.Intn(12) {
				l = append(l, drawRune(pick))
			}
			checkAll(t, x, b, string(l))
		}
	}
}

func drawRune(pick *rand.Rand) rune {
	return []rune{'A', 'a', 0x400, 0xfff0, 0x1ff00}[pick.Intn(5)] + rune(pick.Intn(12))
}

// drawTable folds some of what drawRune draws to others of it.
func drawTable(pick *rand.Rand) api.Tables {
	x := table()
	x.Pairs, x.Looks, x.Folds = nil, nil, nil
	from := map[rune]int{}
	for range pick.Intn(30) {
		if r := drawRune(pick); (r > 0x7f || r < 'a') && from[r] == 0 {
			from[r] = 1
			x.Folds = append(x.Folds, api.Map{From: r})
		}
	}
	for i := range x.Folds {
		for range 1 + pick.Intn(api.MaxTo) {
			r := drawRune(pick)
			for from[r] != 0 {
				r = drawRune(pick)
			}
			x.Folds[i].To += string(r)
		}
	}
	return x
}

// everyRune is a text of all runes, rising.
func everyRune() string {
	var b strings.Builder
	for r := rune(0); r <= 0x10ffff; r++ {
		if r < 0xd800 || r > 0xdfff {
			b.WriteRune(r)
		}
	}
	return b.String()
}

func TestP12_2EveryRune(t *testing.T) {
	s := everyRune()
	for n, x := range append(otherTables(), table(), standard.Book().Tables()) {
		var change []string
		for _, m := range x.Folds {
			change = append(change, string(m.From), m.To)
		}
		want := strings.NewReplacer(change...).Replace(s)
		b := bookOf(t, x)
		if got := fold.Fold(b, s); got != want || fold.Count(b, s) != utf.Count(want) {
			t.Errorf("%d: %d bytes, want %d; %d runes, want %d", n, len(got), len(want), fold.Count(b, s), utf.Count(want))
		}
	}
}

// Texts of any length are taken (R10 does not speak of this layer), and forms may be longer.
func TestP12_2Long(t *testing.T) {
	b, n := book(t), api.MaxText
	for s, want := range map[string]string{
		strings.Repeat("Aa", n):            strings.Repeat("aa", n),
		strings.Repeat(grin, n+1):          strings.Repeat(fourWide, n+1),
		strings.Repeat(kelvin, n) + "\xff": strings.Repeat("k", n) + "\ufffd",
		strings.Repeat("\xff", n+1):        strings.Repeat("\ufffd", n+1),
		strings.Repeat("a", n) + sharp:     strings.Repeat("a", n) + "ss",
		"E" + strings.Repeat(acute+dot, n): "e" + strings.Repeat(acute+dot, n),
		strings.Repeat("\u20ac", n+77):     strings.Repeat("\u20ac", n+77),
		strings.Repeat(" ", n) + "\xc3":    strings.Repeat(" ", n) + "\ufffd",
	} {
		if got := fold.Fold(b, s); got != want {
			t.Errorf("%d bytes: %d, want %d", len(s), len(got), len(want))
		}
	}
}

func TestP12_2NilBook(t *testing.T) {
	for _, s := range []string{"", "a", "A", sharp, "\xff"} {
		if got := fold.Fold(nil, s); got != "" {
			t.Errorf("%+q: %+q", s, got)
		}
	}
}
