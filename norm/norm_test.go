package norm_test

import (
	"math/rand"
	"slices"
	"strings"
	"testing"

	"guise/api"
	"guise/norm"
	"guise/standard"
)

func TestP13_2Norm(t *testing.T) {
	b, x := book(t), table()
	eachText(func(s string) {
		if got, want := norm.Norm(b, s), wantNorm(x, s); got != want {
			t.Errorf("%+q: %+q, want %+q", s, got, want)
		}
	})
}

func TestP13_2ByHand(t *testing.T) {
	b := book(t)
	for s, want := range map[string]string{
		"":                               "",
		"abc":                            "abc",
		"A" + zero + "a":                 "aa",
		zero + soft + tag:                "",
		great:                            small,
		"E" + acute:                      small,
		"E" + zero + acute:               small, // stripped ahead of all else
		"E" + tag + soft + acute + zero:  small,
		greatBoth:                        both,
		greatBoth + dot:                  under + hat + acute,
		"E" + acute + zero + dot:         under + acute, // the marks stand together only when the rune between them is gone
		dotted:                           under + hat,
		sharp:                            "ss",
		sharp + dot:                      "s" + sDot, // the mark stands on the last rune
		sharpDot:                         "s" + sDot,
		sharp + acute + dot + "e":        "s" + sDot + acute + "e",
		greatX:                           "x" + acute, // there is no whole of these
		"x" + acute:                      "x" + acute,
		grin + acute:                     fourWide[:12] + wideAcute,
		grin + zero + hat:                fourWide + hat,
		acute:                            acute,
		acute + dot + "E":                dot + acute + "e",
		zero + acute + soft + low:        low + acute,
		"l1\u0435":                       "l1\u0435", // what looks like another stays
		kelvin + kelvin:                  "kk",
		"\xff":                           "\ufffd",
		"\xff" + dot:                     onBad,
		"\ufffd" + zero + dot:            onBad,
		"\xef\xbf\xbd":                   "\ufffd",
		"\xef" + zero + "\xbf\xbd":       "\ufffd\ufffd\ufffd", // bad spots stay bad, what stood between them gone
		"\xc3" + soft + "\xa9":           "\ufffd\ufffd",
		"\xe2\x80":                       "\ufffd\ufffd",
		"a\x00b\n ":                      "a\x00b\n ",
		"\xed\xa0\x80" + acute:           "\ufffd\ufffd\ufffd" + acute,
		"e" + high + acute + low:         small + low + high,
		"e" + hat + zero + hat + acute:   "\u00ea" + hat + acute,
		small + " " + great + " E" + dot: small + " " + small + " " + under,
	} {
		if got := norm.Norm(b, s); got != want {
			t.Errorf("%+q: %+q, want %+q", s, got, want)
		}
	}
}

func TestP13_2OtherTables(t *testing.T) {
	for n, x := range append(otherTables(), standard.Book().Tables()) {
		b := bookOf(t, x)
		check := func(s string) {
			if got, want := norm.Norm(b, s), wantNorm(x, s); got != want {
				t.Errorf("%d: %+q: %+q, want %+q", n, s, got, want)
			}
			p, ok := norm.First(b, s)
			if want, is := wantFirst(x, s); p != want || ok != is {
				t.Errorf("%d: %+q: %+v, %v, want %+v, %v", n, s, p, ok, want, is)
			}
		}
		eachShort(2, check)
		if n < len(otherTables()) { // the house has so many rows that the slow telling is too slow for long texts
			eachDrawn(check)
		}
	}
}

func TestP13_2DrawnTables(t *testing.T) {
	pick := rand.New(rand.NewSource(132))
	for range 200 {
		x := drawTable(pick)
		b := bookOf(t, x)
		for range 100 {
			s := drawRunes(pick)
			if got, want := norm.Norm(b, s), wantNorm(x, s); got != want {
				t.Errorf("%+v: %+q: %+q, want %+q", x, s, got, want)
			}
			p, ok := norm.First(b, s)
			if want, is := wantFirst(x, s); p != want || ok != is {
				t.Errorf("%+v: %+q: %+v, %v, want %+v, %v", x, s, p, ok, want, is)
			}
		}
	}
}

// Of the house: each rune that its table speaks of, alone and with marks and a dropped rune.
func TestP13_2House(t *testing.T) {
	b := standard.Book()
	x := b.Tables()
	drop := string(x.Drops[0].Lo)
	for _, r := range b.Froms() {
		for _, behind := range []string{"", drop, acute, drop + acute, dot + drop + acute, acute + dot} {
			s := string(r) + behind
			if got, want := norm.Norm(b, s), wantNorm(x, s); got != want {
				t.Errorf("%+q: %+q, want %+q", s, got, want)
			}
		}
	}
}

// Every rune that is no mark, one behind the other: of those that the table doesn't speak of nothing changes.
func TestP13_2EveryRune(t *testing.T) {
	for n, x := range []api.Tables{table(), standard.Book().Tables()} {
		b := bookOf(t, x)
		froms := b.Froms()
		var s, want strings.Builder
		for r := rune(0); r <= 0x10ffff; r++ {
			if 0xd800 <= r && r <= 0xdfff || b.Class(r) > 0 {
				continue
			}
			s.WriteRune(r)
			if _, named := slices.BinarySearch(froms, r); named {
				want.WriteString(wantNorm(x, string(r)))
			} else if !b.Dropped(r) {
				want.WriteRune(r)
			}
		}
		if norm.Norm(b, s.String()) != want.String() {
			t.Errorf("%d: some rune became another", n)
		}
	}
}

// Texts of any length are taken (R10 does not speak of these calls), and forms may be longer.
func TestP13_2Long(t *testing.T) {
	b, n := book(t), api.MaxText
	for s, want := range map[string]string{
		strings.Repeat("E"+zero+acute, n):               strings.Repeat(small, n),
		strings.Repeat(grin, n+1):                       strings.Repeat(fourWide, n+1),
		strings.Repeat("\xff", n+1):                     strings.Repeat("\ufffd", n+1),
		"E" + strings.Repeat(hat+zero+dot, n):           under + strings.Repeat(dot, n-1) + strings.Repeat(hat, n),
		strings.Repeat(zero, n) + "A":                   "a",
		strings.Repeat(soft+acute, n):                   strings.Repeat(acute, n),
		strings.Repeat("\u20ac", n) + great + sharp:     strings.Repeat("\u20ac", n) + small + "ss",
		strings.Repeat("e", n) + strings.Repeat(tag, n): strings.Repeat("e", n),
	} {
		if got := norm.Norm(b, s); got != want {
			t.Errorf("%d bytes: %d, want %d", len(s), len(got), len(want))
		}
	}
}

func TestP13_2NilBook(t *testing.T) {
	for _, s := range []string{"", "a", "A", great, zero, acute, "\xff"} {
		if got := norm.Norm(nil, s); got != "" {
			t.Errorf("%+q: %+q", s, got)
		}
		if p, ok := norm.First(nil, s); p != (api.Place{}) || ok {
			t.Errorf("%+q: %+v, %v", s, p, ok)
		}
	}
}
