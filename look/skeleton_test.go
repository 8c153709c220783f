package look_test

import (
	"math/rand"
	"strings"
	"testing"

	"guise/api"
	"guise/look"
	"guise/standard"
)

func TestP15_2EachText(t *testing.T) {
	b, x := book(t), table()
	eachText(func(s string) {
		if got, want := look.Skeleton(b, s), wantSkeleton(x, s); got != want {
			t.Errorf("%+q: %+q, want %+q", s, got, want)
		}
	})
}

func TestP15_2ByHand(t *testing.T) {
	b := book(t)
	grinLook := "\U0001f611\U0001f612\U0001f613\U0001f614" + strings.Repeat("\U0001f612", 4) + "wxyz" + "\U0001f611\U0001f611oo"
	for s, want := range map[string]string{
		"":                               "",
		"abc":                            "abc",
		"-.":                             "-.",
		zero + soft + tag:                "",
		"mM0":                            "rnrno",
		"A":                              "a", // folded ahead of being looked at: not 4
		"L1l":                            "111",
		"Q O":                            "O_O",
		ah + ye:                          "ae",
		kelvin:                           "|\u2039\u0138", // folded, and then it looks like others
		sharp + "S":                      "55S",
		small:                            "e" + acute,
		"e" + acute:                      "e" + acute, // not put together
		great:                            "e" + acute, // taken apart, and then folded
		yeGrave:                          "e" + acute, // taken apart, and then its base looks like another
		ye + zero + acute:                "e" + acute,
		both:                             "e" + hat + acute,
		dotted:                           "e" + dot + hat, // in order
		dotted + dot:                     "e" + dot + dot + hat,
		mAcute:                           "rn" + acute, // the mark stays behind
		mAcute + dot:                     "rn" + dot + acute,
		"m" + zero + acute:               "rn" + acute,
		sharpDot + acute:                 "55" + dot + acute,
		"e" + acute + zero + dot:         "e" + dot + acute, // dropped runes are gone ahead of all else
		small + soft + tag + low:         "e" + low + acute,
		acute + zero + dot + "a":         dot + acute + "a",
		grin:                             grinLook,
		deepest:                          grinLook + low + dot + acute + high,
		"\xff":                           "\ufffd",
		"\xef\xbf":                       "\ufffd\ufffd",
		"\xff" + zero + dot:              "\ufffd" + dot,
		onBad:                            "\ufffd" + dot,
		"\xc3" + zero + "\xa9":           "\ufffd\ufffd", // bad spots stay bad, what stood between them gone
		"\xd0" + soft + "\xb0":           "\ufffd\ufffd",
		"\xd0m\xb0":                      "\ufffdrn\ufffd",
		"\xed\xa0\x80" + ahead:           "\ufffd\ufffd\ufffd\ue000",
		least + under + most + "\ufffd":  "\u0081\ufffe\U0010fffe\ufffd",
		"\u0081\ue000\ufffe\U0010fffe":   "\u0081\ue000\ufffe\U0010fffe",
		"a\x00\n\x7f~@[`{":               "a\x00\n\x7f~@[`{",
		"rn" + acute + " " + hat + "0":   "rn" + acute + "_" + hat + "o",
		"\u0303m":                        "\u0303rn", // no mark of this table
		"e" + high + acute + dot + low:   "e" + low + dot + acute + high,
		ye + hat + acute + hat:           "e" + hat + acute + hat,
		"E" + hat + tag + dot + "\u200b": "e" + dot + hat + "\u200b", // that is not dropped by this table
	} {
		if got := look.Skeleton(b, s); got != want {
			t.Errorf("%+q: %+q, want %+q", s, got, want)
		}
	}
}

func TestP15_2OtherTables(t *testing.T) {
	for n, x := range append(otherTables(), standard.Book().Tables()) {
		b := bookOf(t, x)
		check := func(s string) {
			if got, want := look.Skeleton(b, s), wantSkeleton(x, s); got != want {
				t.Errorf("%d: %+q: %+q, want %+q", n, s, got, want)
			}
		}
		if len(x.Looks) < api.MaxMaps {
			eachShort(check)
		}
		for _, s := range []string{"", "A" + ah + zero, yeGrave + soft + dot, deepest, "\xffm0", "\U00020000\U00020fed" + acute, "\U00020fee\U0001ffff"} {
			check(s)
		}
	}
}

func TestP15_2DrawnTables(t *testing.T) {
	pick := rand.New(rand.NewSource(152))
	for range 200 {
		x := drawTable(pick)
		b := bookOf(t, x)
		for range 50 {
			s := drawRunes(pick)
			if got, want := look.Skeleton(b, s), wantSkeleton(x, s); got != want {
				t.Errorf("%+v: %+q: %+q, want %+q", x, s, got, want)
			}
		}
	}
}

// A text of one rune, of every rune.
func TestP15_2EveryRune(t *testing.T) {
	for n, x := range []api.Tables{table(), standard.Book().Tables()} {
		b, said := bookOf(t, x), map[rune]int{} // runes of which the table says something
		for _, r := range b.Froms() {
			said[r] = 1
		}
		for r := rune(0); r <= 0x10ffff; r++ {
			if r >= 0xd800 && r <= 0xdfff {
				continue
			}
			s := string(r)
			want := s
			switch {
			case b.Dropped(r):
				want = ""
			case said[r] > 0:
				want = wantSkeleton(x, s)
			}
			if got := look.Skeleton(b, s); got != want {
				t.Errorf("%d: %U: %+q, want %+q", n, r, got, want)
			}
		}
	}
}

// Skeleton takes texts of any length (only Strict speaks of R10), and skeletons may be longer.
func TestP15_2Long(t *testing.T) {
	b, n := book(t), api.MaxText
	for s, want := range map[string]string{
		strings.Repeat("Am", n):                 strings.Repeat("arn", n),
		strings.Repeat("\xff", n+1):             strings.Repeat("\ufffd", n+1),
		strings.Repeat(zero, n) + "0":           "o",
		strings.Repeat(yeGrave, n):              strings.Repeat("e"+acute, n),
		"e" + strings.Repeat(acute+zero+dot, n): "e" + strings.Repeat(dot, n) + strings.Repeat(acute, n),
		strings.Repeat("a", n) + kelvin:         strings.Repeat("a", n) + "|\u2039\u0138",
	} {
		if got := look.Skeleton(b, s); got != want {
			t.Errorf("%d bytes: %d, want %d", len(s), len(got), len(want))
		}
	}
}

func TestP15_2NilBook(t *testing.T) {
	for _, s := range []string{"", "a", "m", small, "\xff"} {
		if got := look.Skeleton(nil, s); got != "" {
			t.Errorf("%+q: %+q", s, got)
		}
	}
}
