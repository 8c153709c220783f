package shut_test

import (
	"math/rand"
	"strings"
	"testing"

	"guise/api"
	"guise/marks"
	"guise/open"
	"guise/shut"
	"guise/standard"
)

func TestP10_1Shut(t *testing.T) {
	b, x := book(t), table()
	eachText(func(s string) {
		got, want := shut.Shut(b, s), wantShut(b, x, s)
		if got != want {
			t.Errorf("%+q: %+q, want %+q", s, got, want)
		}
		if p, out := marks.First(b, got); out {
			t.Errorf("%+q: the classes of %+q fall at %+v", s, got, p)
		}
	})
}

func TestP10_1ByHand(t *testing.T) {
	b := book(t)
	for s, want := range map[string]string{
		"":                              "",
		"e":                             "e",
		acute:                           acute,
		acute + dot:                     dot + acute,
		acute + dot + "e" + acute:       dot + acute + "\u00e9", // what stands ahead of a seat doesn't block
		"e" + acute + "e" + acute:       "\u00e9\u00e9",
		"e" + low + acute:               "\u00e9" + low, // past a mark of a lower class
		"e" + low + dot + hat:           "\u1eb9" + low + hat,
		"e" + low + low + high:          "e" + low + low + high,
		"e" + high + acute:              "\u00e9" + high, // the order put the acute ahead
		"x" + acute + hat:               "x" + acute + hat,
		"e" + hat + hat:                 "\u00ea" + hat,
		"e" + hat + hat + acute:         "\u00ea" + hat + acute, // the second hat blocks
		"e" + hat + dot:                 "\u1eb9" + hat,
		"\u1ebf":                        "\u1ebf",
		"\u00ea" + acute:                "\u1ebf",
		"\u1ebf" + dot:                  "\u1eb9" + hat + acute,
		"\u1ebf" + acute:                "\u1ebf" + acute,
		dotted:                          "\u1eb9" + hat,
		"a" + acute + acute + hat:       thrice,
		"a" + acute + hat + acute:       "\u2460" + hat + acute,
		thrice + hat:                    thrice + hat,
		"a" + acute + acute + dot:       twice + dot, // the dot stands ahead when it comes, and doesn't block
		foot + low + dot + acute:        "\U0001f613",
		foot + high + acute + dot + low: rising,
		foot + high + acute + low:       narrow + acute + high,
		foot + high + acute + dot:       foot + dot + acute + high,
		rising + dot:                    rising + dot, // the second dot stays, and blocks none of a higher class
		falling:                         "\U0001f605" + low + hat + high,
		face + high + hat:               "\U0001f601" + hat, // the whole is made at the end: the hat is not asked again
		"\u00c9\u0435" + acute:          "\u00c9\u0435" + acute,
		"E" + acute:                     "\u00c9",          // nothing is folded
		"e\u200d" + acute:               "e\u200d" + acute, // nor dropped: what is no mark takes the seat
		"\xff":                          "\ufffd",
		"\xff" + acute + dot:            onBad + acute,
		"e\xff" + acute:                 "e\ufffd" + acute,
		"\ufffd" + dot:                  onBad,
		"\xc3" + "\xa9":                 "\u00e9",
		"\xed\xa0\x80" + dot:            "\ufffd\ufffd" + onBad,
		"e\u0303" + acute:               "e\u0303" + acute, // no mark of this table
		"\x00" + dot + acute + "\x00":   "\x00" + dot + acute + "\x00",
		"e" + acute + "\xf0\x9f\x98":    "\u00e9\ufffd\ufffd\ufffd",
	} {
		if got := shut.Shut(b, s); got != want {
			t.Errorf("%+q: %+q, want %+q", s, got, want)
		}
	}
}

// Which wholes there are, and what blocks, hangs on the table: without pairs the open form is left as it is; in one class every second mark that stays is blocked.
func TestP10_1OtherTables(t *testing.T) {
	noPairs, bare, oneClass := table(), table(), table()
	noPairs.Pairs = nil
	bare.Pairs, bare.Marks = nil, nil
	for i := range oneClass.Marks {
		oneClass.Marks[i].Class = 7
	}
	for _, x := range []api.Tables{noPairs, bare, oneClass} {
		b := bookOf(t, x)
		eachText(func(s string) {
			got := shut.Shut(b, s)
			if want := wantShut(b, x, s); got != want {
				t.Errorf("%+q: %+q, want %+q", s, got, want)
			}
			if len(x.Pairs) == 0 && got != open.Open(b, s) {
				t.Errorf("%+q: %+q without pairs", s, got)
			}
		})
	}
}

func TestP10_1DrawnTables(t *testing.T) {
	pick := rand.New(rand.NewSource(101))
	for range 100 {
		x := drawTable(pick)
		b := bookOf(t, x)
		for range 200 {
			s := drawRunes(pick, x)
			got, want := shut.Shut(b, s), wantShut(b, x, s)
			if got != want {
				t.Errorf("%+v: %+q: %+q, want %+q", x, s, got, want)
			}
			p, ok := shut.First(b, s)
			if place, is := wantFirst(s, want); p != place || ok != is {
				t.Errorf("%+v: %+q: %+v, %v, want %+v, %v", x, s, p, ok, place, is)
			}
		}
	}
}

// Of the house: each whole and each base, alone and with each one and each two of its marks.
func TestP10_1House(t *testing.T) {
	b := standard.Book()
	x := b.Tables()
	was := map[rune]int{}
	for _, p := range x.Pairs {
		for _, r := range []rune{p.Base, p.Whole} {
			if was[r]++; was[r] > 1 {
				continue
			}
			for _, s := range withMarks(x, r) {
				if got, want := shut.Shut(b, s), wantShut(b, x, s); got != want {
					t.Errorf("%+q: %+q, want %+q", s, got, want)
				}
			}
		}
	}
}

func withMarks(x api.Tables, r rune) []string {
	l := []string{string(r)}
	for _, m := range x.Marks {
		l = append(l, string([]rune{r, m.Rune}))
		for _, n := range x.Marks {
			l = append(l, string([]rune{r, m.Rune, n.Rune}))
		}
	}
	return l
}

// Every rune that is no mark, one behind the other: of them only wholes may become something else.
func TestP10_1EveryRune(t *testing.T) {
	for _, x := range []api.Tables{table(), standard.Book().Tables()} {
		b := bookOf(t, x)
		var s, want strings.Builder
		for r := rune(0); r <= 0x10ffff; r++ {
			if 0xd800 <= r && r <= 0xdfff || b.Class(r) > 0 {
				continue
			}
			s.WriteRune(r)
			if _, _, whole := b.Pair(r); whole {
				want.WriteString(wantShut(b, x, string(r)))
			} else {
				want.WriteRune(r)
			}
		}
		if shut.Shut(b, s.String()) != want.String() {
			t.Error("some rune became another")
		}
	}
}

// Texts of any length are taken (R10 does not speak of this layer), with any number of marks on one seat, and their forms may be longer.
func TestP10_1Long(t *testing.T) {
	b, n := book(t), api.MaxText
	for s, want := range map[string]string{
		strings.Repeat("e"+acute, n):                          strings.Repeat("\u00e9", n),
		strings.Repeat(falling, n):                            strings.Repeat("\U0001f605"+low+hat+high, n),
		"e" + strings.Repeat(hat+dot, n) + "\xff":             "\u1eb9" + strings.Repeat(dot, n-1) + strings.Repeat(hat, n) + "\ufffd",
		"e" + strings.Repeat(low, n) + hat + acute:            "\u1ebf" + strings.Repeat(low, n),
		strings.Repeat(acute, n) + "e" + acute:                strings.Repeat(acute, n) + "\u00e9",
		strings.Repeat("\xff", n+1):                           strings.Repeat("\ufffd", n+1),
		strings.Repeat("e", n) + hat + strings.Repeat("e", n): strings.Repeat("e", n-1) + "\u00ea" + strings.Repeat("e", n),
	} {
		if got := shut.Shut(b, s); got != want {
			t.Errorf("%d bytes: %d, want %d", len(s), len(got), len(want))
		}
	}
}

func TestP10_1NilBook(t *testing.T) {
	for _, s := range []string{"", "e", "e" + acute, "\u00e9", acute, "\xff"} {
		if got := shut.Shut(nil, s); got != "" {
			t.Errorf("%+q: %+q", s, got)
		}
	}
}
