package open_test

import (
	"math/rand"
	"strings"
	"testing"

	"guise/api"
	"guise/marks"
	"guise/open"
)

func TestP9_2Open(t *testing.T) {
	b, x := book(t), table()
	eachText(func(s string) {
		if got, want := open.Open(b, s), wantOpen(x, s); got != want {
			t.Errorf("%+q: %+q, want %+q", s, got, want)
		}
	})
}

func TestP9_2ByHand(t *testing.T) {
	b := book(t)
	for s, want := range map[string]string{
		"":                              "",
		"e":                             "e",
		"\u00e9":                        "e" + acute,
		dotted:                          "e" + dot + hat,
		deepest:                         "\U0001f600" + low + dot + hat + high,
		deepest + dot + acute:           "\U0001f600" + low + dot + dot + hat + acute + high,
		"\u1ebf" + dot + low:            "e" + low + dot + hat + acute,
		"\u00e9" + hat + "\u00ea":       "e" + acute + hat + "e" + hat,
		hat + dot + "\u00e9" + dot:      dot + hat + "e" + dot + acute,
		"\u00c9\u0435\u200d" + dot:      "E" + acute + "\u0435\u200d" + dot, // nothing is folded, looked at or dropped
		onBad + low:                     "\ufffd" + low + dot,
		"\xff" + hat + dot:              "\ufffd" + dot + hat,
		"\xc3\u00e9\xc3\xf0\x9f":        "\ufffde" + acute + "\ufffd\ufffd\ufffd",
		"\xc3" + "\xa9" + dot:           "e" + dot + acute,
		"\xed\xa0\x80":                  "\ufffd\ufffd\ufffd",
		"\U0001f603\xf0\x9f\x98" + high: "\U0001f600" + dot + hat + high + "\ufffd\ufffd\ufffd" + high,
	} {
		if got := open.Open(b, s); got != want {
			t.Errorf("%+q: %+q, want %+q", s, got, want)
		}
	}
}

// What is taken apart, and what is put in order, hangs on the table.
func TestP9_2OtherTables(t *testing.T) {
	noPairs, bare := table(), table()
	noPairs.Pairs = nil
	bare.Pairs, bare.Marks = nil, nil
	for _, x := range []api.Tables{noPairs, bare} {
		b := bookOf(t, x)
		eachText(func(s string) {
			if got, want := open.Open(b, s), wantOpen(x, s); got != want || got != marks.Order(b, s) {
				t.Errorf("%+q: %+q, want %+q", s, got, want)
			}
		})
	}
}

// Tables of drawn pairs and classes: chains of all lengths, marks of few classes.
func TestP9_2DrawnTables(t *testing.T) {
	pick := rand.New(rand.NewSource(92))
	for range 40 {
		x := drawTable(pick)
		b := bookOf(t, x)
		for range 40 {
			var l []rune
			for range pick.Intn(12) {
				l = append(l, drawRune(pick, x))
			}
			s := string(l)
			if got, want := open.Open(b, s), wantOpen(x, s); got != want {
				t.Errorf("%+v: %+q: %+q, want %+q", x, s, got, want)
			}
			p, ok := open.First(b, s)
			if want, is := wantFirst(x, s); p != want || ok != is {
				t.Errorf("%+v: %+q: %+v, %v, want %+v, %v", x, s, p, ok, want, is)
			}
		}
	}
}

// drawTable has marks from U+0300 on, and wholes from U+1000 on, each on a letter or on a whole ahead of it that is not too deep.
func drawTable(pick *rand.Rand) api.Tables {
	x := table()
	x.Marks, x.Pairs = nil, nil
	for i := range rune(6) {
		x.Marks = append(x.Marks, api.Mark{Rune: 0x300 + i, Class: 1 + pick.Intn(4)*80})
	}
	deep := map[rune]int{}
	was := map[[2]rune]int{}
	for i := range rune(20) {
		p := api.Pair{Whole: 0x1000 + i, Base: 'a' + rune(pick.Intn(3)), Mark: 0x300 + rune(pick.Intn(6))}
		if i > 0 && pick.Intn(3) > 0 {
			p.Base = 0x1000 + rune(pick.Intn(int(i)))
		}
		if parts := [2]rune{p.Base, p.Mark}; deep[p.Base] < api.MaxDeep && was[parts] == 0 {
			x.Pairs = append(x.Pairs, p)
			deep[p.Whole] = deep[p.Base] + 1
			was[parts] = 1
		}
	}
	pick.Shuffle(len(x.Pairs), func(i, j int) { x.Pairs[i], x.Pairs[j] = x.Pairs[j], x.Pairs[i] })
	return x
}

func drawRune(pick *rand.Rand, x api.Tables) rune {
	switch pick.Intn(4) {
	case 0:
		return 'a' + rune(pick.Intn(3))
	case 1:
		return x.Marks[pick.Intn(len(x.Marks))].Rune
	}
	return 0x1000 + rune(pick.Intn(20))
}

// Texts of any length are taken (R10 does not speak of this layer), with any number of marks on one base, and their forms may be longer.
func TestP9_2Long(t *testing.T) {
	b, n := book(t), api.MaxText
	for s, want := range map[string]string{
		strings.Repeat(deepest, n):                               strings.Repeat("\U0001f600"+low+dot+hat+high, n),
		"\u00e9" + strings.Repeat(hat+dot, n) + "\xff":           "e" + strings.Repeat(dot, n) + acute + strings.Repeat(hat, n) + "\ufffd",
		strings.Repeat("\xff", n+1):                              strings.Repeat("\ufffd", n+1),
		strings.Repeat("e", n) + dotted + strings.Repeat("e", n): strings.Repeat("e", n) + "e" + dot + hat + strings.Repeat("e", n),
	} {
		if got := open.Open(b, s); got != want {
			t.Errorf("%d bytes: %d, want %d", len(s), len(got), len(want))
		}
	}
}

func TestP9_2NilBook(t *testing.T) {
	for _, s := range []string{"", "e", "\u00e9", acute, "\xff"} {
		if got := open.Open(nil, s); got != "" {
			t.Errorf("%+q: %+q", s, got)
		}
	}
}
