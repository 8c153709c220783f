package whole_test

import (
	"math/rand"
	"slices"
	"strings"
	"testing"

	"guise/api"
	"guise/standard"
	"guise/tables"
	"guise/whole"
)

func checkScripts(t *testing.T, k known, s string) {
	t.Helper()
	if got, e := whole.Scripts(k.b, s); !slices.Equal(got, k.wantScripts(s)) || e != api.OK {
		t.Errorf("P16.4: %+q: %v, %v, want %v", s, got, e, k.wantScripts(s))
	}
	if got, e := whole.Others(k.b, s); !slices.Equal(got, k.wantOthers(s)) || e != api.OK {
		t.Errorf("P16.5: %+q: %v, %v, want %v", s, got, e, k.wantOthers(s))
	}
}

func TestP16_4To5EachText(t *testing.T) {
	eachPair(t, func(k known, s string) { checkScripts(t, k, s) })
}

func TestP16_4To5Wide(t *testing.T) {
	k := know(t, wideTable())
	for _, bit := range append(bits, "\u0080", "\ud7ff", "\ue000", "\uffff", "\U00010000", "\u4e00\U0001f600") {
		checkScripts(t, k, bit)
	}
	eachDrawn(100, func(s string) { checkScripts(t, k, s) })
}

func TestP16_4To5DrawnTables(t *testing.T) {
	pick := rand.New(rand.NewSource(164))
	for range 80 {
		k := know(t, drawTable(pick))
		for range 30 {
			checkScripts(t, k, drawRunes(pick)+drawRunes(pick))
		}
	}
}

func TestP16_4ByHand(t *testing.T) {
	b := book(t)
	for s, want := range map[string][]int{
		"":                   {latin, cyrillic, greek, none, odd},
		zero + soft:          {latin, cyrillic, greek, none, odd},
		"2-9":                {latin, cyrillic, greek, none, odd},
		"o":                  {latin, cyrillic, greek, none, odd}, // of 0
		omicron + on + "l":   {latin, cyrillic, greek, none, odd},
		middle:               {latin, cyrillic, greek, none, odd},
		"a":                  {latin, cyrillic, odd},
		ah:                   {latin, cyrillic, odd},
		"A":                  {latin, cyrillic, odd},
		"ab":                 {latin, cyrillic, odd},
		"b":                  {latin, odd},
		"c":                  {latin, cyrillic},
		"v":                  {latin, greek},
		"w":                  {latin, greek},
		sigma:                {greek},
		"t":                  {latin},
		"a" + sigma:          {},
		"tov":                {latin},
		small:                {latin, cyrillic},
		both:                 {latin},
		"rn":                 {latin},
		"n":                  {latin, odd},
		"rnrn":               {latin, odd},
		oddMMDot:             {odd},
		oddMMDot + "n":       {odd},
		oddMMDot + "r":       {},
		acute:                {},
		"a" + acute:          {},
		".":                  {},
		"?":                  {},
		"\xff":               {},
		"x\xff":              {},
		strange:              {},
		"\ufffd":             {},
		"a\u4e00":            {},
		"0" + zero + omicron: {latin, cyrillic, greek, none, odd},
	} {
		if got, e := whole.Scripts(b, s); !slices.Equal(got, want) || e != api.OK {
			t.Errorf("%+q: %v, %v, want %v", s, got, e, want)
		}
	}
}

func TestP16_5ByHand(t *testing.T) {
	type others = []whole.Other
	b := book(t)
	for s, want := range map[string]others{
		"":                      nil,
		"2-9":                   nil,
		"0":                     nil,
		"o":                     {{Script: cyrillic, Text: "0"}, {Script: greek, Text: "0"}, {Script: none, Text: "0"}, {Script: odd, Text: "0"}},
		on:                      {{Script: latin, Text: "0"}, {Script: greek, Text: "0"}, {Script: none, Text: "0"}, {Script: odd, Text: "0"}},
		"a":                     {{Script: cyrillic, Text: ah}}, // a is of odd, too
		ah:                      {{Script: latin, Text: "a"}, {Script: odd, Text: "a"}},
		"ca":                    {{Script: cyrillic, Text: es + ah}},
		es + ah:                 {{Script: latin, Text: "ca"}},
		"c" + ah:                {{Script: latin, Text: "ca"}, {Script: cyrillic, Text: es + ah}}, // a mixed text can be of none
		"ab":                    {{Script: cyrillic, Text: ab}},
		ab:                      {{Script: latin, Text: "ab"}}, // of odd
		abcd:                    {{Script: latin, Text: "abcd"}},
		small:                   {{Script: cyrillic, Text: "\u0450"}},
		"e" + acute:             {{Script: cyrillic, Text: "\u0450"}},
		"A":                     {{Script: latin, Text: "a"}, {Script: cyrillic, Text: ah}, {Script: odd, Text: "a"}}, // A is of no script
		"a" + zero:              {{Script: cyrillic, Text: ah}},                                                       // what is dropped and Common is free
		"a" + soft:              {{Script: latin, Text: "a"}, {Script: cyrillic, Text: ah}, {Script: odd, Text: "a"}}, // what is dropped and no script's isn't
		soft:                    {{Script: latin}, {Script: cyrillic}, {Script: greek}, {Script: none}, {Script: odd}},
		"2" + soft:              {{Script: latin, Text: "2"}, {Script: cyrillic, Text: "2"}, {Script: greek, Text: "2"}, {Script: none, Text: "2"}, {Script: odd, Text: "2"}},
		"rn":                    nil,
		"rnrn":                  {{Script: odd, Text: oddMM}},
		oddMM:                   {{Script: latin, Text: "mm"}},
		"cat":                   nil,
		acute:                   nil,
		"a" + sigma:             nil,
		"x\xff":                 nil,
		"\xff":                  nil,
		"?":                     nil,
		dze:                     {{Script: latin, Text: "s"}},
		"c" + on + omicron + es: {{Script: latin, Text: "c00c"}, {Script: cyrillic, Text: es + "00" + es}},
	} {
		if got, e := whole.Others(b, s); !slices.Equal(got, want) || e != api.OK {
			t.Errorf("%+q: %v, %v, want %v", s, got, e, want)
		}
	}
}

// Where U+FFFD is a letter, a bad spot looks like one of each of its scripts, and is of none.
func TestP16_5Bad(t *testing.T) {
	x := otherTables()
	if got, e := whole.Others(bookOf(t, x[7]), "1\xff"); !slices.Equal(got, []whole.Other{{Script: none, Text: "1\ufffd"}}) || e != api.OK {
		t.Errorf("%v, %v", got, e)
	}
	if got, e := whole.Others(bookOf(t, x[7]), "1\ufffd"); len(got) > 0 || e != api.OK {
		t.Errorf("%v, %v", got, e)
	}
	got, e := whole.Others(bookOf(t, x[8]), "\xff")
	if len(got) != len(table().Scripts) || got[0] != (whole.Other{Script: 0, Text: "\ufffd"}) || e != api.OK {
		t.Errorf("%v, %v", got, e)
	}
}

func TestP16_4To5House(t *testing.T) {
	k := know(t, standard.Book().Tables())
	for _, s := range []string{"", "copa", "\u0441\u043e\u0440\u0430", "c\u043epa", "paypal", "p\u0430yp\u0430l", "\u0261oogle", "m", "11", "na\u00efve", "\u65e5\u672c", "\xff", "a\u200d", "a.b"} {
		checkScripts(t, k, s)
	}
}

// Tables without scripts have none in which something may be found.
func TestP16_4To5NoScripts(t *testing.T) {
	x := table()
	x.Scripts = nil
	b := bookOf(t, x)
	for _, s := range []string{"", "1", "a", ah, "\xff"} {
		neither(t, b, s, api.OK)
	}
}

func neither(t *testing.T, b *tables.Book, s string, want api.Errno) {
	t.Helper()
	if got, e := whole.Scripts(b, s); len(got) > 0 || e != want {
		t.Errorf("Scripts %.20q: %v, %v, want %v", s, got, e, want)
	}
	if got, e := whole.Others(b, s); len(got) > 0 || e != want {
		t.Errorf("Others %.20q: %v, %v, want %v", s, got, e, want)
	}
}

func TestP16_4To5Refused(t *testing.T) {
	b, n := book(t), whole.Most
	for _, s := range []string{"", "a", "\xff", strings.Repeat("a", n+1), strings.Repeat("a", api.MaxText+1)} {
		neither(t, nil, s, api.ErrArg)
	}
	for _, s := range []string{
		strings.Repeat("a", api.MaxText+1),
		strings.Repeat("\xff", api.MaxText+1),
		strings.Repeat(zero, 21846),
		strings.Repeat(zero, 30000),
		strings.Repeat("a", n+1),
		strings.Repeat("?", n+1),
		strings.Repeat("m", n/2+1),
		strings.Repeat("\xff", n+1),
	} {
		neither(t, b, s, api.ErrLong)
	}
	for s, want := range map[string]int{
		strings.Repeat("a", n):               3,
		strings.Repeat(ah+zero, n):           3,
		strings.Repeat("m", n/2):             2,
		strings.Repeat(zero, 21845) + "a":    3,
		strings.Repeat(zero, 21845):          5,
		strings.Repeat("1"+zero, n):          5,
		strings.Repeat("\xff", n):            0,
		strings.Repeat("abcd", n/4):          2,
		strings.Repeat("abcd", n/4-1) + "e-": 2,
	} {
		if got, e := whole.Scripts(b, s); len(got) != want || e != api.OK {
			t.Errorf("%.20q: %v, %v", s, got, e)
		}
		if _, e := whole.Others(b, s); e != api.OK {
			t.Errorf("%.20q: %v", s, e)
		}
	}
}

// Nothing that is done to an answer, its spare room included, is told by a later one.
func TestP16_4To5NewMemory(t *testing.T) {
	k := know(t, table())
	for _, s := range []string{"", "o", "a", "c" + ah, "2" + soft} {
		for range 3 {
			l, _ := whole.Scripts(k.b, s)
			for i := range l[:cap(l)] {
				l[:cap(l)][i] = -7
			}
			m, _ := whole.Others(k.b, s)
			for i := range m[:cap(m)] {
				m[:cap(m)][i] = whole.Other{Script: -7, Text: "x"}
			}
			checkScripts(t, k, s)
			checkFind(t, k, s)
		}
	}
}
