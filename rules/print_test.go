package rules_test

import (
	"math"
	"math/rand"
	"slices"
	"strings"
	"testing"

	"guise/api"
	"guise/rules"
)

func printed(t *testing.T, u api.Tables) string {
	t.Helper()
	s, e := rules.Print(u)
	if e != api.OK {
		t.Fatalf("%+v: %q, %v", u, s, e)
	}
	return s
}

func refused(t *testing.T, what string, u api.Tables, want api.Errno) {
	t.Helper()
	if s, e := rules.Print(u); s != "" || e != want {
		t.Errorf("%s: %.200q, %v", what, s, e)
	}
}

func TestP5_6Lines(t *testing.T) {
	span := []api.Span{{Lo: 'a', Hi: 'z'}, {Lo: 0xe9, Hi: 0xe9}, {Lo: 'b', Hi: 'a'}}
	for want, u := range map[string]api.Tables{
		"": {Scripts: []api.Script{}, Common: []api.Span{}, Marks: []api.Mark{}, Pairs: []api.Pair{}, Folds: []api.Map{}, Looks: []api.Map{}, Drops: []api.Span{}, Allowed: []api.Span{}},
		"script a { }\nscript a { 'a' .. 'z' U+00E9 'b' .. 'a' }\nscript fold { }\n": {Scripts: []api.Script{{Name: "a"}, {Name: "a", Spans: span}, {Name: "fold", Spans: []api.Span{}}}},
		"common { 'a' .. 'z' U+00E9 'b' .. 'a' }\n":                                  {Common: span},
		"drop { 'a' .. 'z' U+00E9 'b' .. 'a' }\n":                                    {Drops: span},
		"allow { 'a' .. 'z' U+00E9 'b' .. 'a' }\n":                                   {Allowed: span},
		"mark U+0301 230 ;\nmark 'a' 0 ;\nmark U+0000 65535 ;\n":                     {Marks: []api.Mark{{Rune: 0x301, Class: 230}, {Rune: 'a'}, {Class: 65535}}},
		"pair U+00E9 = 'e' + U+0301 ;\npair 'a' = 'a' + 'a' ;\n":                     {Pairs: []api.Pair{{Whole: 0xe9, Base: 'e', Mark: 0x301}, {Whole: 'a', Base: 'a', Mark: 'a'}}},
		"fold 'A' = 'a' ;\nfold 'B' = 'b' U+0027 U+0020 U+FFFD U+10FFFF ;\n":         {Folds: []api.Map{{From: 'A', To: "a"}, {From: 'B', To: "b' \ufffd\U0010ffff"}}},
		"look 'm' = 'r' 'n' ;\nlook U+007F = U+0000 ;\n":                             {Looks: []api.Map{{From: 'm', To: "rn"}, {From: 0x7f, To: "\x00"}}},
		"script s { 'a' }\ncommon { 'b' }\nmark 'c' 1 ;\npair 'd' = 'e' + 'f' ;\nfold 'g' = 'h' ;\nlook 'i' = 'j' ;\ndrop { 'k' }\nallow { 'l' }\n": {
			Scripts: []api.Script{{Name: "s", Spans: []api.Span{{Lo: 'a', Hi: 'a'}}}}, Common: []api.Span{{Lo: 'b', Hi: 'b'}}, Marks: []api.Mark{{Rune: 'c', Class: 1}}, Pairs: []api.Pair{{Whole: 'd', Base: 'e', Mark: 'f'}},
			Folds: []api.Map{{From: 'g', To: "h"}}, Looks: []api.Map{{From: 'i', To: "j"}}, Drops: []api.Span{{Lo: 'k', Hi: 'k'}}, Allowed: []api.Span{{Lo: 'l', Hi: 'l'}}},
	} {
		if s := printed(t, u); s != want {
			t.Errorf("%+v: %q, want %q", u, s, want)
		}
	}
}

// badRunes are numbers just beside runes.
var badRunes = []rune{-1, math.MinInt32, 0xd800, 0xdbff, 0xdfff, 0x110000, math.MaxInt32}

func TestP5_6NoRunes(t *testing.T) {
	for _, r := range badRunes {
		for what, u := range map[string]api.Tables{
			"script lo": {Scripts: []api.Script{{Name: "a", Spans: []api.Span{{Lo: r, Hi: 'a'}}}}},
			"script hi": {Scripts: []api.Script{{Name: "a"}, {Name: "a", Spans: []api.Span{{Lo: 'a', Hi: 'b'}, {Lo: 'a', Hi: r}}}}},
			"common lo": {Common: []api.Span{{Lo: r, Hi: 'a'}}},
			"common hi": {Common: []api.Span{{Lo: 'a', Hi: r}}},
			"mark":      {Marks: []api.Mark{{Rune: 'a'}, {Rune: r}}},
			"whole":     {Pairs: []api.Pair{{Whole: r, Base: 'a', Mark: 'b'}}},
			"base":      {Pairs: []api.Pair{{Whole: 'a', Base: r, Mark: 'b'}}},
			"mark of":   {Pairs: []api.Pair{{Whole: 'a', Base: 'b', Mark: r}}},
			"fold":      {Folds: []api.Map{{From: r, To: "a"}}},
			"look":      {Looks: []api.Map{{From: r, To: "a"}}},
			"drop both": {Drops: []api.Span{{Lo: r, Hi: r}}},
			"drop hi":   {Drops: []api.Span{{Lo: 'a', Hi: r}}},
			"allow lo":  {Allowed: []api.Span{{Lo: 'a', Hi: 'a'}, {Lo: r, Hi: 'a'}}},
			"allow hi":  {Allowed: []api.Span{{Lo: 'a', Hi: r}}},
		} {
			refused(t, what, u, api.ErrForm)
		}
	}
	for _, r := range oddRunes {
		printed(t, api.Tables{Drops: []api.Span{{Lo: r, Hi: 'a'}, {Lo: 'a', Hi: r}}, Marks: []api.Mark{{Rune: r}}, Pairs: []api.Pair{{Whole: r, Base: r, Mark: r}}, Folds: []api.Map{{From: r, To: string(r)}}})
	}
}

func TestP5_6NoNamesClassesTos(t *testing.T) {
	for _, name := range []string{"", "A", "9", "-", "9a", "aB", "a b", "a_", "a\n", " a", "\u00e9", "a\xff", "a{", strings.Repeat("a", 33), strings.Repeat("a", 1<<20)} {
		refused(t, name[:min(9, len(name))], api.Tables{Scripts: []api.Script{{Name: "a"}, {Name: name}}}, api.ErrForm)
	}
	for _, class := range []int{-1, 65536, math.MinInt, math.MaxInt, 1 << 32, -1 << 32} {
		refused(t, "class", api.Tables{Marks: []api.Mark{{Rune: 'a', Class: class}}}, api.ErrForm)
	}
	for _, to := range []string{"", "\xff", "a\xc3", "\xed\xa0\x80", "\xf4\x90\x80\x80", "\xc0\x80", "\xe2\x82a"} {
		refused(t, "fold", api.Tables{Folds: []api.Map{{From: 'a', To: "b"}, {From: 'a', To: to}}}, api.ErrForm)
		refused(t, "look", api.Tables{Looks: []api.Map{{From: 'a', To: "b"}, {From: 'a', To: to}}}, api.ErrForm)
	}
	name := strings.Repeat("a", 32)
	if s := printed(t, api.Tables{Scripts: []api.Script{{Name: name}}, Folds: []api.Map{{From: 'a', To: "\ufffd"}}}); s != "script "+name+" { }\nfold 'a' = U+FFFD ;\n" {
		t.Errorf("%q", s)
	}
}

// filled is a table whose text has that many bytes: "mark 'a' 7 ;" and the end of its line are 13, and each digit more is one.
func filled(n int) api.Tables {
	const row = 13
	l := slices.Repeat([]api.Mark{{Rune: 'a', Class: 7}}, n/row)
	classes := []int{7, 77, 777, 7777, 65535}
	left := n % row
	for i := 0; left > 0; i++ {
		more := min(left, len(classes)-1)
		l[i].Class = classes[more]
		left -= more
	}
	return api.Tables{Marks: l}
}

func TestP5_6TooLong(t *testing.T) {
	for n := api.MaxRules - 20; n <= api.MaxRules; n++ {
		if s := printed(t, filled(n)); len(s) != n {
			t.Fatalf("%d bytes, not %d", len(s), n)
		}
	}
	for n := api.MaxRules + 1; n < api.MaxRules+20; n++ {
		refused(t, "one past", filled(n), api.ErrLong)
	}
	// Each kind of row at the limit, and past it.
	u := filled(api.MaxRules - len("drop { 'a' }\n"))
	u.Drops = []api.Span{{Lo: 'a', Hi: 'a'}}
	if s := printed(t, u); len(s) != api.MaxRules {
		t.Errorf("%d bytes", len(s))
	}
	u.Drops[0].Lo = 0xe9
	refused(t, "a span", u, api.ErrLong)
	to := strings.Repeat("a", (api.MaxRules-len("fold 'a' = ;\n"))/4)
	printed(t, api.Tables{Folds: []api.Map{{From: 'a', To: to}}})
	refused(t, "a To", api.Tables{Folds: []api.Map{{From: 'a', To: to + "a"}}}, api.ErrLong)
	refused(t, "spans", api.Tables{Scripts: []api.Script{{Name: "a", Spans: make([]api.Span, api.MaxRules/7+1)}}}, api.ErrLong)
	refused(t, "scripts", api.Tables{Scripts: slices.Repeat([]api.Script{{Name: "a"}}, 1<<18)}, api.ErrLong)
}

// What can't be written is told ahead of what is too long, wherever it stands.
func TestP5_6FormAheadOfLong(t *testing.T) {
	long := make([]api.Span, api.MaxRules)
	for what, u := range map[string]api.Tables{
		"a rune in the last list": {Scripts: []api.Script{{Name: "a", Spans: long}}, Allowed: []api.Span{{Lo: 'a', Hi: -1}}},
		"the last row":            {Marks: append(make([]api.Mark, api.MaxRules), api.Mark{Class: -1})},
		"a To":                    {Common: long, Looks: []api.Map{{From: 'a'}}},
		"the end of a To":         {Folds: []api.Map{{From: 'a', To: strings.Repeat("a", api.MaxRules) + "\xff"}}},
		"a name":                  {Scripts: []api.Script{{Name: "a", Spans: long}, {Name: "?"}}},
		"the first row":           {Scripts: []api.Script{{Name: "?"}, {Name: "a", Spans: long}}},
	} {
		refused(t, what, u, api.ErrForm)
	}
}

func TestR2PrintChangesNothing(t *testing.T) {
	u := api.Tables{
		Scripts: append(make([]api.Script, 0, 9), api.Script{Name: "a", Spans: append(make([]api.Span, 0, 9), api.Span{Lo: 'a', Hi: 'b'})}),
		Common:  append(make([]api.Span, 0, 9), api.Span{Lo: 'b', Hi: 'c'}),
		Marks:   append(make([]api.Mark, 0, 9), api.Mark{Rune: 'a', Class: 1}),
		Folds:   append(make([]api.Map, 0, 9), api.Map{From: 'a', To: "b"}),
	}
	// Wrong rows in the spare room: they are not read.
	u.Common[:2][1] = api.Span{Lo: -1, Hi: -1}
	u.Folds[:2][1] = api.Map{From: -1}
	s := printed(t, u)
	if s != "script a { 'a' .. 'b' }\ncommon { 'b' .. 'c' }\nmark 'a' 1 ;\nfold 'a' = 'b' ;\n" || printed(t, u) != s {
		t.Errorf("%q", s)
	}
	if u.Common[:2][1] != (api.Span{Lo: -1, Hi: -1}) || u.Folds[:2][1] != (api.Map{From: -1}) || u.Scripts[0].Spans[:2][1] != (api.Span{}) || u.Marks[:2][1] != (api.Mark{}) {
		t.Errorf("the spare room: %+v", u)
	}
}

// anyTable is a table that is printed, its rows in any order and of any runes.
func anyTable(rnd *rand.Rand) api.Tables {
	var u api.Tables
	spans := func() (l []api.Span) {
		for range rnd.Intn(5) {
			l = append(l, api.Span{Lo: oddRune(rnd), Hi: oddRune(rnd)})
		}
		return l
	}
	to := func() string {
		l := []rune{oddRune(rnd)}
		for range rnd.Intn(6) {
			l = append(l, oddRune(rnd))
		}
		return string(l)
	}
	for range rnd.Intn(4) {
		u.Scripts = append(u.Scripts, api.Script{Name: scriptNames[rnd.Intn(len(scriptNames))], Spans: spans()})
		u.Marks = append(u.Marks, api.Mark{Rune: oddRune(rnd), Class: rnd.Intn(65536)})
		u.Pairs = append(u.Pairs, api.Pair{Whole: oddRune(rnd), Base: oddRune(rnd), Mark: oddRune(rnd)})
		u.Folds = append(u.Folds, api.Map{From: oddRune(rnd), To: to()})
	}
	for range rnd.Intn(4) {
		u.Looks = append(u.Looks, api.Map{From: oddRune(rnd), To: to()})
	}
	u.Common, u.Drops, u.Allowed = spans(), spans(), spans()
	return u
}
