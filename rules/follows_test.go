package rules_test

import (
	"math/rand"
	"slices"
	"strings"
	"testing"

	"guise/api"
	"guise/rules"
)

func TestP5_7PrintedAndRead(t *testing.T) {
	rnd := rand.New(rand.NewSource(57))
	for range 1500 {
		u := anyTable(rnd)
		s := printed(t, u)
		if v := parse(t, s).Tables(); !same(u, v) {
			t.Errorf("%+v: %q: %+v", u, s, v)
		}
	}
	full := filled(api.MaxRules)
	if v := parse(t, printed(t, full)).Tables(); !same(full, v) {
		t.Errorf("a text of MaxRules bytes, read, is another table")
	}
}

func TestP5_7ReadAndPrinted(t *testing.T) {
	rnd := rand.New(rand.NewSource(570))
	for n := range 1500 {
		src := rightText(rnd, n%12)
		u := parse(t, src).Tables()
		s := printed(t, u)
		v := parse(t, s).Tables()
		if again := printed(t, v); !same(u, v) || again != s {
			t.Errorf("%q: %q, then %q", src, s, again)
		}
	}
	// A text may be shorter than what is printed of it.
	src := "drop{" + strings.Repeat("'a'", api.MaxRules/3-2) + "}"
	refused(t, "a dense text", parse(t, src).Tables(), api.ErrLong)
}

func TestP5_8OneBehindTheOther(t *testing.T) {
	rnd := rand.New(rand.NewSource(58))
	for range 500 {
		one, two := rightText(rnd, rnd.Intn(6)), rightText(rnd, rnd.Intn(6))
		if rnd.Intn(2) == 0 {
			one += "# open"
		}
		u, v := parse(t, one).Tables(), parse(t, two).Tables()
		want := api.Tables{
			Scripts: slices.Concat(u.Scripts, v.Scripts), Common: slices.Concat(u.Common, v.Common), Marks: slices.Concat(u.Marks, v.Marks), Pairs: slices.Concat(u.Pairs, v.Pairs),
			Folds: slices.Concat(u.Folds, v.Folds), Looks: slices.Concat(u.Looks, v.Looks), Drops: slices.Concat(u.Drops, v.Drops), Allowed: slices.Concat(u.Allowed, v.Allowed),
		}
		if x := parse(t, one+"\n"+two).Tables(); !same(x, want) {
			t.Errorf("%q and %q: %+v, want %+v", one, two, x, want)
		}
	}
}

// shuffled puts rules in another order, those that begin with one word in theirs.
func shuffled(rnd *rand.Rand, l [][]string) [][]string {
	byWord := map[string][][]string{}
	var order []string
	for _, rule := range l {
		byWord[rule[0]] = append(byWord[rule[0]], rule)
		order = append(order, rule[0])
	}
	rnd.Shuffle(len(order), func(i, j int) { order[i], order[j] = order[j], order[i] })
	var out [][]string
	for _, word := range order {
		out = append(out, byWord[word][0])
		byWord[word] = byWord[word][1:]
	}
	return out
}

func TestP5_9AnyOrder(t *testing.T) {
	rnd := rand.New(rand.NewSource(59))
	for range 500 {
		l := rightWords(rnd, 2+rnd.Intn(12))
		one, two := laid(rnd, slices.Concat(l...)), laid(rnd, slices.Concat(shuffled(rnd, l)...))
		if u, v := parse(t, one).Tables(), parse(t, two).Tables(); !same(u, v) {
			t.Errorf("%q and %q: %+v, %+v", one, two, u, v)
		}
	}
}

const firstRun = "script a { 'a'..'z' U+00E9 }"

func TestRunsTaken(t *testing.T) {
	for src, want := range map[string]api.Tables{
		firstRun: {Scripts: []api.Script{{Name: "a", Spans: []api.Span{{Lo: 0x61, Hi: 0x7a}, {Lo: 0xe9, Hi: 0xe9}}}}},
		"common { 'a' } drop { } common { 'b' 'c' }": {Common: []api.Span{{Lo: 'a', Hi: 'a'}, {Lo: 'b', Hi: 'b'}, {Lo: 'c', Hi: 'c'}}},
		"mark U+0301 230 ; fold 'A' = 'a' 'b' ;":     {Marks: []api.Mark{{Rune: 0x301, Class: 230}}, Folds: []api.Map{{From: 0x41, To: "ab"}}},
		"script script { }":                          {Scripts: []api.Script{{Name: "script"}}},
	} {
		if u := parse(t, src).Tables(); !same(u, want) {
			t.Errorf("%q: %+v", src, u)
		}
	}
	if s := printed(t, parse(t, firstRun).Tables()); s != "script a { 'a' .. 'z' U+00E9 }\n" {
		t.Errorf("%q", s)
	}
}

func TestRunsRefused(t *testing.T) {
	for src, want := range map[string]rules.Refusal{
		"fold 'A' = ;": {At: at(11, 1, 12), Why: api.ErrForm},
		"fold 'A'":     {At: at(8, 1, 9), Why: api.ErrEnd},
		"fold \"":      {At: at(5, 1, 6), Why: api.ErrWord},
		"a":            {At: at(0, 1, 1), Why: api.ErrForm},
		"script 'a'":   {At: at(7, 1, 8), Why: api.ErrForm},

		"drop { 'a'.. }":         {At: at(13, 1, 14), Why: api.ErrForm},
		"drop { 'a'..'b'..'c' }": {At: at(15, 1, 16), Why: api.ErrForm},
	} {
		x, err := rules.Parse(src)
		checkRefused(t, src, x, err, want)
	}
}

func TestRunsWhere(t *testing.T) {
	x := parse(t, "drop { 'a' 'b' }")
	if p := x.Where(api.LDrops, 1); p != at(11, 1, 12) {
		t.Errorf("%+v", p)
	}
	if p, q := x.Where(api.LDrops, 2), x.Where(9, 0); p != at(16, 1, 17) || q != p {
		t.Errorf("%+v, %+v", p, q)
	}
}

func TestExamples(t *testing.T) {
	for _, src := range []string{"", " \n", "# nothing"} {
		if u := parse(t, src).Tables(); !same(u, api.Tables{}) {
			t.Errorf("%q: %+v", src, u)
		}
	}
	if u := parse(t, "mark 'a' 65535;").Tables(); !slices.Equal(u.Marks, []api.Mark{{Rune: 'a', Class: 65535}}) {
		t.Errorf("%+v", u)
	}
	if s := printed(t, api.Tables{}); s != "" {
		t.Errorf("%q", s)
	}
}
