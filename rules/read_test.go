package rules_test

import (
	"errors"
	"math/rand"
	"slices"
	"strings"
	"testing"
	"time"

	"guise/api"
	"guise/rules"
	"guise/scan"
)

// check holds all that a text answers against the oracle.
func check(t *testing.T, src string) {
	t.Helper()
	want := wantParse(src)
	x, err := rules.Parse(src)
	if want.refusal != nil {
		checkRefused(t, src, x, err, *want.refusal)
		return
	}
	if x == nil || err != nil {
		t.Errorf("%q: %v, %v", src, x, err)
		return
	}
	if u := x.Tables(); !same(u, want.table) {
		t.Errorf("%q: %+v, want %+v", src, u, want.table)
	}
	for list := -2; list < 12; list++ {
		for row := -2; row < len(want.rows[list])+2; row++ {
			place := want.end
			if 0 <= row && row < len(want.rows[list]) {
				place = want.rows[list][row]
			}
			if p := x.Where(list, row); p != place {
				t.Errorf("%q: Where(%d, %d): %+v, want %+v", src, list, row, p, place)
			}
		}
	}
}

func checkRefused(t *testing.T, src string, x *rules.Text, err error, want rules.Refusal) {
	t.Helper()
	r, direct := err.(*rules.Refusal)
	if x != nil || !direct || r == nil || *r != want {
		t.Errorf("%.200q: %v, %v, want %+v", src, x, err, want)
		return
	}
	if r.Unwrap() != error(want.Why) || r.Error() == "" {
		t.Errorf("%.200q: wraps %v, tells %q", src, r.Unwrap(), r.Error())
	}
}

func TestP5_1RightTexts(t *testing.T) {
	rnd := rand.New(rand.NewSource(51))
	for n := range 1500 {
		src := rightText(rnd, n%12)
		if _, err := rules.Parse(src); err != nil {
			t.Errorf("%q: %v", src, err)
		}
		check(t, src)
	}
}

func TestP5_1EachRule(t *testing.T) {
	for src, want := range map[string]api.Tables{
		"script a { }":          {Scripts: []api.Script{{Name: "a"}}},
		"script a{'b''a'..'b'}": {Scripts: []api.Script{{Name: "a", Spans: []api.Span{{Lo: 'b', Hi: 'b'}, {Lo: 'a', Hi: 'b'}}}}},
		"script a { 'a' } script a { 'b' }": {Scripts: []api.Script{
			{Name: "a", Spans: []api.Span{{Lo: 'a', Hi: 'a'}}}, {Name: "a", Spans: []api.Span{{Lo: 'b', Hi: 'b'}}}}},
		"common { U+0000..U+10FFFF }":         {Common: []api.Span{{Lo: 0, Hi: 0x10ffff}}},
		"drop { U+D7FF..U+E000 }":             {Drops: []api.Span{{Lo: 0xd7ff, Hi: 0xe000}}},
		"allow { 'z'..'a' }":                  {Allowed: []api.Span{{Lo: 'z', Hi: 'a'}}},
		"allow { 'a'..'a' 'a' }":              {Allowed: []api.Span{{Lo: 'a', Hi: 'a'}, {Lo: 'a', Hi: 'a'}}},
		"mark U+0301 0;mark U+0301 65535;":    {Marks: []api.Mark{{Rune: 0x301}, {Rune: 0x301, Class: 65535}}},
		"pair 'a'='b'+'c';":                   {Pairs: []api.Pair{{Whole: 'a', Base: 'b', Mark: 'c'}}},
		"fold 'A' = 'a' U+0000 '\u20ac' '}';": {Folds: []api.Map{{From: 'A', To: "a\x00\u20ac}"}}},
		"look 'm' = 'r' 'n' U+FFFD 'n' 'n';":  {Looks: []api.Map{{From: 'm', To: "rn\ufffdnn"}}},
		"look 'A'='a';fold 'B'='b';":          {Looks: []api.Map{{From: 'A', To: "a"}}, Folds: []api.Map{{From: 'B', To: "b"}}},
	} {
		if u := parse(t, src).Tables(); !same(u, want) {
			t.Errorf("%q: %+v", src, u)
		}
		check(t, src)
	}
}

// vocabulary is a word of each letter of the oracle.
var vocabulary = append([]string{"a", "7", "'a'", "{", "}", ";", "=", "+", ".."}, ruleWords...)

// grow checks words with up to n more behind them, while some text could go on so.
func grow(t *testing.T, src string, n int) {
	check(t, src)
	check(t, src+" # behind\n ")
	words, _, _ := scan.Words(src)
	if n == 0 || !viable(lettersOf(words)) {
		return
	}
	for _, w := range vocabulary {
		grow(t, src+" "+w, n-1)
	}
}

func TestP5_2AllShortTexts(t *testing.T) {
	grow(t, "", 5)
}

// Each of these stands at some place within a rule: any word at all is tried behind it.
func TestP5_2AllPlaces(t *testing.T) {
	for _, src := range []string{"pair 'a' = 'b' +", "pair 'a' = 'b' + 'c'", "pair 'a' = 'b' + 'c' ;", "fold 'a' = 'b' 'c' 'd'", "look 'a' = 'b' 'c' 'd'", "script a { 'a' .. 'b'", "script a { 'a' .. 'b' 'c' ..", "drop { 'a' .. 'b' 'c'", "allow { } drop { 'a' 'b' ..", "mark 'a' 7 ; mark 'b' 8", "script fold { } fold 'a' = 'b'"} {
		grow(t, src, 2)
	}
}

func TestP5_2SpoiledTexts(t *testing.T) {
	rnd := rand.New(rand.NewSource(52))
	for range 2000 {
		l := slices.Concat(rightWords(rnd, 1+rnd.Intn(4))...)
		i, w := rnd.Intn(len(l)), vocabulary[rnd.Intn(len(vocabulary))]
		check(t, laid(rnd, slices.Insert(slices.Clone(l), i, w)))
		check(t, laid(rnd, slices.Delete(slices.Clone(l), i, i+1)))
		check(t, laid(rnd, l[:i])+gaps[rnd.Intn(len(gaps))])
		src := laid(rnd, l)
		b := rnd.Intn(len(src))
		check(t, src[:b])
		check(t, src[:b]+string([]byte{byte(rnd.Intn(256))})+src[b:])
		check(t, src[:b]+src[b+1:])
	}
}

// What scan refuses is told first, however wrong the rules ahead of it are.
func TestP5_2WordsFirst(t *testing.T) {
	for src, want := range map[string]rules.Refusal{
		"; ; }\n \"":     {At: at(7, 2, 2), Why: api.ErrWord},
		"; ; 'a":         {At: at(6, 1, 7), Why: api.ErrEnd},
		"fold 'A' = ; U": {At: at(14, 1, 15), Why: api.ErrEnd},
		"Fold":           {At: at(0, 1, 1), Why: api.ErrWord},
		"# \xff":         {At: at(2, 1, 3), Why: api.ErrWord},
	} {
		x, err := rules.Parse(src)
		checkRefused(t, src, x, err, want)
	}
	full := "; " + strings.Repeat("#", api.MaxRules-2)
	x, err := rules.Parse(full)
	checkRefused(t, full, x, err, rules.Refusal{At: at(0, 1, 1), Why: api.ErrForm})
	x, err = rules.Parse(full + "#")
	checkRefused(t, full+"#", x, err, rules.Refusal{At: at(0, 1, 1), Why: api.ErrLong})
}

// The words end ahead of the text's end, which is what is told, in columns of spots.
func TestP5_2TheEnd(t *testing.T) {
	for src, want := range map[string]api.At{
		"mark":                       at(4, 1, 5),
		"mark ":                      at(5, 1, 6),
		"drop {\n":                   at(7, 2, 1),
		"drop { '\u00e9' # \u20ac":   at(17, 1, 15),
		"allow { }\nscript a {\n\t#": at(23, 3, 3),
	} {
		x, err := rules.Parse(src)
		checkRefused(t, src, x, err, rules.Refusal{At: want, Why: api.ErrEnd})
	}
}

func TestP5_2Wraps(t *testing.T) {
	_, err := rules.Parse("fold 'A' = ;")
	var r *rules.Refusal
	var n api.Errno
	if !errors.As(err, &r) || r.At != at(11, 1, 12) || !errors.As(err, &n) || n != api.ErrForm {
		t.Errorf("%v, %v", err, n)
	}
	for e := api.Errno(0); e < 100; e++ {
		if errors.Is(err, e) != (e == api.ErrForm) {
			t.Errorf("errors.Is %v", e)
		}
	}
	_, other := rules.Parse("fold 'A' = ;")
	if other == err {
		t.Errorf("one Refusal for two calls")
	}
	*r = rules.Refusal{}
	if _, err := rules.Parse("fold 'A' = ;"); !errors.Is(err, api.ErrForm) {
		t.Errorf("behind a spoiled Refusal: %v", err)
	}
	for _, r := range []*rules.Refusal{{}, {Why: -7}, {At: at(-1, -1, -1), Why: 1 << 40}} {
		if r.Error() == "" || r.Unwrap() != error(r.Why) {
			t.Errorf("%+v: %q, %v", *r, r.Error(), r.Unwrap())
		}
	}
}

// spoil writes over all that an answer holds, its spare room too.
func spoil(u api.Tables) {
	for _, s := range u.Scripts[:cap(u.Scripts)] {
		spoilList(s.Spans, api.Span{Lo: 7, Hi: 7})
	}
	spoilList(u.Scripts, api.Script{Name: "spoiled"})
	spoilList(u.Common, api.Span{Lo: 1, Hi: 1})
	spoilList(u.Marks, api.Mark{Rune: 1, Class: 1})
	spoilList(u.Pairs, api.Pair{Whole: 1})
	spoilList(u.Folds, api.Map{From: 1})
	spoilList(u.Looks, api.Map{From: 2})
	spoilList(u.Drops, api.Span{Lo: 2, Hi: 2})
	spoilList(u.Allowed, api.Span{Lo: 3, Hi: 3})
}

func spoilList[E any](l []E, x E) {
	l = l[:cap(l)]
	for i := range l {
		l[i] = x
	}
}

func TestP5_3NewMemory(t *testing.T) {
	rnd := rand.New(rand.NewSource(53))
	for range 200 {
		src := rightText(rnd, 20)
		x, want := parse(t, src), wantParse(src).table
		one, two := x.Tables(), x.Tables()
		spoil(one)
		if !same(two, want) || !same(x.Tables(), want) {
			t.Errorf("%q: behind a spoiled answer: %+v, %+v", src, two, x.Tables())
		}
	}
}

// spanLists are the lists of spans of a table with three scripts.
func spanLists(u api.Tables) [][]api.Span {
	return [][]api.Span{u.Scripts[0].Spans, u.Scripts[1].Spans, u.Scripts[2].Spans, u.Common, u.Drops, u.Allowed}
}

// No two lists of one answer share memory, nor spare room: what is written over one is not seen in another.
func TestP5_3ListsApart(t *testing.T) {
	x := parse(t, "script a { 'a' 'b' 'c' } script b { 'd' } script c { 'e' 'f' } common { 'g' 'h' 'i' } drop { 'j' } allow { 'k' 'l' } common { 'm' } fold 'A' = 'a'; look 'B' = 'b';")
	want := spanLists(x.Tables())
	for i := range want {
		l := spanLists(x.Tables())
		spoilList(l[i], api.Span{Lo: 1, Hi: 1})
		for j := range l {
			if j != i && !slices.Equal(l[j], want[j]) {
				t.Errorf("lists %d and %d share memory: %+v", i, j, l[j])
			}
		}
	}
	u := x.Tables()
	spoilList(u.Folds, api.Map{From: 1})
	if !slices.Equal(u.Looks, []api.Map{{From: 'B', To: "b"}}) {
		t.Errorf("folds and looks share memory: %+v", u.Looks)
	}
}

func TestR1LongTextsEndSoon(t *testing.T) {
	start := time.Now()
	for _, piece := range []string{"fold 'A'='a';", "drop{'a'}", "script a{}", "mark 'a'7;\n", "'a'", "pair 'a'='b'+'c';"} {
		n := api.MaxRules / len(piece)
		x, err := rules.Parse(strings.Repeat(piece, n))
		if (piece == "'a'") != (err != nil) || (x == nil) != (err != nil) {
			t.Errorf("%q: %v", piece, err)
		}
	}
	long := "look 'A'=" + strings.Repeat("'a'", (api.MaxRules-10)/3) + ";"
	if u := parse(t, long).Tables(); len(u.Looks[0].To) != (api.MaxRules-10)/3 {
		t.Errorf("%d", len(u.Looks[0].To))
	}
	if d := time.Since(start); d > 20*time.Second {
		t.Errorf("%v", d)
	}
}
