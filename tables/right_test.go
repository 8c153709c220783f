package tables_test

import (
	"math"
	"math/rand"
	"slices"
	"strings"
	"testing"
	"time"

	"guise/api"
	"guise/tables"
)

// whys are all that a list of a table can be refused for, but for its length.
func whys() map[int][]api.Errno {
	return map[int][]api.Errno{
		api.LScripts: {api.ErrName, api.ErrRune, api.ErrRange, api.ErrOrder, api.ErrTwice},
		api.LCommon:  {api.ErrRune, api.ErrRange, api.ErrOrder, api.ErrForm},
		api.LMarks:   {api.ErrRune, api.ErrClass, api.ErrTwice, api.ErrDrop, api.ErrForm},
		api.LPairs:   {api.ErrRune, api.ErrTwice, api.ErrPair, api.ErrRing, api.ErrDeep, api.ErrDrop, api.ErrForm},
		api.LFolds:   {api.ErrRune, api.ErrTo, api.ErrTwice, api.ErrDrop, api.ErrPlain, api.ErrForm},
		api.LLooks:   {api.ErrRune, api.ErrTo, api.ErrTwice, api.ErrDrop, api.ErrPlain, api.ErrLook, api.ErrForm},
		api.LDrops:   {api.ErrRune, api.ErrRange, api.ErrOrder, api.ErrForm},
		api.LAllowed: {api.ErrRune, api.ErrRange, api.ErrOrder, api.ErrForm},
	}
}

func TestP6_1RightTables(t *testing.T) {
	rnd := rand.New(rand.NewSource(61))
	for range 1000 {
		if w := check(t, rightTable(rnd)); w.Why != api.OK {
			t.Fatalf("a table that should be right isn't: %+v", w)
		}
	}
}

// Whatever is wrong, and however much of it, New tells the first; each refusal of each list is met.
func TestP6_1SpoiledTables(t *testing.T) {
	rnd := rand.New(rand.NewSource(610))
	met, rows := map[[2]int]int{}, 0
	for n := range 20000 {
		u := rightTable(rnd)
		for range 1 + n%4 {
			spoil(rnd, &u)
		}
		w := check(t, u)
		met[[2]int{int(w.Why), w.List}]++
		if w.Row > 0 {
			rows++
		}
	}
	for list, l := range whys() {
		for _, why := range l {
			if met[[2]int{int(why), list}] < 3 {
				t.Errorf("%d of list %d is met %d times", why, list, met[[2]int{int(why), list}])
			}
		}
	}
	if met[[2]int{}] < 1000 || rows < 1000 {
		t.Errorf("%d right, %d with a row above 0", met[[2]int{}], rows)
	}
}

// full is a right table whose lists are all as long as they may be.
func full() api.Tables {
	t := bare()
	for n := range rune(1024) {
		t.Drops = append(t.Drops, span(0xe000+n, 0xe000+n))
		if n > 0 {
			t.Common = append(t.Common, span(0x1000+2*n, 0x1000+2*n))
		}
		if n > 2 {
			t.Allowed = append(t.Allowed, span(0x1000+2*n, 0x1000+2*n))
		}
	}
	for n := range 64 {
		t.Scripts = append(t.Scripts, api.Script{Name: "s" + strings.Repeat("x", n%32) + string(rune('a'+n/32)), Spans: slices.Clone(t.Drops)})
		t.Scripts[n].Name = t.Scripts[n].Name[:min(len(t.Scripts[n].Name), 31)] + string(rune('a'+n%26))
	}
	for n := range rune(512) {
		t.Marks = append(t.Marks, api.Mark{Rune: 0x300 + n, Class: 1 + int(n)%254})
	}
	for n := range rune(4096) {
		t.Pairs = append(t.Pairs, api.Pair{Whole: 0x20000 + n, Base: 0x30000 + n/512, Mark: 0x300 + n%512})
		t.Folds = append(t.Folds, api.Map{From: 0x40000 + n, To: strings.Repeat("\U00050000", 1+int(n)%4)})
		t.Looks = append(t.Looks, api.Map{From: 0x60000 + n, To: strings.Repeat("\U00050000", 1+int(n)%4)})
	}
	return t
}

func TestP6_1Limits(t *testing.T) {
	start := time.Now()
	u := full()
	seen := map[string]int{}
	for _, s := range u.Scripts {
		seen[s.Name]++
	}
	if len(seen) != 64 {
		t.Fatalf("%d names", len(seen))
	}
	b := book(t, u)
	if v := b.Tables(); !same(u, v) || len(b.Froms()) != 3*4096 || !slices.IsSorted(b.Froms()) {
		t.Errorf("the full table: %d Froms", len(b.Froms()))
	}
	if l := b.Scripts(0xe3ff); len(l) != 64 || l[63] != 63 {
		t.Errorf("%v", l)
	}
	for name, c := range map[string]struct {
		turn func(t *api.Tables)
		list int
		row  int
	}{
		"scripts":       {func(t *api.Tables) { t.Scripts = append(t.Scripts, api.Script{Name: "more"}) }, api.LScripts, 64},
		"a few more":    {func(t *api.Tables) { t.Scripts = slices.Concat(t.Scripts, t.Scripts) }, api.LScripts, 64},
		"common":        {func(t *api.Tables) { t.Common = append(t.Common, span(0x20000, 0x20000)) }, api.LCommon, 1024},
		"marks":         {func(t *api.Tables) { t.Marks = append(t.Marks, api.Mark{Rune: 0x600, Class: 1}) }, api.LMarks, 512},
		"pairs":         {func(t *api.Tables) { t.Pairs = append(t.Pairs, api.Pair{Whole: 0x600, Base: 'a', Mark: 0x300}) }, api.LPairs, 4096},
		"folds":         {func(t *api.Tables) { t.Folds = append(t.Folds, api.Map{From: 'A', To: "a"}) }, api.LFolds, 4096},
		"looks":         {func(t *api.Tables) { t.Looks = append(t.Looks, api.Map{From: 'A', To: "a"}) }, api.LLooks, 4096},
		"drops":         {func(t *api.Tables) { t.Drops = append(t.Drops, span(0x70000, 0x70000)) }, api.LDrops, 1024},
		"allowed":       {func(t *api.Tables) { t.Allowed = append(t.Allowed, span(0x70000, 0x70000)) }, api.LAllowed, 1024},
		"a script's":    {func(t *api.Tables) { more(&t.Scripts[17]); more(&t.Scripts[40]) }, api.LScripts, 17},
		"the last's":    {func(t *api.Tables) { more(&t.Scripts[63]) }, api.LScripts, 63},
		"scripts first": {func(t *api.Tables) { more(&t.Scripts[3]); t.Scripts = append(t.Scripts, t.Scripts[0]) }, api.LScripts, 64},
		"spans first":   {func(t *api.Tables) { more(&t.Scripts[3]); t.Common = append(t.Common, t.Common...) }, api.LScripts, 3},
		"ahead of all": {func(t *api.Tables) {
			t.Allowed = append(t.Allowed, span(-1, -1))
			t.Scripts[0] = api.Script{Name: "", Spans: []api.Span{span(5, 4)}}
			t.Marks[0], t.Pairs[0], t.Folds[0], t.Looks[0] = api.Mark{}, api.Pair{Whole: -1}, api.Map{}, api.Map{}
		}, api.LAllowed, 1024},
	} {
		u := full()
		c.turn(&u)
		if b, w := tables.New(u); b != nil || w != (api.Wrong{Why: api.ErrMany, List: c.list, Row: c.row}) {
			t.Errorf("%s: %+v", name, w)
		}
	}
	if d := time.Since(start); d > 30*time.Second {
		t.Errorf("%v", d)
	}
}

func more(s *api.Script) { s.Spans = append(slices.Clone(s.Spans), span(0x70000, 0x70000)) }

func TestP6_1Names(t *testing.T) {
	for name, right := range map[string]bool{
		"a": true, "z": true, "z9": true, "a-": true, "a--0": true, "latin": true, strings.Repeat("a", 32): true, "a" + strings.Repeat("-", 31): true,
		"": false, "0": false, "-": false, "-a": false, "9a": false, "A": false, "aA": false, "a_": false, "a b": false, " a": false, "a\x00": false, "a.": false, "a/": false, "a:": false, "a`": false, "a{": false, "`": false, "{": false, "a\u00e9": false, "\u00e9": false, "a\xff": false, "\xff": false, strings.Repeat("a", 33): false, strings.Repeat("a", 1<<20): false,
	} {
		u := bare()
		u.Scripts = []api.Script{{Name: "first"}, {Name: name, Spans: []api.Span{span('b', 'a')}}}
		want := api.Wrong{Why: api.ErrName, List: api.LScripts, Row: 1}
		if right {
			want.Why = api.ErrRange
		}
		if _, w := tables.New(u); w != want {
			t.Errorf("%.40q: %+v", name, w)
		}
		check(t, u)
	}
}

// Numbers just beside runes, at each place where a rune must stand.
func TestP6_1NoRunes(t *testing.T) {
	for _, r := range []rune{math.MinInt32, -1, 0xd800, 0xdbff, 0xdfff, 0x110000, math.MaxInt32} {
		for name, c := range map[string]struct {
			turn func(t *api.Tables)
			list int
		}{
			"a script's Lo": {func(t *api.Tables) { t.Scripts = []api.Script{{Name: "a", Spans: []api.Span{span(r, 'a')}}} }, api.LScripts},
			"a script's Hi": {func(t *api.Tables) { t.Scripts = []api.Script{{Name: "a", Spans: []api.Span{span('a', r)}}} }, api.LScripts},
			"common":        {func(t *api.Tables) { t.Common[0].Lo = r }, api.LCommon},
			"drops":         {func(t *api.Tables) { t.Drops = []api.Span{span(r, r)} }, api.LDrops},
			"allowed":       {func(t *api.Tables) { t.Allowed[0].Hi = r }, api.LAllowed},
			"a mark":        {func(t *api.Tables) { t.Marks = []api.Mark{{Rune: r, Class: 255}} }, api.LMarks},
			"a whole":       {func(t *api.Tables) { t.Pairs = []api.Pair{{Whole: r, Base: 'a', Mark: 0x301}} }, api.LPairs},
			"a base":        {func(t *api.Tables) { t.Pairs = []api.Pair{{Whole: 0xe9, Base: r, Mark: 0x301}} }, api.LPairs},
			"a pair's mark": {func(t *api.Tables) { t.Pairs = []api.Pair{{Whole: 0xe9, Base: 'a', Mark: r}} }, api.LPairs},
			"a fold":        {func(t *api.Tables) { t.Folds = []api.Map{{From: r, To: ""}} }, api.LFolds},
			"a look":        {func(t *api.Tables) { t.Looks = []api.Map{{From: r, To: "\xff"}} }, api.LLooks},
		} {
			u := bare()
			c.turn(&u)
			if b, w := tables.New(u); b != nil || w != (api.Wrong{Why: api.ErrRune, List: c.list}) {
				t.Errorf("%s, %#x: %+v", name, r, w)
			}
		}
	}
}

func TestP6_1ClassesAndTos(t *testing.T) {
	for class, right := range map[int]bool{math.MinInt: false, -1: false, 0: false, 1: true, 2: true, 253: true, 254: true, 255: false, 256: false, 257: false, 1<<32 + 1: false, math.MaxInt: false} {
		u := bare()
		u.Marks = []api.Mark{{Rune: 0x300, Class: class}}
		if w := check(t, u); (w.Why == api.OK) != right {
			t.Errorf("class %d: %+v", class, w)
		}
	}
	for to, right := range map[string]bool{
		"a": true, "aaaa": true, "\U0010ffff\U0010ffff\U0010ffff\U0010ffff": true, "\u00e9\u00e9": true,
		"": false, "aaaaa": false, "\xff": false, "a\xc3": false, "\xed\xa0\x80": false, "\xf4\x90\x80\x80": false, "\xc0\x80": false, "aaaa\xff": false, strings.Repeat("a", 1<<20): false,
	} {
		u, v := bare(), bare()
		u.Folds = []api.Map{{From: 'Z', To: "z"}, {From: 'A', To: to}}
		v.Looks = []api.Map{{From: 'Z', To: "z"}, {From: 'A', To: to}}
		want, wantLook := api.Wrong{}, api.Wrong{}
		if !right {
			want, wantLook = api.Wrong{Why: api.ErrTo, List: api.LFolds, Row: 1}, api.Wrong{Why: api.ErrTo, List: api.LLooks, Row: 1}
		}
		_, w := tables.New(u)
		_, x := tables.New(v)
		if w != want || x != wantLook {
			t.Errorf("%.20q: %+v, %+v", to, w, x)
		}
	}
}

// A step comes ahead of all later ones, whatever lists they stand in: nine things are wrong, and mended one behind the other.
func TestP6_1StepByStep(t *testing.T) {
	u := bare()
	u.Allowed = append(u.Allowed, slices.Repeat([]api.Span{span('z', 'z')}, 1024)...)
	u.Drops = []api.Span{span(0x2000, 0x2001), span(0x2001, 0x2002)}
	u.Looks = []api.Map{{From: 0x430, To: "a"}, {From: 0x430, To: "a"}, {From: 0x301, To: "a"}, {From: 0x431, To: "A"}}
	u.Folds = []api.Map{{From: 'A', To: "a"}, {From: 0x2002, To: "a"}}
	u.Marks = []api.Mark{{Rune: 0x301, Class: 1}}
	u.Pairs = []api.Pair{{Whole: 0xe9, Base: 0xea, Mark: 0x301}, {Whole: 0xea, Base: 0xe9, Mark: 0x301}, {Whole: 0xeb, Base: 'e', Mark: 'x'}}
	u.Common = nil
	for _, s := range []struct {
		want api.Wrong
		mend func()
	}{
		{api.Wrong{Why: api.ErrMany, List: api.LAllowed, Row: 1024}, func() { u.Allowed = bare().Allowed }},
		{api.Wrong{Why: api.ErrOrder, List: api.LDrops, Row: 1}, func() { u.Drops[1].Lo = 0x2002 }},
		{api.Wrong{Why: api.ErrTwice, List: api.LLooks, Row: 1}, func() { u.Looks[1].From = 0x432 }},
		{api.Wrong{Why: api.ErrPair, List: api.LPairs, Row: 2}, func() { u.Pairs[2].Mark = 0x301 }},
		{api.Wrong{Why: api.ErrRing, List: api.LPairs, Row: 0}, func() { u.Pairs[1].Base = 'i' }},
		{api.Wrong{Why: api.ErrDrop, List: api.LFolds, Row: 1}, func() { u.Folds[1].From = 'B' }},
		{api.Wrong{Why: api.ErrPlain, List: api.LLooks, Row: 2}, func() { u.Looks[2].From = 0x433 }},
		{api.Wrong{Why: api.ErrLook, List: api.LLooks, Row: 3}, func() { u.Looks[3].To = "b" }},
		{api.Wrong{Why: api.ErrForm, List: api.LCommon, Row: 0}, func() { u.Common = bare().Common }},
		{api.Wrong{}, func() {}},
	} {
		if w := check(t, u); w != s.want {
			t.Errorf("%+v, want %+v", w, s.want)
		}
		s.mend()
	}
}

// chainOf makes pairs from 0x1e00 on, each on the one ahead.
func chainOf(n int) []api.Pair {
	l := []api.Pair{{Whole: 0x1e00, Base: 'a', Mark: 0x301}}
	for i := range rune(n - 1) {
		l = append(l, api.Pair{Whole: 0x1e01 + i, Base: 0x1e00 + i, Mark: 0x301})
	}
	return l
}

func TestP6_1Chains(t *testing.T) {
	ring := []api.Pair{{Whole: 0x2e00, Base: 0x2e01, Mark: 0x301}, {Whole: 0x2e01, Base: 0x2e00, Mark: 0x301}}
	intoRing := chainOf(7)
	intoRing[0].Base, intoRing[0].Mark = 0x2e00, 0x302
	self := []api.Pair{{Whole: 0x2e00, Base: 0x2e00, Mark: 0x301}}
	backward := chainOf(5)
	slices.Reverse(backward)
	for name, c := range map[string]struct {
		pairs []api.Pair
		want  api.Wrong
	}{
		"four":             {chainOf(4), api.Wrong{}},
		"five":             {chainOf(5), api.Wrong{Why: api.ErrDeep, List: api.LPairs, Row: 4}},
		"five, backward":   {backward, api.Wrong{Why: api.ErrDeep, List: api.LPairs, Row: 0}},
		"all":              {chainOf(4096), api.Wrong{Why: api.ErrDeep, List: api.LPairs, Row: 4}},
		"a ring":           {ring, api.Wrong{Why: api.ErrRing, List: api.LPairs, Row: 0}},
		"of itself":        {self, api.Wrong{Why: api.ErrRing, List: api.LPairs, Row: 0}},
		"into a ring":      {slices.Concat(intoRing[6:], intoRing[:6], ring), api.Wrong{Why: api.ErrRing, List: api.LPairs, Row: 0}},
		"behind right":     {slices.Concat(chainOf(4), ring), api.Wrong{Why: api.ErrRing, List: api.LPairs, Row: 4}},
		"deep, then round": {slices.Concat(chainOf(6), ring), api.Wrong{Why: api.ErrDeep, List: api.LPairs, Row: 4}},
		"round, then deep": {slices.Concat(ring, chainOf(6)), api.Wrong{Why: api.ErrRing, List: api.LPairs, Row: 0}},
	} {
		u := bare()
		u.Marks, u.Pairs = []api.Mark{{Rune: 0x301, Class: 230}, {Rune: 0x302, Class: 230}}, c.pairs
		if b, w := tables.New(u); w != c.want || (b == nil) != (c.want.Why != api.OK) {
			t.Errorf("%s: %+v, want %+v", name, w, c.want)
		}
	}
	// The longest ring that there can be, and a way into it from every row.
	u := bare()
	u.Marks, u.Pairs = []api.Mark{{Rune: 0x301, Class: 230}}, chainOf(4096)
	u.Pairs[0].Base = 0x1e00 + 4095
	if _, w := tables.New(u); w != (api.Wrong{Why: api.ErrRing, List: api.LPairs}) {
		t.Errorf("%+v", w)
	}
}

// What every table says alike, rune by rune, at each place.
func TestP6_1Alike(t *testing.T) {
	runes := []rune{0x80, 0x81, 0xfffc, 0xfffd, 0xfffe, 0x10ffff}
	for r := range rune(0x80) {
		runes = append(runes, r)
	}
	free := func(r rune) bool { return r >= 0x80 && r != 0xfffd }
	still := func(r rune) bool { return r < 0x20 || r == '-' || r == '.' || r == 0xfffd }
	for _, r := range runes {
		other := string(rune(0x900))
		for name, c := range map[string]struct {
			turn  func(t *api.Tables)
			list  int
			right bool
		}{
			"mark":  {func(t *api.Tables) { t.Marks = append(t.Marks, api.Mark{Rune: r, Class: 1}) }, api.LMarks, free(r)},
			"whole": {func(t *api.Tables) { t.Pairs = append(t.Pairs, api.Pair{Whole: r, Base: 0x900, Mark: 0x301}) }, api.LPairs, free(r)},
			"fold":  {func(t *api.Tables) { t.Folds = append(t.Folds, api.Map{From: r, To: other}) }, api.LFolds, free(r) || 'A' <= r && r <= 'Z'},
			"look":  {func(t *api.Tables) { t.Looks = append(t.Looks, api.Map{From: r, To: other}) }, api.LLooks, !still(r)},
			"to":    {func(t *api.Tables) { t.Folds = append(t.Folds, api.Map{From: 0x901, To: other + string(r)}) }, api.LFolds, !still(r)},
			"like":  {func(t *api.Tables) { t.Looks = append(t.Looks, api.Map{From: 0x901, To: other + string(r)}) }, api.LLooks, !still(r)},
			"drop":  {func(t *api.Tables) { t.Drops = append(t.Drops, span(r, r)) }, api.LDrops, free(r)},
		} {
			u := bare()
			u.Marks = []api.Mark{{Rune: 0x301, Class: 1}}
			c.turn(&u)
			want := api.Wrong{Why: api.ErrForm, List: c.list}
			if c.list == api.LMarks {
				want.Row = 1
			}
			if c.right {
				want = api.Wrong{}
			}
			if w := check(t, u); w != want {
				t.Errorf("%s %#x: %+v, want %+v", name, r, w, want)
			}
		}
		checkLists(t, r)
	}
}

// checkLists takes a rune out of Common and Allowed, and puts it there.
func checkLists(t *testing.T, r rune) {
	t.Helper()
	without := func(l []api.Span) []api.Span {
		var out []api.Span
		for _, x := range l {
			for q := x.Lo; q <= x.Hi; q++ {
				if q != r {
					out = append(out, span(q, q))
				}
			}
		}
		return out
	}
	with := func(l []api.Span) ([]api.Span, int) {
		row := slices.IndexFunc(append(without(l), span(0x110000, 0x110000)), func(x api.Span) bool { return x.Lo > r })
		return slices.Insert(without(l), row, span(r, r)), row
	}
	digit := '0' <= r && r <= '9'
	label := digit || 'a' <= r && r <= 'z' || r == '-'
	u, v, x := bare(), bare(), bare()
	u.Common = without(u.Common)
	v.Allowed = without(v.Allowed)
	want, wantV, wantX := api.Wrong{}, api.Wrong{}, api.Wrong{}
	if digit || r == '-' || r == '.' {
		want = api.Wrong{Why: api.ErrForm, List: api.LCommon}
	}
	if label {
		wantV = api.Wrong{Why: api.ErrForm, List: api.LAllowed}
	}
	allowed, row := with(x.Allowed)
	x.Allowed = allowed
	if !label && r < 0x80 {
		wantX = api.Wrong{Why: api.ErrForm, List: api.LAllowed, Row: row}
	}
	if w := check(t, u); w != want {
		t.Errorf("Common without %#x: %+v", r, w)
	}
	if w := check(t, v); w != wantV {
		t.Errorf("Allowed without %#x: %+v", r, w)
	}
	if w := check(t, x); w != wantX {
		t.Errorf("Allowed with %#x: %+v, want %+v", r, w, wantX)
	}
}

// Spans that go over something, without beginning or ending there.
func TestP6_1LongSpans(t *testing.T) {
	for x, right := range map[api.Span]bool{span(0x80, 0xfffc): true, span(0xfffe, 0x10ffff): true, span(0x80, 0xfffd): false, span(0xfffd, 0x10ffff): false, span(0x80, 0x10ffff): false, span(0x7f, 0x90): false, span(0, 0x10ffff): false} {
		u := bare()
		u.Drops = []api.Span{x}
		if w := check(t, u); (w == api.Wrong{}) != right || !right && w != (api.Wrong{Why: api.ErrForm, List: api.LDrops}) {
			t.Errorf("dropped %x: %+v", x, w)
		}
	}
	u := bare()
	u.Common = []api.Span{span(0, 0x10ffff)}
	u.Allowed = append(u.Allowed, span(0x80, 0x10ffff))
	u.Scripts = []api.Script{{Name: "all", Spans: []api.Span{span(0, 0x10ffff)}}, {Name: "none"}}
	if w := check(t, u); w.Why != api.OK {
		t.Errorf("%+v", w)
	}
	// A span at fault is told ahead of a letter that is missing, though its row stands behind.
	u.Allowed = []api.Span{span('-', '-'), span('0', '9'), span('b', 'z'), span(0x7f, 0x10ffff)}
	if w := check(t, u); w != (api.Wrong{Why: api.ErrForm, List: api.LAllowed, Row: 3}) {
		t.Errorf("%+v", w)
	}
	u.Allowed[3].Lo = 0x80
	if w := check(t, u); w != (api.Wrong{Why: api.ErrForm, List: api.LAllowed}) {
		t.Errorf("%+v", w)
	}
}
