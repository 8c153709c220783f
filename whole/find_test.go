package whole_test

import (
	"math/rand"
	"strings"
	"testing"

	"guise/api"
	"guise/standard"
	"guise/tables"
	"guise/whole"
)

// checkFind asks of all scripts, and tells for how many of them something is found.
func checkFind(t *testing.T, k known, s string) int {
	t.Helper()
	met := 0
	for n := range k.x.Scripts {
		want, found, reach := k.want(s, n)
		why := api.ErrNone
		if found {
			met, why = met+1, api.OK
		}
		if got, e := whole.Find(k.b, s, n); got != want || e != why {
			t.Errorf("P16.2: %+q, %d: %+q, %v, want %+q, %v", s, n, got, e, want, why)
		}
		if got, e := whole.Reach(k.b, s, n); got != reach || e != api.OK {
			t.Errorf("P16.3: %+q, %d: %d, %v, want %d", s, n, got, e, reach)
		}
	}
	return met
}

func TestP16_2To3EachText(t *testing.T) {
	asked, met := 0, 0
	eachPair(t, func(k known, s string) {
		asked += len(k.x.Scripts)
		met += checkFind(t, k, s)
	})
	if met < asked/10 || met > asked*9/10 {
		t.Errorf("of %d texts %d are found", asked, met)
	}
}

// All runes are allowed that may be: those too that no row of the table speaks of.
func TestP16_2To3Wide(t *testing.T) {
	k := know(t, wideTable())
	for _, bit := range append(bits, "\u0080", "\ud7ff", "\ue000", "\ufffc", "\uffff", "\U00010000", "\U0010ffff", "\u4e00\U0001f600", "\u4e00\u0300") {
		checkFind(t, k, bit)
	}
	eachDrawn(100, func(s string) { checkFind(t, k, s) })
}

func TestP16_2To3House(t *testing.T) {
	k := know(t, standard.Book().Tables())
	for _, s := range []string{"", "copa", "\u0441\u043e\u0440\u0430", "c\u043epa", "paypal", "p\u0430yp\u0430l", "google", "\u0261oogle", "m", "rn", "11", "na\u00efve", "\u65e5\u672c", "\xff", "a\u0301", "a.b"} {
		checkFind(t, k, s)
	}
}

func TestP16_2ByHand(t *testing.T) {
	b := book(t)
	for _, c := range []struct {
		s     string
		n     int
		want  string
		e     api.Errno
		reach int
	}{
		{"", latin, "", api.OK, 0},
		{"", none, "", api.OK, 0},
		{zero + soft, cyrillic, "", api.OK, 0}, // of what isn't seen
		{"a", latin, "a", api.OK, 1},
		{"a", cyrillic, ah, api.OK, 1},
		{"a", greek, "", api.ErrNone, 0},
		{"a", odd, "a", api.OK, 1},
		{ah, latin, "a", api.OK, 1},
		{"A" + zero, cyrillic, ah, api.OK, 1},
		{"o", latin, "0", api.OK, 1}, // a digit is less than a letter
		{"o", none, "0", api.OK, 1},
		{"oa", odd, "\U0001e904", api.OK, 2}, // but a rune of more is the fewer
		{"oa", latin, "0a", api.OK, 2},
		{on + omicron, none, "00", api.OK, 2},
		{"m", latin, "m", api.OK, 2},
		{"rn", latin, "m", api.OK, 2},
		{"rrn", latin, "rm", api.OK, 3},
		{"rnn", latin, "mn", api.OK, 3},
		{"rnrn", latin, "mm", api.OK, 4},
		{"rnrn", odd, oddMM, api.OK, 4},
		{"rnrnn", odd, oddMM + oddN, api.OK, 5},
		{"rnrnrn", odd, "", api.ErrNone, 4},
		{oddMM + dot, odd, oddMMDot, api.OK, 5},
		{oddMM + dot + acute, odd, "", api.ErrNone, 5},
		{oddMM + acute + dot, odd, "", api.ErrNone, 5}, // of the marks in their order
		{oddMM + acute, odd, "", api.ErrNone, 4},
		{"m" + acute, latin, mAcute, api.OK, 3},
		{"rn" + acute, latin, mAcute, api.OK, 3},
		{"rn" + dot, latin, "", api.ErrNone, 2},
		{"ann", odd, oddEn + oddN, api.OK, 3},
		{small, latin, small, api.OK, 2},
		{"e" + acute, latin, small, api.OK, 2},
		{bare + acute, latin, both, api.OK, 3},
		{bare, latin, "", api.ErrNone, 1}, // the whole is not allowed, and the mark no letter
		{"e" + hat + "x", latin, "", api.ErrNone, 1},
		{small, cyrillic, "\u0450", api.OK, 2},
		{"\u0450", latin, small, api.OK, 2},
		{acute, latin, "", api.ErrNone, 0},
		{acute + "a", latin, "", api.ErrNone, 0},
		{"a" + acute, latin, "", api.ErrNone, 1},
		{"ss", latin, sharp, api.OK, 2},
		{"sss", latin, "s" + sharp, api.OK, 3},
		{"s", cyrillic, "", api.ErrNone, 0}, // what looks like s is not allowed
		{dze, latin, "s", api.OK, 1},
		{last, greek, last, api.OK, 1}, // what is folded is a letter, and here the lesser one
		{sigma, greek, last, api.OK, 1},
		{strange, latin, "", api.ErrNone, 0}, // a letter of no script
		{"1" + middle + long, none, "1" + middle + long, api.OK, 3},
		{"a.", latin, "", api.ErrNone, 1},
		{"?", latin, "", api.ErrNone, 0},
		{"a?a", latin, "", api.ErrNone, 1},
		{"\xff", latin, "", api.ErrNone, 0},
		{"a\xff", latin, "", api.ErrNone, 1},
		{"\xd0\xb0", latin, "a", api.OK, 1},
		{"\xd0" + zero + "\xb0", latin, "", api.ErrNone, 0},
		{"aba", odd, ab + "a", api.OK, 3},
		{"abcd", cyrillic, abcd, api.OK, 4},
		{"abcabcd", cyrillic, abc + abcd, api.OK, 7},
		{"abab", cyrillic, ab + ab, api.OK, 4},
		{"b", cyrillic, "", api.ErrNone, 0},
		{"bcd", cyrillic, bcd, api.OK, 3},
		{"abcb", cyrillic, "", api.ErrNone, 3},
		{"abb", cyrillic, "", api.ErrNone, 2},
		{"aab", cyrillic, ah + ab, api.OK, 3},
		{"acd", cyrillic, ah + cd, api.OK, 3},
		{"ad", cyrillic, ah + de, api.OK, 2},
		{"vv", latin, "w", api.OK, 2},
		{"vv", greek, "\u03bd\u03bd", api.OK, 2},
		{"w\u03bd", latin, "vw", api.OK, 3}, // of texts with as many letters the least
	} {
		if got, e := whole.Find(b, c.s, c.n); got != c.want || e != c.e {
			t.Errorf("%+q, %d: %+q, %v, want %+q, %v", c.s, c.n, got, e, c.want, c.e)
		}
		if got, e := whole.Reach(b, c.s, c.n); got != c.reach || e != api.OK {
			t.Errorf("%+q, %d: %d, %v, want %d", c.s, c.n, got, e, c.reach)
		}
	}
}

// choice is a table of one script, of which a letter is made for each text, one behind the other.
func choice(looks ...string) api.Tables {
	x := table()
	x.Marks, x.Pairs, x.Folds, x.Looks = nil, nil, nil, nil
	x.Scripts = []api.Script{{Name: "s", Spans: []api.Span{{Lo: 0x1000, Hi: 0x1fff}}}}
	x.Allowed = append(x.Allowed[:3:3], api.Span{Lo: 0x1000, Hi: 0x1fff})
	for n, to := range looks {
		x.Looks = append(x.Looks, api.Map{From: 0x1000 + rune(n), To: to})
	}
	return x
}

// The fewest letters, and the least of texts of so many: neither the longest nor the shortest pieces first, nor the least letters.
func TestP16_2Choice(t *testing.T) {
	for _, c := range []struct {
		looks []string
		s     string
		want  []int // numbers of looks
		reach int
	}{
		{[]string{"ab", "abc", "cde"}, "abcde", []int{0, 2}, 5},
		{[]string{"abc", "d", "e", "ab", "cde"}, "abcde", []int{3, 4}, 5},                       // the longest piece first takes three
		{[]string{"a", "ab", "b", "c", "bc"}, "abc", []int{0, 4}, 3},                            // of two ways of two letters the less
		{[]string{"ab", "c", "a", "bc"}, "abc", []int{0, 1}, 3},                                 // the same, the longer piece first
		{[]string{"a", "b", "c", "abc"}, "abc", []int{3}, 3},                                    // the fewest, though not the least
		{[]string{"abcd", "abc", "abc"}, "abcabc", []int{1, 1}, 6},                              // of letters with one piece the least
		{[]string{"abc", "ab"}, "abab", []int{1, 1}, 4},                                         // a piece that ends where no other goes on
		{[]string{"abcd", "d", "ab", "c"}, "abc", []int{2, 3}, 3},                               // a piece that is longer than the rest
		{[]string{"abcd"}, "abc", nil, 0},                                                       // and nothing else
		{[]string{"ab", "abc", "d"}, "abcdab", []int{1, 2, 0}, 6},                               // one way alone
		{[]string{"ab", "cd", "de"}, "abcde", nil, 4},                                           // two pieces that overlap
		{[]string{"a", "ab", "cdef", "cde"}, "abcdg", nil, 2},                                   // the last place of a way, not of a piece
		{[]string{"ab", "abcd", "cd", "e"}, "abcd", []int{1}, 4},                                // whole in one
		{[]string{"aa", "aaa", "a"}, "aaaaaaa", []int{0, 0, 1}, 7},                              // 2 2 3, ahead of 2 3 2 and 3 2 2
		{[]string{"aaa", "aa"}, "aaaaaaa", []int{0, 1, 1}, 7},                                   // 3 2 2, ahead of 2 2 3
		{[]string{"aaaa", "aaa"}, "aaaaa", nil, 4},                                              // 4 and 3 make no 5
		{[]string{"b", "ab", "a"}, "aab", []int{2, 1}, 3},                                       // the piece at the beginning of which another one ends
		{[]string{"abca", "bc", "a"}, "abca", []int{0}, 4},                                      // and so on
		{[]string{"ab", "ba"}, "abba", []int{0, 1}, 4},                                          //
		{[]string{"ab", "ba"}, "abab", []int{0, 0}, 4},                                          //
		{[]string{"ab", "ba"}, "aba", nil, 2},                                                   //
		{[]string{"\u4e00\U0001f600", "\U0001f600", "\u4e00"}, "\u4e00\U0001f600", []int{0}, 2}, // runes of three and four bytes
	} {
		b := bookOf(t, choice(c.looks...))
		var want []rune
		for _, n := range c.want {
			want = append(want, 0x1000+rune(n))
		}
		why := api.OK
		if want == nil {
			why = api.ErrNone
		}
		if got, e := whole.Find(b, c.s, 0); got != string(want) || e != why {
			t.Errorf("%q, %+q: %+q, %v, want %+q", c.looks, c.s, got, e, string(want))
		}
		if got, e := whole.Reach(b, c.s, 0); got != c.reach || e != api.OK {
			t.Errorf("%q, %+q: %d, %v, want %d", c.looks, c.s, got, e, c.reach)
		}
	}
}

// Texts are less by their bytes, which runes of two, three and four bytes are as they are by their numbers.
func TestP16_2Least(t *testing.T) {
	signs := []rune{0x80, 0x7ff, 0x800, 0xd7ff, 0xe000, 0xfffc, 0xffff, 0x10000, 0x10ffff}
	for from := range signs {
		x := choice()
		x.Allowed = append(x.Allowed[:3:3], api.Span{Lo: 0x80, Hi: 0x10ffff})
		x.Scripts[0].Spans = []api.Span{{Lo: 0x80, Hi: 0x10ffff}}
		for _, r := range signs[from:] {
			x.Looks = append([]api.Map{{From: r, To: "a"}}, x.Looks...)
		}
		want := strings.Repeat(string(signs[from]), 3)
		if got, e := whole.Find(bookOf(t, x), "aaa", 0); got != want || e != api.OK {
			t.Errorf("%+q, %v, want %+q", got, e, want)
		}
	}
}

// U+FFFD is found where it is a letter: also for bad spots, which look like it.
func TestP16_2Replacement(t *testing.T) {
	for i, x := range otherTables()[7:9] {
		b := bookOf(t, x)
		for n := range x.Scripts {
			for _, s := range []string{"\xff", "\ufffd", "\xe4\xb8"} {
				want, why, reach := "\ufffd", api.OK, 1
				if i == 0 && n != none {
					want, why, reach = "", api.ErrNone, 0
				}
				if s == "\xe4\xb8" {
					want, reach = want+want, reach+reach
				}
				if got, e := whole.Find(b, s, n); got != want || e != why {
					t.Errorf("%+q, %d: %+q, %v", s, n, got, e)
				}
				if got, e := whole.Reach(b, s, n); got != reach || e != api.OK {
					t.Errorf("%+q, %d: %d, %v", s, n, got, e)
				}
			}
		}
	}
}

// Pieces as long as may be: four folded to, each of which looks like four, and four marks.
func TestP16_2LongPieces(t *testing.T) {
	x, b := deepTable(), bookOf(t, deepTable())
	piece := wantSkeleton(x, "\u1004")
	if len([]rune(piece)) != 20 {
		t.Fatalf("%+q", piece)
	}
	for s, want := range map[string]string{
		piece:                         "\u1004",
		"ABCD" + "\u0310\u0311":       "\u1002",
		"\u1004\u1000\u1004":          "\u1004\u1000\u1004",
		piece + "wxyz":                "\u1004D",
		strings.Repeat(piece, 204):    strings.Repeat("\u1004", 204),
		piece[:len(piece)-2]:          "\u1003",
		piece[:len(piece)-2] + "abcd": "\u1003A",
	} {
		want = strings.ReplaceAll(strings.ReplaceAll(want, "A", "\u1010"), "D", "\u1013")
		if got, e := whole.Find(b, s, 0); got != want || e != api.OK {
			t.Errorf("%+q: %+q, %v, want %+q", s, got, e, want)
		}
	}
	for s, want := range map[string]int{piece + "w": 20, piece[:15]: 12, piece + "\u0313": 20, piece[:16] + "\u0310\u0312": 17} {
		if got, e := whole.Reach(b, s, 0); got != want || e != api.OK {
			t.Errorf("%+q: %d, %v, want %d", s, got, e, want)
		}
	}
}

// deepTable has U+1004, pair by pair, of U+1000 and four marks; that is folded to ABCD, which look like four runes each.
func deepTable() api.Tables {
	x := choice()
	x.Scripts[0].Spans = append(x.Scripts[0].Spans, api.Span{Lo: 'a' + 0x10000, Hi: 'z' + 0x10000})
	x.Folds = []api.Map{{From: 0x1000, To: "\u1010\u1011\u1012\u1013"}, {From: 'A', To: "\u1010"}, {From: 'B', To: "\u1011"}, {From: 'C', To: "\u1012"}, {From: 'D', To: "\u1013"}}
	x.Looks = []api.Map{{From: 0x1010, To: "abcd"}, {From: 0x1011, To: "efgh"}, {From: 0x1012, To: "ijkl"}, {From: 0x1013, To: "wxyz"}}
	for i := range rune(4) {
		x.Marks = append(x.Marks, api.Mark{Rune: 0x310 + i, Class: 230})
		x.Pairs = append(x.Pairs, api.Pair{Whole: 0x1001 + i, Base: 0x1000 + i, Mark: 0x310 + i})
	}
	return x
}

// As many runes as a skeleton may have.
func TestP16_2To3Long(t *testing.T) {
	b, n := book(t), whole.Most
	for _, c := range []struct {
		s, want string
		n, to   int
	}{
		{strings.Repeat("a", n), strings.Repeat(ah, n), cyrillic, n},
		{strings.Repeat("rn", n/2), strings.Repeat("m", n/2), latin, n},
		{strings.Repeat("m", n/2), strings.Repeat("m", n/2), latin, n},
		{strings.Repeat("mm", n/4), strings.Repeat(oddMM, n/4), odd, n},
		{strings.Repeat("abcd", n/4), strings.Repeat(abcd, n/4), cyrillic, n},
		{strings.Repeat("a", n-1) + "t", "", cyrillic, n - 1},
		{"t" + strings.Repeat("a", n-1), "", cyrillic, 0},
		{strings.Repeat("e", n/2) + "t" + strings.Repeat("e", n/2-1), "", cyrillic, n / 2},
		{strings.Repeat("a\u200d", 16384), "", latin, 0}, // too long, as its skeleton is
		{strings.Repeat("\u200d", 21845) + "a", "a", latin, 1},
		{strings.Repeat(zero+ah, 4096), strings.Repeat("a", n), latin, n},
	} {
		why, whyNot := api.OK, api.OK
		if c.want == "" {
			why = api.ErrNone
		}
		if len(c.s) == api.MaxText && c.to == 0 {
			why, whyNot = api.ErrLong, api.ErrLong
		}
		if got, e := whole.Find(b, c.s, c.n); got != c.want || e != why {
			t.Errorf("%.20q: %d bytes, %v, want %d", c.s, len(got), e, len(c.want))
		}
		if got, e := whole.Reach(b, c.s, c.n); got != c.to || e != whyNot {
			t.Errorf("%.20q: %d, %v, want %d", c.s, got, e, c.to)
		}
	}
}

// All letters of a full table begin alike, and every place of the text is where one may stand.
func TestP16_2Full(t *testing.T) {
	x := fullTable()
	b, s := bookOf(t, x), strings.Repeat("a", whole.Most)
	got, e := whole.Find(b, s, 7)
	if want := strings.Repeat("\U00020000", whole.Most/16); got != want || e != api.OK {
		t.Errorf("%d bytes, %v", len(got), e)
	}
	if k, e := whole.Reach(b, s[:whole.Most-1]+"x", 7); k != whole.Most-1 || e != api.OK {
		t.Errorf("%d, %v", k, e)
	}
	if l, e := whole.Scripts(b, s); len(l) != api.MaxScripts || e != api.OK {
		t.Errorf("%v, %v", l, e)
	}
	if l, e := whole.Others(b, s); len(l) != api.MaxScripts || l[63].Text != got || e != api.OK {
		t.Errorf("%d, %v", len(l), e)
	}
}

// fullTable has as many scripts, pairs, folds and looks as may be. Folds are to four of what looks like aaaa, or to less.
func fullTable() api.Tables {
	x := choice()
	x.Scripts = nil
	for n := range api.MaxScripts {
		x.Scripts = append(x.Scripts, api.Script{Name: "s" + string(rune('a'+n/8)) + string(rune('a'+n%8)), Spans: []api.Span{{Lo: 0x10000, Hi: 0x10ffff}}})
	}
	x.Allowed = append(x.Allowed[:3:3], api.Span{Lo: 0x80, Hi: 0x10ffff})
	for i := range rune(api.MaxMaps) {
		from, ends := 0x10000+i, []string{"", "a", "b", "c", "aa", "ab", "ac", "d", "aaa", "aab"}
		x.Looks = append(x.Looks, api.Map{From: from, To: "a" + ends[i%10]})
		x.Folds = append(x.Folds, api.Map{From: 0x20000 + i, To: strings.Repeat(string(rune(0x10008)), 4-int(i%4))})
	}
	for i := range rune(api.MaxMarks) {
		x.Marks = append(x.Marks, api.Mark{Rune: 0x300 + i, Class: 230})
	}
	for i := range rune(api.MaxPairs) {
		x.Pairs = append(x.Pairs, api.Pair{Whole: 0x30000 + i, Base: 0x20000 + i/512, Mark: 0x300 + i%512})
	}
	return x
}

func nothing(t *testing.T, b *tables.Book, s string, n int, want api.Errno) {
	t.Helper()
	if got, e := whole.Find(b, s, n); got != "" || e != want {
		t.Errorf("Find %.20q, %d: %d bytes, %v, want %v", s, n, len(got), e, want)
	}
	if got, e := whole.Reach(b, s, n); got != 0 || e != want {
		t.Errorf("Reach %.20q, %d: %d, %v, want %v", s, n, got, e, want)
	}
}

// The order of refusals: no Book, no script, too long a text, too long a skeleton.
func TestP16_2To3Refused(t *testing.T) {
	b := book(t)
	tooLong, longSeen := strings.Repeat("a", api.MaxText+1), strings.Repeat("a", whole.Most+1)
	for _, n := range []int{0, 1, 4, 5, -1, 64, 1 << 40, -1 << 63} {
		for _, s := range []string{"", "a", "\xff", tooLong, longSeen} {
			nothing(t, nil, s, n, api.ErrArg)
		}
	}
	for _, n := range []int{5, 6, 63, 64, 1 << 32, 1<<63 - 1, -1, -2, -1 << 31, -1 << 63} {
		for _, s := range []string{"", "a", "\xff", tooLong, longSeen} {
			nothing(t, b, s, n, api.ErrArg)
		}
	}
	for n := range 5 {
		for _, s := range []string{
			tooLong,
			tooLong + "\xff",
			strings.Repeat(zero, 21846),                 // of which nothing is seen
			strings.Repeat(zero, 21845) + "aa",          // or little
			strings.Repeat("a", api.MaxText),            // long in what is seen
			strings.Repeat("?", whole.Most+1),           // though nothing would be found
			strings.Repeat("m", whole.Most/2+1),         // of fewer runes
			"a" + strings.Repeat("rn", whole.Most/2),    // or of one too many
			strings.Repeat(oddMM, whole.Most/4) + "-",   //
			strings.Repeat("\xff", whole.Most+1),        //
			strings.Repeat(small, whole.Most/2) + acute, //
		} {
			nothing(t, b, s, n, api.ErrLong)
		}
	}
}

// A table without scripts has no numbers.
func TestP16_2To3NoScripts(t *testing.T) {
	x := table()
	x.Scripts = nil
	for _, n := range []int{-1, 0, 1} {
		for _, s := range []string{"", "1", "a", strings.Repeat("a", api.MaxText+1)} {
			nothing(t, bookOf(t, x), s, n, api.ErrArg)
		}
	}
}

func TestP16_2To3DrawnTables(t *testing.T) {
	pick := rand.New(rand.NewSource(162))
	asked, met := 0, 0
	for range 150 {
		k := know(t, drawTable(pick))
		for range 30 {
			asked += len(k.x.Scripts)
			met += checkFind(t, k, drawRunes(pick)+drawRunes(pick))
		}
	}
	if met < asked/10 || met > asked*9/10 {
		t.Errorf("of %d texts %d are found", asked, met)
	}
}
