package scan_test

import (
	"math/rand"
	"slices"
	"strings"
	"testing"
	"unicode/utf8"

	"guise/api"
	"guise/scan"
)

func at(b, line, column int) api.At { return api.At{Byte: b, Line: line, Column: column} }

func words(t *testing.T, s string) []scan.Word {
	t.Helper()
	l, p, e := scan.Words(s)
	if p != (api.At{}) || e != api.OK {
		t.Fatalf("%q: %+v, %v", s, p, e)
	}
	return l
}

func TestP4_4WordsOfText(t *testing.T) {
	for r := rune(0); r < 0x110000; r++ {
		if !utf8.ValidRune(r) {
			continue
		}
		s, _ := scan.Text(r)
		want := scan.Word{Kind: scan.Rune, R: r, At: at(0, 1, 1), End: len(s)}
		if l, p, e := scan.Words(s); len(l) != 1 || l[0] != want || p != (api.At{}) || e != api.OK {
			t.Fatalf("%x: %q: %+v, %+v, %v", r, s, l, p, e)
		}
	}
}

func TestP4_4OneBehindTheOther(t *testing.T) {
	rnd := rand.New(rand.NewSource(44))
	for range 500 {
		one, two := rightText(rnd, rnd.Intn(6)), rightText(rnd, rnd.Intn(6))
		if rnd.Intn(2) == 0 {
			one += "# open"
		}
		want, lines := words(t, one), strings.Count(one, "\n")+1
		for _, w := range words(t, two) {
			w.At.Byte, w.At.Line, w.End = w.At.Byte+len(one)+1, w.At.Line+lines, w.End+len(one)+1
			want = append(want, w)
		}
		if l := words(t, one+"\n"+two); !slices.Equal(l, want) {
			t.Errorf("%q and %q: %+v, want %+v", one, two, l, want)
		}
	}
}

func TestP4_5NothingMattersBehind(t *testing.T) {
	rnd := rand.New(rand.NewSource(45))
	hold := []string{"", "'", "\n", "\x80", "\x80'", " ", "0", "?", "\xff", ";\n'a'", strings.Repeat("a", 40)}
	for _, s := range []string{"'\xc3'", "U+041;", "U+00041", "U+D800 ", "U+110000", "65536", "007", "12a", "A", "a.b", "''", "# \xff", strings.Repeat("a", 33), "'\xed\xa0", "# \xf4\x90", "\n\n \u00e9", "'ab", "'\x7f", "\n'\xe2\x82\n"} {
		_, p, e := scan.Words(s)
		if e != api.ErrWord || p.Byte >= len(s) {
			t.Fatalf("%q: %+v, %v", s, p, e)
		}
		for _, tail := range append(hold, rightText(rnd, 3)) {
			l, q, f := scan.Words(s[:p.Byte+1] + tail)
			if len(l) > 0 || q != p || f != api.ErrWord {
				t.Errorf("%q and %q: %+v, %+v, %v", s, tail, l, q, f)
			}
		}
	}
}

// placeless are the words without their places.
func placeless(l []scan.Word) []scan.Word {
	l = slices.Clone(l)
	for i := range l {
		l[i].At, l[i].End = api.At{}, 0
	}
	return l
}

func TestP4_6GapsBetween(t *testing.T) {
	rnd := rand.New(rand.NewSource(46))
	for range 300 {
		s := rightText(rnd, 2+rnd.Intn(5))
		want := words(t, s)
		cut := want[rnd.Intn(len(want))].End
		for _, gap := range between {
			l := words(t, s[:cut]+gap+s[cut:])
			if !slices.Equal(placeless(l), placeless(want)) {
				t.Errorf("%q with %q at %d: %+v", s, gap, cut, l)
			}
		}
	}
	// Words that need nothing between them.
	want := placeless(words(t, "{'a'..'b'a;9=U+0041+}"))
	if l := words(t, "{ 'a' ..\n'b'# b\na\t;\r9 = U+0041 + }"); len(want) != 11 || !slices.Equal(placeless(l), want) {
		t.Errorf("%+v, want %+v", l, want)
	}
}

func TestRunsRight(t *testing.T) {
	fold := []scan.Word{{Kind: scan.Name, S: "fold", At: at(0, 1, 1), End: 4}, {Kind: scan.Rune, R: 0x41, At: at(5, 1, 6), End: 8}, {Kind: scan.Assign, At: at(9, 1, 10), End: 10}, {Kind: scan.Rune, R: 0x61, At: at(11, 1, 12), End: 17}, {Kind: scan.Semi, At: at(17, 1, 18), End: 18}}
	for s, want := range map[string][]scan.Word{
		"fold 'A' = U+0061;": fold,
		"'a'..'z'":           {{Kind: scan.Rune, R: 'a', At: at(0, 1, 1), End: 3}, {Kind: scan.Dots, At: at(3, 1, 4), End: 5}, {Kind: scan.Rune, R: 'z', At: at(5, 1, 6), End: 8}},
		"'\u00e9'":           {{Kind: scan.Rune, R: 0xe9, At: at(0, 1, 1), End: 4}},
		"U+D8000":            {{Kind: scan.Rune, R: 0xd8000, At: at(0, 1, 1), End: 7}},
		"U+10FFFF":           {{Kind: scan.Rune, R: 0x10ffff, At: at(0, 1, 1), End: 8}},
		"65535":              {{Kind: scan.Number, N: 65535, At: at(0, 1, 1), End: 5}},
		"a-9":                {{Kind: scan.Name, S: "a-9", At: at(0, 1, 1), End: 3}},
		"a..b":               {{Kind: scan.Name, S: "a", At: at(0, 1, 1), End: 1}, {Kind: scan.Dots, At: at(1, 1, 2), End: 3}, {Kind: scan.Name, S: "b", At: at(3, 1, 4), End: 4}},
	} {
		if l := words(t, s); !slices.Equal(l, want) {
			t.Errorf("%q: %+v", s, l)
		}
	}
	for b, want := range map[int]api.At{2: at(2, 1, 2), 3: at(3, 1, 3), 9: at(4, 1, 4)} {
		if p := scan.Where("'\u00e9'", b); p != want {
			t.Errorf("Where(%d): %+v", b, p)
		}
	}
}

func TestRunsWrong(t *testing.T) {
	for s, want := range map[string]api.At{"'\u00e9": at(3, 1, 3), "'\xc3": at(2, 1, 3)} {
		if l, p, e := scan.Words(s); len(l) > 0 || p != want || e != api.ErrEnd {
			t.Errorf("%q: %+v, %+v, %v", s, l, p, e)
		}
	}
	for s, want := range map[string]api.At{
		"'\xc3'": at(2, 1, 3), "U+041;": at(5, 1, 6), "U+00041": at(6, 1, 7), "U+D800 ": at(6, 1, 7), "U+110000": at(7, 1, 8),
		"65536": at(4, 1, 5), "007": at(1, 1, 2), "12a": at(2, 1, 3), "A": at(0, 1, 1), "a.b": at(2, 1, 3), "''": at(1, 1, 2), "'''": at(1, 1, 2), "# \xff": at(2, 1, 3),
		strings.Repeat("n", 33): at(32, 1, 33), "a # \u00e9\n?": at(7, 2, 1),
	} {
		if l, p, e := scan.Words(s); len(l) > 0 || p != want || e != api.ErrWord {
			t.Errorf("%q: %+v, %+v, %v", s, l, p, e)
		}
	}
}

func TestExamples(t *testing.T) {
	for _, s := range []string{"", "#", "# a remark", "# a remark\n", " \t\r\n"} {
		if l := words(t, s); len(l) > 0 {
			t.Errorf("2: %q: %+v", s, l)
		}
	}
	if l := words(t, "U+0041 'A'"); len(l) != 2 || l[0].R != 'A' || l[1].R != 'A' || l[0].Kind != scan.Rune || l[1].Kind != scan.Rune {
		t.Errorf("3: %+v", l)
	}
}

// What is done to an answer is not seen in another one.
func TestR2NewMemory(t *testing.T) {
	s := "a 'b' 7"
	one := words(t, s)
	want := slices.Clone(one)
	for i := range one[:cap(one)] {
		one[:cap(one)][i] = scan.Word{Kind: -1}
	}
	if l := words(t, s); !slices.Equal(l, want) {
		t.Errorf("%+v", l)
	}
}
