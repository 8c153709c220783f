package scan_test

import (
	"math/rand"
	"slices"
	"strings"
	"testing"
	"time"

	"guise/api"
	"guise/scan"
)

func check(t *testing.T, s string) {
	t.Helper()
	want, place, e := wantWords(s)
	l, p, f := scan.Words(s)
	if !slices.Equal(l, want) || p != place || f != e {
		t.Errorf("%q: %+v, %+v, %v, want %+v, %+v, %v", s, l, p, f, want, place, e)
	}
}

// grow checks s with up to n bytes of the alphabet more. Behind a wrong byte it goes no further: P4.5 has its own test.
func grow(t *testing.T, s, alphabet string, n int) {
	check(t, s)
	if n == 0 || !viable(s) {
		return
	}
	for i := range len(alphabet) {
		grow(t, s+alphabet[i:i+1], alphabet, n-1)
	}
}

func allBytes() string {
	b := make([]byte, 256)
	for i := range b {
		b[i] = byte(i)
	}
	return string(b)
}

func TestP4_1AllBytes(t *testing.T) {
	grow(t, "", allBytes(), 2)
}

func TestP4_1ShortTexts(t *testing.T) {
	grow(t, "", "a0U+'.#\n \xc3\xa9;-", 4)
}

// Each of these stands just ahead of an edge: any byte at all is tried behind it.
func TestP4_1Edges(t *testing.T) {
	for _, s := range []string{"6553", "65535", "6552", "6560", "0", "9999", "10000",
		"U", "U+", "U+0", "U+00", "U+004", "U+0041", "U+D7F", "U+D7FF", "U+D80", "U+D800", "U+DFF", "U+DFFF", "U+E000", "U+D8000", "U+DFFFF", "U+10FF", "U+10FFF", "U+10FFFF", "U+11000", "U+FFFFF", "U+1000", "U+10000",
		strings.Repeat("a", 31), strings.Repeat("a", 32), "a-", "a.", "a..", "a...", "'a", "'a'", "''", "' ", "' '", "'\u00e9", "'\U0001f600'",
		"'\xc2", "'\xdf", "'\xe0", "'\xe0\xa0", "'\xec\x80", "'\xed", "'\xed\x9f", "'\xef\xbf", "'\xf0", "'\xf0\x90", "'\xf0\x90\x80", "'\xf3\x80\x80", "'\xf4", "'\xf4\x8f", "'\xf4\x8f\xbf",
		"#\xc2", "# \xe0", "# \xe0\xa0", "# \xed", "# \xf0", "# \xf0\x90", "# \xf4", "# \xf4\x8f\xbf", "# \u00e9\n", "a# '\n", "{", "}", ";", "=", "+", "'a'="} {
		grow(t, s, allBytes(), 1)
	}
}

func TestP4_1LongerTexts(t *testing.T) {
	rnd := rand.New(rand.NewSource(41))
	for range 300 {
		s := rightText(rnd, 1+rnd.Intn(12))
		if _, _, e := scan.Words(s); e != api.OK {
			t.Errorf("%q: %v", s, e)
		}
		check(t, s)
		check(t, s[:rnd.Intn(len(s)+1)])
		at, b := rnd.Intn(len(s)), byte(rnd.Intn(256))
		check(t, s[:at]+string(rune(b))+s[at+1:])
		check(t, s[:at]+string([]byte{b})+s[at:])
		check(t, s[:at]+s[at+1:])
	}
}

func TestP4_1Fields(t *testing.T) {
	at := api.At{Byte: 1, Line: 1, Column: 2}
	for s, want := range map[string]scan.Word{
		"look":         {Kind: 1, S: "look", End: 5},
		"65535":        {Kind: 2, N: 65535, End: 6},
		"0":            {Kind: 2, End: 2},
		"U+10FFFF":     {Kind: 3, R: 0x10ffff, End: 9},
		"U+0000":       {Kind: 3, End: 7},
		"'\U0001f600'": {Kind: 3, R: 0x1f600, End: 7},
		"{":            {Kind: 4, End: 2},
		"}":            {Kind: 5, End: 2},
		";":            {Kind: 6, End: 2},
		"=":            {Kind: 7, End: 2},
		"+":            {Kind: 8, End: 2},
		"..":           {Kind: 9, End: 3},
	} {
		want.At = at
		if l, p, e := scan.Words(" " + s); len(l) != 1 || l[0] != want || p != (api.At{}) || e != api.OK {
			t.Errorf("%q: %+v, %+v, %v", s, l, p, e)
		}
	}
}

func TestP4_1Numbers(t *testing.T) {
	for n := range 70000 {
		s := wantNumber(n)
		l, p, e := scan.Words(s)
		switch {
		case n <= 65535:
			if len(l) != 1 || l[0].N != n || l[0].End != len(s) || e != api.OK {
				t.Fatalf("%s: %+v, %v", s, l, e)
			}
		case len(l) > 0 || p != (api.At{Byte: 4, Line: 1, Column: 5}) || e != api.ErrWord:
			t.Fatalf("%s: %+v, %+v, %v", s, l, p, e)
		}
	}
}

func wantNumber(n int) string {
	if n < 10 {
		return string(rune('0' + n))
	}
	return wantNumber(n/10) + string(rune('0'+n%10))
}

func TestP4_1TooLong(t *testing.T) {
	start := api.At{Line: 1, Column: 1}
	for _, bit := range []string{" ", "a ", "\n", "\xff", "?", "'", "#\n"} {
		s := strings.Repeat(bit, api.MaxRules/len(bit))
		if l, p, e := scan.Words(s + " "); len(l) > 0 || p != start || e != api.ErrLong {
			t.Errorf("%q: %d words, %+v, %v", bit, len(l), p, e)
		}
		if _, _, e := scan.Words(s); e == api.ErrLong {
			t.Errorf("%q: %v", bit, e)
		}
	}
}

// A text as long as may be ends where it can't, if a longer one could be right.
func TestP4_1LongestEnds(t *testing.T) {
	s := strings.Repeat(" ", api.MaxRules-1)
	end := api.At{Byte: api.MaxRules, Line: 1, Column: api.MaxRules + 1}
	for _, last := range []string{"'", "U", "."} {
		if l, p, e := scan.Words(s + last); len(l) > 0 || p != end || e != api.ErrEnd {
			t.Errorf("%q: %d words, %+v, %v", last, len(l), p, e)
		}
	}
}

// Many words on one line must not make each one's place cost a walk from the beginning.
func TestR1LongLines(t *testing.T) {
	began := time.Now()
	for _, bit := range []string{"'\u00e9'", ";", "a ", "1\n", "# \u00e9\n", "U+0041;"} {
		n := api.MaxRules / len(bit)
		l, p, e := scan.Words(strings.Repeat(bit, n))
		if e != api.OK || p != (api.At{}) || (len(l) < n) != (bit[0] == '#') {
			t.Errorf("%q: %d words, %+v, %v", bit, len(l), p, e)
		}
	}
	if took := time.Since(began); took > 5*time.Second {
		t.Errorf("took %v", took)
	}
}
