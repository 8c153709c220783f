package script_test

import (
	"slices"
	"strings"
	"testing"

	"guise/api"
	"guise/script"
	"guise/standard"
	"guise/tables"
)

func TestP14_1EachText(t *testing.T) {
	eachPair(t, func(x api.Tables, b *tables.Book, s string) {
		want := wantOf(x, s)
		if got := script.Of(b, s); !slices.Equal(got, want) {
			t.Errorf("%+q: %v, want %v", s, got, want)
		}
		for n := -2; n <= len(x.Scripts)+2; n++ {
			if script.Can(b, s, n) != slices.Contains(want, n) {
				t.Errorf("%+q: Can(%d), but it is of %v", s, n, want)
			}
		}
	})
}

func TestP14_1ByHand(t *testing.T) {
	all := []int{latin, cyrillic, han, japanese, none, odd}
	b := book(t)
	for s, want := range map[string][]int{
		"":                        all,
		"-.0189":                  all,
		acute:                     all, // a mark is free, though a script has it
		acute + dot + high + "1":  all,
		longer:                    all, // so is what is Common
		"5":                       all,
		"a":                       {latin},
		"az\u00e9" + acute + "-5": {latin}, // two spans that touch, and a third one
		acute + "a":               {latin},
		"\u0430":                  {cyrillic},
		sun:                       {han, japanese},
		sun + "\u3042":            {japanese},
		"\u3042" + sun:            {japanese},
		sun + rare:                {japanese},
		sun + longer:              {han, japanese}, // of japanese, too, but free
		sun + "a":                 {},
		sun + "a" + sun:           {},
		fi:                        {latin, odd},
		fi + "a":                  {latin},
		fi + soft:                 {odd}, // dropped runes are of scripts as others are
		soft:                      {odd},
		"a" + soft:                {},
		zero:                      {},
		"a" + zero:                {},
		"\ud7ff\ue000":            {odd},
		"\xed\xa0\x80":            {}, // the surrogates between these two are no runes
		"\u00e8":                  {}, // a whole is not taken apart
		"A":                       {}, // nor is anything folded
		"?":                       {},
		" ":                       {},
		"\x00":                    {},
		"\ufffd":                  {},
		"\xff":                    {},
		"1\xff":                   {},
		"a\xd0":                   {},
		"\xb0\xd0":                {},
		"a\u0430":                 {},
		"\u0430a":                 {},
		"\U0010ffff":              {odd},
	} {
		if got := script.Of(b, s); !slices.Equal(got, want) {
			t.Errorf("%+q: %v, want %v", s, got, want)
		}
	}
}

// A bad spot is bound to no script, whatever the table says of U+FFFD.
func TestP14_1BadSpots(t *testing.T) {
	letter, shared := table(), table()
	letter.Scripts[none].Spans = []api.Span{{Lo: 0xfffd, Hi: 0xfffd}}
	shared.Common = append(shared.Common, api.Span{Lo: 0xfffd, Hi: 0xfffd})
	if got := script.Of(bookOf(t, letter), "\ufffd1"); !slices.Equal(got, []int{none}) {
		t.Errorf("U+FFFD as a letter: %v", got)
	}
	if got := script.Of(bookOf(t, shared), "\ufffda"); !slices.Equal(got, []int{latin}) {
		t.Errorf("U+FFFD as Common: %v", got)
	}
	for _, x := range append(otherTables(), letter, shared) {
		b := bookOf(t, x)
		for _, s := range []string{"\xff", "\x80", "\xef\xbf", "\ufffd\xff", "1\xff", "\xed\xa0\x80"} {
			if got := script.Of(b, s); len(got) > 0 {
				t.Errorf("%+q: %v", s, got)
			}
		}
	}
}

// Of as many scripts as a table may have: each rune leaves fewer of them.
func TestP14_1ManyScripts(t *testing.T) {
	x := fullTable()
	b := bookOf(t, x)
	if got := script.Of(b, ""); len(got) != api.MaxScripts || !slices.IsSorted(got) || got[0] != 0 {
		t.Errorf("of nothing: %v", got)
	}
	text := ""
	for i := range rune(api.MaxScripts) {
		text += string(0x1000 + i)
		got := script.Of(b, text)
		if len(got) != api.MaxScripts-int(i) || got[0] != int(i) || !slices.IsSorted(got) {
			t.Errorf("%+q: %v", text, got)
		}
		if !script.Can(b, text, api.MaxScripts-1) || script.Can(b, text, int(i)-1) || script.Can(b, text, api.MaxScripts) {
			t.Errorf("%+q: Can", text)
		}
	}
}

func TestP14_1NoSuchScript(t *testing.T) {
	for _, x := range append(otherTables(), table()) {
		b := bookOf(t, x)
		for _, s := range []string{"", "1", "a", "\u0430", "\xff"} {
			for _, n := range []int{-1, -2, -1 << 31, -1 << 63, len(x.Scripts), len(x.Scripts) + 1, 64, 1 << 32, 1<<63 - 1} {
				if script.Can(b, s, n) {
					t.Errorf("%+q: %d", s, n)
				}
			}
		}
	}
}

func TestP14_1House(t *testing.T) {
	b := standard.Book()
	for s, want := range map[string]string{
		"":                     "latin greek cyrillic armenian hebrew han japanese",
		"2026-11":              "latin greek cyrillic armenian hebrew han japanese",
		"\u00b7\u30fc\u0301":   "latin greek cyrillic armenian hebrew han japanese",
		"na\u00efve":           "latin",
		"copa":                 "latin",
		"\u0441\u043e\u0440":   "cyrillic",
		"\u65e5\u672c":         "han japanese",
		"\u65e5\u672c\u306e":   "japanese",
		"\u30ab\u30fc":         "japanese",
		"\u4e00\u30fc":         "han japanese",
		"c\u043epa":            "",
		"\u03b1\u0301\u03c9-1": "greek",
	} {
		var names []string
		for _, n := range script.Of(b, s) {
			names = append(names, b.Names()[n])
		}
		if got := strings.Join(names, " "); got != want {
			t.Errorf("%+q: %s, want %s", s, got, want)
		}
	}
}

// Texts of any length are taken, not those of R10 alone.
func TestP14_1Long(t *testing.T) {
	b := book(t)
	for _, s := range []string{"a", "1", acute} {
		long := strings.Repeat(s, 4*api.MaxText)
		if got := script.Of(b, long+fi); !slices.Equal(got, script.Of(b, s+fi)) {
			t.Errorf("many %+q: %v", s, got)
		}
		if got := script.Of(b, long+"a\u0430"); len(got) > 0 || script.Can(b, long+"?", latin) {
			t.Errorf("many %+q, mixed: %v", s, got)
		}
	}
}

// Nothing that is done to an answer, its spare room included, is told by a later one.
func TestP14_1NewMemory(t *testing.T) {
	b := bookOf(t, fullTable())
	for _, s := range []string{"", "1", "\u1000", "\u1005", "1\u1005" + acute, "\u1005\u1006", "\u103f", "?"} {
		want := wantOf(fullTable(), s)
		for range 3 {
			got := script.Of(b, s)
			if !slices.Equal(got, want) {
				t.Errorf("%+q: %v, want %v", s, got, want)
			}
			spoil(got)
		}
		if got := script.Of(b, ""); len(got) != api.MaxScripts {
			t.Errorf("of nothing, behind %+q: %v", s, got)
		}
	}
}

func spoil(l []int) {
	l = l[:cap(l)]
	for i := range l {
		l[i] = -7
	}
}

func TestP14_1NilBook(t *testing.T) {
	for _, s := range []string{"", "1", "a", "\xff", "a\u0430"} {
		if got := script.Of(nil, s); len(got) > 0 {
			t.Errorf("%+q: %v", s, got)
		}
		for n := -1; n < 3; n++ {
			if script.Can(nil, s, n) {
				t.Errorf("%+q: %d", s, n)
			}
		}
	}
}
