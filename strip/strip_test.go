package strip_test

import (
	"strings"
	"testing"

	"guise/api"
	"guise/standard"
	"guise/strip"
	"guise/utf"
)

func TestP11_1Strip(t *testing.T) {
	b, x := book(t), table()
	eachText(func(s string) {
		if got, want := strip.Strip(b, s), wantStrip(x, s); got != want {
			t.Errorf("%+q: %+q, want %+q", s, got, want)
		}
	})
}

func TestP11_1ByHand(t *testing.T) {
	b := book(t)
	for s, want := range map[string]string{
		"":                              "",
		"abc":                           "abc",
		soft + zero + soft:              "",
		soft + "a" + zero + "b" + most:  "ab",
		"a" + soft + "\u0301":           "a\u0301", // what comes to stand together is not put together
		"e" + zero + "\u0301\u0323":     "e\u0301\u0323",
		"\u00e9A\u0430":                 "\u00e9A\u0430", // nor is anything taken apart, folded, or looked at
		"\xff":                          "\ufffd",
		"\xff" + soft + "\ufffd":        "\ufffd\ufffd",
		"\xc2" + soft + "\xad":          "\ufffd\ufffd",
		"\xc2\xad":                      "",
		"\xad\xc2":                      "\ufffd\ufffd",
		"\xe2\x80\x8b":                  "",
		"\xe2\x80" + tone + "\x8b":      "\ufffd\ufffd\ufffd",
		"\xe2\x80\xe2\x80\x8b\x8b":      "\ufffd\ufffd\ufffd",
		"\xf0\x9f\x8f\xbd":              "",
		"\xf0\x9f\x8f":                  "\ufffd\ufffd\ufffd",
		"\xed\xa0\x80":                  "\ufffd\ufffd\ufffd", // a surrogate between two that are dropped is no rune
		ahead + "\xed\xbf\xbf" + behind: "\ufffd\ufffd\ufffd",
		under + "\ufffd" + above:        "\ufffd",
		"\xef\xbf":                      "\ufffd\ufffd",
		"\xc1\x80\x80" + least:          "\ufffd\ufffd\ufffd",
		"\x00\x1f\x7f" + least + "\n":   "\x00\x1f\x7f\n",
		"\xf4\x90\x80\x80":              "\ufffd\ufffd\ufffd\ufffd",
	} {
		if got := strip.Strip(b, s); got != want {
			t.Errorf("%+q: %+q, want %+q", s, got, want)
		}
	}
}

func TestP11_1OtherTables(t *testing.T) {
	for n, x := range otherTables() {
		b := bookOf(t, x)
		eachText(func(s string) {
			got := strip.Strip(b, s)
			if want := wantStrip(x, s); got != want {
				t.Errorf("%d: %+q: %+q, want %+q", n, s, got, want)
			}
			if len(x.Drops) == 0 && got != utf.Clean(s) {
				t.Errorf("%+q: %+q, and nothing is dropped", s, got)
			}
		})
	}
}

// everyRune is a text of all runes, rising.
func everyRune() string {
	var b strings.Builder
	for r := rune(0); r <= 0x10ffff; r++ {
		if r < 0xd800 || r > 0xdfff {
			b.WriteRune(r)
		}
	}
	return b.String()
}

func TestP11_1EveryRune(t *testing.T) {
	s := everyRune()
	for n, x := range append(otherTables(), table(), standard.Book().Tables()) {
		var want strings.Builder
		gone := 0
		for _, r := range s {
			if isDropped(x, r) {
				gone++
			} else {
				want.WriteRune(r)
			}
		}
		b := bookOf(t, x)
		if strip.Strip(b, s) != want.String() || strip.Count(b, s) != gone {
			t.Errorf("%d: %d bytes, want %d; %d runes gone, want %d", n, len(strip.Strip(b, s)), want.Len(), strip.Count(b, s), gone)
		}
	}
}

// Texts of any length are taken (R10 does not speak of this layer), and forms may be longer.
func TestP11_1Long(t *testing.T) {
	b, n := book(t), api.MaxText
	for s, want := range map[string]string{
		strings.Repeat("a"+zero, n):    strings.Repeat("a", n),
		strings.Repeat(soft, n) + "b":  "b",
		strings.Repeat("\xff", n+1):    strings.Repeat("\ufffd", n+1),
		strings.Repeat("a", n) + tone:  strings.Repeat("a", n),
		strings.Repeat("\u20ac", n+77): strings.Repeat("\u20ac", n+77),
	} {
		if got := strip.Strip(b, s); got != want {
			t.Errorf("%d bytes: %d, want %d", len(s), len(got), len(want))
		}
	}
}

func TestP11_1NilBook(t *testing.T) {
	for _, s := range []string{"", "a", soft, "a" + zero, "\xff"} {
		if got := strip.Strip(nil, s); got != "" {
			t.Errorf("%+q: %+q", s, got)
		}
	}
}
