package boot_test

import (
	"maps"
	"math/rand"
	"slices"
	"sort"
	"strings"
	"testing"

	"guise/api"
	"guise/boot"
)

func TestP17_2EachText(t *testing.T) {
	for i, p := range params() {
		n := 2
		if i < 2 {
			n = 3
		}
		eachText(n, func(s string) { checkEncode(t, p, s) })
	}
}

func TestP17_2Drawn(t *testing.T) {
	pick := rand.New(rand.NewSource(172))
	for n := range 4000 {
		p := drawParams(pick)
		if n%2 == 0 {
			p = params()[n/2%len(params())]
		}
		s := drawText(pick, p.First, 30)
		checkEncode(t, p, s)
		at := pick.Intn(len(s) + 1)
		checkEncode(t, p, s[:at]+bits[pick.Intn(len(bits))]+s[at:]) // within a rune, too
	}
}

// One rune, each that there is, alone and among basic ones.
func TestP17_2EachRune(t *testing.T) {
	for r := rune(0); r <= 0x10ffff; r += 1 + r/0x300 {
		checkEncode(t, house(), string(r))
		checkEncode(t, with(0x2000), "a"+string(r)+"b")
		checkEncode(t, least(), "\u00ff"+string(r)+"-\u00ff")
	}
}

// With these numbers the form is one that others write too: RFC 3492 has the first ones.
func TestP17_2Known(t *testing.T) {
	p := boot.Params{Base: 36, Low: 1, High: 26, Skew: 38, Damp: 700, Bias: 72, First: 0x80}
	for s, want := range map[string]string{
		"\u0644\u064a\u0647\u0645\u0627\u0628\u062a\u0643\u0644\u0645\u0648\u0634\u0639\u0631\u0628\u064a\u061f": "egbpdaj6bu4bxfgehfvwxn",
		"\u4ed6\u4eec\u4e3a\u4ec0\u4e48\u4e0d\u8bf4\u4e2d\u6587":                                                 "ihqwcrb4cv8a8dqg056pqjye",
		"\u4ed6\u5011\u7232\u4ec0\u9ebd\u4e0d\u8aaa\u4e2d\u6587":                                                 "ihqwctvzc91f659drss3x8bo0yb",
		"\u30d1\u30d5\u30a3\u30fcde\u30eb\u30f3\u30d0":                                                           "de-jg4avhby1noc0d",
		"\u305d\u306e\u30b9\u30d4\u30fc\u30c9\u3067":                                                             "d9juau41awczczp",
		"\u3072\u3068\u3064\u5c4b\u6839\u306e\u4e0b2":                                                            "2-u9tlzr9756bt3uc0v",
		"b\u00fccher":           "bcher-kva",
		"-\u00fc-":              "---xka",
		"\U0001f600a\U0001f4a9": "a-xb3sm3a",
		"\u00e9\u00e9":          "9caa",
		"\U0010ffff\u0080":      "a97093t",
	} {
		if got, e := boot.Encode(p, s); got != want || e != api.OK {
			t.Errorf("%+q: %q, %v, want %q", s, got, e, want)
		}
		if got, at, e := boot.Decode(p, want); got != s || at != 0 || e != api.OK {
			t.Errorf("%q: %+q, %d, %v, want %+q", want, got, at, e, s)
		}
	}
}

// What the first spot that may not be is refused with, whatever stands behind it.
func TestP17_2FirstRefused(t *testing.T) {
	full := strings.Repeat("a", boot.MaxRunes)
	for _, c := range []struct {
		s    string
		want api.Errno
	}{
		{"a\xffA", api.ErrBad},
		{"aA\xff", api.ErrDigit},
		{"\u00e9\xc3A", api.ErrBad},
		{"\ufffdA\xff", api.ErrDigit}, // the real one is not bad
		{full, api.OK},
		{full + "a", api.ErrMany},
		{full + "A", api.ErrMany},
		{full + "\xff", api.ErrMany},
		{full + "\u00e9", api.ErrMany},
		{full[1:] + "A", api.ErrDigit},
		{full[1:] + "\xff", api.ErrBad},
		{full[1:] + "\xff" + full, api.ErrBad},
		{full[1:] + " \xff", api.ErrDigit},
		{full[1:] + "\U0010ffff", api.OK},
		{full[1:] + "\U0010ffff\u00e9", api.ErrMany},
		{"\xff" + full, api.ErrBad},
		{"." + full, api.ErrDigit},
		{strings.Repeat("\U0001f600", boot.MaxRunes), api.OK},
		{strings.Repeat("\U0001f600", boot.MaxRunes) + "a", api.ErrMany},
		{strings.Repeat("a\u00e9", boot.MaxRunes/2), api.OK},
		{strings.Repeat("a\u00e9", boot.MaxRunes/2) + "-", api.ErrMany},
	} {
		a, e := boot.Encode(house(), c.s)
		if e != c.want || (e == api.OK) != (a != "") {
			t.Errorf("%+.20q, %d bytes: %.20q, %v, want %v", c.s, len(c.s), a, e, c.want)
		}
		checkEncode(t, house(), c.s)
	}
}

// ErrLong stands behind ErrArg alone, and asks how many bytes there are.
func TestP17_2Long(t *testing.T) {
	wide := strings.Repeat("\U0001f600", api.MaxText/4)
	for _, s := range []string{strings.Repeat("a", api.MaxText), wide, strings.Repeat("\xff", api.MaxText), strings.Repeat("A", api.MaxText)} {
		checkEncode(t, house(), s)
		if _, e := boot.Encode(house(), s); e == api.ErrLong {
			t.Errorf("%.8q: %v", s, e)
		}
		for _, longer := range []string{s + "a", "A" + s, "\xff" + s, s + s} {
			if a, e := boot.Encode(house(), longer); a != "" || e != api.ErrLong {
				t.Errorf("%.8q, %d bytes: %d bytes, %v", longer, len(longer), len(a), e)
			}
			if a, e := boot.Encode(boot.Params{}, longer); a != "" || e != api.ErrArg {
				t.Errorf("%.8q, %d bytes: %d bytes, %v", longer, len(longer), len(a), e)
			}
		}
	}
}

// spread are n high runes far from each other, the odd ones behind the even ones, so that each number is great.
func spread(n int) []rune {
	l := make([]rune, n)
	for i := range l {
		r := 0x80 + rune(i)*267
		if r >= 0xd800 {
			r += 0x800
		}
		l[(i%2)*((n+1)/2)+i/2] = r
	}
	return l
}

// A form may be longer than its text, but not than MaxText. Here it is as long as the last number makes it, which is as great as its rune is far.
func TestP17_2LongForm(t *testing.T) {
	p := least()
	if a, e := boot.Encode(p, string(spread(boot.MaxRunes))); a != "" || e != api.ErrLong {
		t.Fatalf("%d bytes, %v", len(a), e)
	}
	ahead := spread(sort.Search(boot.MaxRunes, func(n int) bool { return len(wantForm(p, spread(n))) > api.MaxText-12 }) - 1)
	met := map[int]bool{}
	for far := rune(1); far < 0x10000; far *= 2 {
		text := append([]rune{slices.Max(ahead) + far}, ahead...)
		long := len(wantForm(p, text))
		met[long] = true
		a, e := boot.Encode(p, string(text))
		if long > api.MaxText {
			if a != "" || e != api.ErrLong {
				t.Errorf("%d bytes of %d, %v", len(a), long, e)
			}
			continue
		}
		if len(a) != long || e != api.OK {
			t.Errorf("%d bytes of %d, %v", len(a), long, e)
		}
		if b, at, f := boot.Decode(p, a); b != string(text) || at != 0 || f != api.OK {
			t.Errorf("%d bytes, %d, %v", len(b), at, f)
		}
	}
	if !met[api.MaxText] || !met[api.MaxText+1] {
		t.Errorf("forms of %v bytes", slices.Sorted(maps.Keys(met)))
	}
}
