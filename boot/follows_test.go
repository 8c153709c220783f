package boot_test

import (
	"math/rand"
	"slices"
	"strings"
	"testing"

	"guise/api"
	"guise/boot"
)

// checkForm: what follows for a text that has a form.
func checkForm(t *testing.T, p boot.Params, s, a string) {
	t.Helper()
	if b, at, e := boot.Decode(p, a); b != s || at != 0 || e != api.OK {
		t.Errorf("P17.4: %+v, %+.40q: %.40q, %+.40q, %d, %v", p, s, a, b, at, e)
	}
	basics, highs := 0, 0
	for _, r := range s {
		if r < 0x80 {
			basics++
		} else {
			highs++
		}
	}
	if strings.Trim(a, letters+"-") != "" || strings.HasSuffix(a, "-") != (basics > 0 && highs == 0) || (a == "") != (s == "") {
		t.Errorf("P17.5: %+v, %+.40q: %.40q", p, s, a)
	}
}

func TestP17_4To5EachText(t *testing.T) {
	for _, p := range params() {
		texts := map[string]string{}
		eachText(3, func(s string) {
			a, e := boot.Encode(p, s)
			if e != api.OK {
				return
			}
			checkForm(t, p, s, a)
			if other, ok := texts[a]; ok {
				t.Errorf("P17.4: %+v, %q of %+q and of %+q", p, a, s, other)
			}
			texts[a] = s
		})
		if len(texts) < 100 {
			t.Errorf("%+v: %d texts", p, len(texts))
		}
	}
}

func TestP17_4EachForm(t *testing.T) {
	for i, p := range params() {
		bits, n := spelled, 4
		if p.Base < 6 {
			bits, n = []string{"a", "b", "c", "d", "-"}, 7
		} else if i == 0 {
			n = 5
		}
		forms := map[string]string{}
		eachOf(bits, "", n, func(a string) {
			s, at, e := boot.Decode(p, a)
			if e != api.OK {
				if s != "" {
					t.Errorf("%+v, %q: %+q, %v", p, a, s, e)
				}
				return
			}
			if b, e := boot.Encode(p, s); b != a || at != 0 || e != api.OK {
				t.Errorf("%+v, %q: %+q, %q, %v", p, a, s, b, e)
			}
			if other, ok := forms[s]; ok {
				t.Errorf("%+v, %+q of %q and of %q", p, s, a, other)
			}
			forms[s] = a
		})
		if len(forms) < 100 {
			t.Errorf("%+v: %d forms", p, len(forms))
		}
	}
}

func TestP17_4To5Drawn(t *testing.T) {
	pick := rand.New(rand.NewSource(174))
	for n := range 20000 {
		p := drawParams(pick)
		if n%2 == 0 {
			p = params()[n/2%len(params())]
		}
		s := drawText(pick, p.First, 1+n%40)
		a, e := boot.Encode(p, s)
		if e != api.OK {
			t.Fatalf("%+v, %+q: %v", p, s, e)
		}
		checkForm(t, p, s, a)
	}
}

// As many runes as may be, rising, falling, equal, mixed.
func TestP17_4To5Full(t *testing.T) {
	const n = boot.MaxRunes
	rising := make([]rune, n)
	for i := range rising {
		rising[i] = 0x4000 + rune(i)
	}
	falling := slices.Clone(rising)
	slices.Reverse(falling)
	mixed := append([]rune(strings.Repeat("-a9", n/6)), falling[:n/4]...)
	pick := rand.New(rand.NewSource(175))
	pick.Shuffle(len(mixed), func(i, j int) { mixed[i], mixed[j] = mixed[j], mixed[i] })
	for _, p := range params() {
		if p.First > 0x4000 {
			continue
		}
		for _, l := range [][]rune{rising, falling, mixed, []rune(strings.Repeat("\U0010ffff", n)), []rune(strings.Repeat("-", n)), []rune(strings.Repeat("a\U0001f600\u4000", n/3))} {
			checkEncode(t, p, string(l))
			if a, e := boot.Encode(p, string(l)); e == api.OK {
				checkForm(t, p, string(l), a)
				checkDecode(t, p, a)
			}
		}
	}
}

// TestRuns goes through the chapter's table 'Runs', row by row.
func TestRuns(t *testing.T) {
	for _, c := range []struct {
		s, a string
		e    api.Errno
	}{
		{"", "", api.OK}, {"abc", "abc-", api.OK}, {"-", "--", api.OK},
		{"\u0080", "a", api.OK}, {"a\u0080", "a-b", api.OK}, {"\u0080a", "a-a", api.OK},
		{"A", "", api.ErrDigit}, {"a b", "", api.ErrDigit}, {"a\xffA", "", api.ErrBad},
	} {
		if a, e := boot.Encode(boot.House(), c.s); a != c.a || e != c.e {
			t.Errorf("Encode(%+q): %q, %v, want %q, %v", c.s, a, e, c.a, c.e)
		}
	}
	for _, c := range []struct {
		a, s string
		at   int
		e    api.Errno
	}{
		{"abc-", "abc", 0, api.OK}, {"-", "", 0, api.ErrSpell}, {"-a", "", 0, api.ErrSpell}, {"a--", "a-", 0, api.OK},
		{"A", "", 0, api.ErrDigit}, {"a-B", "", 2, api.ErrDigit}, {"a!-", "", 1, api.ErrDigit}, {"z", "", 1, api.ErrEnd},
	} {
		if s, at, e := boot.Decode(boot.House(), c.a); s != c.s || at != c.at || e != c.e {
			t.Errorf("Decode(%q): %+q, %d, %v, want %+q, %d, %v", c.a, s, at, e, c.s, c.at, c.e)
		}
	}
	if s, at, e := boot.Decode(boot.House(), strings.Repeat("9", 40)); s != "" || at != 4 || e != api.ErrOver {
		t.Errorf("Decode of forty 9: %+q, %d, %v", s, at, e)
	}
	a, e := boot.Encode(boot.House(), "b\u00fccher")
	if s, at, f := boot.Decode(boot.House(), a); e != api.OK || s != "b\u00fccher" || at != 0 || f != api.OK {
		t.Errorf("%q, %v: %+q, %d, %v", a, e, s, at, f)
	}
}

// TestExamples goes through the chapter's 'Examples'.
func TestExamples(t *testing.T) {
	for _, s := range []string{"\u0080\u0080", "\u00e9\u00e9", "a\u00e9\u00e9-", "\U0010ffff\U0010ffff"} {
		if a, e := boot.Encode(boot.House(), s); !strings.HasSuffix(a, "a") || e != api.OK { // a is the digit 0
			t.Errorf("1: %+q: %q, %v", s, a, e)
		}
	}
	if a, e := boot.Encode(with(0x400), "\u00e9"); a != "" || e != api.ErrDigit {
		t.Errorf("2: %q, %v", a, e)
	}
	unbiased := house()
	unbiased.Bias = 0
	if s, at, e := boot.Decode(unbiased, "a-b-c"); s != "a-\u0080b" || at != 0 || e != api.OK {
		t.Errorf("3: %+q, %d, %v", s, at, e)
	}
	if s, at, e := boot.Decode(boot.House(), "a-b-c"); s != "" || at != 5 || e != api.ErrEnd { // by the house's bias c is not the last digit
		t.Errorf("3: %+q, %d, %v", s, at, e)
	}
	if s, at, e := boot.Decode(boot.House(), "a-b-ca"); s != "a-\u0080b" || at != 0 || e != api.OK {
		t.Errorf("3: %+q, %d, %v", s, at, e)
	}
}

// R1: whatever a call is given, it ends and doesn't panic; of any bytes at all it answers what the second telling does.
func TestR1Anything(t *testing.T) {
	pick := rand.New(rand.NewSource(171))
	for range 20000 {
		b := make([]byte, pick.Intn(9))
		for i := range b {
			b[i] = byte(pick.Intn(256))
		}
		p := params()[pick.Intn(len(params()))]
		if pick.Intn(4) == 0 {
			p = boot.Params{Base: pick.Intn(80) - 20, Low: pick.Intn(40) - 2, High: pick.Intn(40) - 2, Skew: pick.Intn(3), Damp: pick.Intn(4), Bias: pick.Intn(5) - 1, First: rune(pick.Intn(0x120000))}
		}
		checkEncode(t, p, string(b))
		checkDecode(t, p, string(b))
	}
}
