package boot_test

import (
	"math/rand"
	"slices"
	"strings"
	"testing"

	"guise/api"
	"guise/boot"
)

// spelled are letters, digits and a hyphen, and bytes that stand in no form.
var spelled = []string{"a", "b", "c", "d", "t", "y", "z", "0", "8", "9", "-"}

var misspelled = []string{"A", "Z", "!", " ", ".", "`", "{", "/", ":", "\x00", "\x7f", "\x80", "\xad", "\xe9", "\xff", "\u00e9"}

func TestP17_3EachForm(t *testing.T) {
	for i, p := range params() {
		n := 3
		if i == 0 {
			n = 5
		}
		eachOf(spelled, "", n, func(a string) { checkDecode(t, p, a) })
		eachOf(append(spelled[:11:11], misspelled...), "", 3, func(a string) { checkDecode(t, p, a) })
	}
}

// With few digits many forms are taken.
func TestP17_3FewDigits(t *testing.T) {
	for _, p := range params() {
		if p.Base < 6 {
			eachOf([]string{"a", "b", "c", "d", "-"}, "", 7, func(a string) { checkDecode(t, p, a) })
		}
	}
}

// What is taken is just the forms that there are: of so few high runes all texts of as many runes as a form has bytes are gone through.
func TestP17_3AllThereAre(t *testing.T) {
	for _, p := range []boot.Params{
		{Base: 3, Low: 1, High: 1, Skew: 1, Damp: 2, Bias: 0, First: 0x10fffc},
		{Base: 3, Low: 1, High: 1, Skew: 3, Damp: 2, Bias: 7, First: 0x10fffd},
		{Base: 4, Low: 1, High: 2, Skew: 2, Damp: 3, Bias: 4, First: 0x10fffe},
	} {
		forms, most := map[string]string{}, 6
		var runes []string
		for r := p.First; r <= 0x10ffff; r++ {
			runes = append(runes, string(r))
		}
		eachOf(append(runes, "a", "b", "c", "-"), "", most, func(s string) {
			if form := wantForm(p, []rune(s)); len(form) <= most {
				forms[form] = s
			}
		})
		taken := 0
		eachOf([]string{"a", "b", "c", "-"}, "", most, func(a string) {
			want, is := forms[a]
			got, at, e := boot.Decode(p, a)
			if is != (e == api.OK) || got != want || is && at != 0 {
				t.Fatalf("%+v, %q: %+q, %d, %v, want %+q", p, a, got, at, e, want)
			}
			if is {
				taken++
			}
		})
		if taken < 500 {
			t.Errorf("%+v: %d are taken", p, taken)
		}
	}
}

// Forms, and what they become by a byte that is put in, taken out or changed.
func TestP17_3Drawn(t *testing.T) {
	pick := rand.New(rand.NewSource(173))
	taken, refused := 0, map[api.Errno]int{}
	for n := range 20000 {
		p := drawParams(pick)
		if n%2 == 0 {
			p = params()[n/2%len(params())]
		}
		a, _ := boot.Encode(p, drawText(pick, p.First, 1+n%20))
		checkDecode(t, p, a)
		from := pick.Intn(len(a) + 1)
		to := min(len(a), from+pick.Intn(2))
		bit := (letters + "-A")[pick.Intn(38):][:1]
		a = a[:from] + strings.Repeat(bit, pick.Intn(3)) + a[to:]
		checkDecode(t, p, a)
		if _, _, e := boot.Decode(p, a); e == api.OK {
			taken++
		} else {
			refused[e]++
		}
	}
	if taken < 1000 || len(refused) != 5 { // ErrDigit, ErrOver, ErrRune, ErrEnd, ErrSpell
		t.Errorf("%d are taken, refused are %v", taken, refused)
	}
}

func TestP17_3ByHand(t *testing.T) {
	for _, c := range []struct {
		a    string
		want string
		at   int
		e    api.Errno
	}{
		{"", "", 0, api.OK},
		{"--", "-", 0, api.OK},
		{"---", "--", 0, api.OK},
		{"a-b-", "a-b", 0, api.OK},
		{"a", "\u0080", 0, api.OK},
		{"aa", "\u0080\u0080", 0, api.OK}, // a nought lays an equal rune behind the last one
		{"aaa", "\u0080\u0080\u0080", 0, api.OK},
		{"b", "\u0081", 0, api.OK},
		{"ab", "\u0081\u0080", 0, api.OK}, // 1 is past the last place, so it is the next rune at the first one
		{"a-a", "\u0080a", 0, api.OK},
		{"a-b", "a\u0080", 0, api.OK},
		{"-", "", 0, api.ErrSpell},
		{"-a", "", 0, api.ErrSpell},
		{"-A", "", 0, api.ErrSpell},
		{"-\xff", "", 0, api.ErrSpell},
		{"A-", "", 0, api.ErrDigit},
		{"aA-b", "", 1, api.ErrDigit},
		{"A-B", "", 0, api.ErrDigit},
		{"a--B", "", 3, api.ErrDigit},
		{"\u00e9-", "", 0, api.ErrDigit},
		{"a\u00e9-", "", 1, api.ErrDigit},
		{"a-\u00e9", "", 2, api.ErrDigit},
		{"zA", "", 1, api.ErrDigit},
		{"A9", "", 0, api.ErrDigit},
		{"z", "", 1, api.ErrEnd},
		{"a-z", "", 3, api.ErrEnd},
		{"az", "", 2, api.ErrEnd},
		{"99999A", "", 4, api.ErrOver}, // what is told first stands ahead
		{"999A", "", 3, api.ErrDigit},
	} {
		got, at, e := boot.Decode(house(), c.a)
		if got != c.want || at != c.at || e != c.e {
			t.Errorf("%+q: %+q, %d, %v, want %+q, %d, %v", c.a, got, at, e, c.want, c.at, c.e)
		}
	}
}

// Digits are the first Base of them alone; basic runes are all of them, whatever the Base.
func TestP17_3Digits(t *testing.T) {
	for base := 3; base <= 36; base++ {
		p := house()
		p.Base, p.Low, p.High = base, 1, 1
		for at := range len(letters) {
			a := letters[at : at+1]
			_, to, e := boot.Decode(p, a)
			if outside := at >= base; outside != (e == api.ErrDigit) || outside && to != 0 {
				t.Errorf("%d, %s: %d, %v", base, a, to, e)
			}
			if s, _, e := boot.Decode(p, a+"-"); s != a || e != api.OK {
				t.Errorf("%d, %s: %q, %v", base, a, s, e)
			}
		}
	}
}

// formsWith are the forms of a text into which a number, that may be no rune's at all, is laid at each place.
func formsWith(p boot.Params, r rune, text string) []string {
	var l []string
	runes := []rune(text)
	for at := range len(runes) + 1 {
		l = append(l, wantForm(p, slices.Insert(slices.Clone(runes), at, r)))
	}
	return l
}

// A surrogate is told at the last digit of its number, whatever stands behind.
func TestP17_3Surrogates(t *testing.T) {
	for _, p := range params() {
		for r, is := range map[rune]bool{0xd7ff: false, 0xd800: true, 0xdabc: true, 0xdfff: true, 0xe000: false} {
			for _, basic := range []string{"", "a", "a-b"} {
				if r < p.First {
					continue
				}
				for _, a := range formsWith(p, r, basic) {
					for _, tail := range []string{"", "a", "A", "99999999999"} {
						_, at, e := boot.Decode(p, a+tail)
						if is && (at != len(a)-1 || e != api.ErrRune) || !is && e == api.ErrRune {
							t.Errorf("%+v, %q: %d, %v", p, a+tail, at, e)
						}
						checkDecode(t, p, a+tail)
					}
				}
			}
		}
	}
}

// The last rune that there is, and the first one past it, which is told at the digit by which it is past it.
func TestP17_3Over(t *testing.T) {
	for _, p := range params() {
		for _, basic := range []string{"", "a", "a-b", "\u00e9", "\U0010ffff", "\U0010fffe-"} {
			if r := []rune(basic); len(r) > 0 && r[0] > 0x7f && r[0] < p.First {
				continue
			}
			for _, a := range formsWith(p, 0x10ffff, basic) {
				if _, at, e := boot.Decode(p, a); at != 0 || e != api.OK {
					t.Errorf("%+v, %q: %d, %v", p, a, at, e)
				}
			}
			for _, r := range []rune{0x110000, 0x110001, 0x120000, 0x7fffff} {
				for _, a := range formsWith(p, r, basic) {
					_, at, e := boot.Decode(p, a)
					if e != api.ErrOver {
						t.Errorf("%+v, %q: %d, %v", p, a, at, e)
					}
					for _, tail := range []string{"A", "a", strings.Repeat("9", 400)} { // none of which is met any more
						if _, to, e := boot.Decode(p, a+tail); to != at || e != api.ErrOver {
							t.Errorf("%+v, %q: %d, %v, want %d", p, a+tail, to, e, at)
						}
					}
					checkDecode(t, p, a)
					checkDecode(t, p, a[:at+1])
					checkDecode(t, p, a[:at])
				}
			}
		}
	}
}

// Numbers without an end, of each digit: they are refused long before they can't be counted any more.
func TestP17_3Endless(t *testing.T) {
	for _, p := range params() {
		for _, digit := range letters[:p.Base] {
			for _, head := range []string{"", "a-", strings.Repeat("a", boot.MaxRunes-1) + "-"} {
				for _, n := range []int{2, 5, 20, 100, 1000, 60000} {
					checkDecode(t, p, head+strings.Repeat(string(digit), n))
				}
			}
		}
	}
}

func TestP17_3Many(t *testing.T) {
	full := strings.Repeat("a", boot.MaxRunes)
	for _, c := range []struct {
		a  string
		at int
		e  api.Errno
	}{
		{full, 0, api.OK},
		{full + "a", 4096, api.ErrMany},
		{full + "z", 4096, api.ErrMany}, // a number that is not at its end
		{full + "99999", 4096, api.ErrMany},
		{full + "!", 4096, api.ErrMany},
		{full[1:] + "!", 4095, api.ErrDigit},
		{full[1:] + "b-", 0, api.OK},
		{full + "-", 0, api.OK},
		{full + "a-", 4096, api.ErrMany},
		{full + "A-", 4096, api.ErrMany},
		{full + "\xff-", 4096, api.ErrMany},
		{full + "--", 4096, api.ErrMany},
		{full[1:] + "A-", 4095, api.ErrDigit},
		{full[1:] + "Aa-", 4095, api.ErrDigit},
		{full[1:] + "--", 0, api.OK},
		{full + "-a", 4097, api.ErrMany},
		{full + "-z", 4097, api.ErrMany},
		{full + "-!", 4097, api.ErrMany},
		{full[1:] + "-a", 0, api.OK},
		{full[1:] + "-aa", 4097, api.ErrMany},
		{full[1:] + "-ba", 4097, api.ErrMany},
		{full[1:] + "-!a", 4096, api.ErrDigit},
		{full[1:] + "-z", 4097, api.ErrEnd},
		{full[2:] + "-aa", 0, api.OK},
		{full[2:] + "-aaa", 4097, api.ErrMany},
		{full[3:] + "-aaaa", 4097, api.ErrMany},
	} {
		checkDecode(t, house(), c.a)
		s, at, e := boot.Decode(house(), c.a)
		if at != c.at || e != c.e || (e == api.OK) != (s != "") {
			t.Errorf("%d bytes, ..%q: %d bytes, %d, %v, want %d, %v", len(c.a), c.a[len(c.a)-3:], len(s), at, e, c.at, c.e)
		}
	}
}

// ErrMany stands at the first digit of a number of several ones.
func TestP17_3ManyBehindNumbers(t *testing.T) {
	for _, p := range params() {
		for _, n := range []int{boot.MaxRunes, boot.MaxRunes + 1} {
			l := make([]rune, n)
			for i := range l {
				l[i] = p.First + rune(i*7%40)
				if l[i] > 0x10ffff || l[i] >= 0xd800 && l[i] <= 0xdfff {
					l[i] = p.First
				}
				if i%3 == 0 {
					l[i] = 'a'
				}
			}
			a := wantForm(p, l)
			checkDecode(t, p, a)
			if _, _, e := boot.Decode(p, a); (e == api.OK) != (n == boot.MaxRunes) {
				t.Errorf("%+v, %d: %v", p, n, e)
			}
		}
	}
}

// The order of refusals: no right numbers, too long, no basic rune ahead of a last hyphen.
func TestP17_3OrderOfRefusals(t *testing.T) {
	long := strings.Repeat("a", api.MaxText)
	for _, a := range []string{"", "a", "-", "-a", "A", "\xff", long + "a", "-" + long} {
		if s, at, e := boot.Decode(boot.Params{}, a); s != "" || at != 0 || e != api.ErrArg {
			t.Errorf("%.9q: %q, %d, %v", a, s, at, e)
		}
	}
	for _, a := range []string{long + "a", "-" + long, "A" + long, long + "-", "\xff" + long, long + long} {
		if s, at, e := boot.Decode(house(), a); s != "" || at != 0 || e != api.ErrLong {
			t.Errorf("%.9q: %q, %d, %v", a, s, at, e)
		}
	}
	for _, a := range []string{long, "-" + long[1:], "A" + long[1:], long[1:] + "-", long[1:] + "A", "z" + long[1:], long[1:] + "\xff"} {
		checkDecode(t, house(), a)
		if _, _, e := boot.Decode(house(), a); e == api.ErrLong {
			t.Errorf("%.9q: %v", a, e)
		}
	}
}
