package boot_test

import (
	"math/big"
	"math/rand"
	"slices"
	"strings"
	"testing"
	"unicode/utf8"

	"guise/api"
	"guise/boot"
)

// What the chapter says, once more and in another way than the package does, so that the two can be held against each other: runes are laid in by a mark for each spot, a number's digits are told by how many numbers there are of so many digits, and what is read is counted without bounds.

const letters = "abcdefghijklmnopqrstuvwxyz0123456789"

func wantRight(p boot.Params) bool {
	ok := p.Base >= 3 && p.Base <= 36
	ok = ok && p.Low >= 1
	ok = ok && p.High >= p.Low && p.High <= p.Base-2
	ok = ok && p.Skew >= 1 && p.Skew <= 1000
	ok = ok && p.Damp >= 2 && p.Damp <= 10000
	ok = ok && p.Bias >= 0 && p.Bias <= 1000
	return ok && p.First >= 0x80 && utf8.ValidRune(p.First)
}

func wantThreshold(p boot.Params, bias, k int) int {
	t := k*p.Base - bias
	if t < p.Low {
		return p.Low
	}
	if t > p.High {
		return p.High
	}
	return t
}

// wantDigits: numbers of n digits begin at the sum of the thresholds ahead by their weights; what a number is above that is written in the digits' ranges.
func wantDigits(p boot.Params, bias, v int) string {
	n, from, weight := 1, 0, 1
	for v >= from+weight*wantThreshold(p, bias, n) {
		t := wantThreshold(p, bias, n)
		from += weight * t
		weight *= p.Base - t
		n++
	}
	rest, s := v-from, ""
	for k := 1; k < n; k++ {
		t := wantThreshold(p, bias, k)
		s += letters[t+rest%(p.Base-t):][:1]
		rest /= p.Base - t
	}
	return s + letters[rest:][:1]
}

func wantBias(p boot.Params, v, laid int, first bool) int {
	x := v / 2
	if first {
		x = v / p.Damp
	}
	x = x + x/laid
	m := 0
	for x > (p.Base-p.Low)*p.High/2 {
		x, m = x/(p.Base-p.Low), m+1
	}
	return m*p.Base + (p.Base-p.Low+1)*x/(x+p.Skew)
}

func basic(r rune) bool { return r < 0x80 && (r == '-' || strings.IndexByte(letters, byte(r)) >= 0) }

// wantSpots tells the runes of a text, or why one of them may not be.
func wantSpots(p boot.Params, s string) ([]rune, api.Errno) {
	var l []rune
	for at := 0; at < len(s); {
		r, n := utf8.DecodeRuneInString(s[at:])
		if len(l) == boot.MaxRunes {
			return nil, api.ErrMany
		}
		if r == utf8.RuneError && n == 1 {
			return nil, api.ErrBad
		}
		if !basic(r) && r < p.First {
			return nil, api.ErrDigit
		}
		l = append(l, r)
		at += n
	}
	return l, api.OK
}

// wantForm writes the form of runes that may be, however long it is.
func wantForm(p boot.Params, l []rune) string {
	form, laid, h := "", make([]bool, len(l)), 0
	var high []rune
	for at, r := range l {
		if basic(r) {
			form += string(r)
			laid[at] = true
			h++
		} else {
			high = append(high, r)
		}
	}
	if h > 0 {
		form += "-"
	}
	slices.Sort(high)
	n, j, bias, first := p.First, -1, p.Bias, true
	var numbers strings.Builder
	for _, r := range slices.Compact(high) {
		i := 0
		for at, x := range l {
			if x == r {
				v := int(r-n)*(h+1) + i - j - 1
				numbers.WriteString(wantDigits(p, bias, v))
				bias = wantBias(p, v, h+1, first)
				n, j, h, first = r, i, h+1, false
				laid[at] = true
			}
			if laid[at] {
				i++
			}
		}
	}
	return form + numbers.String()
}

func wantEncode(p boot.Params, s string) (string, api.Errno) {
	if !wantRight(p) {
		return "", api.ErrArg
	}
	if len(s) > api.MaxText {
		return "", api.ErrLong
	}
	l, e := wantSpots(p, s)
	if e != api.OK {
		return "", e
	}
	form := wantForm(p, l)
	if len(form) > api.MaxText {
		return "", api.ErrLong
	}
	return form, api.OK
}

func wantDecode(p boot.Params, a string) (string, int, api.Errno) {
	if !wantRight(p) {
		return "", 0, api.ErrArg
	}
	if len(a) > api.MaxText {
		return "", 0, api.ErrLong
	}
	cut := -1
	for at := range len(a) {
		if a[at] == '-' {
			cut = at
		}
	}
	if cut == 0 {
		return "", 0, api.ErrSpell
	}
	var l []rune
	for at := 0; at < cut; at++ {
		if at == boot.MaxRunes {
			return "", at, api.ErrMany
		}
		if !basic(rune(a[at])) {
			return "", at, api.ErrDigit
		}
		l = append(l, rune(a[at]))
	}
	return wantNumbers(p, l, a, cut+1)
}

func wantNumbers(p boot.Params, l []rune, a string, at int) (string, int, api.Errno) {
	n, j, bias, first := p.First, -1, p.Bias, true
	for at < len(a) {
		if len(l) == boot.MaxRunes {
			return "", at, api.ErrMany
		}
		whole, weight, behind := new(big.Int), big.NewInt(1), big.NewInt(int64(j)+1)
		for k := 1; ; k++ {
			if at == len(a) {
				return "", at, api.ErrEnd
			}
			d := strings.IndexByte(letters, a[at])
			if d < 0 || d >= p.Base {
				return "", at, api.ErrDigit
			}
			whole.Add(whole, new(big.Int).Mul(weight, big.NewInt(int64(d))))
			if r := rank(whole, behind, len(l)+1); !r.IsInt64() || r.Int64()+int64(n) > 0x10ffff {
				return "", at, api.ErrOver
			}
			at++
			t := wantThreshold(p, bias, k)
			if d < t {
				break
			}
			weight.Mul(weight, big.NewInt(int64(p.Base-t)))
		}
		r := n + rune(rank(whole, behind, len(l)+1).Int64())
		if r >= 0xd800 && r <= 0xdfff {
			return "", at - 1, api.ErrRune
		}
		v := int(whole.Int64())
		i := (v + j + 1) % (len(l) + 1)
		l = append(l, 0)
		copy(l[i+1:], l[i:])
		l[i] = r
		bias = wantBias(p, v, len(l), first)
		n, j, first = r, i, false
	}
	return string(l), 0, api.OK
}

// rank tells how far above the last rune that was laid in a number's rune is.
func rank(v, behind *big.Int, places int) *big.Int {
	sum := new(big.Int).Add(v, behind)
	return sum.Div(sum, big.NewInt(int64(places)))
}

func house() boot.Params {
	return boot.Params{Base: 36, Low: 2, High: 24, Skew: 40, Damp: 600, Bias: 64, First: 0x80}
}

// with are the house's numbers from another first rune on.
func with(first rune) boot.Params {
	p := house()
	p.First = first
	return p
}

// least are the numbers that make the longest forms.
func least() boot.Params {
	return boot.Params{Base: 3, Low: 1, High: 1, Skew: 1, Damp: 2, Bias: 0, First: 0x80}
}

// params are the house's, and such as stand at the edges of what may be.
func params() []boot.Params {
	return []boot.Params{
		house(), least(),
		{Base: 36, Low: 1, High: 26, Skew: 38, Damp: 700, Bias: 72, First: 0x80},
		{Base: 36, Low: 34, High: 34, Skew: 1000, Damp: 10000, Bias: 1000, First: 0x80},
		{Base: 36, Low: 1, High: 34, Skew: 1, Damp: 2, Bias: 0, First: 0x80},
		{Base: 3, Low: 1, High: 1, Skew: 1000, Damp: 10000, Bias: 1000, First: 0x80},
		{Base: 4, Low: 1, High: 2, Skew: 2, Damp: 3, Bias: 5, First: 0x80},
		{Base: 5, Low: 2, High: 3, Skew: 7, Damp: 2, Bias: 9, First: 0xff},
		{Base: 26, Low: 3, High: 20, Skew: 20, Damp: 100, Bias: 26, First: 0x80},
		{Base: 27, Low: 1, High: 9, Skew: 100, Damp: 50, Bias: 300, First: 0xd7ff},
		with(0x400), with(0xe000), with(0xfffd), with(0xfffe), with(0x10fffc), with(0x10ffff),
	}
}

func drawParams(pick *rand.Rand) boot.Params {
	p := boot.Params{Base: 3 + pick.Intn(34), Skew: 1 + pick.Intn(1000), Damp: 2 + pick.Intn(9999), Bias: pick.Intn(1001), First: 0x80}
	p.Low = 1 + pick.Intn(p.Base-2)
	p.High = p.Low + pick.Intn(p.Base-1-p.Low)
	if pick.Intn(2) == 0 {
		p.Skew, p.Damp, p.Bias = 1+pick.Intn(60), 2+pick.Intn(60), pick.Intn(60)
	}
	if pick.Intn(4) == 0 {
		p.First = 0x80 + rune(pick.Intn(0x2000))
	}
	return p
}

// bits are basic runes and high ones, and the neighbours of both; real U+FFFD and bad bytes.
var bits = []string{
	"a", "z", "0", "9", "-", "\u0080", "\u0081", "\u00ff", "\u0400", "\ud7ff", "\ue000", "\ufffd", "\ufffe", "\U00010000", "\U0010fffc", "\U0010ffff",
	"A", "Z", " ", "`", "{", "/", ":", ".", "\x00", "\x7f", "\xff", "\xc3", "\x80", "\xed\xa0\x80",
}

// eachText calls with all texts of up to n bits.
func eachText(n int, call func(s string)) { eachOf(bits, "", n, call) }

func eachOf(bits []string, head string, n int, call func(s string)) {
	call(head)
	if n == 0 {
		return
	}
	for _, bit := range bits {
		eachOf(bits, head+bit, n-1, call)
	}
}

// drawText is a text of runes that may be, from First on.
func drawText(pick *rand.Rand, first rune, most int) string {
	var l []rune
	near := 0x80 + rune(pick.Intn(0x10ff00))
	for range pick.Intn(most + 1) {
		r := rune((letters + "-")[pick.Intn(37)])
		switch pick.Intn(5) {
		case 0:
			r = first + rune(pick.Intn(0x110000-int(first)))
		case 1:
			r = near + rune(pick.Intn(60))
		case 2:
			r = first + rune(pick.Intn(30))
		case 3:
			if len(l) > 0 {
				r = l[pick.Intn(len(l))]
			}
		}
		if r < first && !basic(r) || r > 0x10ffff || !utf8.ValidRune(r) {
			r = '-'
		}
		l = append(l, r)
	}
	return string(l)
}

func checkEncode(t *testing.T, p boot.Params, s string) {
	t.Helper()
	got, e := boot.Encode(p, s)
	if want, why := wantEncode(p, s); got != want || e != why {
		t.Errorf("P17.2: %+v, %+.40q: %.40q (%d bytes), %v, want %.40q (%d bytes), %v", p, s, got, len(got), e, want, len(want), why)
	}
}

func checkDecode(t *testing.T, p boot.Params, a string) {
	t.Helper()
	got, at, e := boot.Decode(p, a)
	if want, to, why := wantDecode(p, a); got != want || at != to || e != why {
		t.Errorf("P17.3: %+v, %+.40q: %+.40q, %d, %v, want %+.40q, %d, %v", p, a, got, at, e, want, to, why)
	}
}
