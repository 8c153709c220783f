package boot

import (
	"strings"

	"guise/api"
)

const lastRune = 0x10ffff

// course is how far the numbers of a form have come. Writing and reading share it, so that they can't part in what a number means, nor in its digits.
type course struct {
	p    Params
	bias int
	damp int  // what the next number is divided by for the bias behind it
	laid int  // how many runes are laid down
	last rune // the one that was laid in last
	next int  // the place behind it
}

func begin(p Params, basic int) *course {
	return &course{p: p, bias: p.Bias, damp: p.Damp, laid: basic, last: p.First}
}

// number tells the number of a rune at a place.
func (c *course) number(r rune, seat int) int {
	return int(r-c.last)*(c.laid+1) + seat - c.next
}

// says tells the rune and the place that a number says. It is asked of no number that over is true of.
func (c *course) says(v int) (rune, int) {
	v += c.next
	return c.last + rune(v/(c.laid+1)), v % (c.laid + 1)
}

// over tells whether a number's rune is past the last one.
func (c *course) over(v int) bool {
	return (v+c.next)/(c.laid+1) > int(lastRune-c.last)
}

// goOn goes on behind a number, which laid a rune in at a place.
func (c *course) goOn(v int, r rune, seat int) {
	c.laid++
	c.last, c.next = r, seat+1
	c.bias = c.biasBehind(v)
	c.damp = 2
}

// biasBehind tells the bias behind a number, once its rune is laid in.
func (c *course) biasBehind(v int) int {
	x := v / c.damp
	x += x / c.laid
	by, m := c.p.Base-c.p.Low, 0
	for x > by*c.p.High/2 {
		x /= by
		m++
	}
	return m*c.p.Base + (by+1)*x/(x+c.p.Skew)
}

// threshold is what the k-th digit of a number must be below to be the last one.
func (c *course) threshold(k int) int {
	return min(max(k*c.p.Base-c.bias, c.p.Low), c.p.High)
}

// write lays a number's digits behind a form.
func (c *course) write(form []byte, v int) []byte {
	for k := 1; ; k++ {
		t := c.threshold(k)
		if v < t {
			return append(form, digits[v])
		}
		by := c.p.Base - t
		form = append(form, digits[t+(v-t)%by])
		v = (v - t) / by
	}
}

// read tells the number whose first digit is the byte at, and the byte of its last digit; or the first byte that may not be, and why.
// A digit that isn't the last one is at least 1, so the number is at least its weight: what is too great is refused long before weights are.
func (c *course) read(a string, at int) (int, int, api.Errno) {
	v, weight := 0, 1
	for k := 1; at < len(a); k++ {
		d := strings.IndexByte(digits[:c.p.Base], a[at])
		if d < 0 {
			return 0, at, api.ErrDigit
		}
		v += d * weight
		if c.over(v) { // what follows may be a nought alone
			return 0, at, api.ErrOver
		}
		t := c.threshold(k)
		if d < t {
			return v, at, api.OK
		}
		weight *= c.p.Base - t
		at++
	}
	return 0, len(a), api.ErrEnd
}
