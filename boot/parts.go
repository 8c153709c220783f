package boot

import (
	"cmp"
	"slices"
	"strings"

	"guise/api"
	"guise/utf"
)

const (
	digits    = "abcdefghijklmnopqrstuvwxyz0123456789"
	hyphen    = '-'
	firstHigh = 0x80 // the least rune from which high ones may be counted
)

func isBasic(r rune) bool { return r == hyphen || strings.ContainsRune(digits, r) }

// high is a high rune and the byte of the text at which it stands.
type high struct {
	rune rune
	at   int
}

// parts is a text, its basic and its high runes by themselves.
type parts struct {
	basic []byte
	at    []int // the bytes of the text at which the basic ones stand
	high  []high
}

// partsOf parts a text, or tells why its first spot that may not be is refused.
func partsOf(p Params, s string) (parts, api.Errno) {
	var x parts
	bad, valid := utf.Valid(s) // ranging answers U+FFFD for a bad byte as well as for a real one
	for at, r := range s {
		switch {
		case len(x.basic)+len(x.high) == MaxRunes:
			return parts{}, api.ErrMany
		case !valid && at == bad.Byte:
			return parts{}, api.ErrBad
		case isBasic(r):
			x.basic = append(x.basic, byte(r))
			x.at = append(x.at, at)
		case r >= p.First:
			x.high = append(x.high, high{rune: r, at: at})
		default:
			return parts{}, api.ErrDigit
		}
	}
	return x, api.OK
}

// form writes the basic runes and the numbers of the high ones.
// Runes that are laid down stand in the order of their bytes in the text, so those tell a rune's place among them.
func (x parts) form(p Params) []byte {
	form, laid := x.basic, x.at
	if len(form) > 0 {
		form = append(form, hyphen)
	}
	slices.SortStableFunc(x.high, func(y, z high) int { return cmp.Compare(y.rune, z.rune) })
	c := begin(p, len(laid))
	for _, y := range x.high {
		seat, _ := slices.BinarySearch(laid, y.at)
		laid = slices.Insert(laid, seat, y.at)
		v := c.number(y.rune, seat)
		form = c.write(form, v)
		c.goOn(v, y.rune, seat)
	}
	return form
}
