package sets

import (
	"guise/api"
	"guise/utf"
)

const (
	gapFrom  = 0xd800 // the numbers from here on ..
	gapTo    = 0xe000 // .. up to and without this one are no runes
	gapWidth = gapTo - gapFrom
	greatest = 0x10ffff
)

// noRunes tells whether an end of a span is no rune.
func noRunes(x api.Span) bool { return utf.Width(x.Lo) == 0 || utf.Width(x.Hi) == 0 }

// falling tells whether a span goes from a higher number to a lower one.
func falling(x api.Span) bool { return x.Lo > x.Hi }

// rank tells how many runes are below r, a number from 0 on; above the greatest rune it only goes on rising.
// By their ranks neighbours on both sides of the gap are one apart, as all others are.
func rank(r rune) int {
	switch {
	case r >= gapTo:
		return int(r) - gapWidth
	case r > gapFrom:
		return gapFrom
	}
	return int(r)
}

// ranked tells the rune of a rank.
func ranked(n int) rune {
	if n >= gapFrom {
		n += gapWidth
	}
	return rune(n)
}
