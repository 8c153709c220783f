package spots_test

import (
	"math"
	"math/rand"
	"strings"
	"testing"
	"unicode/utf8"

	"guise/api"
	"guise/spots"
	"guise/utf"
)

// What the chapter says of places, once more and in the slowest way: a row for each spot, with its line and its column.

type row struct {
	place        api.Place
	spot         utf.Spot
	line, column int
}

// wantRows tells the spots of s, and behind them a row of the end, which has no spot.
func wantRows(s string) []row {
	var l []row
	at, line, column := 0, 1, 1
	for at < len(s) {
		r, n := utf8.DecodeRuneInString(s[at:])
		x := utf.Spot{Rune: r, Bytes: n, Bad: r == utf8.RuneError && n == 1}
		l = append(l, row{api.Place{Byte: at, Rune: len(l)}, x, line, column})
		at, column = at+n, column+1
		if r == '\n' {
			line, column = line+1, 1
		}
	}
	return append(l, row{place: api.Place{Byte: at, Rune: len(l)}, line: line, column: column})
}

// edges are numbers that are no place of any short text, and those around nought.
var edges = []int{math.MinInt, math.MinInt + 1, -65537, -2, -1, 0, 1, 2, 65536, 65537, 1 << 32, math.MaxInt - 1, math.MaxInt}

// numbers are those from -2 to two behind n, and the edges.
func numbers(n int) []int {
	l := append([]int(nil), edges...)
	for i := -2; i <= n+2; i++ {
		l = append(l, i)
	}
	return l
}

// bits are what the texts of eachText are made of: whole sequences, pieces of them, bad bytes, ends of lines.
var bits = []string{"a", "\n", "\u00e9", "\u20ac", "\U0001f600", "\ufffd", "\xff", "\xe2\x82", "\xac", "\xf0\x9f", "\r", "\x00", "\u0085", "\u2028"}

// eachText calls with all texts of up to three of the bits, and longer ones picked by a fixed seed.
func eachText(call func(s string)) {
	short := []string{""}
	for range 3 {
		var next []string
		for _, s := range short {
			for _, bit := range bits {
				next = append(next, s+bit)
			}
		}
		short = append(short, next...)
	}
	for _, s := range short {
		call(s)
	}
	pick := rand.New(rand.NewSource(2))
	for range 500 {
		var b strings.Builder
		for range 4 + pick.Intn(20) {
			b.WriteString(bits[pick.Intn(len(bits))])
		}
		call(b.String())
	}
}

func text(t *testing.T, s string) *spots.Text {
	t.Helper()
	x, e := spots.New(s)
	if x == nil || e != api.OK {
		t.Fatalf("New(%.20q): %v, %v", s, x, e)
	}
	return x
}

func place(b, n int) api.Place { return api.Place{Byte: b, Rune: n} }

func at(b, line, column int) api.At { return api.At{Byte: b, Line: line, Column: column} }
