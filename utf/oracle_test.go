package utf_test

import (
	"math/rand"

	"guise/api"
	"guise/utf"
)

// What the chapter says of sequences, once more and in another way than the package does, so that the two can be held against each other.

type byteSpan struct{ lo, hi byte }

// forms is the chapter's list of sequences, byte by byte.
var forms = [][]byteSpan{
	{{0x00, 0x7f}},
	{{0xc2, 0xdf}, {0x80, 0xbf}},
	{{0xe0, 0xe0}, {0xa0, 0xbf}, {0x80, 0xbf}},
	{{0xe1, 0xec}, {0x80, 0xbf}, {0x80, 0xbf}},
	{{0xed, 0xed}, {0x80, 0x9f}, {0x80, 0xbf}},
	{{0xee, 0xef}, {0x80, 0xbf}, {0x80, 0xbf}},
	{{0xf0, 0xf0}, {0x90, 0xbf}, {0x80, 0xbf}, {0x80, 0xbf}},
	{{0xf1, 0xf3}, {0x80, 0xbf}, {0x80, 0xbf}, {0x80, 0xbf}},
	{{0xf4, 0xf4}, {0x80, 0x8f}, {0x80, 0xbf}, {0x80, 0xbf}},
}

// edgeBytes are the first and last bytes of every span of forms, and their neighbours.
const edgeBytes = "\x00a\x7f\x80\x8f\x90\x9f\xa0\xbd\xbf\xc0\xc1\xc2\xdf\xe0\xe1\xec\xed\xee\xef\xf0\xf1\xf3\xf4\xf5\xff"

// oddTexts are texts whose spots are easily told wrongly.
var oddTexts = []string{
	"", "a", "\x00", "\u00e9", "\u20ac", "\U0001f600", "\U0010ffff", "\ufffd", "\ufffd\xff\ufffd", "\xff\ufffd\xff",
	"\xef", "\xef\xbf", "\xef\xbf\xef\xbf\xbd", "\xef\xef\xbf\xbd\xbd", "a\xe2\x82", "a\xe2\x82b", "\xe2\x82\xac\x80",
	"\xed\xa0\x80", "\xed\xbf\xbf", "\xed\x9f\xbf", "\xf4\x90\x80\x80", "\xf4\x8f\xbf\xbf", "\xc0\x80", "\xe0\x80\x80", "\xf0\x80\x80\x80",
	"\xf0\x9f\x98", "\xf0\x9f\xf0\x9f\x98\x80", "\x80\x80\x80\x80\x80", "\xf0\x9f\x98\x80\x80", "\u00e9\xffx", "a\u00e9\u20ac\U0001f600z",
}

type placed struct {
	at   int
	spot utf.Spot
}

func fits(s string, form []byteSpan) bool {
	if len(s) < len(form) {
		return false
	}
	for i, span := range form {
		if s[i] < span.lo || s[i] > span.hi {
			return false
		}
	}
	return true
}

// bits is the number that the bits of a sequence make.
func bits(s string) rune {
	behindMark := []byte{1: 0x7f, 2: 0x1f, 3: 0x0f, 4: 0x07}
	r := rune(s[0] & behindMark[len(s)])
	for i := 1; i < len(s); i++ {
		r = r<<6 | rune(s[i]&0x3f)
	}
	return r
}

func wantFirst(s string) utf.Spot {
	for _, form := range forms {
		if fits(s, form) {
			return utf.Spot{Rune: bits(s[:len(form)]), Bytes: len(form)}
		}
	}
	return utf.Spot{Rune: api.Bad, Bytes: 1, Bad: true}
}

func wantSpots(s string) []placed {
	var l []placed
	for at := 0; at < len(s); {
		x := wantFirst(s[at:])
		l = append(l, placed{at, x})
		at += x.Bytes
	}
	return l
}

// wantBounds tells of each byte's number, len(s) among them, whether it is a bound.
func wantBounds(s string) []bool {
	l := make([]bool, len(s)+1)
	for _, p := range wantSpots(s) {
		l[p.at] = true
	}
	l[len(s)] = true
	return l
}

// wantJoins holds the spots against each other as the chapter's words do.
func wantJoins(s, t string) bool {
	both, left, right := wantSpots(s+t), wantSpots(s), wantSpots(t)
	if len(both) != len(left)+len(right) {
		return false
	}
	for i, p := range both {
		if i < len(left) && p != left[i] {
			return false
		}
		if i >= len(left) && p.spot != right[i-len(left)].spot {
			return false
		}
	}
	return true
}

// eachText calls with the odd texts, all texts of up to n edge bytes, and longer ones picked by a fixed seed.
func eachText(n int, call func(s string)) {
	for _, s := range oddTexts {
		call(s)
	}
	eachOfEdges(nil, n, call)
	pick := rand.New(rand.NewSource(11))
	for range 5000 {
		b := make([]byte, 5+pick.Intn(12))
		for i := range b {
			b[i] = edgeBytes[pick.Intn(len(edgeBytes))]
		}
		call(string(b))
	}
}

func eachOfEdges(head []byte, n int, call func(s string)) {
	if n == 0 {
		return
	}
	for i := range len(edgeBytes) {
		next := append(head[:len(head):len(head)], edgeBytes[i])
		call(string(next))
		eachOfEdges(next, n-1, call)
	}
}
