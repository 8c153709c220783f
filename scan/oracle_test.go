package scan_test

import (
	"math/rand"
	"regexp"
	"strconv"
	"strings"
	"unicode/utf8"

	"guise/api"
	"guise/scan"
)

// What the chapter says of words, once more and in another way: pieces are cut out by patterns, and the first wrong byte is sought as it is defined, by trying whether any tail makes a text right.

var (
	gaps  = regexp.MustCompile(`^([\t\n\r ]|#[^\n]*)+`)
	runs  = regexp.MustCompile(`^(U\+)?[A-Za-z0-9_-]*`)
	signs = regexp.MustCompile(`^([{};=+]|\.\.)`)
	quote = regexp.MustCompile(`^'[^\x00-\x1f'\x7f]'`)

	names   = regexp.MustCompile(`^[a-z][a-z0-9-]{0,31}$`)
	numbers = regexp.MustCompile(`^(0|[1-9][0-9]{0,4})$`)
	scalars = regexp.MustCompile(`^U\+([0-9A-F]{4}|[1-9A-F][0-9A-F]{4,5})$`)
)

var kinds = []string{scan.Open: "{", scan.Shut: "}", scan.Semi: ";", scan.Assign: "=", scan.Plus: "+", scan.Dots: ".."}

// wantWord tells the word that a piece is, if it is one.
func wantWord(piece string) (scan.Word, bool) {
	for kind, sign := range kinds {
		if sign != "" && piece == sign {
			return scan.Word{Kind: kind}, true
		}
	}
	switch {
	case quote.MatchString(piece):
		r, _ := utf8.DecodeRuneInString(piece[1:])
		return scan.Word{Kind: scan.Rune, R: r}, true
	case names.MatchString(piece):
		return scan.Word{Kind: scan.Name, S: piece}, true
	case numbers.MatchString(piece):
		n, _ := strconv.Atoi(piece)
		return scan.Word{Kind: scan.Number, N: n}, n <= 65535
	case scalars.MatchString(piece):
		n, _ := strconv.ParseInt(piece[2:], 16, 32)
		return scan.Word{Kind: scan.Rune, R: rune(n)}, utf8.ValidRune(rune(n))
	}
	return scan.Word{}, false
}

// wantRight tells the words of s, if it is right by its words.
func wantRight(s string) ([]scan.Word, bool) {
	if !utf8.ValidString(s) {
		return nil, false
	}
	var l []scan.Word
	for at := 0; at < len(s); {
		if n := len(gaps.FindString(s[at:])); n > 0 {
			at += n
			continue
		}
		piece := runs.FindString(s[at:])
		if piece == "" {
			piece = signs.FindString(s[at:]) + quote.FindString(s[at:])
		}
		w, ok := wantWord(piece)
		if !ok {
			return nil, false
		}
		w.At, w.End = wantWhere(s, at), at+len(piece)
		l = append(l, w)
		at += len(piece)
	}
	return l, true
}

// tails holds, for every beginning of a right text, one that makes a right text of it.
var tails = func() []string {
	l := []string{"", "a'", ".", "0", "00", "000", "0000", "+0000"}
	for _, more := range []string{"", "\x80", "\x80\x80", "\x80\x80\x80", "\xa0\x80", "\x90\x80\x80"} {
		l = append(l, more, more+"'")
	}
	return l
}()

func viable(s string) bool {
	for _, tail := range tails {
		if _, ok := wantRight(s + tail); ok {
			return true
		}
	}
	return false
}

func wantWords(s string) ([]scan.Word, api.At, api.Errno) {
	if l, ok := wantRight(s); ok {
		return l, api.At{}, api.OK
	}
	for p := range len(s) {
		if !viable(s[:p+1]) {
			return nil, wantWhere(s, p), api.ErrWord
		}
	}
	return nil, wantWhere(s, len(s)), api.ErrEnd
}

// wantWhere goes from spot to spot up to the one in which the byte lies.
func wantWhere(s string, at int) api.At {
	at = min(max(at, 0), len(s))
	p := api.At{Byte: at, Line: 1, Column: 1}
	for i := 0; i < len(s); {
		_, n := utf8.DecodeRuneInString(s[i:])
		if i+n > at {
			break
		}
		p.Column++
		if s[i] == '\n' {
			p.Line, p.Column = p.Line+1, 1
		}
		i += n
	}
	return p
}

// pieces are words, and what may stand between them.
var pieces = []string{"fold", "a", "a-9", "z-", "x" + strings.Repeat("9", 31), "0", "9", "230", "65535", "6553", "U+0000", "U+0041", "U+D7FF", "U+E000", "U+FFFF", "U+10000", "U+D8000", "U+FFFFF", "U+100000", "U+10FFFF",
	"'a'", "' '", "'#'", "'\"'", "'\u0080'", "'\u00e9'", "'\u20ac'", "'\ufffd'", "'\U0001f600'", "'\U0010ffff'", "{", "}", ";", "=", "+", ".."}

var between = []string{" ", "\n", "\t", "\r", "\r\n", "  ", "#\n", "# a remark: '\x00\x7f\n", "#\u00e9\u20ac\U0001f600\n", "##\r\n", " # 'x\n\t"}

// rightText puts n words together with something between each two.
func rightText(rnd *rand.Rand, n int) string {
	var b strings.Builder
	for range n {
		for range rnd.Intn(3) {
			b.WriteString(between[rnd.Intn(len(between))])
		}
		b.WriteString(pieces[rnd.Intn(len(pieces))])
		b.WriteString(between[rnd.Intn(len(between))])
	}
	return b.String()
}
