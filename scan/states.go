package scan

import (
	"strings"

	"guise/utf"
)

const (
	longestName  = 32
	greatest     = 65535 // of numbers
	lastRune     = 0x10ffff
	fewestDigits = 4 // behind U+
	behindU      = len("U+")
	hexadecimal  = "0123456789ABCDEF"
)

func isBlank(b byte) bool { return b == '\t' || b == '\n' || b == '\r' || b == ' ' }

func isSmall(b byte) bool { return 'a' <= b && b <= 'z' }

func isDigit(b byte) bool { return '0' <= b && b <= '9' }

// inName tells whether b may stand in a name, behind its first byte.
func inName(b byte) bool { return isSmall(b) || isDigit(b) || b == '-' }

// sticks tells whether b may not stand directly behind a name, a number or a rune with U+.
func sticks(b byte) bool { return inName(b) || 'A' <= b && b <= 'Z' || b == '_' }

// named tells how many bytes the name has with which s begins, 0 if it begins with none.
func named(s string) int {
	if s == "" || !isSmall(s[0]) {
		return 0
	}
	n := 1
	for n < len(s) && n < longestName && inName(s[n]) {
		n++
	}
	return n
}

// number tells the number with which s, a digit first, begins, and how many bytes it has. Nothing goes on behind a nought, nor past the greatest number: the digit that would is left for sticks to refuse.
func number(s string) (int, int) {
	value, n := int(s[0]-'0'), 1
	for n < len(s) && isDigit(s[n]) && value > 0 {
		more := value*10 + int(s[n]-'0')
		if more > greatest {
			break
		}
		value, n = more, n+1
	}
	return value, n
}

// numbered tells the rune that s, a U first, begins with, and how many bytes it has; of none how many bytes stand ahead of what is wrong, and false. As in number, a digit too many is left for sticks.
func numbered(s string) (rune, int, bool) {
	if len(s) < behindU || s[1] != '+' {
		return 0, 1, false
	}
	value, n := 0, behindU
	for n < len(s) && (n < behindU+fewestDigits || s[behindU] != '0') {
		digit := strings.IndexByte(hexadecimal, s[n])
		if digit < 0 || value*16+digit > lastRune {
			break
		}
		value, n = value*16+digit, n+1
	}
	// A surrogate's four digits are no rune's, but five may begin with them: it is what stands behind them that is wrong.
	if n < behindU+fewestDigits || utf.Width(rune(value)) == 0 {
		return 0, n, false
	}
	return rune(value), n, true
}

// quoted tells the rune between two ' that s, the first of them first, begins with, and how many bytes they have; of none how many bytes stand ahead of what is wrong, and false.
func quoted(s string) (rune, int, bool) {
	var found rune
	for at, r := range s[1:] {
		switch {
		case at > 0 && r == '\'':
			return found, 1 + at + 1, true
		case at > 0:
			return 0, 1 + at, false
		case r < ' ' || r == '\'' || r == 0x7f:
			return 0, 1, false
		case !whole(s[1:]):
			return 0, 1 + begun(s[1:]), false
		}
		found = r
	}
	return 0, len(s), false
}

// sign tells the kind of the sign with which s begins, and how many bytes it has; of none how many bytes stand ahead of what is wrong, and false.
func sign(s string) (int, int, bool) {
	switch s[0] {
	case '{':
		return Open, 1, true
	case '}':
		return Shut, 1, true
	case ';':
		return Semi, 1, true
	case '=':
		return Assign, 1, true
	case '+':
		return Plus, 1, true
	case '.':
		if strings.HasPrefix(s, "..") {
			return Dots, 2, true
		}
		return 0, 1, false
	}
	return 0, 0, false
}

// whole tells whether s begins with a whole rune, not with a bad byte.
func whole(s string) bool {
	x, ok := utf.First(s)
	return ok && !x.Bad
}

// begun tells how many bytes of s, which begins with a bad one, may yet become a rune's.
func begun(s string) int {
	n := 0
	for n < len(s) && begins(s[:n+1]) {
		n++
	}
	return n
}

// begins tells whether a rune of more bytes begins with those of s. Which second bytes a rune may have hangs on its first one, but 80 or A0 is always among them; what comes later may be 80.
func begins(s string) bool {
	for _, tail := range [...]string{"\x80\x80\x80", "\xa0\x80\x80"} {
		if x, _ := utf.First(s + tail); x.Bytes > len(s) {
			return true
		}
	}
	return false
}
