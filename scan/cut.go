package scan

import (
	"strings"

	"guise/api"
	"guise/utf"
)

// cutter is a text, the place up to which it is cut, and its words so far.
type cutter struct {
	src   string
	at    api.At
	words []Word
}

func (c *cutter) rest() string { return c.src[c.at.Byte:] }

// pass goes over the next n bytes. It counts lines and columns as it goes: a word that asked Where for its place would go through all of the text ahead once more.
func (c *cutter) pass(n int) {
	for _, r := range c.rest()[:n] {
		c.at.Column++
		if r == '\n' {
			c.at.Line, c.at.Column = c.at.Line+1, 1
		}
	}
	c.at.Byte += n
}

// cut goes from state to state; each one takes as many bytes as it can. It answers whether the text is right by its words; if not, c stands at the byte (or at the end) where no state goes on.
func (c *cutter) cut() bool {
	var (
		w    Word
		rest string // from the first byte of w on
		n    int    // how many bytes of it are taken
		ok   bool   // may the text go on, or end, behind them?
	)
between:
	n, ok = gap(c.rest())
	if c.pass(n); !ok {
		return false
	}
	w, rest = Word{At: c.at}, c.rest()
	switch {
	case rest == "":
		return true
	case isSmall(rest[0]):
		goto name
	case isDigit(rest[0]):
		goto number
	case rest[0] == 'U':
		goto numbered
	case rest[0] == '\'':
		goto quoted
	}
	w.Kind, n, ok = sign(rest)
	goto taken
name:
	n = named(rest)
	w.Kind, w.S = Name, rest[:n]
	goto edge
number:
	w.Kind = Number
	w.N, n = number(rest)
	goto edge
numbered:
	w.Kind = Rune
	w.R, n, ok = numbered(rest)
	if ok {
		goto edge
	}
	goto taken
quoted:
	w.Kind = Rune
	w.R, n, ok = quoted(rest)
	goto taken
edge:
	ok = n == len(rest) || !sticks(rest[n])
taken:
	if c.pass(n); !ok {
		return false
	}
	w.End = c.at.Byte
	c.words = append(c.words, w)
	goto between
}

// gap tells how many bytes of blanks and remarks s begins with; if a remark among them isn't valid, how many stand ahead of what is wrong, and false.
func gap(s string) (int, bool) {
	for n := 0; n < len(s); {
		switch {
		case isBlank(s[n]):
			n++
		case s[n] == '#':
			more, ok := remark(s[n:])
			if n += more; !ok {
				return n, false
			}
		default:
			return n, true
		}
	}
	return len(s), true
}

func remark(s string) (int, bool) {
	s, _, _ = strings.Cut(s, "\n")
	if bad, ok := utf.Valid(s); !ok {
		return bad.Byte + begun(s[bad.Byte:]), false
	}
	return len(s), true
}
