package label

import (
	"errors"
	"strings"

	"guise/api"
	"guise/boot"
	"guise/norm"
	"guise/script"
	"guise/tables"
	"guise/utf"
)

const hyphen = "-"

// broken tells the first of the rules that a text breaks, but for the one of its form's length, and where.
func broken(b *tables.Book, s string) (api.Place, api.Errno) {
	switch {
	case b == nil:
		return api.Place{}, api.ErrArg
	case len(s) > api.MaxText:
		return api.Place{}, api.ErrLong
	case s == "":
		return api.Place{}, api.ErrEmpty
	}
	if p, ok := utf.Valid(s); !ok {
		return p, api.ErrBad
	}
	if p, ok := norm.First(b, s); ok {
		return p, api.ErrNormal
	}
	if p, ok := firstWith(s, func(r rune) bool { return !b.Allowed(r) }); ok {
		return p, api.ErrAllow
	}
	if p, ok := wrongHyphen(s); ok {
		return p, api.ErrHyphen
	}
	if x, _ := utf.First(s); b.Class(x.Rune) > 0 {
		return api.Place{}, api.ErrMark
	}
	if p, ok := script.Stop(b, s); ok {
		return p, api.ErrMixed
	}
	return api.Place{}, api.OK
}

// formOf is the form of a text that keeps those rules, if it is no longer than a label's may be.
func formOf(s string) (string, bool) {
	form := s
	if _, high := firstHigh(s); high {
		tail, e := boot.Encode(boot.House(), s)
		if errors.Is(e, api.ErrMany) {
			return "", false // each rune takes a byte of a form, so this one is longer by far
		}
		form = Prefix + tail
	}
	if len(form) > api.MaxLabel {
		return "", false
	}
	return form, true
}

// wrongHyphen tells the hyphen that may not stand where it does.
func wrongHyphen(s string) (api.Place, bool) {
	switch {
	case strings.HasPrefix(s, hyphen):
		return api.Place{}, true
	case strings.HasSuffix(s, hyphen):
		return api.Place{Byte: len(s) - 1, Rune: utf.Count(s) - 1}, true
	}
	n := 0
	for at := range s {
		if n == 2 && strings.HasPrefix(s[at:], hyphen+hyphen) {
			return api.Place{Byte: at, Rune: n}, true
		}
		n++
	}
	return api.Place{}, false
}

// firstHigh tells the first spot that is not ASCII. Bad ones are met as U+FFFD, so they are among these.
func firstHigh(s string) (api.Place, bool) {
	return firstWith(s, func(r rune) bool { return r >= 0x80 })
}

func firstWith(s string, is func(r rune) bool) (api.Place, bool) {
	n := 0
	for at, r := range s {
		if is(r) {
			return api.Place{Byte: at, Rune: n}, true
		}
		n++
	}
	return api.Place{}, false
}
