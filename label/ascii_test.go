package label_test

import (
	"strconv"
	"strings"
	"testing"

	"guise/api"
	"guise/boot"
	"guise/label"
	"guise/standard"
	"guise/tables"
)

func TestP18_2ASCII(t *testing.T) {
	eachOf(t, func(x api.Tables, b *tables.Book, s string) {
		form, no := wantASCII(x, s)
		got, err := label.ASCII(b, s)
		tell(t, strconv.QuoteToASCII(s), err, no)
		if got != form {
			t.Errorf("%+q: %q, want %q", s, got, form)
		}
	})
}

func TestP18_2ByHand(t *testing.T) {
	b := standard.Book()
	for s, want := range map[string]string{
		"abc":                "abc",
		"a--b":               "a--b",
		"1":                  "1",
		"b\u00fccher":        "xq--bcher-5va",
		"\u00e9":             "xq--dd",
		"a-\u00e9":           "xq--a--lja",
		"\u043f\u043e\u0447": "xq--g2abza",
		"1-\u65e5":           "xq--1--nw7e",
	} {
		tail, _ := boot.Encode(boot.House(), s)
		if plain := s[0] < 0x80 && len(s) == len(want); !plain && "xq--"+tail != want {
			t.Errorf("%+q: boot writes %q, want %q", s, tail, want)
		}
		if form, err := label.ASCII(b, s); form != want || err != nil {
			t.Errorf("%+q: %q, %v, want %q", s, form, err, want)
		}
	}
}

func TestP18_2Refused(t *testing.T) {
	b := book(t)
	for _, s := range []string{"", "A", small + "\xff", "-", "a" + ah, acute, strings.Repeat(small, 70), strings.Repeat("a", api.MaxText+1)} {
		for _, b := range []*tables.Book{b, nil} {
			form, err := label.ASCII(b, s)
			no := label.Check(b, s)
			if form != "" || err == nil || no == nil || *err.(*label.Refusal) != *no.(*label.Refusal) {
				t.Errorf("%+q: %q, %v, and Check says %v", s[:min(9, len(s))], form, err, no)
			}
		}
	}
	_, err := label.ASCII(nil, "a")
	tell(t, "of a nil Book", err, told{why: api.ErrArg})
}

// A refusal is a new one: what is done to one is not seen in another.
func TestP18_1NewRefusals(t *testing.T) {
	b := book(t)
	for _, call := range []func() error{
		func() error { return label.Check(b, "a.") },
		func() error { return label.Check(b, "") },
		func() error { return label.Check(nil, "") },
		func() error { _, err := label.ASCII(b, strings.Repeat("a", 64)); return err },
		func() error { _, err := label.Unicode(b, "xq--"); return err },
		func() error { _, err := label.Unicode(b, "xq--z"); return err },
		func() error { _, err := label.Unicode(b, small); return err },
		func() error { _, err := label.Unicode(nil, "a"); return err },
	} {
		x, y := call().(*label.Refusal), call().(*label.Refusal)
		was := *y
		*x = label.Refusal{Place: place(7, 7), Why: api.ErrStop}
		if x == y || *y != was || *call().(*label.Refusal) != was {
			t.Errorf("%+v: it is not a new one", was)
		}
	}
}
