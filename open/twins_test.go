package open_test

import (
	"testing"

	"guise/open"
)

func TestP9_4ByHand(t *testing.T) {
	b := book(t)
	for _, x := range [][2]string{
		{"", ""},
		{"\u1ebf", "\u00ea" + acute},
		{dotted, "e" + dot + hat},
		{dotted, "e" + hat + dot},
		{"\u00e9" + dot, "e" + dot + acute},
		{deepest, "\U0001f602" + low + dot},
		{"\xff", "\ufffd"},
		{"\xc3", "\xa9"},
		{onBad, "\xff" + dot},
	} {
		if !open.Twins(b, x[0], x[1]) || !open.Twins(b, x[1], x[0]) {
			t.Errorf("%+q are no twins", x)
		}
	}
	for _, x := range [][2]string{
		{"", "e"},
		{"", "\x00"},
		{"e", "E"},
		{"e", "\u0435"},
		{"e", "e\u200d"},
		{"\u00e9", "\u00c9"},
		{"\u00e9", "e"},
		{"\u00e9" + hat, "\u00ea" + acute},
		{"\u00e9\u00ea", "\u00ea\u00e9"},
		{"\xff", "\xff\xff"},
	} {
		if open.Twins(b, x[0], x[1]) || open.Twins(b, x[1], x[0]) {
			t.Errorf("%+q are twins", x)
		}
	}
}

// All texts of up to two of the bits, each held against each: twins just if they are of one form.
func TestP9_4EachPair(t *testing.T) {
	b, x := book(t), table()
	texts := append([]string{""}, bits...)
	for _, first := range bits[:12] {
		for _, second := range bits[:12] {
			texts = append(texts, first+second)
		}
	}
	forms := make([]string, len(texts))
	for i, s := range texts {
		forms[i] = wantOpen(x, s)
	}
	for i, s := range texts {
		for j, other := range texts {
			if got := open.Twins(b, s, other); got != (forms[i] == forms[j]) {
				t.Errorf("%+q, %+q: %v", s, other, got)
			}
		}
	}
}

func TestP9_4NilBook(t *testing.T) {
	for _, s := range []string{"", "e", "\u00e9", "\xff"} {
		if open.Twins(nil, s, s) || open.Twins(nil, s, "") {
			t.Errorf("%+q", s)
		}
	}
}
