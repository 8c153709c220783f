package fold_test

import (
	"testing"

	"guise/fold"
)

func TestP12_6ByHand(t *testing.T) {
	b := book(t)
	for _, x := range [][2]string{
		{"", ""},
		{"A", "a"},
		{sharp, "ss"},
		{"Z", "zzz"},
		{great, "E" + acute},
		{great, "e" + acute},
		{great, small},
		{sharpAcute, "ss" + acute},
		{greatBoth, "e" + dot + acute},
		{greatBoth, "e" + acute + dot},
		{greatBoth, greatDot + acute},
		{great + dot, small + dot},
		{dot + acute, acute + dot},
		{grin, fourWide},
		{"\xff", "\ufffd"},
		{"\xc3", "\x9f"},
		{"\xc3\x9f", "ss"},
		{onBad, "\xff" + dot},
	} {
		if !fold.Twins(b, x[0], x[1]) || !fold.Twins(b, x[1], x[0]) {
			t.Errorf("%+q are no twins", x)
		}
	}
	for _, x := range [][2]string{
		{"", "a"},
		{"", "\x00"},
		{"", "\xff"},
		{"a", "b"},
		{"a", "\u0430"}, // what looks alike is not asked here
		{"l", "1"},
		{"a", "a\u200d"},
		{"S", "s"}, // no row folds it
		{sharp, "s"},
		{sharp, "SS"},
		{great, "e"},
		{great, "e" + dot},
		{sharpAcute, "s" + acute + "s"},
		{"AE", "EA"},
		{"\xff", "\xff\xff"},
		{"\xc3\x9f", "\x9f\xc3"},
	} {
		if fold.Twins(b, x[0], x[1]) || fold.Twins(b, x[1], x[0]) {
			t.Errorf("%+q are twins", x)
		}
	}
}

// fewTexts are all texts of up to two of some bits: folded runes, what they become, wholes, marks, bad bytes.
func fewTexts() []string {
	some := []string{"E", "e", sharp, "s", "ss", great, small, greatBoth, acute, dot, "\ufffd", "\xff", "\xc3", "\x9f"}
	l := append([]string{""}, some...)
	for _, first := range some {
		for _, second := range some {
			l = append(l, first+second)
		}
	}
	return l
}

func TestP12_6EachPair(t *testing.T) {
	b, x, texts := book(t), table(), fewTexts()
	var forms []string
	for _, s := range texts {
		forms = append(forms, wantFold(x, wantOpen(x, s)))
	}
	for i, s := range texts {
		for j, other := range texts {
			if got := fold.Twins(b, s, other); got != (forms[i] == forms[j]) {
				t.Errorf("%+q, %+q: %v, but they become %+q, %+q", s, other, got, forms[i], forms[j])
			}
		}
	}
}

func TestP12_6NilBook(t *testing.T) {
	for _, s := range []string{"", "a", "A", great, "\xff"} {
		if fold.Twins(nil, s, s) || fold.Twins(nil, s, "") || fold.Twins(nil, "", s) {
			t.Errorf("%+q", s)
		}
	}
}
