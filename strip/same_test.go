package strip_test

import (
	"testing"

	"guise/strip"
)

func TestP11_5ByHand(t *testing.T) {
	b := book(t)
	for _, x := range [][2]string{
		{"", ""},
		{"", soft},
		{zero, tone + soft},
		{"ab", zero + "a" + soft + "b" + most},
		{"a" + soft + "b", "a" + zero + "b"},
		{"\xff", "\ufffd"},
		{"\xff", "\xc2"},
		{"\xc2" + soft + "\xad", "\ufffd\xff"},
	} {
		if !strip.Same(b, x[0], x[1]) || !strip.Same(b, x[1], x[0]) {
			t.Errorf("%+q are not the same", x)
		}
	}
	for _, x := range [][2]string{
		{"", "a"},
		{"", " "},
		{"", "\xff"},
		{"a", "A"},
		{"a", "\u0430"},
		{"ab", "ba"},
		{"a", "a" + soft + "a"},
		{"\u00e9", "e\u0301"}, // they have one open form, but that is not asked here
		{"\u0301\u0323", "\u0323\u0301"},
		{"\xff", "\xff\xff"},
		{"\xc2\xad", "\xad\xc2"},
	} {
		if strip.Same(b, x[0], x[1]) || strip.Same(b, x[1], x[0]) {
			t.Errorf("%+q are the same", x)
		}
	}
}

// fewTexts are all texts of up to two of some bits: dropped runes, others, bad bytes.
func fewTexts() []string {
	some := []string{soft, zero, most, "a", "A", "\ufffd", "\u0301", "\xff", "\xc2", "\xad"}
	l := append([]string{""}, some...)
	for _, first := range some {
		for _, second := range some {
			l = append(l, first+second)
		}
	}
	return l
}

func TestP11_5EachPair(t *testing.T) {
	b, x := book(t), table()
	for _, s := range fewTexts() {
		for _, other := range fewTexts() {
			if got, want := strip.Same(b, s, other), wantStrip(x, s) == wantStrip(x, other); got != want {
				t.Errorf("%+q, %+q: %v", s, other, got)
			}
		}
	}
}

func TestP11_5NilBook(t *testing.T) {
	for _, s := range []string{"", "a", soft, "\xff"} {
		if strip.Same(nil, s, s) || strip.Same(nil, s, "") || strip.Same(nil, "", s) {
			t.Errorf("%+q", s)
		}
	}
}
