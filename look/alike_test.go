package look_test

import (
	"math/rand"
	"strings"
	"testing"

	"guise/api"
	"guise/look"
	"guise/standard"
	"guise/tables"
)

func TestP15_4AlikeByHand(t *testing.T) {
	b := book(t)
	for _, x := range [][2]string{
		{"", ""},
		{"", zero + soft},
		{"mo", "rn0"},
		{"A", ah},
		{"A", "a"},
		{small, yeGrave},
		{small, "E" + tag + acute},
		{small + dot, ye + dot + acute},
		{mAcute, "rn" + acute},
		{sharp, "5" + zero + "s"},
		{"\xff", "\ufffd"},
		{"\xc3\xa9", small},
		{"\xc3", "\xa9"},
		{onBad, "\xff" + dot},
		{kelvin, "|\u2039\u0138"},
		{"1L", "l1"},
		{" ", "_"},
	} {
		if !look.Alike(b, x[0], x[1]) || !look.Alike(b, x[1], x[0]) {
			t.Errorf("%+q are not alike", x)
		}
		for _, y := range [][2]string{x, {x[1], x[0]}} {
			if n, ok := look.Parts(b, y[0], y[1]); n != 0 || ok {
				t.Errorf("%+q part: %d, %v", y, n, ok)
			}
		}
	}
	for _, x := range [][2]string{
		{"", "a"},
		{"", "\x00"},
		{"", "\xff"},
		{"a", "b"},
		{"a", "aa"},
		{"a", "4"}, // A is folded ahead of being looked at
		{"m", "r"},
		{"mn", "nm"},
		{"S", "s"}, // no row folds it
		{small, "e"},
		{small, "e" + dot},
		{both, "e" + acute + hat}, // of one class: their order is seen
		{mAcute, "r" + acute + "n"},
		{"a", acute},
		{"\xff", "\xff\xff"},
		{"\xc3\xa9", "\xc3" + zero + "\xa9"},
		{"b", "\u0431"},
		{"a\x00", "a"},
	} {
		if look.Alike(b, x[0], x[1]) || look.Alike(b, x[1], x[0]) {
			t.Errorf("%+q are alike", x)
		}
	}
}

func TestP15_4PartsByHand(t *testing.T) {
	b := book(t)
	for _, c := range []struct {
		s, t string
		want int
	}{
		{"", "a", 0},
		{"a", "b", 0},
		{"a", "ab", 1},
		{"mo", "rx", 1},
		{"mo", "rnx", 2},
		{"m", "rnn", 2},
		{zero + "A" + soft + "b", ah + "c", 1},
		{small, "e", 1},
		{small + "a", "e" + dot + acute + "a", 1},
		{small + dot, "e" + dot, 2},
		{both, small, 1},
		{"\u0431", "\u0432", 0},       // one first byte
		{"a\u0431x", "a\u0432x", 1},   // runes are counted, and bytes not
		{"\u0431\u0431", "\u0431", 1}, // of two bytes
		{"\xff\xff", "\ufffd", 1},     // of three
		{"\U0001f605\U0001f605x", "\U0001f605\U0001f605y", 2},
		{"\xd0", "\u0431", 0},
		{"rn" + acute, mAcute + acute, 3},
		{sharp, "5", 1},
		{grin + "a", grin, 16},
		{deepest, grin, 16},
		{deepest, grin + dot, 16},
		{deepest + high, deepest, 20},
		{"a\x00", "a", 1},
	} {
		for _, x := range [][2]string{{c.s, c.t}, {c.t, c.s}} {
			if n, ok := look.Parts(b, x[0], x[1]); n != c.want || !ok {
				t.Errorf("%+q: %d, %v, want %d", x, n, ok, c.want)
			}
		}
	}
}

func checkBoth(t *testing.T, b *tables.Book, s, other, one, two string) {
	t.Helper()
	if got := look.Alike(b, s, other); got != (one == two) {
		t.Errorf("%+q, %+q: alike %v, but they look %+q, %+q", s, other, got, one, two)
	}
	n, ok := look.Parts(b, s, other)
	if want, part := wantParts(one, two); n != want || ok != part {
		t.Errorf("%+q, %+q: %d, %v, want %d, %v", s, other, n, ok, want, part)
	}
}

// fewTexts are texts of up to two bits, many of them alike.
func fewTexts() []string {
	some := []string{"m", "rn", "n", "A", ah, "a", small, yeGrave, "E", "e", acute, dot, zero, sharp, "s", "5", "\xff", "\ufffd", "\xd0", "\xb0"}
	l := append([]string{""}, some...)
	for _, one := range some {
		for _, two := range some {
			l = append(l, one+two)
		}
	}
	return l
}

func TestP15_4EachPair(t *testing.T) {
	texts := fewTexts()
	for _, x := range []api.Tables{table(), standard.Book().Tables()} {
		b := bookOf(t, x)
		var looks []string
		for _, s := range texts {
			looks = append(looks, wantSkeleton(x, s))
		}
		for i, s := range texts {
			for j, other := range texts {
				checkBoth(t, b, s, other, looks[i], looks[j])
			}
		}
	}
}

func TestP15_4DrawnTables(t *testing.T) {
	pick, met := rand.New(rand.NewSource(154)), 0
	for range 100 {
		x := drawTable(pick)
		b := bookOf(t, x)
		var texts, looks []string
		for range 30 {
			s := drawRunes(pick)
			texts, looks = append(texts, s), append(looks, wantSkeleton(x, s))
		}
		for i, s := range texts {
			for j, other := range texts {
				if i != j && looks[i] == looks[j] && s != other {
					met++
				}
				checkBoth(t, b, s, other, looks[i], looks[j])
			}
		}
	}
	if met == 0 {
		t.Error("no texts that are alike and not one")
	}
}

func TestP15_4Long(t *testing.T) {
	b, n := book(t), api.MaxText
	s, other := strings.Repeat("m", n)+"x", strings.Repeat("rn", n)+"x"
	if !look.Alike(b, s, other) || look.Alike(b, s, other+"y") {
		t.Error("Alike")
	}
	if at, ok := look.Parts(b, s, other[:2*n]+"y"); at != 2*n || !ok {
		t.Errorf("Parts: %d, %v", at, ok)
	}
	if at, ok := look.Parts(b, s, other); at != 0 || ok {
		t.Errorf("Parts: %d, %v", at, ok)
	}
}

func TestP15_4NilBook(t *testing.T) {
	for _, s := range []string{"", "a", "m", small, "\xff"} {
		for _, other := range []string{"", "a", s} {
			n, ok := look.Parts(nil, s, other)
			if look.Alike(nil, s, other) || n != 0 || ok {
				t.Errorf("%+q, %+q: %d, %v", s, other, n, ok)
			}
		}
	}
}
