package marks_test

import (
	"math/rand"
	"slices"
	"strings"
	"testing"

	"guise/api"
	"guise/marks"
)

func TestP8_2Order(t *testing.T) {
	b, x := book(t), table()
	eachText(func(s string) {
		if got, want := marks.Order(b, s), wantOrder(x, s); got != want {
			t.Errorf("%+q: %+q, want %+q", s, got, want)
		}
	})
}

func TestP8_2ByHand(t *testing.T) {
	b := book(t)
	for s, want := range map[string]string{
		"":                                  "",
		"a" + high + m + u + low:            "a" + low + u + m + high,
		"a" + m + low + n + low + m:         "a" + low + low + m + n + m,
		"a" + n + u + m + "b" + m + u + n:   "a" + u + n + m + "b" + u + m + n,
		m + u + "\xff" + n + u:              u + m + "\ufffd" + u + n,
		"\u00e9" + m + u:                    "\u00e9" + u + m, // a whole is not taken apart here
		m + "\u200d" + u:                    m + "\u200d" + u, // what is dropped elsewhere stands between marks as all else does
		"\xcc" + m + u + "\x81":             "\ufffd" + u + m + "\ufffd",
		"A\xe2\x83" + high + "\xf0\x9d" + m: "A\ufffd\ufffd" + high + "\ufffd\ufffd" + m,
	} {
		if got := marks.Order(b, s); got != want {
			t.Errorf("%+q: %+q, want %+q", s, got, want)
		}
	}
}

// Many marks of few classes: a sort that isn't stable, or holds only for short lists, shows here.
func TestP8_2ManyMarks(t *testing.T) {
	x := table()
	x.Pairs = nil
	x.Marks = nil
	for i := range rune(api.MaxMarks) {
		x.Marks = append(x.Marks, api.Mark{Rune: 0x10000 + i, Class: 1 + int(i)*7%3*100})
	}
	b := bookOf(t, x)
	pick := rand.New(rand.NewSource(82))
	for _, n := range []int{2, 11, 12, 13, 20, 21, 64, 600} {
		l := []rune{'a'}
		for range n {
			l = append(l, x.Marks[pick.Intn(len(x.Marks))].Rune)
		}
		s := string(l) + "b" + string(l[1:])
		if got, want := marks.Order(b, s), wantOrder(x, s); got != want {
			t.Errorf("%d marks: %+q, want %+q", n, got, want)
		}
	}
}

// Every class is in its order: the 254 of them, falling, come out rising.
func TestP8_2EveryClass(t *testing.T) {
	x := table()
	x.Pairs, x.Marks = nil, nil
	var falling []rune
	for class := 254; class > 0; class-- {
		r := rune(0x300 + class*37%254)
		x.Marks = append(x.Marks, api.Mark{Rune: r, Class: class})
		falling = append(falling, r)
	}
	rising := slices.Clone(falling)
	slices.Reverse(rising)
	if got := marks.Order(bookOf(t, x), "a"+string(falling)); got != "a"+string(rising) {
		t.Errorf("%+q", got)
	}
}

func TestP8_2Long(t *testing.T) {
	s := "a" + strings.Repeat(m+u, api.MaxText) + "\xff"
	want := "a" + strings.Repeat(u, api.MaxText) + strings.Repeat(m, api.MaxText) + "\ufffd"
	if got := marks.Order(book(t), s); got != want {
		t.Errorf("%d bytes, want %d", len(got), len(want))
	}
}

func TestP8_2NilBook(t *testing.T) {
	for _, s := range []string{"", "a", "a" + m + u, "\xff"} {
		if got := marks.Order(nil, s); got != "" {
			t.Errorf("%+q: %+q", s, got)
		}
	}
}

func TestP8_3First(t *testing.T) {
	b, x := book(t), table()
	eachText(func(s string) {
		p, ok := marks.First(b, s)
		if want, is := wantFirst(x, s); p != want || ok != is {
			t.Errorf("%+q: %+v, %v, want %+v, %v", s, p, ok, want, is)
		}
	})
}

func TestP8_3ByHand(t *testing.T) {
	b := book(t)
	for s, want := range map[string]api.Place{
		m + u:                             place(2, 1),
		"\xff\xcc" + m + u + m + u:        place(4, 3),
		"\u00e9" + high + m + u:           place(6, 2),
		"a" + m + "b" + u + n + low + "c": place(8, 5),
	} {
		if p, ok := marks.First(b, s); p != want || !ok {
			t.Errorf("%+q: %+v, %v, want %+v", s, p, ok, want)
		}
	}
	for _, s := range []string{"", "a", u, m + m, m + n, n + m, m + "a" + u, m + "\xff" + u, m + "\u200d" + u, "a" + low + u + m + high, high + "a"} {
		if p, ok := marks.First(b, s); p != (api.Place{}) || ok {
			t.Errorf("%+q: %+v, %v", s, p, ok)
		}
	}
}

func TestP8_3NilBook(t *testing.T) {
	for _, s := range []string{"", "a", "a" + m + u, "\xff"} {
		if p, ok := marks.First(nil, s); p != (api.Place{}) || ok {
			t.Errorf("%+q: %+v, %v", s, p, ok)
		}
	}
}
