package marks_test

import (
	"slices"
	"strings"
	"testing"

	"guise/marks"
	"guise/standard"
	"guise/utf"
)

func TestP8_4OrderOfOrder(t *testing.T) {
	b := book(t)
	eachText(func(s string) {
		once := marks.Order(b, s)
		if twice := marks.Order(b, once); twice != once {
			t.Errorf("%+q: %+q, then %+q", s, once, twice)
		}
		if p, ok := marks.First(b, once); ok {
			t.Errorf("%+q: %+q is out of order at %+v", s, once, p)
		}
		_, out := marks.First(b, s)
		_, valid := utf.Valid(s)
		if !out && valid && once != s {
			t.Errorf("%+q is in order, and yet it's %+q", s, once)
		}
		if out && once == s {
			t.Errorf("%+q is out of order, and yet it stays", s)
		}
	})
}

// sorted are a text's runes by their numbers: what is left when their order is not looked at.
func sorted(s string) string {
	l := []rune(s)
	slices.Sort(l)
	return string(l)
}

func TestP8_4WithinClusters(t *testing.T) {
	b := book(t)
	eachText(func(s string) {
		was := slices.Collect(marks.Clusters(b, s))
		is := slices.Collect(marks.Clusters(b, marks.Order(b, s)))
		if len(was) != len(is) {
			t.Fatalf("%+q: %d clusters, and %d behind Order", s, len(was), len(is))
		}
		for i, c := range was {
			d := is[i]
			if c.Place.Rune != d.Place.Rune || c.Spots != d.Spots || c.Marks != d.Marks || c.Base != d.Base || c.Based != d.Based || sorted(c.Text) != sorted(d.Text) {
				t.Errorf("%+q: %+v, and %+v behind Order", s, c, d)
			}
		}
	})
}

func TestP8_5ClustersJoin(t *testing.T) {
	b := book(t)
	eachText(func(s string) {
		var l []string
		for c := range marks.Clusters(b, s) {
			l = append(l, c.Text)
		}
		if strings.Join(l, "") != s {
			t.Errorf("%+q: %+q", s, l)
		}
	})
}

func TestRuns(t *testing.T) {
	b := book(t)
	for s, want := range map[string]string{
		"a" + m + u:       "a" + u + m,
		"a" + m + n:       "a" + m + n,
		m + u + "a":       u + m + "a",
		"a" + m + "b" + u: "a" + m + "b" + u,
		"\xff":            "\ufffd",
	} {
		if got := marks.Order(b, s); got != want {
			t.Errorf("Order(%+q): %+q", s, got)
		}
	}
	if p, ok := marks.First(b, "a"+m+u); p != place(1+len(m), 2) || !ok {
		t.Errorf("First: %+v, %v", p, ok)
	}
	want := []marks.Cluster{
		{Text: u, Spots: 1, Marks: 1},
		{Place: place(2, 1), Text: "a" + m + m, Spots: 3, Marks: 2, Base: 'a', Based: true},
		{Place: place(7, 4), Text: "b", Spots: 1, Base: 'b', Based: true},
	}
	if l := slices.Collect(marks.Clusters(b, u+"a"+m+m+"b")); !slices.Equal(l, want) {
		t.Errorf("Clusters: %+v", l)
	}
}

func TestExamples(t *testing.T) {
	b := standard.Book()
	// U+0338, U+0327, U+0323 and U+0301 are of four classes: all their orders are one.
	four := []string{"\u0338", "\u0327", "\u0323", "\u0301"}
	want := "o" + strings.Join(four, "")
	for _, x := range orders(four) {
		if got := marks.Order(b, "o"+x); got != want {
			t.Errorf("Order(%+q): %+q", "o"+x, got)
		}
	}
	for _, x := range orders([]string{"\u0300", "\u0301", "\u0302", "\u0308"}) {
		if got := marks.Order(b, "o"+x); got != "o"+x {
			t.Errorf("Order(%+q): %+q", "o"+x, got)
		}
	}
	if x, y := marks.Order(b, "a\ufffd\u0301"), marks.Order(b, "a\xff\u0301"); x != y || x != "a\ufffd\u0301" {
		t.Errorf("%+q, %+q", x, y)
	}
}

// orders are the texts of all orders of l.
func orders(l []string) []string {
	if len(l) == 0 {
		return []string{""}
	}
	var out []string
	for i, x := range l {
		for _, rest := range orders(slices.Delete(slices.Clone(l), i, i+1)) {
			out = append(out, x+rest)
		}
	}
	return out
}
