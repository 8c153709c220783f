package marks_test

import (
	"slices"
	"strings"
	"testing"

	"guise/api"
	"guise/marks"
)

func place(b, n int) api.Place { return api.Place{Byte: b, Rune: n} }

func TestP8_1Clusters(t *testing.T) {
	b, x := book(t), table()
	eachText(func(s string) {
		if l, want := slices.Collect(marks.Clusters(b, s)), wantClusters(x, s); !slices.Equal(l, want) {
			t.Errorf("%+q: %+v, want %+v", s, l, want)
		}
	})
}

func TestP8_1ByHand(t *testing.T) {
	b := book(t)
	for s, want := range map[string][]marks.Cluster{
		"":             {},
		"a":            {{Text: "a", Spots: 1, Base: 'a', Based: true}},
		m + u:          {{Text: m + u, Spots: 2, Marks: 2}},
		"\x00" + high:  {{Text: "\x00" + high, Spots: 2, Marks: 1, Based: true}},
		"\xff" + low:   {{Text: "\xff" + low, Spots: 2, Marks: 1, Base: 0xfffd, Based: true}},
		"\ufffd" + low: {{Text: "\ufffd" + low, Spots: 2, Marks: 1, Base: 0xfffd, Based: true}},
		"\u00e9" + m:   {{Text: "\u00e9" + m, Spots: 2, Marks: 1, Base: 0xe9, Based: true}},
		"a\u200d" + m:  {{Text: "a", Spots: 1, Base: 'a', Based: true}, {Place: place(1, 1), Text: "\u200d" + m, Spots: 2, Marks: 1, Base: 0x200d, Based: true}},
		m + "\xcc\xcc" + n: {
			{Text: m, Spots: 1, Marks: 1},
			{Place: place(2, 1), Text: "\xcc", Spots: 1, Base: 0xfffd, Based: true},
			{Place: place(3, 2), Text: "\xcc" + n, Spots: 2, Marks: 1, Base: 0xfffd, Based: true},
		},
	} {
		if l := slices.Collect(marks.Clusters(b, s)); !slices.Equal(l, want) {
			t.Errorf("%+q: %+v, want %+v", s, l, want)
		}
	}
}

// What is a mark hangs on the table: in one without marks each spot is a cluster.
func TestP8_1OtherTable(t *testing.T) {
	x := table()
	x.Marks, x.Pairs = nil, nil
	b := bookOf(t, x)
	eachText(func(s string) {
		if l, want := slices.Collect(marks.Clusters(b, s)), wantClusters(x, s); !slices.Equal(l, want) || len(l) != len(rowsOf(x, s)) {
			t.Errorf("%+q: %+v, want %+v", s, l, want)
		}
	})
}

func TestP8_1RangedOverAgain(t *testing.T) {
	b, x := book(t), table()
	s := u + "a" + m + m + "\xffb"
	want := wantClusters(x, s)
	l := marks.Clusters(b, s)
	for range 3 {
		if got := slices.Collect(l); !slices.Equal(got, want) {
			t.Errorf("%+v", got)
		}
	}
	i := 0
	for c := range l {
		if inner := slices.Collect(l); c != want[i] || !slices.Equal(inner, want) {
			t.Errorf("one within the other: %+v, %+v", c, inner)
		}
		i++
	}
}

// It is left at each cluster, the last one too, and hands out none behind that.
func TestP8_1LeftEarly(t *testing.T) {
	b, x := book(t), table()
	for _, s := range []string{"a", m, u + "a" + m + m + "\xffb", "ab" + m + u} {
		want := wantClusters(x, s)
		l := marks.Clusters(b, s)
		for end := 1; end <= len(want); end++ {
			var got []marks.Cluster
			l(func(c marks.Cluster) bool {
				got = append(got, c)
				return len(got) != end
			})
			if !slices.Equal(got, want[:end]) {
				t.Errorf("%+q left at %d: %+v", s, end, got)
			}
		}
	}
}

func TestP8_1NilBook(t *testing.T) {
	for _, s := range []string{"", "a", m, "\xff"} {
		for c := range marks.Clusters(nil, s) {
			t.Errorf("%+q: %+v", s, c)
		}
	}
}

// Texts of any length are taken (R10 does not speak of this layer), with any number of marks on one base.
func TestP8_1Long(t *testing.T) {
	b := book(t)
	s := "a" + strings.Repeat(m+u, api.MaxText)
	l := slices.Collect(marks.Clusters(b, s+"b"))
	want := []marks.Cluster{
		{Text: s, Spots: 2*api.MaxText + 1, Marks: 2 * api.MaxText, Base: 'a', Based: true},
		{Place: place(len(s), 2*api.MaxText+1), Text: "b", Spots: 1, Base: 'b', Based: true},
	}
	if !slices.Equal(l, want) {
		t.Errorf("%d clusters", len(l))
	}
}
