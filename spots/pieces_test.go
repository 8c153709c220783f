package spots_test

import (
	"math"
	"math/rand"
	"slices"
	"strings"
	"testing"

	"guise/api"
)

func TestP2_7Slice(t *testing.T) {
	eachText(func(s string) {
		x, rows := text(t, s), wantRows(s)
		for _, from := range numbers(len(rows)) {
			for _, to := range numbers(len(rows)) {
				want, within := "", 0 <= from && from <= to && to < len(rows)
				if within {
					want = s[rows[from].place.Byte:rows[to].place.Byte]
				}
				if y, ok := x.Slice(from, to); y != want || ok != within {
					t.Errorf("%q: Slice(%d, %d): %q, %v", s, from, to, y, ok)
				}
			}
		}
	})
}

// wantParts cuts a spot at a time.
func wantParts(s string, counts []int) []string {
	rows := wantRows(s)
	var l []string
	at := 0
	for _, n := range counts {
		piece := ""
		for n > 0 && at < len(rows)-1 {
			piece += s[rows[at].place.Byte:rows[at+1].place.Byte]
			n, at = n-1, at+1
		}
		l = append(l, piece)
	}
	return append(l, s[rows[at].place.Byte:])
}

func TestP2_8Parts(t *testing.T) {
	pick := rand.New(rand.NewSource(28))
	eachText(func(s string) {
		x := text(t, s)
		for range 8 {
			counts := make([]int, pick.Intn(6))
			for i := range counts {
				counts[i] = pick.Intn(8) - 2
			}
			l := x.Parts(counts...)
			if !slices.Equal(l, wantParts(s, counts)) || len(l) != len(counts)+1 || strings.Join(l, "") != s {
				t.Errorf("%q: Parts%v: %q", s, counts, l)
			}
		}
	})
}

func TestP2_8OddCounts(t *testing.T) {
	x := text(t, "a\u00e9\xffz")
	for _, c := range []struct {
		counts []int
		want   []string
	}{
		{nil, []string{"a\u00e9\xffz"}},
		{[]int{}, []string{"a\u00e9\xffz"}},
		{[]int{0}, []string{"", "a\u00e9\xffz"}},
		{[]int{-1, math.MinInt, 1}, []string{"", "", "a", "\u00e9\xffz"}},
		{[]int{4}, []string{"a\u00e9\xffz", ""}},
		{[]int{5, 1}, []string{"a\u00e9\xffz", "", ""}},
		{[]int{1, math.MaxInt, math.MaxInt}, []string{"a", "\u00e9\xffz", "", ""}},
		{[]int{2, 1}, []string{"a\u00e9", "\xff", "z"}},
	} {
		if l := x.Parts(c.counts...); !slices.Equal(l, c.want) {
			t.Errorf("Parts%v: %q", c.counts, l)
		}
	}
	if l := text(t, "").Parts(3, -1); !slices.Equal(l, []string{"", "", ""}) {
		t.Errorf("of the empty text: %q", l)
	}
}

func TestP2_9Ranges(t *testing.T) {
	eachText(func(s string) {
		x, rows := text(t, s), wantRows(s)
		rows = rows[:len(rows)-1]
		all, back, bads := x.All(), x.Back(), x.Bads()
		for range 2 { // the same iterators once more
			if l := collect(all); !slices.Equal(l, want(rows)) {
				t.Errorf("%q: All: %+v", s, l)
			}
			l := collect(back)
			slices.Reverse(l)
			if !slices.Equal(l, want(rows)) {
				t.Errorf("%q: Back, turned round: %+v", s, l)
			}
			if l := slices.Collect(bads); !slices.Equal(l, wantBads(rows)) {
				t.Errorf("%q: Bads: %+v", s, l)
			}
		}
	})
}

func TestP2_9LeftEarly(t *testing.T) {
	x := text(t, "\xffa\n\xfe\u00e9\xfd")
	for stop := 1; stop <= 6; stop++ {
		if l := first(x.All(), stop); !slices.Equal(l, collect(x.All())[:stop]) {
			t.Errorf("All, left behind %d: %+v", stop, l)
		}
		if l := first(x.Back(), stop); !slices.Equal(l, collect(x.Back())[:stop]) {
			t.Errorf("Back, left behind %d: %+v", stop, l)
		}
	}
	for stop := 1; stop <= 3; stop++ {
		var l []api.Place
		for p := range x.Bads() {
			if l = append(l, p); len(l) == stop {
				break
			}
		}
		if !slices.Equal(l, []api.Place{place(0, 0), place(3, 3), place(6, 5)}[:stop]) {
			t.Errorf("Bads, left behind %d: %+v", stop, l)
		}
	}
}

// A range within a range of the same iterator counts for itself.
func TestP2_9Nested(t *testing.T) {
	x := text(t, "a\xff\u20ac")
	all, back, n := x.All(), x.Back(), 0
	for p := range all {
		for q := range back {
			if p == q {
				n++
			}
		}
		if len(collect(all)) != 3 {
			t.Errorf("within: %+v", collect(all))
		}
	}
	if n != 3 {
		t.Errorf("%d places are both", n)
	}
}

func TestR2CountsAndTexts(t *testing.T) {
	x := text(t, "a\u00e9\n\xffz")
	room := []int{1, -3, 99, 7, 7}
	l := x.Parts(room[:3]...)
	if !slices.Equal(room, []int{1, -3, 99, 7, 7}) {
		t.Errorf("the counts: %v", room)
	}
	room[0] = 4
	spoiled := l[:cap(l)]
	for i := range spoiled {
		spoiled[i] = "x"
	}
	if l := x.Parts(1, -3, 99); !slices.Equal(l, []string{"a", "", "\u00e9\n\xffz", ""}) || x.String() != "a\u00e9\n\xffz" {
		t.Errorf("behind a spoiled answer: %q", l)
	}
}
