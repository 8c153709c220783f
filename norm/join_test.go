package norm_test

import (
	"math/rand"
	"slices"
	"strings"
	"testing"

	"guise/api"
	"guise/norm"
)

func TestP13_4Join(t *testing.T) {
	b, x := book(t), table()
	pick := rand.New(rand.NewSource(134))
	for range 3000 {
		var parts []string
		for range pick.Intn(8) {
			parts = append(parts, drawText(pick, pick.Intn(4)))
		}
		was := slices.Clone(parts)
		if got, want := norm.Join(b, parts...), wantNorm(x, strings.Join(parts, "")); got != want {
			t.Errorf("%+q: %+q, want %+q", parts, got, want)
		}
		if !slices.Equal(parts, was) {
			t.Errorf("%+q: they were %+q", parts, was)
		}
	}
}

// Each text cut at each of its bytes, between spots or not: Join of the parts is Norm of the whole.
func TestP13_4EachCut(t *testing.T) {
	b := book(t)
	eachShort(2, func(s string) {
		want := norm.Norm(b, s)
		for at := range len(s) + 1 {
			if got := norm.Join(b, s[:at], s[at:]); got != want {
				t.Errorf("%+q and %+q: %+q, want %+q", s[:at], s[at:], got, want)
			}
		}
		if got := norm.Join(b, strings.Split(s, "")...); got != want {
			t.Errorf("%+q, spot by spot: %+q, want %+q", s, got, want)
		}
	})
}

func TestP13_4ByHand(t *testing.T) {
	b := book(t)
	for _, c := range []struct {
		parts []string
		want  string
	}{
		{nil, ""},
		{[]string{}, ""},
		{[]string{""}, ""},
		{[]string{"", "", ""}, ""},
		{[]string{"A"}, "a"},
		{[]string{"A", "", "B"}, "aB"},
		{[]string{"E", acute}, small},
		{[]string{"E", zero, acute, dot}, under + acute},
		{[]string{acute, "E"}, acute + "e"},
		{[]string{"\xc3", "\xa9"}, small},
		{[]string{"\xc3", "", "\x89"}, small},
		{[]string{"\xe2", "\x80", "\x8d"}, ""}, // together they are dropped
		{[]string{"e\xcc", "\x81"}, small},     // together a mark
		{[]string{"\xef", "\xbf", "\xbd"}, "\ufffd"},
		{[]string{"\xf0\x9f", "\x98\x80"}, fourWide},
		{[]string{"\xc3", zero, "\xa9"}, "\ufffd\ufffd"},
		{[]string{"\xa9", "\xc3"}, "\ufffd\ufffd"},
	} {
		if got := norm.Join(b, c.parts...); got != c.want {
			t.Errorf("%+q: %+q, want %+q", c.parts, got, c.want)
		}
	}
}

func TestP13_4Long(t *testing.T) {
	b, n := book(t), api.MaxText
	parts := slices.Repeat([]string{"\xc3", "\x89", zero, dot}, n)
	if got, want := norm.Join(b, parts...), strings.Repeat(under+acute, n); got != want {
		t.Errorf("%d bytes, want %d", len(got), len(want))
	}
}

// R2: what stands behind the parts in their list is neither read nor written.
func TestP13_4PartsStay(t *testing.T) {
	b := book(t)
	l := []string{"A", "B", "C", "D"}
	if got := norm.Join(b, l[:2]...); got != "aB" || !slices.Equal(l, []string{"A", "B", "C", "D"}) {
		t.Errorf("%+q, %q", got, l)
	}
}

func TestP13_4NilBook(t *testing.T) {
	for _, parts := range [][]string{nil, {""}, {"a"}, {"a", "b"}, {"\xff"}} {
		if got := norm.Join(nil, parts...); got != "" {
			t.Errorf("%+q: %+q", parts, got)
		}
	}
}
