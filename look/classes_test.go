package look_test

import (
	"math/rand"
	"slices"
	"strconv"
	"testing"

	"guise/api"
	"guise/look"
	"guise/standard"
)

func same(l, m [][]int) bool { return slices.EqualFunc(l, m, slices.Equal[[]int]) }

func TestP15_5ByHand(t *testing.T) {
	b := book(t)
	for n, c := range []struct {
		l    []string
		want [][]int
	}{
		{nil, nil},
		{[]string{}, nil},
		{[]string{""}, [][]int{{0}}},
		{[]string{"", zero, "a", soft + tag}, [][]int{{0, 1, 3}, {2}}},
		{[]string{"a", "b", "A", ah, "b"}, [][]int{{0, 2, 3}, {1, 4}}},
		{[]string{"b", "a", "b", "A"}, [][]int{{0, 2}, {1, 3}}},
		{[]string{"z", "y", "x", "y", "z"}, [][]int{{0, 4}, {1, 3}, {2}}},
		{[]string{"a", "a", "a"}, [][]int{{0, 1, 2}}},
		{[]string{"m", "rn", "r", "n", "nr", "M" + zero}, [][]int{{0, 1, 5}, {2}, {3}, {4}}},
		{[]string{small, yeGrave, "e" + dot + acute, great + dot, "e"}, [][]int{{0, 1}, {2, 3}, {4}}},
		{[]string{"\xff", "\ufffd", "\xff\xff", "\xc3\xa9", "\xc3" + zero + "\xa9", small}, [][]int{{0, 1}, {2, 4}, {3, 5}}},
		{[]string{"ab", "a", "b", "abc", "a\x00", "a"}, [][]int{{0}, {1, 5}, {2}, {3}, {4}}},
	} {
		if got := look.Classes(b, c.l...); !same(got, c.want) {
			t.Errorf("%d: %+q: %v, want %v", n, c.l, got, c.want)
		}
	}
	if got := look.Classes(b); len(got) > 0 {
		t.Errorf("of no texts: %v", got)
	}
}

func TestP15_5FewTexts(t *testing.T) {
	texts := fewTexts()
	pick := rand.New(rand.NewSource(155))
	for n, x := range append(otherTables()[:6], table(), standard.Book().Tables()) {
		b := bookOf(t, x)
		for range 5 {
			pick.Shuffle(len(texts), func(i, j int) { texts[i], texts[j] = texts[j], texts[i] })
			if got, want := look.Classes(b, texts...), wantClasses(x, texts); !same(got, want) {
				t.Errorf("%d: %+q: %v, want %v", n, texts, got, want)
			}
		}
	}
}

func TestP15_5DrawnTables(t *testing.T) {
	pick := rand.New(rand.NewSource(156))
	for range 100 {
		x := drawTable(pick)
		b := bookOf(t, x)
		for range 10 {
			var texts []string
			for range pick.Intn(30) {
				texts = append(texts, drawRunes(pick))
			}
			if got, want := look.Classes(b, texts...), wantClasses(x, texts); !same(got, want) {
				t.Errorf("%+v: %+q: %v, want %v", x, texts, got, want)
			}
		}
	}
}

// Two texts stand in one list just if Alike says that they are.
func TestP15_5Alike(t *testing.T) {
	b, texts := book(t), fewTexts()
	class := make([]int, len(texts))
	for n, l := range look.Classes(b, texts...) {
		for _, i := range l {
			class[i] = n
		}
	}
	for i, s := range texts {
		for j, other := range texts {
			if look.Alike(b, s, other) != (class[i] == class[j]) {
				t.Errorf("%+q, %+q: classes %d, %d", s, other, class[i], class[j])
			}
		}
	}
}

// The classes come by their first numbers, whichever way a map is gone through.
func TestP15_5Order(t *testing.T) {
	b := book(t)
	var texts []string
	var want [][]int
	for n := range 200 {
		texts = append(texts, strconv.Itoa(1000-n))
		want = append(want, []int{n, n + 200})
	}
	texts = append(texts, texts...)
	for range 20 {
		if got := look.Classes(b, texts...); !same(got, want) {
			t.Fatal(got)
		}
	}
}

// R2: an answer is new memory, no two of its lists share any, the spare room behind them included; what is handed in stays as it is.
func TestP15_5Memory(t *testing.T) {
	b := book(t)
	room := []string{"a", "b", "A", ah, "c", "b", "a", "a", "a", "rest"}
	kept := slices.Clone(room)
	want := [][]int{{0, 2, 3, 6, 7, 8}, {1, 5}, {4}}
	for range 3 {
		got := look.Classes(b, room[:9]...)
		if !same(got, want) {
			t.Fatalf("%v", got)
		}
		for n, l := range got {
			for i := range l[:cap(l)] {
				l[:cap(l)][i] = -1
			}
			if !same(got[n+1:], want[n+1:]) {
				t.Errorf("list %d was changed, and behind it stands %v", n, got[n+1:])
			}
		}
		clear(got[:cap(got)])
	}
	if !slices.Equal(room, kept) {
		t.Errorf("%q", room)
	}
}

func TestP15_5Many(t *testing.T) {
	b, n := book(t), 20000
	var texts []string
	for i := range n {
		texts = append(texts, "m"+strconv.Itoa(i/2))
		if i%2 > 0 {
			texts[i] = "rn" + zero + strconv.Itoa(i/2)
		}
	}
	l := look.Classes(b, texts...)
	if len(l) != n/2 {
		t.Fatalf("%d classes", len(l))
	}
	for i, class := range l {
		if !slices.Equal(class, []int{2 * i, 2*i + 1}) {
			t.Fatalf("%d: %v", i, class)
		}
	}
}

func TestP15_5NilBook(t *testing.T) {
	for _, l := range [][]string{nil, {""}, {"a"}, {"a", "a", "b"}, make([]string, api.MaxJobs)} {
		if got := look.Classes(nil, l...); len(got) > 0 {
			t.Errorf("%+q: %v", l, got)
		}
	}
}
