package norm_test

import (
	"math/rand"
	"slices"
	"strings"
	"testing"

	"guise/api"
	"guise/norm"
	"guise/standard"
	"guise/tables"
	"guise/utf"
)

// checkCuts asks of all places of a text, and of some that it hasn't.
func checkCuts(t *testing.T, x api.Tables, b *tables.Book, s string) {
	t.Helper()
	safe := wantSafe(x, s)
	for at := -5; at <= len(s)+5; at++ {
		if got := norm.Safe(b, s, at); got != slices.Contains(safe, at) {
			t.Errorf("%+q: Safe(%d) is %v", s, at, got)
		}
	}
	if got, want := slices.Collect(norm.Cuts(b, s)), wantCuts(x, s); !slices.Equal(got, want) {
		t.Errorf("%+q: %v, want %v", s, got, want)
	}
}

func TestP13_3EachText(t *testing.T) {
	b, x := book(t), table()
	eachText(func(s string) { checkCuts(t, x, b, s) })
}

func TestP13_3OtherTables(t *testing.T) {
	for _, x := range append(otherTables(), standard.Book().Tables()) {
		b := bookOf(t, x)
		eachShort(2, func(s string) { checkCuts(t, x, b, s) })
		eachDrawn(func(s string) { checkCuts(t, x, b, s) })
	}
}

func TestP13_3DrawnTables(t *testing.T) {
	pick := rand.New(rand.NewSource(133))
	for range 100 {
		x := drawTable(pick)
		b := bookOf(t, x)
		for range 50 {
			checkCuts(t, x, b, drawRunes(pick))
		}
	}
}

// Where a text may be cut, by hand: | stands for each such place, the ends included.
func TestP13_3ByHand(t *testing.T) {
	b := book(t)
	for _, told := range []string{
		"|",
		"|a|",
		"|a|b|",
		"|A|B|",
		acute + "|",
		acute + acute + "|",
		zero + acute + "|", // what is dropped ahead of a mark is no beginning
		zero + acute + "|" + zero + "|",
		"|" + zero + "|" + zero + "|",
		"|a" + zero + acute + "|b|",
		"|a|" + zero + "|b|",
		"|a|" + zero + "|" + soft + "|" + tag + "|b|",
		"|a" + zero + soft + tag + acute + "|b|",
		"|a" + acute + "|" + zero + "|b|",
		"|a" + acute + zero + dot + "|" + zero + "|",
		"|" + small + "|" + great + acute + "|", // a whole is no mark, and nothing lies over its bytes
		"|" + grin + "|" + kelvin + "|",
		"|" + grin + high + "|" + grin + "|",
		"|\xff|\xff|",
		"|\xff" + acute + "|\xff|",
		"|\xff|" + zero + "|\xff|",
		"|\ufffd" + dot + "|\ufffd|",
		"|\xc3|" + zero + "|\xa9|",
		"|\xc3|a|\xa9|",
		"|\xe2|\x80|",
		"|\xe2|\x80|" + zero + "|\x8d|",
		"|\xf0|\x9f|\x98|",
		"|a|\u0303|", // no mark of this table
		"|a|\x00| |\n|-|.|",
	} {
		s, want := strings.ReplaceAll(told, "|", ""), []int(nil)
		for n, at := range places(told) {
			want = append(want, at-n)
		}
		var safe []int
		for at := range len(s) + 1 {
			if norm.Safe(b, s, at) {
				safe = append(safe, at)
			}
		}
		if !slices.Equal(safe, want) {
			t.Errorf("%+q: %v, want %v", s, safe, want)
		}
		want = slices.DeleteFunc(want, func(at int) bool { return at == 0 || at == len(s) })
		if got := slices.Collect(norm.Cuts(b, s)); !slices.Equal(got, want) {
			t.Errorf("%+q: Cuts are %v, want %v", s, got, want)
		}
	}
}

func places(told string) []int {
	var l []int
	for at := range len(told) {
		if told[at] == '|' {
			l = append(l, at)
		}
	}
	return l
}

func TestP13_3NoSuchPlace(t *testing.T) {
	b := book(t)
	for _, s := range []string{"", "a", zero, small, "\xff"} {
		for _, at := range []int{-1, -2, -1 << 31, -1 << 63, len(s) + 1, len(s) + 2, 1 << 31, 1<<63 - 1} {
			if norm.Safe(b, s, at) {
				t.Errorf("%+q: %d", s, at)
			}
		}
	}
}

func TestP13_3NilBook(t *testing.T) {
	for _, s := range []string{"", "a", "abc", zero, acute, "\xff\xff"} {
		for at := -1; at <= len(s)+1; at++ {
			if norm.Safe(nil, s, at) {
				t.Errorf("%+q: %d", s, at)
			}
		}
		for at := range norm.Cuts(nil, s) {
			t.Errorf("%+q: %d", s, at)
		}
	}
}

func TestP13_3RangedOverAgain(t *testing.T) {
	b, s := book(t), "a"+zero+"b"+acute+zero+soft+"\u00e9\xff"+zero
	want := wantCuts(table(), s)
	l := norm.Cuts(b, s)
	for range 3 {
		if got := slices.Collect(l); !slices.Equal(got, want) {
			t.Errorf("%v, want %v", got, want)
		}
	}
	i := 0
	for at := range l {
		if inner := slices.Collect(l); want[i] != at || !slices.Equal(inner, want) {
			t.Errorf("one within the other: %d, %v", at, inner)
		}
		i++
	}
}

// Left behind each number of places: those ahead were the first ones. (One that was asked for more would panic.)
func TestP13_3LeftEarly(t *testing.T) {
	b := book(t)
	for _, s := range []string{"abc", "a" + zero + soft + "b" + zero + tag, zero + zero + acute + "a" + zero, "\xff\xff" + acute + "\xff"} {
		want := wantCuts(table(), s)
		for n := range want {
			var got []int
			for at := range norm.Cuts(b, s) {
				if got = append(got, at); len(got) > n {
					break
				}
			}
			if !slices.Equal(got, want[:n+1]) {
				t.Errorf("%+q: %v, want %v", s, got, want[:n+1])
			}
		}
	}
}

// Long texts, those of dropped runes alone too: of each of these all that stand behind it would be asked, were it not for the next one's answer.
func TestP13_3Long(t *testing.T) {
	b, n := book(t), 8*api.MaxText
	for s, want := range map[string]int{
		strings.Repeat("a", n):                                 n - 1,
		strings.Repeat(zero, n):                                n - 1,
		strings.Repeat(zero, n) + acute:                        0,
		strings.Repeat(zero, n) + "a":                          n,
		"a" + strings.Repeat(zero, n) + acute:                  0,
		"a" + strings.Repeat(acute, n) + zero:                  1,
		strings.Repeat("a"+zero+acute, n):                      n - 1,
		strings.Repeat("\xff", n):                              n - 1,
		"a" + strings.Repeat(zero, n) + acute + "b":            1,
		strings.Repeat(zero, n) + "a" + strings.Repeat(tag, n): 2 * n,
	} {
		got := 0
		for range norm.Cuts(b, s) {
			got++
		}
		if got != want {
			t.Errorf("%d spots: %d places, want %d", utf.Count(s), got, want)
		}
	}
	s := "a" + strings.Repeat(zero, n) + acute
	if norm.Safe(b, s, 1) || norm.Safe(b, s, len(s)-2) || !norm.Safe(b, s, len(s)) || !norm.Safe(b, s[:len(s)-2], 1) {
		t.Error("what stands far behind is not asked")
	}
}
