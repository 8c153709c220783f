package script_test

import (
	"slices"
	"strings"
	"testing"

	"guise/api"
	"guise/script"
	"guise/tables"
)

func TestP14_4EachText(t *testing.T) {
	eachPair(t, func(x api.Tables, b *tables.Book, s string) {
		if got, want := slices.Collect(script.Runs(b, s)), wantRuns(x, s); !slices.EqualFunc(got, want, sameRun) {
			t.Errorf("%+q: %+v, want %+v", s, got, want)
		}
	})
}

// The pieces of a text between strokes, and what each can be of.
func TestP14_4ByHand(t *testing.T) {
	all := []int{latin, cyrillic, han, japanese, none, odd}
	b := book(t)
	for _, told := range []struct {
		pieces string
		of     [][]int
	}{
		{"", nil},
		{"1", [][]int{all}},
		{"1-" + acute, [][]int{all}},
		{"a", [][]int{{latin}}},
		{"?", [][]int{nil}},
		{"?|?", [][]int{nil, nil}},
		{"?|1", [][]int{nil, all}},
		{"1|?", [][]int{all, nil}},
		{"1|?|1a", [][]int{all, nil, {latin}}},
		{"\xff|" + acute + "|\xff", [][]int{nil, all, nil}},
		{"\xd0|a|\xb0", [][]int{nil, {latin}, nil}},
		{"\u0430|\xd0|\u0430\u0430", [][]int{{cyrillic}, nil, {cyrillic}}},
		{"a1|\u0430", [][]int{{latin}, {cyrillic}}}, // free spots stay with what is ahead
		{"1\u0430" + acute + "5|a", [][]int{{cyrillic}, {latin}}},
		{sun + "1" + sun, [][]int{{han, japanese}}},
		{sun + "\u3042" + sun, [][]int{{japanese}}},
		{sun + "1|a|" + sun + rare, [][]int{{han, japanese}, {latin}, {japanese}}},
		{"a" + fi + "|" + soft, [][]int{{latin}, {odd}}}, // not a and fi apart: fi could go with either
		{fi + soft + "|a", [][]int{{odd}, {latin}}},
		{"a" + fi + "|" + soft + fi + "|a", [][]int{{latin}, {odd}, {latin}}},
		{rare + longer + "|\u00e9" + high + "|\u00e8|" + high, [][]int{{japanese}, {latin}, nil, all}},
	} {
		s := strings.ReplaceAll(told.pieces, "|", "")
		var want []script.Run
		end := api.Place{}
		for i, of := range told.of {
			from, piece := end, strings.Split(told.pieces, "|")[i]
			end = place(end.Byte+len(piece), end.Rune+len([]rune(piece)))
			want = append(want, script.Run{From: from, To: end, Scripts: of})
		}
		if got := slices.Collect(script.Runs(b, s)); !slices.EqualFunc(got, want, sameRun) {
			t.Errorf("%+q: %+v, want %+v", s, got, want)
		}
	}
}

func TestP14_4NoScripts(t *testing.T) {
	b := bookOf(t, noScripts())
	want := []script.Run{
		{From: place(0, 0), To: place(3, 2)},
		{From: place(3, 2), To: place(4, 3)},
		{From: place(4, 3), To: place(6, 4)},
		{From: place(6, 4), To: place(7, 5)},
	}
	if got := slices.Collect(script.Runs(b, "1"+acute+"a\u04301")); !slices.EqualFunc(got, want, sameRun) {
		t.Errorf("%+v", got)
	}
}

func TestP14_4RangedOverAgain(t *testing.T) {
	b, s := book(t), "1"+sun+"\u3042a?\xff"+acute+"\u0430a"
	want := wantRuns(table(), s)
	l := script.Runs(b, s)
	for range 3 {
		if got := slices.Collect(l); !slices.EqualFunc(got, want, sameRun) {
			t.Errorf("%+v", got)
		}
	}
	i := 0
	for x := range l {
		if inner := slices.Collect(l); !sameRun(x, want[i]) || !slices.EqualFunc(inner, want, sameRun) {
			t.Errorf("one within the other: %+v, %+v", x, inner)
		}
		i++
	}
}

// It is left at each run, the last one too, and hands out none behind that.
func TestP14_4LeftEarly(t *testing.T) {
	b := book(t)
	for _, s := range []string{"1", "a", "?", "a\u0430", "1" + sun + "\u3042a?\xff" + acute + "\u0430a", "??"} {
		want := wantRuns(table(), s)
		l := script.Runs(b, s)
		for end := 1; end <= len(want); end++ {
			var got []script.Run
			l(func(x script.Run) bool {
				got = append(got, x)
				return len(got) != end
			})
			if !slices.EqualFunc(got, want[:end], sameRun) {
				t.Errorf("%+q left at %d: %+v", s, end, got)
			}
		}
	}
}

// No two runs share memory, and what is done to one, its spare room included, changes none behind it.
func TestP14_4NewMemory(t *testing.T) {
	x := fullTable()
	b := bookOf(t, x)
	for _, s := range []string{"1?1?" + acute, "\u1000?\u1000?1\u1000", "\u1005\u1000?1\u1006?\u103f", "11?" + "\u103e\u103f"} {
		want := wantRuns(x, s)
		l := script.Runs(b, s)
		for range 2 {
			i := 0
			for run := range l {
				if i >= len(want) || !sameRun(run, want[i]) {
					t.Fatalf("%+q, run %d: %+v", s, i, run)
				}
				spoil(run.Scripts)
				i++
			}
		}
		got := slices.Collect(l)
		for i := range got {
			spoil(got[i].Scripts)
			if !slices.EqualFunc(got[i+1:], want[i+1:], sameRun) {
				t.Errorf("%+q: run %d shares memory with one behind it", s, i)
			}
		}
	}
}

func TestP14_4Long(t *testing.T) {
	b, n := book(t), 0
	for x := range script.Runs(b, strings.Repeat("\u04301a", api.MaxText+1)) {
		from, to, of := place(n/2*4, n/2*3), place(n/2*4+3, n/2*3+2), cyrillic
		if n%2 == 1 {
			from, to, of = to, place(to.Byte+1, to.Rune+1), latin
		}
		if !sameRun(x, script.Run{From: from, To: to, Scripts: []int{of}}) {
			t.Fatalf("run %d: %+v", n, x)
		}
		n++
	}
	if n != 2*(api.MaxText+1) {
		t.Errorf("%d runs", n)
	}
	one := slices.Collect(script.Runs(b, strings.Repeat(sun+"1", api.MaxText+1)))
	if len(one) != 1 || one[0].To != place(4*(api.MaxText+1), 2*(api.MaxText+1)) {
		t.Errorf("%+v", one)
	}
}

func TestP14_4NilBook(t *testing.T) {
	for _, s := range []string{"", "a", "1", "a\u0430", "\xff"} {
		for x := range script.Runs(nil, s) {
			t.Errorf("%+q: %+v", s, x)
		}
	}
}
