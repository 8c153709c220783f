package script_test

import (
	"slices"
	"testing"

	"guise/api"
	"guise/script"
	"guise/standard"
	"guise/tables"
	"guise/utf"
)

// holdsPieces asks of all pieces that begin and end at spots.
func holdsPieces(t *testing.T, b *tables.Book, s string) {
	t.Helper()
	of := script.Of(b, s)
	for from := range len(s) + 1 {
		for to := from; to <= len(s); to++ {
			if !utf.Bound(s, from) || !utf.Bound(s, to) {
				continue
			}
			piece := script.Of(b, s[from:to])
			if slices.ContainsFunc(of, func(n int) bool { return !slices.Contains(piece, n) }) {
				t.Errorf("P14.6: %+q can be of %v, its piece %+q of %v", s, of, s[from:to], piece)
			}
		}
	}
}

// holdsJoined cuts a text at each of its bytes, between spots or not: where the parts join, it can be of just what both can be of.
func holdsJoined(t *testing.T, b *tables.Book, s string) {
	t.Helper()
	of := script.Of(b, s)
	for at := range len(s) + 1 {
		if !utf.Joins(s[:at], s[at:]) {
			continue
		}
		head, tail := script.Of(b, s[:at]), script.Of(b, s[at:])
		want := slices.DeleteFunc(head, func(n int) bool { return !slices.Contains(tail, n) })
		if !slices.Equal(of, want) {
			t.Errorf("P14.6: %+q and %+q: both can be of %v, together %v", s[:at], s[at:], want, of)
		}
	}
}

// fewest tells how many pieces there are in the best of all cuttings at spots into pieces that are not mixed, or are one spot.
func fewest(b *tables.Book, s string) int {
	best := []int{0} // by how many spots are ahead
	places := []int{0}
	for at, x := range utf.Spots(s) {
		end, least := at+x.Bytes, len(s)
		for n, from := range places {
			_, mixed := script.Stop(b, s[from:end])
			if n == len(places)-1 || !mixed {
				least = min(least, best[n]+1)
			}
		}
		best, places = append(best, least), append(places, end)
	}
	return best[len(best)-1]
}

func holdsRuns(t *testing.T, b *tables.Book, s string) {
	t.Helper()
	text, end, n := "", api.Place{}, 0
	for x := range script.Runs(b, s) {
		if x.From != end {
			t.Errorf("P14.7: %+q: run %d is from %+v, the one ahead to %+v", s, n, x.From, end)
		}
		piece := s[x.From.Byte:x.To.Byte]
		if x.To.Rune-x.From.Rune != utf.Count(piece) || piece == "" {
			t.Errorf("P14.7: %+q: run %d is %+v: %+q", s, n, x, piece)
		}
		if of := script.Of(b, piece); !slices.Equal(of, x.Scripts) {
			t.Errorf("P14.4: %+q: run %d is %+v, but Of is %v", s, n, x, of)
		}
		text, end, n = text+piece, x.To, n+1
	}
	if text != s || end != place(len(s), utf.Count(s)) {
		t.Errorf("P14.7: %+q: the runs are %+q, to %+v", s, text, end)
	}
	if want := fewest(b, s); n != want {
		t.Errorf("P14.7: %+q: %d runs, but it can be cut into %d pieces", s, n, want)
	}
}

func TestP14_6EachText(t *testing.T) {
	eachPair(t, func(_ api.Tables, b *tables.Book, s string) {
		if len(s) < 20 {
			holdsPieces(t, b, s)
		}
		holdsJoined(t, b, s)
	})
}

// Where two texts don't join, they may be of something else together.
func TestP14_6NotJoined(t *testing.T) {
	b := book(t)
	if len(script.Of(b, "\xd0")) > 0 || len(script.Of(b, "\xb0")) > 0 || !script.Can(b, "\xd0"+"\xb0", cyrillic) {
		t.Error("D0 and B0")
	}
}

func TestP14_7EachText(t *testing.T) {
	eachPair(t, func(_ api.Tables, b *tables.Book, s string) {
		if len(s) < 40 {
			holdsRuns(t, b, s)
		}
	})
}

func TestP14_6To7House(t *testing.T) {
	b := standard.Book()
	eachShort(2, func(s string) {
		holdsPieces(t, b, s)
		holdsJoined(t, b, s)
		holdsRuns(t, b, s)
	})
}

// The runs, with the chapter's table.
func TestRuns(t *testing.T) {
	b := bookOf(t, runsTable())
	check := func(run string, ok bool) {
		t.Helper()
		if !ok {
			t.Error(run)
		}
	}
	of := func(s string, want ...int) bool { return slices.Equal(script.Of(b, s), want) }
	stop := func(s string, want api.Place, is bool) bool {
		p, ok := script.Stop(b, s)
		return p == want && ok == is
	}
	runs := func(s string, want ...script.Run) bool {
		return slices.EqualFunc(slices.Collect(script.Runs(b, s)), want, sameRun)
	}
	check("Of", of("ab1", 0) && of("\u04301", 1) && of("12", 0, 1) && of("a\u0430") && of("", 0, 1))
	check("Stop", stop("a1\u0430", place(2, 2), true) && stop("1?", place(1, 1), true) && stop("a\xff", place(1, 1), true) && stop("12", api.Place{}, false))
	check("Level ASCII, Single", script.Level(b, "A?") == script.ASCII && script.Level(b, "\u04301") == script.Single)
	check("Level Several, Any", script.Level(b, "a\u0430") == script.Several && script.Level(b, "a\u4e00") == script.Any)
	check("Runs", runs("a1\u0430?b",
		script.Run{From: place(0, 0), To: place(2, 2), Scripts: []int{0}},
		script.Run{From: place(2, 2), To: place(4, 3), Scripts: []int{1}},
		script.Run{From: place(4, 3), To: place(5, 4)},
		script.Run{From: place(5, 4), To: place(6, 5), Scripts: []int{0}}))
	check("Runs, free spots ahead", runs("1\u0430a",
		script.Run{From: place(0, 0), To: place(3, 2), Scripts: []int{1}},
		script.Run{From: place(3, 2), To: place(4, 3), Scripts: []int{0}}))
	check("Tally", slices.Equal(script.Tally(b, "a\u0430ab1"), []script.Share{{Script: 0, Spots: 3}, {Script: 1, Spots: 1}}))
	check("Can", !script.Can(b, "a", -1) && script.Can(b, "1", 1) && !script.Can(b, "1", 2))
}

func TestExamples(t *testing.T) {
	b := book(t)
	for _, s := range []string{acute, acute + dot, acute + "1"} {
		if got := script.Of(b, s); len(got) != len(b.Names()) {
			t.Errorf("1: %+q: %v", s, got)
		}
	}
	if got := script.Of(b, acute+"\u0430"); !slices.Equal(got, []int{cyrillic}) {
		t.Errorf("1: %v", got)
	}
	if two, one := script.Of(b, fi), script.Of(b, fi+"a"); !slices.Equal(two, []int{latin, odd}) || !slices.Equal(one, []int{latin}) {
		t.Errorf("2: %v, %v", two, one)
	}
	if p, ok := script.Stop(standard.Book(), "p\u0430ypal"); p != place(1, 1) || !ok {
		t.Errorf("3: %+v, %v", p, ok)
	}
}
