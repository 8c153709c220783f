package look_test

import (
	"math/rand"
	"slices"
	"strings"
	"testing"

	"guise/api"
	"guise/fold"
	"guise/look"
	"guise/marks"
	"guise/norm"
	"guise/open"
	"guise/shut"
	"guise/standard"
	"guise/strip"
	"guise/tables"
	"guise/utf"
)

const spread = 20 // runes of a skeleton for each spot: four that each of four looks like, and four marks

// holdsSkeleton asks of one text what P15.6 says.
func holdsSkeleton(t *testing.T, b *tables.Book, s string) {
	t.Helper()
	skeleton := look.Skeleton(b, s)
	if p, ok := utf.Valid(skeleton); !ok {
		t.Errorf("P15.6: %+q: %+q is not valid at %+v", s, skeleton, p)
	}
	if p, ok := open.First(b, skeleton); ok {
		t.Errorf("P15.6: %+q: %+q is not open at %+v", s, skeleton, p)
	}
	if p, ok := fold.First(b, skeleton); ok {
		t.Errorf("P15.6: %+q: %+q is not folded at %+v", s, skeleton, p)
	}
	if twice := look.Skeleton(b, skeleton); twice != skeleton {
		t.Errorf("P15.6: %+q: %+q, then %+q", s, skeleton, twice)
	}
	if runes, spots := utf.Count(skeleton), utf.Count(s); runes > spread*spots {
		t.Errorf("P15.6: %+q: %d spots, %+q: %d runes", s, spots, skeleton, runes)
	}
}

// holdsForms asks of one text what P15.7 says of its forms.
func holdsForms(t *testing.T, b *tables.Book, s string) {
	t.Helper()
	for name, form := range map[string]string{
		"Strip":    strip.Strip(b, s),
		"Open":     open.Open(b, s),
		"Fold":     fold.Fold(b, s),
		"Clean":    utf.Clean(s),
		"Shut":     shut.Shut(b, s),
		"Norm":     norm.Norm(b, s),
		"Skeleton": look.Skeleton(b, s),
		"Order":    marks.Order(b, s),
	} {
		if !look.Alike(b, s, form) || !look.Alike(b, form, s) {
			t.Errorf("P15.7: %+q is not alike to its %s %+q", s, name, form)
		}
	}
}

// begins tells whether the first spot of a text that is seen is no mark, or there is none.
func begins(b *tables.Book, s string) bool {
	for _, r := range strip.Seen(b, s) {
		return b.Class(r) == 0
	}
	return true
}

// holdsJoined cuts a text at each of its bytes, between spots or not.
func holdsJoined(t *testing.T, b *tables.Book, s string) {
	t.Helper()
	skeleton := look.Skeleton(b, s)
	for at := range len(s) + 1 {
		head, tail := s[:at], s[at:]
		if !utf.Joins(head, tail) || !begins(b, tail) {
			continue
		}
		if got := look.Skeleton(b, head) + look.Skeleton(b, tail); got != skeleton {
			t.Errorf("P15.8: %+q and %+q: %+q, want %+q", head, tail, got, skeleton)
		}
	}
}

func holds(t *testing.T, b *tables.Book, s string) {
	t.Helper()
	holdsSkeleton(t, b, s)
	holdsForms(t, b, s)
	holdsJoined(t, b, s)
}

func TestP15_6To8EachText(t *testing.T) {
	b := book(t)
	eachShort(func(s string) { holds(t, b, s) })
	eachDrawn(func(s string) { holds(t, b, s) })
}

func TestP15_6To8OtherTables(t *testing.T) {
	for _, x := range append(otherTables(), standard.Book().Tables()) {
		b := bookOf(t, x)
		eachShort(func(s string) { holds(t, b, s) })
	}
}

func TestP15_6To8DrawnTables(t *testing.T) {
	pick := rand.New(rand.NewSource(158))
	for range 100 {
		b := bookOf(t, drawTable(pick))
		for range 40 {
			holds(t, b, drawRunes(pick))
		}
	}
}

// As many runes as may be come of a spot, and of a text of such spots.
func TestP15_6Ends(t *testing.T) {
	b := book(t)
	for n := range 4 {
		if runes := utf.Count(look.Skeleton(b, strings.Repeat(deepest, n))); runes != n*spread {
			t.Errorf("%d spots: %d runes", n, runes)
		}
	}
}

func TestP15_7Equivalence(t *testing.T) {
	for _, b := range []*tables.Book{book(t), standard.Book()} {
		texts := fewTexts()
		var alike [][]bool
		for _, s := range texts {
			var l []bool
			for _, other := range texts {
				l = append(l, look.Alike(b, s, other))
			}
			alike = append(alike, l)
		}
		for i, s := range texts {
			if !alike[i][i] {
				t.Errorf("%+q is not alike to itself", s)
			}
			for j, other := range texts {
				if alike[i][j] != alike[j][i] {
					t.Errorf("%+q, %+q: alike one way alone", s, other)
				}
				for k, third := range texts {
					if alike[i][j] && alike[j][k] && !alike[i][k] {
						t.Errorf("%+q, %+q, %+q: the first and the last are not alike", s, other, third)
					}
				}
			}
		}
	}
}

// What the layers below call twins, or the same, is alike.
func TestP15_7Twins(t *testing.T) {
	b, texts, met := book(t), fewTexts(), 0
	for i, s := range texts {
		for _, other := range texts[:i] {
			if strip.Same(b, s, other) || open.Twins(b, s, other) || fold.Twins(b, s, other) || norm.Norm(b, s) == norm.Norm(b, other) {
				met++
				if !look.Alike(b, s, other) {
					t.Errorf("%+q, %+q are not alike", s, other)
				}
			}
		}
	}
	if met == 0 {
		t.Error("no twins")
	}
}

// eachAlike calls with two texts that are alike and not one, both beginning with no mark.
func eachAlike(b *tables.Book, texts []string, call func(s, other string)) {
	for _, class := range look.Classes(b, texts...) {
		for _, i := range class {
			for _, j := range class {
				if i != j && begins(b, texts[i]) && begins(b, texts[j]) {
					call(texts[i], texts[j])
				}
			}
		}
	}
}

// P15.8: what stands last put by an alike text.
func TestP15_8Put(t *testing.T) {
	for _, b := range []*tables.Book{book(t), standard.Book()} {
		met := 0
		eachAlike(b, fewTexts(), func(s, other string) {
			for _, head := range []string{"", "a", "m" + acute, dot, zero, small + soft, "\xff", "\xd0", "\xc3"} {
				if !utf.Joins(head, s) || !utf.Joins(head, other) {
					continue
				}
				met++
				if !look.Alike(b, head+s, head+other) {
					t.Errorf("%+q: %+q put by %+q", head, s, other)
				}
			}
		})
		if met == 0 {
			t.Error("nothing was put")
		}
	}
}

// W3: a piece between safe places put by an alike one that is safe at its beginning.
func TestW3Put(t *testing.T) {
	heads := []string{"", "a", "m" + acute, acute + dot, zero, small + soft, "\xff", "\xd0"}
	tails := []string{"", "b", zero + "m", soft + zero, small + dot, "\ufffd" + acute, "\xb0" + dot, "\xa9"}
	for _, b := range []*tables.Book{book(t), standard.Book()} {
		met := 0
		eachAlike(b, fewTexts(), func(s, other string) {
			for _, head := range heads {
				for _, tail := range tails {
					whole := head + s + tail
					if !norm.Safe(b, whole, len(head)) || !norm.Safe(b, whole, len(head)+len(s)) || !norm.Safe(b, other, 0) {
						continue
					}
					if !utf.Joins(head, other) || !utf.Joins(head+other, tail) {
						continue
					}
					met++
					if !look.Alike(b, whole, head+other+tail) {
						t.Errorf("%+q, %+q: %+q put by %+q", head, tail, s, other)
					}
				}
			}
		})
		if met == 0 {
			t.Error("nothing was put")
		}
	}
}

// Where the texts don't join, or a mark is the first that is seen, the skeleton may be another than both's.
func TestP15_8NotSo(t *testing.T) {
	b := book(t)
	for _, x := range [][2]string{{"\xd0", "\xb0"}, {"\xc3", "\xa9"}, {small, dot}, {small, zero + dot}, {"a" + acute + soft, low}} {
		if look.Skeleton(b, x[0]+x[1]) == look.Skeleton(b, x[0])+look.Skeleton(b, x[1]) {
			t.Errorf("%+q", x)
		}
	}
}

// The runs, with a table that has just what they ask for, and with others that have more.
func TestRuns(t *testing.T) {
	x := table()
	x.Scripts = nil
	x.Marks = []api.Mark{{Rune: 0x301, Class: 230}, {Rune: 0x323, Class: 220}}
	x.Pairs = []api.Pair{{Whole: 0xe9, Base: 'e', Mark: 0x301}}
	x.Folds = []api.Map{{From: 'A', To: "a"}}
	x.Looks = []api.Map{{From: 0x430, To: "a"}, {From: '0', To: "o"}, {From: 'm', To: "rn"}}
	x.Drops = []api.Span{{Lo: 0x200d, Hi: 0x200d}}
	for _, b := range []*tables.Book{bookOf(t, x), book(t), standard.Book()} {
		check := func(run string, ok bool) {
			t.Helper()
			if !ok {
				t.Error(run)
			}
		}
		runes := func(r rune, want ...rune) bool { return slices.Equal(look.Rune(b, r), want) }
		parts := func(s, other string, want int, is bool) bool {
			n, ok := look.Parts(b, s, other)
			return n == want && ok == is
		}
		check("Rune", runes('m', 'r', 'n') && runes('x', 'x'))
		check("Skeleton", look.Skeleton(b, "Am"+ah) == "arna")
		check("Skeleton, whole", look.Skeleton(b, small+dot) == "e"+dot+acute && look.Skeleton(b, "e"+acute+zero+dot) == "e"+dot+acute)
		check("Skeleton, bad", look.Skeleton(b, "\xff") == "\ufffd")
		s, p, e := look.Strict(b, "a\xff")
		check("Strict", s == "" && p == place(1, 1) && e == api.ErrBad)
		check("Alike", look.Alike(b, "mo", "rn0") && !look.Alike(b, "a", "b") && look.Alike(b, "\xff", "\ufffd"))
		check("Parts", parts("mo", "rx", 1, true) && parts("A", "a", 0, false) && parts("a", "ab", 1, true))
		check("Classes", same(look.Classes(b, "a", "b", "A", ah, "b"), [][]int{{0, 2, 3}, {1, 4}}))
	}
}

func TestExamples(t *testing.T) {
	b := book(t)
	if one, other := look.Skeleton(b, ""), look.Skeleton(b, zero); one != "" || other != "" {
		t.Errorf("1: %+q, %+q", one, other)
	}
	if p, ok := fold.First(b, ah); ok || fold.Fold(b, ah) != ah || look.Skeleton(b, ah) != "a" {
		t.Errorf("2: %+v, %+q, %+q", p, fold.Fold(b, ah), look.Skeleton(b, ah))
	}
	if s, p, e := look.Strict(b, strings.Repeat("a", 65537)); s != "" || p != place(0, 0) || e != api.ErrLong {
		t.Errorf("3: %d bytes, %+v, %v", len(s), p, e)
	}
}
