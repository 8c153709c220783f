package standard_test

import (
	"fmt"
	"os"
	"reflect"
	"slices"
	"sync"
	"testing"

	"guise/standard"
	"guise/tables"
)

// first are the Books of goroutines that asked ahead of all tests and at the same time: later nobody could see what those are answered who ask first.
var first [64]*tables.Book

func TestMain(m *testing.M) {
	var start, done sync.WaitGroup
	start.Add(1)
	for i := range first {
		done.Go(func() {
			start.Wait()
			first[i] = standard.Book()
		})
	}
	start.Done()
	done.Wait()
	os.Exit(m.Run())
}

func TestP7_2OneTable(t *testing.T) {
	for i, b := range first {
		if b == nil {
			t.Fatalf("goroutine %d was answered no Book", i)
		}
		checkTable(t, b)
		checkRuns(t, b)
	}
	for range 3 {
		checkTable(t, standard.Book())
	}
}

// checkTable tells whether b is a Book of the table that is read in the text.
func checkTable(t *testing.T, b *tables.Book) {
	t.Helper()
	want := read(t).Tables()
	if u := b.Tables(); !reflect.DeepEqual(u, want) {
		t.Errorf("%+v, want %+v", u, want)
	}
}

// says is what a Book says of a rune.
type says struct {
	scripts                         []int
	common, dropped, allowed, plain bool
	class                           int
	base, mark, joined              rune
	whole, back, folded, looks      bool
	fold, look                      []rune
}

func saysOf(b *tables.Book, r rune) says {
	s := says{scripts: b.Scripts(r), common: b.Common(r), dropped: b.Dropped(r), allowed: b.Allowed(r), plain: b.Plain(r), class: b.Class(r)}
	s.base, s.mark, s.whole = b.Pair(r)
	s.joined, s.back = b.Joined(s.base, s.mark)
	s.fold, s.folded = b.Fold(r)
	s.look, s.looks = b.Look(r)
	return s
}

// Of every number the Book says what one says that is made anew of the text.
func TestP7_2EveryRune(t *testing.T) {
	b := standard.Book()
	c, w := tables.New(read(t).Tables())
	if c == nil {
		t.Fatal(w)
	}
	if !slices.Equal(b.Names(), c.Names()) || !slices.Equal(b.Froms(), c.Froms()) {
		t.Errorf("%q, %q", b.Names(), b.Froms())
	}
	for r := rune(-2); r < 0x110002; r++ {
		if x, y := saysOf(b, r), saysOf(c, r); !reflect.DeepEqual(x, y) {
			t.Fatalf("%#x: %+v, want %+v", r, x, y)
		}
	}
}

// Several goroutines may ask, and ask what they were answered.
func TestR9Together(t *testing.T) {
	want := read(t).Tables()
	var wait sync.WaitGroup
	for n := range 16 {
		wait.Go(func() {
			b := standard.Book()
			for i := range want.Pairs {
				p := want.Pairs[(i+n*31)%len(want.Pairs)]
				if whole, ok := b.Joined(p.Base, p.Mark); !ok || whole != p.Whole {
					t.Errorf("%q and %#x make %q", p.Base, p.Mark, whole)
				}
			}
			if !reflect.DeepEqual(b.Tables(), want) || len(standard.Rules()) != textBytes {
				t.Errorf("goroutine %d was answered otherwise", n)
			}
		})
	}
	wait.Wait()
}

// What one writes over an answer is seen neither in the Book that gave it nor in those of others.
func TestR2AnswersWrittenOver(t *testing.T) {
	b := standard.Book()
	u := b.Tables()
	for _, s := range u.Scripts {
		clear(s.Spans)
	}
	clear(u.Scripts)
	clear(u.Common)
	clear(u.Marks)
	clear(u.Pairs)
	clear(u.Folds)
	clear(u.Looks)
	clear(u.Drops)
	clear(u.Allowed)
	fold, _ := b.Fold(0x3a9)
	look, _ := b.Look(0x430)
	clear(fold)
	clear(look)
	clear(b.Names())
	clear(b.Froms())
	clear(b.Scripts(0x4e00))
	for _, x := range []*tables.Book{b, first[0], standard.Book()} {
		checkTable(t, x)
		checkRuns(t, x)
	}
}

func TestRuns(t *testing.T) { checkRuns(t, standard.Book()) }

func checkRuns(t *testing.T, b *tables.Book) {
	t.Helper()
	if c := b.Class(0x301); c != 230 {
		t.Errorf("Class of U+0301: %d", c)
	}
	if base, mark, ok := b.Pair(0xe9); base != 'e' || mark != 0x301 || !ok {
		t.Errorf("Pair of é: %q, %#x, %v", base, mark, ok)
	}
	if to, ok := b.Fold(0x3a9); !slices.Equal(to, []rune{0x3c9}) || !ok {
		t.Errorf("Fold of Ω: %q, %v", to, ok)
	}
	if to, ok := b.Look(0x430); !slices.Equal(to, []rune{'a'}) || !ok {
		t.Errorf("Look of the Cyrillic а: %q, %v", to, ok)
	}
	if l := b.Names(); !slices.Equal(l, []string{"latin", "greek", "cyrillic", "armenian", "hebrew", "han", "japanese"}) {
		t.Errorf("Names: %q", l)
	}
	if l := b.Scripts(0x4e00); !slices.Equal(l, []int{5, 6}) {
		t.Errorf("Scripts of U+4E00: %v", l)
	}
	if !b.Dropped(0x200d) {
		t.Error("U+200D isn't dropped")
	}
	if !b.Common('5') {
		t.Error("5 isn't common")
	}
}

func TestExamples(t *testing.T) {
	b := standard.Book()
	if !reflect.DeepEqual(b.Tables(), standard.Book().Tables()) {
		t.Error("two calls of Book answer two tables")
	}
	if b.Allowed('A') {
		t.Error("A is allowed")
	}
	if to, ok := b.Look('m'); !slices.Equal(to, []rune{'r', 'n'}) || !ok {
		t.Errorf("Look of m: %q, %v", to, ok)
	}
}

// Nothing of the house stands for what is no rune.
func TestP7_2NoRune(t *testing.T) {
	for _, r := range []rune{-1, 0xd800, 0xdfff, 0x110000} {
		// As text nil and empty lists are the same.
		if s := fmt.Sprint(saysOf(standard.Book(), r)); s != fmt.Sprint(says{}) {
			t.Errorf("%#x: %s", r, s)
		}
	}
}
