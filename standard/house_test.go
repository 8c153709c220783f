package standard

import (
	"reflect"
	"testing"

	"guise/api"
	"guise/rules"
	"guise/tables"
)

// The Book in house is made once, when it is first asked for, and is the one of the text.
func TestHouseFilledOnce(t *testing.T) {
	Book()
	kept := house.book
	if kept == nil {
		t.Fatal("no Book in house, and one was asked for")
	}
	for range 3 {
		Book()
	}
	if house.book != kept {
		t.Error("asked again: another Book in house")
	}
	checkText(t, kept)
}

// P7.2 holds whatever house holds.
func TestP7_2HangsOnTheText(t *testing.T) {
	Book()
	defer func(b *tables.Book) { house.book = b }(house.book)
	bare, w := tables.New(api.Tables{Common: []api.Span{{Lo: '-', Hi: '9'}}, Allowed: []api.Span{{Lo: '-', Hi: '-'}, {Lo: '0', Hi: '9'}, {Lo: 'a', Hi: 'z'}}})
	if bare == nil {
		t.Fatal(w)
	}
	for _, b := range []*tables.Book{nil, bare} {
		house.book = b
		checkText(t, Book())
	}
}

func checkText(t *testing.T, b *tables.Book) {
	t.Helper()
	x, err := rules.Parse(Rules())
	if err != nil {
		t.Fatal(err)
	}
	if b == nil || !reflect.DeepEqual(b.Tables(), x.Tables()) {
		t.Error("not the Book of the text")
	}
}
