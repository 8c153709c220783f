package script_test

import (
	"slices"
	"strings"
	"testing"

	"guise/api"
	"guise/script"
	"guise/tables"
)

func TestP14_5EachText(t *testing.T) {
	eachPair(t, func(x api.Tables, b *tables.Book, s string) {
		if got, want := script.Tally(b, s), wantTally(x, s); !slices.Equal(got, want) {
			t.Errorf("%+q: %v, want %v", s, got, want)
		}
	})
}

func TestP14_5ByHand(t *testing.T) {
	b := book(t)
	for s, want := range map[string][]script.Share{
		"":                                   {},
		"12-":                                {},
		acute + longer + "5" + dot:           {}, // free, though scripts have some of them
		"?A\xff\ufffd" + zero:                {},
		"a":                                  {{Script: latin, Spots: 1}},
		"a?a\xffa":                           {{Script: latin, Spots: 3}},
		"\u0430a":                            {{Script: latin, Spots: 1}, {Script: cyrillic, Spots: 1}},
		sun:                                  {{Script: han, Spots: 1}, {Script: japanese, Spots: 1}},
		sun + rare + longer + sun + "\u3042": {{Script: han, Spots: 2}, {Script: japanese, Spots: 4}},
		soft + fi + "\u00e9" + acute:         {{Script: latin, Spots: 2}, {Script: odd, Spots: 2}},
		"\xd0\xb0\xd0":                       {{Script: cyrillic, Spots: 1}},
	} {
		if got := script.Tally(b, s); !slices.Equal(got, want) {
			t.Errorf("%+q: %v, want %v", s, got, want)
		}
	}
}

// The shares rise by number, whichever way the map is gone through.
func TestP14_5Rising(t *testing.T) {
	b := bookOf(t, fullTable())
	text := ""
	for i := range rune(api.MaxScripts) {
		text += string(0x103f - i)
	}
	for range 50 {
		l := script.Tally(b, text)
		if len(l) != api.MaxScripts {
			t.Fatalf("%d shares", len(l))
		}
		for n, share := range l {
			if share != (script.Share{Script: n, Spots: n + 1}) {
				t.Fatalf("%d: %+v", n, share)
			}
		}
		clear(l[:cap(l)]) // what is done to an answer is not told by the next one
	}
}

func TestP14_5Long(t *testing.T) {
	b, n := book(t), 2*api.MaxText
	want := []script.Share{{Script: latin, Spots: n}, {Script: han, Spots: n}, {Script: japanese, Spots: n}}
	if got := script.Tally(b, strings.Repeat(sun+"1a?", n)); !slices.Equal(got, want) {
		t.Errorf("%v", got)
	}
}

func TestP14_5NilBook(t *testing.T) {
	for _, s := range []string{"", "a", "1", "a\u0430", "\xff"} {
		if got := script.Tally(nil, s); len(got) > 0 {
			t.Errorf("%+q: %v", s, got)
		}
	}
}
