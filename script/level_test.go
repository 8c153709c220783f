package script_test

import (
	"strings"
	"testing"

	"guise/api"
	"guise/script"
	"guise/standard"
	"guise/tables"
)

func TestP14_3Numbers(t *testing.T) {
	if l := [4]int{script.ASCII, script.Single, script.Several, script.Any}; l != [4]int{1, 2, 3, 4} {
		t.Errorf("%v", l)
	}
}

func TestP14_3EachText(t *testing.T) {
	eachPair(t, func(x api.Tables, b *tables.Book, s string) {
		if got, want := script.Level(b, s), wantLevel(x, s); got != want {
			t.Errorf("%+q: %d, want %d", s, got, want)
		}
	})
}

func TestP14_3ByHand(t *testing.T) {
	b := book(t)
	for s, want := range map[string]int{
		"":                           script.ASCII,
		"a":                          script.ASCII,
		"\x00\x7f":                   script.ASCII, // mixed, but ASCII
		"A? ~":                       script.ASCII,
		"\u0080":                     script.Any,
		"a\u0080":                    script.Any,
		"\x80":                       script.Any, // a bad spot stands for U+FFFD
		"a\xff":                      script.Any,
		acute:                        script.Single,
		"1" + longer:                 script.Single,
		"a" + acute:                  script.Single,
		"\u0430" + high:              script.Single,
		sun + rare:                   script.Single,
		fi:                           script.Single,
		fi + "a":                     script.Single,
		"a\u0430":                    script.Several,
		"\u0430" + acute + "1a":      script.Several,
		sun + "a":                    script.Several,
		fi + "a" + soft:              script.Several,
		"a\u0430" + sun + rare + "b": script.Several,
		"a\u0430?":                   script.Any,
		"?\u0430":                    script.Any,
		"\u0430 a":                   script.Any,
		"a\u0430\xff":                script.Any,
		"\xff\u0430":                 script.Any,
		"\u0430A":                    script.Any,
		"\u00e8":                     script.Any,
		zero:                         script.Any,
		"\u0430" + zero:              script.Any,
		"\ufffd":                     script.Any,
	} {
		if got := script.Level(b, s); got != want {
			t.Errorf("%+q: %d, want %d", s, got, want)
		}
	}
}

// Without scripts a text is ASCII, or its spots are free, or one is of no script.
func TestP14_3NoScripts(t *testing.T) {
	b := bookOf(t, noScripts())
	for s, want := range map[string]int{
		"a":        script.ASCII,
		"":         script.ASCII,
		acute:      script.Single,
		"1" + dot:  script.Single,
		"a" + dot:  script.Any,
		"\u0430":   script.Any,
		"1\u65e51": script.Any,
	} {
		if got := script.Level(b, s); got != want {
			t.Errorf("%+q: %d, want %d", s, got, want)
		}
	}
}

func TestP14_3House(t *testing.T) {
	b := standard.Book()
	for s, want := range map[string]int{
		"copa":                   script.ASCII,
		"\u0441\u043e\u0440":     script.Single,
		"c\u043epa":              script.Several,
		"na\u00efve":             script.Single,
		"\u65e5\u672c\u306e":     script.Single,
		"na\u00efve\u200d":       script.Any,
		"\u65e5\u672c\u306e\xe6": script.Any,
	} {
		if got := script.Level(b, s); got != want {
			t.Errorf("%+q: %d, want %d", s, got, want)
		}
	}
}

func TestP14_3Long(t *testing.T) {
	b, long := book(t), strings.Repeat("a1", 4*api.MaxText)
	for s, want := range map[string]int{"": script.ASCII, acute: script.Single, "\u0430": script.Several, "\u4dff": script.Any, "\xff": script.Any} {
		if got := script.Level(b, long+s); got != want {
			t.Errorf("with %+q behind: %d, want %d", s, got, want)
		}
	}
}

func TestP14_3NilBook(t *testing.T) {
	for _, s := range []string{"", "a", "1", acute, "a\u0430", "\xff"} {
		if got := script.Level(nil, s); got != 0 {
			t.Errorf("%+q: %d", s, got)
		}
	}
}
