package label_test

import (
	"strings"
	"testing"

	"guise/api"
	"guise/label"
	"guise/standard"
	"guise/tables"
)

func TestP18_4Repair(t *testing.T) {
	made := 0
	eachOf(t, func(x api.Tables, b *tables.Book, s string) {
		want, is := wantRepair(x, s)
		if got, ok := label.Repair(b, s); got != want || ok != is {
			t.Errorf("%+q: %+q, %v, want %+q, %v", s, got, ok, want, is)
		}
		if is && wantTold(x, s) != (told{}) {
			made++
		}
	})
	if made < 1000 {
		t.Errorf("%d are made labels", made)
	}
}

func TestP18_4ByHand(t *testing.T) {
	b := book(t)
	for s, want := range map[string]string{
		"a":                               "a",
		"A":                               "a",
		"--a--":                           "a",
		".-a-.":                           "a",
		"-.-a.-.":                         "a",
		"-a--b-":                          "a--b",
		"a\xffb":                          "ab",
		"a\ufffdb":                        "ab",
		"E" + acute + " " + great:         small + small,
		"a" + zero + "b":                  "ab",
		"a" + hat + "b":                   "ab",
		"s" + sharp:                       "sss",
		quote + sun + no + quote:          sun + no,
		fig:                               far + far + "a",
		"ab--":                            "ab",
		"x.q--a":                          "", // as it is, but for what is taken out
		"xq--a":                           "",
		"":                                "",
		"-":                               "",
		"...":                             "",
		"\xff":                            "",
		"ab--c":                           "",
		"a.b--c":                          "",
		"a" + ah:                          "",
		"-" + acute + "a":                 "", // a mark is left at the beginning
		hatted + acute:                    "",
		strange:                           "",
		strings.Repeat("a", 64):           "",
		strings.Repeat("a.", 63):          strings.Repeat("a", 63),
		strings.Repeat(".", 70000) + "a":  "a", // only what comes out must be short
		strings.Repeat("-", 70000) + "a-": "a",
		strings.Repeat("a", 70000):        "",
	} {
		if got, ok := label.Repair(b, s); got != want || ok != (want != "") {
			t.Errorf("%+q: %+q, %v, want %+q", s[:min(20, len(s))], got, ok, want)
		}
	}
}

// What is taken out may bring together what then is not normal: that is no label.
func TestP18_4NotNormal(t *testing.T) {
	b, house := book(t), standard.Book()
	for s, b := range map[string]*tables.Book{"e." + acute: b, "ae?" + acute + "b": b, "e\u200a\u0301": house} {
		if got, ok := label.Repair(b, s); got != "" || ok {
			t.Errorf("%+q: %+q, %v", s, got, ok)
		}
	}
}

// U+FFFD stays only where it is allowed, and stands for bad bytes then.
func TestP18_4Bad(t *testing.T) {
	b := bookOf(t, otherTables()[5])
	for s, want := range map[string]string{"a\xff": "a\ufffd", "\xff": "\ufffd", "\xe2\x80.": "\ufffd\ufffd", "-\ufffd-": "\ufffd", ah + "\xff": ""} {
		if got, ok := label.Repair(b, s); got != want || ok != (want != "") {
			t.Errorf("%+q: %+q, %v, want %+q", s, got, ok, want)
		}
	}
}

func TestP18_4NilBook(t *testing.T) {
	for _, s := range []string{"", "a", "A", "\xff", strings.Repeat("a", api.MaxText+1)} {
		if got, ok := label.Repair(nil, s); got != "" || ok {
			t.Errorf("%d bytes: %q, %v", len(s), got, ok)
		}
	}
}
