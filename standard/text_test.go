package standard_test

import (
	"crypto/sha256"
	"encoding/hex"
	"slices"
	"strings"
	"testing"

	"guise/api"
	"guise/rules"
	"guise/standard"
	"guise/tables"
)

// The chapter's text, measured where it stands: the lines behind '## The rules' and the empty one below it, each without four blanks.
const (
	textBytes = 12932
	textLines = 513
	textSum   = "a7a30b6569e3171a49e4cf6a99cd70cda80fd96e13214dab7c351e2a9562c6f7" // SHA-256
)

func TestP7_1ByteForByte(t *testing.T) {
	s := standard.Rules()
	if len(s) != textBytes || strings.Count(s, "\n") != textLines {
		t.Errorf("%d bytes, %d lines", len(s), strings.Count(s, "\n"))
	}
	if sum := sha256.Sum256([]byte(s)); hex.EncodeToString(sum[:]) != textSum {
		t.Errorf("another text than the chapter's: SHA-256 %x", sum)
	}
	if standard.Rules() != s {
		t.Error("asked again: another text")
	}
}

// The sum tells that the text is another one; this, where its parts begin and end, tells where.
func TestP7_1Lines(t *testing.T) {
	lines := strings.SplitAfter(standard.Rules(), "\n")
	if len(lines) != textLines+1 || lines[textLines] != "" {
		t.Fatalf("%d lines", len(lines))
	}
	for n, want := range map[int]string{
		1:   "# The tables of the house.\n",
		2:   "\n",
		3:   "script latin { 'A'..'Z' 'a'..'z' U+00C0..U+00D6 U+00D8..U+00F6 U+00F8..U+017F U+0251 U+0261 U+1EA0..U+1EF9 U+FF21..U+FF3A U+FF41..U+FF5A }\n",
		4:   "script greek { U+0386 U+0388..U+038A U+038C U+038E..U+03A1 U+03A3..U+03CE }\n",
		5:   "script cyrillic { U+0400..U+0481 U+048A..U+052F }\n",
		6:   "script armenian { U+0531..U+0556 U+0561..U+0586 }\n",
		7:   "script hebrew { U+05D0..U+05EA }\n",
		8:   "script han { U+4E00..U+9FFF }\n",
		9:   "script japanese { U+3041..U+3096 U+30A1..U+30FA U+4E00..U+9FFF }\n",
		10:  "common { '-'..'9' U+00B7 U+30FC }\n",
		11:  "drop { U+00AD U+200B..U+200D U+2060 U+FEFF }\n",
		13:  "\n",
		14:  "mark U+0300 230;\n",
		29:  "mark U+0338 1;\n",
		30:  "\n",
		31:  "pair U+00C0 = 'A' + U+0300;\n",
		279: "pair U+04E3 = U+0438 + U+0304;\n",
		280: "\n",
		281: "fold 'A' = 'a';\n",
		475: "fold U+FF5A = 'z';\n",
		476: "\n",
		477: "look '0' = 'o';\n",
		513: "look U+05E1 = 'o';\n",
	} {
		if lines[n-1] != want {
			t.Errorf("line %d: %q, want %q", n, lines[n-1], want)
		}
	}
	for i, l := range lines[:textLines] {
		if l != strings.TrimSpace(l)+"\n" {
			t.Errorf("line %d: blanks at an end: %q", i+1, l)
		}
	}
}

// read is the text as the layers below read it.
func read(t *testing.T) *rules.Text {
	t.Helper()
	x, err := rules.Parse(standard.Rules())
	if err != nil {
		t.Fatal(err)
	}
	return x
}

func TestP7_1Read(t *testing.T) {
	x := read(t)
	u := x.Tables()
	rows := []int{len(u.Scripts), len(u.Common), len(u.Marks), len(u.Pairs), len(u.Folds), len(u.Looks), len(u.Drops), len(u.Allowed)}
	if want := []int{7, 3, 16, 249, 195, 37, 4, 19}; !slices.Equal(rows, want) {
		t.Errorf("rows %v, want %v", rows, want)
	}
	if at := x.Where(api.LScripts, 0); at != (api.At{Byte: 28, Line: 3, Column: 1}) {
		t.Errorf("the first script: %+v", at)
	}
	if at := x.Where(api.LLooks, 36); at != (api.At{Byte: textBytes - 19, Line: textLines, Column: 1}) {
		t.Errorf("the last look: %+v", at)
	}
	if _, w := tables.New(u); w != (api.Wrong{}) {
		t.Errorf("the table isn't right: %v", x.Find(w))
	}
}
