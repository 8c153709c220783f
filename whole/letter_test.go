package whole_test

import (
	"math/rand"
	"testing"

	"guise/api"
	"guise/standard"
	"guise/tables"
	"guise/whole"
)

func checkLetter(t *testing.T, x api.Tables, b *tables.Book, r rune) {
	t.Helper()
	want, is := "", wantLetter(x, r)
	if is {
		want = wantSkeleton(x, string(r))
	}
	if got := whole.Letter(b, r); got != is {
		t.Errorf("%#x: %v, want %v", r, got, is)
	}
	if got, ok := whole.Piece(b, r); got != want || ok != is {
		t.Errorf("%#x: %+q, %v, want %+q, %v", r, got, ok, want, is)
	}
}

func TestP16_1EveryRune(t *testing.T) {
	x, b := table(), book(t)
	for r := rune(-2); r <= 0x110001; r++ {
		checkLetter(t, x, b, r)
	}
}

// Of tables that allow more, or less, every rune of the first planes.
func TestP16_1OtherTables(t *testing.T) {
	for _, x := range append(otherTables(), wideTable(), standard.Book().Tables()) {
		b := bookOf(t, x)
		for r := rune(-1); r < 0x3100; r++ {
			checkLetter(t, x, b, r)
		}
		for r := rune(0xd700); r < 0xe100; r++ {
			checkLetter(t, x, b, r)
		}
		for r := rune(0xff00); r < 0x10100; r++ {
			checkLetter(t, x, b, r)
		}
		for r := rune(0x1e8f0); r < 0x1e920; r++ {
			checkLetter(t, x, b, r)
		}
		for _, r := range []rune{0x10ffff, 0x110000, 1<<31 - 1, -1 << 31} {
			checkLetter(t, x, b, r)
		}
	}
}

func TestP16_1DrawnTables(t *testing.T) {
	pick := rand.New(rand.NewSource(1611))
	for range 100 {
		x := drawTable(pick)
		b := bookOf(t, x)
		for r := rune(0x2f0); r < 0x310; r++ {
			checkLetter(t, x, b, r)
		}
		for r := rune(0xff0); r < 0x1240; r++ {
			checkLetter(t, x, b, r)
		}
		for r := rune(0x1ff0); r < 0x2010; r++ {
			checkLetter(t, x, b, r)
		}
	}
}

func TestP16_1ByHand(t *testing.T) {
	b := book(t)
	for r, want := range map[rune]string{
		'a':        "a",
		'z':        "z",
		'-':        "-",
		'0':        "o",
		'1':        "l",
		'2':        "2",
		'm':        "rn",
		'.':        "", // Common, not allowed
		'A':        "", // nor are capital letters
		'?':        "",
		' ':        "",
		0:          "",
		0xdf:       "ss",
		0xe9:       "e" + acute,
		0xea:       "", // of a script and a whole, not allowed
		0x1ebf:     "e" + hat + acute,
		0x1e3f:     "rn" + acute,
		0x300:      strange, // of no script, a letter
		0x301:      "",      // marks that are allowed, of a script
		0x323:      "",
		0x1d165:    "",
		0xad:       "", // dropped runes that are allowed
		0x200c:     "",
		0x200d:     "", // and Common
		0xb7:       middle,
		0x3c2:      sigma,
		0x3c3:      sigma,
		0x430:      "a",
		0x437:      "abcd",
		0x455:      "",
		0x1e903:    "rnrn",
		0x1e904:    "oa",
		0x1e905:    "rnrn" + dot,
		0x1e90f:    "\U0001e90f",
		0x1e910:    "",
		0xd800:     "",
		0xfffd:     "",
		0x110000:   "",
		-1:         "",
		-1 << 31:   "",
		1<<31 - 1:  "",
		0x10000061: "", // 'a' but for its highest bits
	} {
		got, ok := whole.Piece(b, r)
		if got != want || ok != (want != "") || whole.Letter(b, r) != ok {
			t.Errorf("%#x: %+q, %v, %v, want %+q", r, got, ok, whole.Letter(b, r), want)
		}
	}
}

// U+FFFD is a letter where it is allowed.
func TestP16_1Replacement(t *testing.T) {
	for _, x := range otherTables()[7:9] {
		if got, ok := whole.Piece(bookOf(t, x), api.Bad); got != "\ufffd" || !ok {
			t.Errorf("%+q, %v", got, ok)
		}
	}
}

func TestP16_1NilBook(t *testing.T) {
	for _, r := range []rune{'a', '-', '0', 0x430, 0xe9, 0x301, 0, -1, 0xd800, 0x110000} {
		if got, ok := whole.Piece(nil, r); got != "" || ok || whole.Letter(nil, r) {
			t.Errorf("%#x: %+q, %v", r, got, ok)
		}
	}
}
