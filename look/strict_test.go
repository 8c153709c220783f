package look_test

import (
	"math/rand"
	"strings"
	"testing"

	"guise/api"
	"guise/look"
	"guise/standard"
	"guise/tables"
)

func checkStrict(t *testing.T, x api.Tables, b *tables.Book, s string) {
	t.Helper()
	got, p, e := look.Strict(b, s)
	if want, at, why := wantStrict(x, s); got != want || p != at || e != why {
		t.Errorf("%+q: %+q, %+v, %v, want %+q, %+v, %v", s, got, p, e, want, at, why)
	}
}

func TestP15_3EachText(t *testing.T) {
	b, x := book(t), table()
	eachText(func(s string) { checkStrict(t, x, b, s) })
}

func TestP15_3OtherTables(t *testing.T) {
	for _, x := range append(otherTables()[:6], standard.Book().Tables()) {
		b := bookOf(t, x)
		eachShort(func(s string) { checkStrict(t, x, b, s) })
	}
}

func TestP15_3DrawnTables(t *testing.T) {
	pick := rand.New(rand.NewSource(153))
	for range 50 {
		x := drawTable(pick)
		b := bookOf(t, x)
		for range 20 {
			s := drawRunes(pick)
			checkStrict(t, x, b, s)
			at := pick.Intn(len(s) + 1)
			checkStrict(t, x, b, s[:at]+"\xff"+s[at:]) // within a rune, too: then its parts are bad
		}
	}
}

func TestP15_3Bad(t *testing.T) {
	b := book(t)
	for s, want := range map[string]api.Place{
		"\xff":                      place(0, 0),
		"a\xff":                     place(1, 1),
		"a\xff\xfe":                 place(1, 1),
		small + "m\xc3":             place(3, 2),
		"\ufffd\xef\xbf":            place(3, 1), // the real one is not bad
		zero + acute + "\xd0a":      place(5, 2), // spots that are not seen are spots
		"e" + acute + zero + "\xd0": place(6, 3), // the place is one of the text, not of what becomes of it
		deepest + kelvin + "\xff":   place(7, 2),
		"\xed\xa0\x80":              place(0, 0),
		"a\xf4\x90\x80\x80":         place(1, 1),
		most + "\xf0\x9f\x98":       place(4, 1),
		"\xc3" + zero + "\xa9":      place(0, 0),
		"\xc3\xa9\xa9":              place(2, 1),
	} {
		if got, p, e := look.Strict(b, s); got != "" || p != want || e != api.ErrBad {
			t.Errorf("%+q: %+q, %+v, %v, want %+v", s, got, p, e, want)
		}
	}
}

// The order of refusals: of each two that apply the one that stands ahead, without a place if it has none.
func TestP15_3OrderOfRefusals(t *testing.T) {
	b := book(t)
	long := strings.Repeat("a", api.MaxText+1)
	for n, c := range []struct {
		b    *tables.Book
		s    string
		want api.Errno
	}{
		{nil, "", api.ErrArg},
		{nil, "a", api.ErrArg},
		{nil, "a\xff", api.ErrArg},
		{nil, long, api.ErrArg},
		{nil, long + "\xff", api.ErrArg},
		{b, long, api.ErrLong},
		{b, "a\xff" + long, api.ErrLong},
		{b, long + "\xff", api.ErrLong},
		{b, long + long, api.ErrLong},
	} {
		if got, p, e := look.Strict(c.b, c.s); got != "" || p != (api.Place{}) || e != c.want {
			t.Errorf("%d: %.20q, %+v, %v, want %v", n, got, p, e, c.want)
		}
	}
}

// R10 asks how long the text is that is handed in, in bytes; what it becomes may be longer, or nothing.
func TestP15_3Long(t *testing.T) {
	b, n := book(t), api.MaxText
	for s, want := range map[string]string{
		strings.Repeat("a", n):                 strings.Repeat("a", n),
		strings.Repeat("m", n):                 strings.Repeat("rn", n),
		strings.Repeat(small, n/2):             strings.Repeat("e"+acute, n/2),
		strings.Repeat(deepest, n/4):           strings.Repeat(wantSkeleton(table(), deepest), n/4),
		strings.Repeat(zero, n/3) + "0":        "o",
		strings.Repeat("\ufffd", n/3) + "\x00": strings.Repeat("\ufffd", n/3) + "\x00",
	} {
		if len(s) != n {
			t.Fatalf("%d bytes", len(s))
		}
		if got, p, e := look.Strict(b, s); got != want || p != (api.Place{}) || e != api.OK {
			t.Errorf("%d bytes, %+v, %v, want %d", len(got), p, e, len(want))
		}
		for _, longer := range []string{s + "a", s + "\xff", s + zero, s + s} {
			if got, p, e := look.Strict(b, longer); got != "" || p != (api.Place{}) || e != api.ErrLong {
				t.Errorf("%d bytes of %d, %+v, %v", len(got), len(longer), p, e)
			}
		}
		if got, p, e := look.Strict(b, "a"+s[:n-2]+"\xff"); got != "" || p.Byte == 0 || e != api.ErrBad {
			t.Errorf("%d bytes, %+v, %v", len(got), p, e)
		}
	}
	if _, p, e := look.Strict(b, strings.Repeat("a", n-1)+"\xff"); p != place(n-1, n-1) || e != api.ErrBad {
		t.Errorf("%+v, %v", p, e)
	}
}
