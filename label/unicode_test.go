package label_test

import (
	"math/rand"
	"strconv"
	"strings"
	"testing"

	"guise/api"
	"guise/boot"
	"guise/label"
	"guise/tables"
)

func checkUnicode(t *testing.T, x api.Tables, b *tables.Book, a string) {
	t.Helper()
	want, no := wantUnicode(x, a)
	got, err := label.Unicode(b, a)
	tell(t, strconv.QuoteToASCII(a), err, no)
	if got != want {
		t.Errorf("%+q: %+q, want %+q", a, got, want)
	}
}

func TestP18_3Unicode(t *testing.T) {
	eachOf(t, func(x api.Tables, b *tables.Book, s string) {
		checkUnicode(t, x, b, s)
		checkUnicode(t, x, b, "xq--"+s)
	})
}

// Forms of texts, of labels and of others, and what they become by a byte that is put in, taken out or changed.
func TestP18_3Forms(t *testing.T) {
	pick, met, taken := rand.New(rand.NewSource(183)), map[api.Errno]int{}, 0
	for n, x := range append([]api.Tables{table()}, otherTables()...) {
		b := bookOf(t, x)
		for range 6000 / (n + 1) {
			tail, e := boot.Encode(boot.House(), drawText(pick))
			if e != api.OK {
				continue
			}
			a := "xq--" + tail
			if pick.Intn(2) > 0 {
				at := pick.Intn(len(a) + 1)
				a = a[:at] + strings.Repeat("abz09-A\xff"[pick.Intn(8):][:1], pick.Intn(3)) + a[min(len(a), at+pick.Intn(2)):]
			}
			checkUnicode(t, x, b, a)
			if _, no := wantUnicode(x, a); no == (told{}) {
				taken++
			} else {
				met[no.why]++
			}
		}
	}
	for _, e := range []api.Errno{api.ErrLong, api.ErrDigit, api.ErrEnd, api.ErrPlainA, api.ErrNormal, api.ErrAllow, api.ErrHyphen, api.ErrMixed} {
		if met[e] == 0 {
			t.Errorf("%v is never told", e)
		}
	}
	if taken < 300 {
		t.Errorf("%d are taken", taken)
	}
}

// formOf writes what may be no label's form.
func formOf(t *testing.T, s string) string {
	t.Helper()
	tail, e := boot.Encode(boot.House(), s)
	if e != api.OK {
		t.Fatalf("%+q: %v", s, e)
	}
	return "xq--" + tail
}

func TestP18_3ByHand(t *testing.T) {
	b := book(t)
	for a, want := range map[string]told{
		"":                               {why: api.ErrEmpty},
		small:                            {why: api.ErrPlainA},
		"a" + small:                      {place(1, 1), api.ErrPlainA},
		"A-" + small + "\xff":            {place(2, 2), api.ErrPlainA}, // ahead of what Check says
		"A\xff" + small:                  {place(1, 1), api.ErrPlainA},
		"a\u0080":                        {place(1, 1), api.ErrPlainA},
		"\x7f":                           {why: api.ErrAllow},
		"aA":                             {place(1, 1), api.ErrNormal},
		"-a":                             {why: api.ErrHyphen},
		"a-":                             {place(1, 1), api.ErrHyphen},
		"ab--c":                          {place(2, 2), api.ErrHyphen},
		"xq-a-":                          {place(4, 4), api.ErrHyphen},
		"xq-":                            {place(2, 2), api.ErrHyphen},
		"Aq--a":                          {why: api.ErrNormal},
		"Xq--a":                          {why: api.ErrAllow}, // X is not folded here
		"xQ--a":                          {place(1, 1), api.ErrAllow},
		" xq--a":                         {why: api.ErrAllow},
		"axq--a-":                        {place(6, 6), api.ErrHyphen},
		"xq--":                           {why: api.ErrPlainA},
		"xq--abc-":                       {why: api.ErrPlainA},
		"xq----":                         {why: api.ErrPlainA},
		"xq---":                          {place(4, 4), api.ErrSpell},
		"xq---a":                         {place(4, 4), api.ErrSpell},
		"xq--A":                          {place(4, 4), api.ErrDigit},
		"xq--a\xff":                      {place(5, 5), api.ErrDigit},
		"xq--ab" + small + "-a":          {place(6, 6), api.ErrDigit},
		"xq--a-b.":                       {place(7, 7), api.ErrDigit},
		"xq--z":                          {place(5, 5), api.ErrEnd},
		"xq--9999999":                    {place(8, 8), api.ErrOver},
		formOf(t, "a"+ah):                {place(1, 1), api.ErrMixed},
		formOf(t, "1"+sun+ah):            {place(4, 2), api.ErrMixed},
		formOf(t, "e"+acute):             {why: api.ErrNormal},
		formOf(t, "ab"+great):            {place(2, 2), api.ErrNormal},
		formOf(t, small+zero):            {place(2, 1), api.ErrNormal},
		formOf(t, sun+hatted):            {place(3, 1), api.ErrAllow},
		formOf(t, "-"+small):             {why: api.ErrHyphen},
		formOf(t, small+"-"):             {place(2, 1), api.ErrHyphen},
		formOf(t, small+"a--b"):          {place(3, 2), api.ErrHyphen},
		formOf(t, acute+"a"):             {why: api.ErrMark},
		strings.Repeat("a", 64):          {why: api.ErrLong},
		strings.Repeat(small, 32):        {why: api.ErrLong},
		strings.Repeat("\xff", 64):       {why: api.ErrLong},
		"xq--" + strings.Repeat("a", 60): {why: api.ErrLong},
	} {
		got, err := label.Unicode(b, a)
		tell(t, strconv.QuoteToASCII(a), err, want)
		if got != "" {
			t.Errorf("%+q: %+q", a, got)
		}
	}
	for a, want := range map[string]string{
		"a":                              "a",
		"a--b":                           "a--b",
		"xq-a":                           "xq-a",
		"xq1--a":                         "xq1--a",
		"xq--a":                          "\u0080",
		"xq--a-b":                        "a\u0080",
		formOf(t, "a-"+small):            "a-" + small,
		formOf(t, sun+no+"-1"):           sun + no + "-1",
		strings.Repeat("a", 63):          strings.Repeat("a", 63),
		"xq--" + strings.Repeat("a", 59): strings.Repeat("\u0080", 59),
	} {
		if got, err := label.Unicode(b, a); got != want || err != nil {
			t.Errorf("%+q: %+q, %v, want %+q", a, got, err, want)
		}
	}
}

// What is told of a surrogate is told at the last digit of its number.
func TestP18_3Surrogate(t *testing.T) {
	b := bookOf(t, otherTables()[7])
	low, high := formOf(t, "\ud7ff"), formOf(t, "\ue000")
	if len(low) != len(high) {
		t.Fatalf("%s, %s", low, high)
	}
	met := 0
	for _, x := range "abcdefghijklmnopqrstuvwxyz0123456789" {
		for _, y := range "abcdefghijklmnopqrstuvwxyz0123456789" {
			a := low[:4] + string(x) + string(y) + low[6:]
			if _, at, e := boot.Decode(boot.House(), a[4:]); e == api.ErrRune {
				_, err := label.Unicode(b, a)
				tell(t, a, err, told{place(4+at, 4+at), e})
				met++
			}
		}
	}
	if met == 0 {
		t.Errorf("no surrogate is met beside %s", low)
	}
}

func TestP18_3NilBook(t *testing.T) {
	for _, a := range []string{"", "a", small, "xq--", "xq--A", strings.Repeat("a", 64)} {
		s, err := label.Unicode(nil, a)
		tell(t, a, err, told{why: api.ErrArg})
		if s != "" {
			t.Errorf("%q: %q", a, s)
		}
	}
}
