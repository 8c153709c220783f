package label_test

import (
	"strconv"
	"strings"
	"testing"

	"guise/api"
	"guise/label"
	"guise/standard"
	"guise/tables"
)

func TestP18_1Check(t *testing.T) {
	met, taken := map[api.Errno]int{}, 0
	eachOf(t, func(x api.Tables, b *tables.Book, s string) {
		want := wantTold(x, s)
		tell(t, strconv.QuoteToASCII(s), label.Check(b, s), want)
		met[want.why]++
		if want == (told{}) {
			taken++
		}
	})
	for _, e := range []api.Errno{api.ErrEmpty, api.ErrBad, api.ErrNormal, api.ErrAllow, api.ErrHyphen, api.ErrMark, api.ErrMixed, api.ErrLong} {
		if met[e] == 0 {
			t.Errorf("%v is never told", e)
		}
	}
	if taken < 1000 {
		t.Errorf("%d are taken", taken)
	}
}

func TestP18_1ByHand(t *testing.T) {
	b := book(t)
	for s, want := range map[string]told{
		"":                        {why: api.ErrEmpty},
		"\xff":                    {why: api.ErrBad},
		small + "-\xc3":           {place(3, 2), api.ErrBad},
		"-A" + small + "\xff":     {place(4, 3), api.ErrBad}, // of many refusals the first rule's
		"A":                       {why: api.ErrNormal},
		small + "A.":              {place(2, 1), api.ErrNormal},
		"e" + acute:               {why: api.ErrNormal},
		"a" + zero + "b":          {place(1, 1), api.ErrNormal}, // dropped, so that it is allowed helps nothing
		"s" + sharp:               {place(1, 1), api.ErrNormal},
		"a" + acute + dot:         {place(1, 1), api.ErrNormal},
		".":                       {why: api.ErrAllow},
		"-" + small + "." + hat:   {place(3, 2), api.ErrAllow},
		"-" + quote:               {place(1, 1), api.ErrAllow},
		"a" + hatted:              {place(1, 1), api.ErrAllow},
		"a\ufffd":                 {place(1, 1), api.ErrAllow},
		"a\x7f":                   {place(1, 1), api.ErrAllow},
		"a_b":                     {place(1, 1), api.ErrAllow},
		"-":                       {why: api.ErrHyphen},
		"--":                      {why: api.ErrHyphen},
		"-a-":                     {why: api.ErrHyphen},
		"-" + ah + "a":            {why: api.ErrHyphen},
		small + "-":               {place(2, 1), api.ErrHyphen},
		small + small + "-":       {place(4, 2), api.ErrHyphen},
		small + small + "--":      {place(5, 3), api.ErrHyphen}, // the last one is named ahead of the third one
		"a---b":                   {place(2, 2), api.ErrHyphen},
		small + small + "--a-":    {place(7, 5), api.ErrHyphen},
		small + small + "--" + ah: {place(4, 2), api.ErrHyphen},
		far + "1--1":              {place(5, 2), api.ErrHyphen},
		"xq--a":                   {place(2, 2), api.ErrHyphen},
		acute + "-":               {place(2, 1), api.ErrHyphen},
		acute:                     {why: api.ErrMark},
		dot + "a" + ah:            {why: api.ErrMark},
		"a" + ah:                  {place(1, 1), api.ErrMixed},
		"1-" + small + acute + ah: {place(6, 4), api.ErrMixed},
		strange:                   {why: api.ErrMixed},
		"1" + strange + "a":       {place(1, 1), api.ErrMixed},
		sun + no + "\u4e00a":      {place(9, 3), api.ErrMixed},
		strings.Repeat("a", 64):   {why: api.ErrLong},
		strings.Repeat("1", 64):   {why: api.ErrLong},
	} {
		tell(t, strconv.QuoteToASCII(s), label.Check(b, s), want)
	}
	for _, s := range []string{
		"a", "1", "1-1", "a-b", "a--b", "ab-c-d", "abc--d", "a1-2b", "ab1--a",
		small, small + acute, "a" + dot + acute, "x" + acute, middle, middle + "a", "1" + ah + "2", sun, sun + no, no + sun, wide + ah, far, "\u0080",
		"a-" + small + "--b", strings.Repeat("a", 63), strings.Repeat("1-", 31) + "1", "xq-a", "xq1--a", "x--q",
	} {
		tell(t, strconv.QuoteToASCII(s), label.Check(b, s), told{})
	}
}

// The hyphens' places are counted by spots, whatever their bytes are: all texts of few spots, each a hyphen or not.
func TestP18_1Hyphens(t *testing.T) {
	x := otherTables()[7] // all is allowed, and of every script
	b := bookOf(t, x)
	for _, one := range []string{"a", "\u0101", no, far} {
		for n := range 1 << 7 {
			for length := range 7 {
				s := ""
				for i := range length {
					s += []string{one, "-"}[n>>i&1]
				}
				tell(t, strconv.QuoteToASCII(s), label.Check(b, s), wantTold(x, s))
			}
		}
	}
}

// Between the rule of the text's length and that of the form's stand all others.
func TestP18_1Long(t *testing.T) {
	b, far := book(t), strings.Repeat("a", api.MaxText)
	for _, c := range []struct {
		s    string
		want told
	}{
		{far, told{why: api.ErrLong}},
		{far + "a", told{why: api.ErrLong}},
		{far + "\xff", told{why: api.ErrLong}},
		{"A" + far, told{why: api.ErrLong}},
		{"A" + far[1:], told{why: api.ErrNormal}},
		{far[1:] + "\xff", told{place(api.MaxText-1, api.MaxText-1), api.ErrBad}},
		{far[1:] + ".", told{place(api.MaxText-1, api.MaxText-1), api.ErrAllow}},
		{far[1:] + "-", told{place(api.MaxText-1, api.MaxText-1), api.ErrHyphen}},
		{far[2:] + ah, told{place(api.MaxText-2, api.MaxText-2), api.ErrMixed}},
		{strings.Repeat(sun, api.MaxText/3), told{why: api.ErrLong}}, // more than boot writes
		{strings.Repeat(sun, api.MaxText/3) + no, told{why: api.ErrLong}},
		{strings.Repeat(sun, api.MaxText/3) + "a", told{place(api.MaxText-1, api.MaxText/3), api.ErrMixed}},
		{strings.Repeat(sun, 4096), told{why: api.ErrLong}},
		{strings.Repeat(sun, 4097), told{why: api.ErrLong}},
		{strings.Repeat("a", 4096) + small, told{why: api.ErrLong}},
		{strings.Repeat("a", 4095) + small, told{why: api.ErrLong}},
	} {
		tell(t, strconv.Itoa(len(c.s)), label.Check(b, c.s), c.want)
	}
}

// The form's length decides, not the text's: of each text that grows by a rune, the last one whose form is no longer is taken.
func TestP18_1FormsLength(t *testing.T) {
	b := book(t)
	for _, c := range []struct{ head, more string }{{"", "a"}, {"", small}, {"a", small}, {small, "a"}, {ah, "1"}, {sun, no}, {"", "\u4e00"}, {"", far}, {"", wide}, {"1-", "\u9fff"}} {
		met := map[int]int{}
		for n := 1; n < 70; n++ {
			s := c.head + strings.Repeat(c.more, n)
			form := wantForm(s)
			met[len(form)] = 1
			want := told{}
			if len(form) > 63 {
				want.why = api.ErrLong
			}
			tell(t, strconv.QuoteToASCII(s), label.Check(b, s), want)
			if got, err := label.ASCII(b, s); err == nil && got != form {
				t.Errorf("%+q: %q, want %q", s, got, form)
			}
		}
		if met[63] == 0 || met[64] == 0 {
			t.Errorf("%+q: no form is of just as many bytes as may be", c.head+c.more)
		}
	}
}

func TestP18_1NilBook(t *testing.T) {
	for _, s := range []string{"", "a", "A", "\xff", strings.Repeat("a", api.MaxText+1)} {
		tell(t, strconv.Itoa(len(s)), label.Check(nil, s), told{why: api.ErrArg})
	}
}

// A table says what is normal, allowed, a mark, of a script: under others the same text is another thing.
func TestP18_1OtherTables(t *testing.T) {
	l := otherTables()
	for _, c := range []struct {
		x    api.Tables
		s    string
		want told
	}{
		{l[0], "1-1", told{}},
		{l[0], "a", told{why: api.ErrMixed}}, // without scripts what is bound is of none
		{l[0], "A", told{why: api.ErrAllow}},
		{l[0], small, told{why: api.ErrAllow}},
		{l[1], "1" + middle, told{}},
		{l[1], "1a", told{place(1, 1), api.ErrMixed}},
		{l[2], "aA", told{place(1, 1), api.ErrAllow}},
		{l[2], sharp, told{why: api.ErrMixed}},
		{l[3], "a" + zero, told{place(1, 1), api.ErrMixed}},
		{l[4], "e" + acute, told{place(1, 1), api.ErrMixed}},
		{l[5], "a\ufffd", told{}},
		{l[5], "a\xef", told{place(1, 1), api.ErrBad}},
		{l[5], ah + "\ufffd", told{place(2, 1), api.ErrMixed}},
		{l[6], ah + "\ufffd", told{}},
		{l[6], "\ufffd\ufffd\ufffd", told{}},
		{l[7], "a" + ah + sun, told{}},
	} {
		tell(t, strconv.QuoteToASCII(c.s), label.Check(bookOf(t, c.x), c.s), c.want)
	}
}

func TestP18_1House(t *testing.T) {
	b := standard.Book()
	for s, want := range map[string]told{
		"p\u0430ypal":        {place(1, 1), api.ErrMixed},
		"\u03b1\u0430":       {place(2, 1), api.ErrMixed},
		"Ma":                 {why: api.ErrNormal},
		"ma\u00adm":          {place(2, 2), api.ErrNormal},
		"stra\u00dfe":        {place(4, 4), api.ErrNormal},
		"\u0335a":            {why: api.ErrMixed}, // allowed, but no mark, and of no script
		"a\u0338":            {},
		"l\u00b7l":           {},
		"\u30fc":             {},
		"\u30fc\u3042\u65e5": {},
		"\u65e5\u30fcb":      {place(6, 2), api.ErrMixed},
	} {
		tell(t, strconv.QuoteToASCII(s), label.Check(b, s), want)
	}
}
