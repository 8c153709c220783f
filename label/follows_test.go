package label_test

import (
	"errors"
	"math/rand"
	"strings"
	"testing"

	"guise/api"
	"guise/label"
	"guise/norm"
	"guise/script"
	"guise/standard"
	"guise/tables"
	"guise/utf"
)

// eachBook calls with the tables' Books and the house's, and texts.
func eachBook(t *testing.T, call func(b *tables.Book, s string)) {
	t.Helper()
	eachOf(t, func(_ api.Tables, b *tables.Book, s string) { call(b, s) })
	house := standard.Book()
	eachShort(2, func(s string) { call(house, s) })
	eachDrawn(1500, func(s string) { call(house, s) })
}

func TestP18_5ThereAndBack(t *testing.T) {
	labels := map[*tables.Book]int{}
	eachBook(t, func(b *tables.Book, s string) {
		form, err := label.ASCII(b, s)
		if err != nil {
			return
		}
		labels[b]++
		if back, err := label.Unicode(b, form); back != s || err != nil {
			t.Errorf("%+q: its form %q says %+q, %v", s, form, back, err)
		}
		if script.Level(b, form) != script.ASCII || len(form) > api.MaxLabel || form == "" {
			t.Errorf("%+q: its form is %q", s, form)
		}
		if is := label.Check(b, form) == nil; is != (form == s) {
			t.Errorf("%+q: %v that its form %q is a label", s, is, form)
		}
	})
	for _, n := range labels {
		if n < 10 {
			t.Errorf("a Book has %d labels among the texts", n)
		}
	}
}

func TestP18_5BackAndThere(t *testing.T) {
	taken := 0
	check := func(b *tables.Book, a string) {
		s, err := label.Unicode(b, a)
		if err != nil {
			return
		}
		taken++
		if form, err := label.ASCII(b, s); form != a || err != nil {
			t.Errorf("%q: says %+q, whose form is %q, %v", a, s, form, err)
		}
	}
	eachBook(t, func(b *tables.Book, s string) { check(b, s) })
	pick, wide := rand.New(rand.NewSource(185)), bookOf(t, otherTables()[7])
	for range 20000 {
		var a strings.Builder
		for range pick.Intn(9) {
			a.WriteByte("abcdefghijklmnopqrstuvwxyz0123456789-"[pick.Intn(37)])
		}
		check(wide, "xq--"+a.String())
		check(wide, a.String())
	}
	if taken < 10000 {
		t.Errorf("%d are taken", taken)
	}
}

func TestP18_5OneForm(t *testing.T) {
	was := map[*tables.Book]map[string]string{}
	eachBook(t, func(b *tables.Book, s string) {
		form, err := label.ASCII(b, s)
		if err != nil {
			return
		}
		if was[b] == nil {
			was[b] = map[string]string{}
		}
		if other, met := was[b][form]; met && other != s {
			t.Errorf("%+q and %+q have one form, %q", s, other, form)
		}
		was[b][form] = s
	})
}

func TestP18_6Repaired(t *testing.T) {
	eachBook(t, func(b *tables.Book, s string) {
		got, ok := label.Repair(b, s)
		switch {
		case ok && label.Check(b, got) != nil:
			t.Errorf("%+q: %+q is no label", s, got)
		case label.Check(b, s) == nil && (got != s || !ok):
			t.Errorf("%+q: %+q, %v", s, got, ok)
		}
	})
}

// What the lower layers say of a label.
func TestP18_1Labels(t *testing.T) {
	eachBook(t, func(b *tables.Book, s string) {
		if label.Check(b, s) != nil {
			return
		}
		_, valid := utf.Valid(s)
		_, mixed := script.Stop(b, s)
		if !valid || mixed || norm.Norm(b, s) != s || strings.ContainsAny(s, ".ABC ") {
			t.Errorf("%+q is a label", s)
		}
	})
}

// The table of the chapter's runs.
func TestRuns(t *testing.T) {
	b := standard.Book()
	for _, c := range []struct {
		s, form string
		no      told
	}{
		{"abc", "abc", told{}},
		{"A", "", told{why: api.ErrNormal}},
		{"-a", "", told{why: api.ErrHyphen}},
		{"a--b", "a--b", told{}},
		{"ab--c", "", told{place(2, 2), api.ErrHyphen}},
		{"", "", told{why: api.ErrEmpty}},
		{"a\xff", "", told{place(1, 1), api.ErrBad}},
		{"\u0301a", "", told{why: api.ErrMark}},
	} {
		form, err := label.ASCII(b, c.s)
		tell(t, c.s, err, c.no)
		if form != c.form {
			t.Errorf("%+q: %q", c.s, form)
		}
	}
	_, err := label.Unicode(b, "xq--")
	tell(t, "the prefix alone", err, told{why: api.ErrPlainA})
	_, err = label.Unicode(b, "xq--abc")
	_, no := wantUnicode(standard.Book().Tables(), "xq--abc")
	tell(t, "numbers", err, no)
	_, err = label.Unicode(b, "xq--abc-")
	tell(t, "no numbers", err, told{why: api.ErrPlainA})
	if s, ok := label.Repair(b, " -A!b- "); s != "ab" || !ok {
		t.Errorf("%q, %v", s, ok)
	}
}

func TestExamples(t *testing.T) {
	b := standard.Book()
	tell(t, "64 letters", label.Check(b, strings.Repeat("a", 64)), told{why: api.ErrLong})
	for _, s := range []string{"abc123", "\u0430\u0431\u04321", "\u03b1\u03b22", "\u05d0\u05d13", "\u4e00\u4e014"} {
		tell(t, s, label.Check(b, s), told{})
	}
	tell(t, "latin and cyrillic", label.Check(b, "a\u0431"), told{place(1, 1), api.ErrMixed})
}

// Whatever is handed in, each call ends and none panics, and beside a refusal nothing is told.
func TestR1Anything(t *testing.T) {
	odd := []string{"", "\x00", "\xff\xfe", "-", "----", "xq--", "xq---", "xq--\xff", label.Prefix + label.Prefix, strings.Repeat("-", 70000), strings.Repeat("\xff", 70000), strings.Repeat(acute, 40000), strings.Repeat(far, 20000), "xq--" + strings.Repeat("9", 59)}
	l := []*tables.Book{nil, book(t), standard.Book()}
	for _, x := range otherTables() {
		l = append(l, bookOf(t, x))
	}
	for _, b := range l {
		for _, s := range odd {
			err := label.Check(b, s)
			form, no := label.ASCII(b, s)
			if (err == nil) != (no == nil) || no != nil && form != "" {
				t.Errorf("%d bytes: %v, %q, %v", len(s), err, form, no)
			}
			if s, err := label.Unicode(b, s); err != nil && s != "" {
				t.Errorf("%q, %v", s, err)
			}
			if s, ok := label.Repair(b, s); !ok && s != "" {
				t.Errorf("%q", s)
			}
		}
	}
}

func TestPrefix(t *testing.T) {
	if label.Prefix != "xq--" {
		t.Errorf("%q", label.Prefix)
	}
}

// A refusal's number is found, and of others none; its text tells where.
func TestR8Refusal(t *testing.T) {
	err := label.Check(book(t), "ab.")
	var r *label.Refusal
	if !errors.As(err, &r) || !errors.Is(err, api.ErrAllow) || errors.Is(err, api.OK) || errors.Is(err, api.ErrBad) {
		t.Errorf("%#v", err)
	}
	if text := err.Error(); !strings.Contains(text, "2") {
		t.Errorf("%q", text)
	}
}
