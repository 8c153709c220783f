package norm_test

import (
	"math/rand"
	"slices"
	"strings"
	"testing"

	"guise/api"
	"guise/fold"
	"guise/marks"
	"guise/norm"
	"guise/open"
	"guise/shut"
	"guise/standard"
	"guise/strip"
	"guise/tables"
)

func TestP13_1Passes(t *testing.T) {
	want := []string{"fold", "open", "order", "shut", "strip"}
	for range 20 {
		got := norm.Passes()
		if !slices.Equal(got, want) {
			t.Fatalf("%q", got)
		}
		// What is done to an answer, its spare room included, is not seen in the next one.
		for i := range got[:cap(got)] {
			got[:cap(got)][i] = "x"
		}
	}
}

// Each pass alone is the call of its layer.
func TestP13_1Calls(t *testing.T) {
	calls := map[string]func(*tables.Book, string) string{"fold": fold.Fold, "open": open.Open, "order": marks.Order, "shut": shut.Shut, "strip": strip.Strip}
	for n, x := range append(otherTables(), table(), standard.Book().Tables()) {
		b := bookOf(t, x)
		eachShort(2, func(s string) {
			for name, call := range calls {
				if got, e := norm.Run(b, s, name); got != call(b, s) || e != api.OK {
					t.Errorf("%d: %s of %+q: %+q, %v, want %+q", n, name, s, got, e, call(b, s))
				}
			}
		})
	}
}

// The passes are run in the order in which they are named: all orders of up to three of them, one named twice too.
func TestP13_1Run(t *testing.T) {
	b, x := book(t), table()
	texts := []string{"", "Ae" + acute + dot, great + zero + dot, "E" + tag + hat + acute, sharp + soft + dot, greatBoth + dot + "\xff", dotted + zero, zero + acute + dot + sharpDot, "\xc3" + zero + "\xa9"}
	orders := [][]string{{}}
	for from := 0; len(orders) < 1+5+25+125; from++ {
		for _, name := range norm.Passes() {
			orders = append(orders, append(slices.Clone(orders[from]), name))
		}
	}
	for _, names := range orders {
		for _, s := range texts {
			if got, e := norm.Run(b, s, names...); got != wantRun(x, s, names...) || e != api.OK {
				t.Errorf("%q of %+q: %+q, %v, want %+q", names, s, got, e, wantRun(x, s, names...))
			}
		}
	}
}

func TestP13_1RunDrawn(t *testing.T) {
	pick := rand.New(rand.NewSource(131))
	for range 100 {
		x := drawTable(pick)
		b := bookOf(t, x)
		for range 20 {
			var names []string
			for range pick.Intn(17) {
				names = append(names, norm.Passes()[pick.Intn(5)])
			}
			s := drawRunes(pick)
			if got, e := norm.Run(b, s, names...); got != wantRun(x, s, names...) || e != api.OK {
				t.Errorf("%+v: %q of %+q: %+q, %v, want %+q", x, names, s, got, e, wantRun(x, s, names...))
			}
		}
	}
}

// Without a pass the text stays, whatever it is.
func TestP13_1WithoutPasses(t *testing.T) {
	b := book(t)
	eachShort(2, func(s string) {
		if got, e := norm.Run(b, s); got != s || e != api.OK {
			t.Errorf("%+q: %+q, %v", s, got, e)
		}
		if got, e := norm.Run(b, s, []string{}...); got != s || e != api.OK {
			t.Errorf("%+q, no list: %+q, %v", s, got, e)
		}
	})
}

func TestP13_1NoSuchPass(t *testing.T) {
	b := book(t)
	for _, name := range []string{"", "Fold", "FOLD", "fol", "folds", " fold", "fold ", "fold,shut", "norm", "Strip", "orde", "order\x00", "\xff", "\u017ftrip", "look", "clean", "f\u043eld"} {
		for n := range 16 {
			names := slices.Repeat([]string{"fold"}, 16)
			names[n] = name
			for _, l := range [][]string{names, names[:n+1], names[n:]} {
				if got, e := norm.Run(b, "A", l...); got != "" || e != api.ErrPass {
					t.Errorf("%q: %+q, %v", l, got, e)
				}
			}
		}
	}
}

func TestP13_1Many(t *testing.T) {
	b := book(t)
	for _, name := range norm.Passes() {
		for n, want := range map[int]api.Errno{15: api.OK, 16: api.OK, 17: api.ErrMany, 18: api.ErrMany, 1000: api.ErrMany} {
			text := ""
			if want == api.OK {
				text = wantRun(table(), great+zero+acute+dot, name)
			}
			if got, e := norm.Run(b, great+zero+acute+dot, slices.Repeat([]string{name}, n)...); got != text || e != want {
				t.Errorf("%d times %s: %+q, %v", n, name, got, e)
			}
		}
	}
}

// The order of refusals: of each two that apply the one that stands ahead.
func TestP13_1OrderOfRefusals(t *testing.T) {
	b := book(t)
	long := strings.Repeat("A", api.MaxText+1)
	many, none := slices.Repeat([]string{"fold"}, 17), []string{"Fold"}
	manyNone := slices.Repeat(none, 17)
	for n, c := range []struct {
		b     *tables.Book
		s     string
		names []string
		want  api.Errno
	}{
		{nil, "A", nil, api.ErrArg},
		{nil, "", []string{"fold"}, api.ErrArg},
		{nil, long, nil, api.ErrArg},
		{nil, "A", many, api.ErrArg},
		{nil, "A", none, api.ErrArg},
		{nil, long, manyNone, api.ErrArg},
		{b, long, nil, api.ErrLong},
		{b, long, []string{"fold"}, api.ErrLong},
		{b, long, many, api.ErrLong},
		{b, long, none, api.ErrLong},
		{b, long, manyNone, api.ErrLong},
		{b, "A", many, api.ErrMany},
		{b, "A", manyNone, api.ErrMany},
		{b, "A", append(slices.Clone(many), "x"), api.ErrMany},
		{b, "", none, api.ErrPass},
	} {
		if got, e := norm.Run(c.b, c.s, c.names...); got != "" || e != c.want {
			t.Errorf("%d: %.20q, %v, want %v", n, got, e, c.want)
		}
	}
}

// R10 asks how long the text is that is handed in, in bytes; what the passes make of it, and hand on, may be longer.
func TestP13_1Long(t *testing.T) {
	b, n := book(t), api.MaxText
	for _, c := range []struct {
		s     string
		names []string
		want  string
	}{
		{strings.Repeat("A", n), nil, strings.Repeat("A", n)},
		{strings.Repeat("A", n), []string{"fold"}, strings.Repeat("a", n)},
		{strings.Repeat("\xff", n), []string{"strip", "open", "order"}, strings.Repeat("\ufffd", n)},
		{strings.Repeat(grin, n/4), []string{"fold", "shut", "fold", "strip"}, strings.Repeat(fourWide, n/4)},
		{strings.Repeat(great, n/2), []string{"open", "fold", "shut"}, strings.Repeat(small, n/2)},
		{"e" + strings.Repeat(zero, n/3), []string{"strip"}, "e"},
	} {
		if len(c.s) != n {
			t.Fatalf("%d bytes", len(c.s))
		}
		if got, e := norm.Run(b, c.s, c.names...); got != c.want || e != api.OK {
			t.Errorf("%q: %d bytes, %v, want %d", c.names, len(got), e, len(c.want))
		}
		for _, longer := range []string{c.s + "a", c.s + "\xff", c.s + zero, c.s + c.s} {
			if got, e := norm.Run(b, longer, c.names...); got != "" || e != api.ErrLong {
				t.Errorf("%q: %d bytes of %d, %v", c.names, len(got), len(longer), e)
			}
		}
	}
}

// R2: the names stay as they are, and what stands behind them in their list is neither read nor written.
func TestP13_1NamesStay(t *testing.T) {
	b := book(t)
	l := []string{"open", "fold", "nothing", "strip"}
	if got, e := norm.Run(b, great, l[:2]...); got != "e"+acute || e != api.OK {
		t.Errorf("%+q, %v", got, e)
	}
	if !slices.Equal(l, []string{"open", "fold", "nothing", "strip"}) {
		t.Errorf("%q", l)
	}
}
