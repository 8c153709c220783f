package rules_test

import (
	"errors"
	"math"
	"testing"

	"guise/api"
	"guise/rules"
)

const placed = "allow { 'a'..'b'\n 'c' } fold 'A' = 'a';\n# \u00e9\n\tscript x { 'p' 'q' } look '\u00e9' = 'e'; look 'm' = 'r' 'n';\ncommon { } common { U+0030 } mark U+0301 1;\npair 'a' = 'b' + 'c';allow{'d'}\ndrop { '\u20ac''\u20ac' } script y { }\n\n"

func TestP5_4Where(t *testing.T) {
	x := parse(t, placed)
	for _, c := range []struct {
		list int
		want []api.At
	}{
		{api.LScripts, []api.At{at(46, 4, 2), at(200, 7, 17)}},
		{api.LCommon, []api.At{at(124, 5, 21)}},
		{api.LMarks, []api.At{at(133, 5, 30)}},
		{api.LPairs, []api.At{at(148, 6, 1)}},
		{api.LFolds, []api.At{at(24, 2, 8)}},
		{api.LLooks, []api.At{at(67, 4, 23), at(84, 4, 39)}},
		{api.LDrops, []api.At{at(187, 7, 8), at(192, 7, 11)}},
		{api.LAllowed, []api.At{at(8, 1, 9), at(18, 2, 2), at(175, 6, 28)}},
	} {
		for row, want := range c.want {
			if p := x.Where(c.list, row); p != want {
				t.Errorf("Where(%d, %d): %+v, want %+v", c.list, row, p, want)
			}
		}
	}
	check(t, placed)
}

func TestP5_4NoSuchRow(t *testing.T) {
	x, end := parse(t, placed), at(len(placed), 9, 1)
	for list := api.LScripts; list <= api.LAllowed; list++ {
		for _, row := range []int{-1, 3, math.MinInt, math.MaxInt, 1 << 32} {
			if p := x.Where(list, row); p != end {
				t.Errorf("Where(%d, %d): %+v", list, row, p)
			}
		}
	}
	for _, list := range []int{0, -1, api.LAllowed + 1, math.MinInt, math.MaxInt, 1<<32 + 1} {
		if p := x.Where(list, 0); p != end {
			t.Errorf("Where(%d, 0): %+v", list, p)
		}
	}
	if p := parse(t, "").Where(api.LScripts, 0); p != at(0, 1, 1) {
		t.Errorf("of the empty text: %+v", p)
	}
}

func TestP5_5Find(t *testing.T) {
	x := parse(t, placed)
	for why := api.Errno(-1); why < 90; why++ {
		for list := -1; list < 11; list++ {
			for row := -1; row < 4; row++ {
				err := x.Find(api.Wrong{Why: why, List: list, Row: row})
				if why == api.OK {
					if err != nil {
						t.Errorf("OK, %d, %d: %v", list, row, err)
					}
					continue
				}
				var r *rules.Refusal
				if !errors.As(err, &r) || *r != (rules.Refusal{At: x.Where(list, row), Why: why}) || !errors.Is(err, why) || r.Error() == "" {
					t.Errorf("%v, %d, %d: %v", why, list, row, err)
				}
			}
		}
	}
	w := api.Wrong{Why: api.ErrPair, List: api.LPairs}
	if x.Find(w) == x.Find(w) {
		t.Errorf("one Refusal for two calls")
	}
}
