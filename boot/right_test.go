package boot_test

import (
	"math"
	"testing"

	"guise/api"
	"guise/boot"
)

func TestP17_1House(t *testing.T) {
	if p := boot.House(); p != house() || !boot.Right(p) {
		t.Errorf("%+v", p)
	}
	if boot.MaxRunes != 4096 {
		t.Error(boot.MaxRunes)
	}
}

func TestP17_1Right(t *testing.T) {
	for _, p := range params() {
		if !boot.Right(p) {
			t.Errorf("%+v", p)
		}
	}
	if boot.Right(boot.Params{}) {
		t.Error("of noughts")
	}
}

// Each number by itself, over its edges and far from them.
func TestP17_1EachField(t *testing.T) {
	edges := []int{math.MinInt, math.MinInt32, -1000, -1, 0, 1, 2, 3, 4, 24, 33, 34, 35, 36, 37, 72, 999, 1000, 1001, 9999, 10000, 10001, math.MaxInt32, 1 << 32, math.MaxInt}
	sets := []func(p *boot.Params, n int){
		func(p *boot.Params, n int) { p.Base = n },
		func(p *boot.Params, n int) { p.Low = n },
		func(p *boot.Params, n int) { p.High = n },
		func(p *boot.Params, n int) { p.Skew = n },
		func(p *boot.Params, n int) { p.Damp = n },
		func(p *boot.Params, n int) { p.Bias = n },
	}
	for i, set := range sets {
		taken := 0
		for _, n := range edges {
			p := house()
			set(&p, n)
			if ok := boot.Right(p); ok != wantRight(p) {
				t.Errorf("%+v: %v", p, ok)
			} else if ok {
				taken++
			}
			checkRefused(t, p)
		}
		if taken == 0 || taken == len(edges) {
			t.Errorf("field %d: %d are taken", i, taken)
		}
	}
}

// Base, Low and High lean on one another.
func TestP17_1Together(t *testing.T) {
	for base := -1; base <= 39; base++ {
		for low := -1; low <= 39; low++ {
			for high := -1; high <= 39; high++ {
				p := house()
				p.Base, p.Low, p.High = base, low, high
				if ok := boot.Right(p); ok != wantRight(p) {
					t.Fatalf("%+v: %v", p, ok)
				}
			}
		}
	}
	for _, p := range []boot.Params{
		{Base: math.MinInt, Low: 1, High: 1, Skew: 1, Damp: 2, First: 0x80}, // the base less 2 is no number to go by
		{Base: math.MinInt + 1, Low: 1, High: math.MaxInt, Skew: 1, Damp: 2, First: 0x80},
		{Base: 36, Low: math.MinInt, High: math.MinInt, Skew: 1, Damp: 2, First: 0x80},
		{Base: 36, Low: math.MaxInt, High: math.MaxInt, Skew: 1, Damp: 2, First: 0x80},
	} {
		if boot.Right(p) {
			t.Errorf("%+v", p)
		}
		checkRefused(t, p)
	}
}

func TestP17_1First(t *testing.T) {
	for r, want := range map[rune]bool{
		math.MinInt32: false, -1: false, 0: false, 'a': false, 0x7f: false, 0x80: true, 0x81: true, 0xd7ff: true,
		0xd800: false, 0xdbff: false, 0xdfff: false, 0xe000: true, 0xfffd: true, 0x10ffff: true, 0x110000: false, math.MaxInt32: false,
	} {
		if boot.Right(with(r)) != want {
			t.Errorf("%x: %v", r, !want)
		}
		checkRefused(t, with(r))
	}
}

// checkRefused: what isn't right is refused ahead of all else, and nothing that is right.
func checkRefused(t *testing.T, p boot.Params) {
	t.Helper()
	for _, s := range []string{"", "a", "a-", "A", "-", "\xff", "z", "999999999"} {
		a, e := boot.Encode(p, s)
		b, at, f := boot.Decode(p, s)
		if right := wantRight(p); (e == api.ErrArg) == right || (f == api.ErrArg) == right {
			t.Errorf("%+v, %q: %v, %v", p, s, e, f)
		} else if !right && (a != "" || b != "" || at != 0) {
			t.Errorf("%+v, %q: %q, %q, %d", p, s, a, b, at)
		}
	}
}
