package tests

import (
	"fmt"
	"math"
	"slices"
	"testing"

	"loop.example/g03017/impl"
)

func gust(from, x, y int) impl.Gust {
	return impl.Gust{From: from, Drift: at(x, y)}
}

func wind(gusts ...impl.Gust) []impl.Gust {
	return gusts
}

func rose(drifts ...impl.Place) []impl.Place {
	return drifts
}

func TestLimitsOfWinds(t *testing.T) {
	if impl.MaxTicks != 64 || impl.MaxGusts != 8 || impl.MaxDrift != 8 || impl.MaxRose != 4 {
		t.Error(impl.MaxTicks, impl.MaxGusts, impl.MaxDrift, impl.MaxRose)
	}
}

// gustsFrom has n gusts, one every step ticks from the tick first on, each with another drift than the one before.
func gustsFrom(first, step, n int) []impl.Gust {
	var w []impl.Gust
	for i := range n {
		w = append(w, gust(first+i*step, i%3-1, 8-2*i))
	}
	return w
}

func someWinds() [][]impl.Gust {
	return [][]impl.Gust{
		nil, {}, wind(gust(0, 0, 0)), wind(gust(0, 1, -2)), wind(gust(1, 1, -2)), wind(gust(63, 3, 0)), wind(gust(64, 0, 5)), wind(gust(64, 0, 0)),
		wind(gust(2, 1, 0), gust(5, -2, 3)), wind(gust(0, 8, 8), gust(64, -8, -8)), wind(gust(0, -8, 8), gust(1, 8, -8)), wind(gust(63, 1, 1), gust(64, 1, 2)),
		// Gusts that change nothing: a first one of 0, 0, one and several with the drift of the one before, and there and back.
		wind(gust(3, 0, 0), gust(7, 2, 2)), wind(gust(3, 0, 0), gust(7, 0, 0)), wind(gust(3, 2, 2), gust(7, 2, 2)), wind(gust(0, 2, 2), gust(7, 2, 2), gust(64, 2, 2)),
		wind(gust(0, 1, 0), gust(10, 0, 0), gust(20, 0, 0), gust(30, 1, 0), gust(40, 1, 0), gust(50, 0, 1)),
		// Drifts of which only the X, or only the Y, changes.
		wind(gust(4, 3, -1), gust(5, 3, 1), gust(6, -3, 1), gust(7, -3, -1)),
		gustsFrom(0, 1, 8), gustsFrom(1, 9, 8), gustsFrom(57, 1, 8), gustsFrom(0, 9, 8), gustsFrom(10, 7, 7),
		wind(gust(0, 0, 0), gust(1, 0, 0), gust(2, 0, 0), gust(3, 0, 0), gust(4, 0, 0), gust(5, 0, 0), gust(6, 0, 0), gust(7, 0, 0)),
	}
}

func beyondDrifts() []int {
	return append(beyondMeasures(), 9, -9, 10, 16, -16, 64, 256, -256, 264, 4096, -4096)
}

// noWinds has lists with one fault each, in gusts at any position, and with several.
func noWinds() [][]impl.Gust {
	l := [][]impl.Gust{
		gustsFrom(0, 1, 9), gustsFrom(0, 8, 9), gustsFrom(0, 1, 100), append(gustsFrom(0, 1, 8), gust(64, 0, 0)), gustsFrom(58, 1, 8), slices.Repeat(wind(gust(0, 0, 0)), 9),
		wind(gust(5, 1, 0), gust(5, 2, 0)), wind(gust(0, 0, 0), gust(0, 0, 0)), wind(gust(64, 1, 0), gust(64, 1, 0)), wind(gust(1, 1, 0), gust(4, 2, 0), gust(4, 3, 0)),
		wind(gust(5, 1, 0), gust(4, 2, 0)), wind(gust(64, 1, 0), gust(0, 2, 0)), wind(gust(1, 1, 0), gust(9, 2, 0), gust(8, 3, 0)), wind(gust(1, 1, 0), gust(9, 2, 0), gust(0, 3, 0)),
		wind(gust(-1, 9, 0), gust(-1, 0, 9)),
	}
	for _, from := range append(beyondMeasures(), -1, -2, -64, 65, 66, 128, 256, 999) {
		l = append(l, wind(gust(from, 1, 0)), wind(gust(0, 1, 0), gust(from, 2, 0)), wind(gust(from, 1, 0), gust(64, 2, 0)), wind(gust(0, 1, 0), gust(from, 1, 1), gust(64, 2, 0)))
	}
	for _, x := range beyondDrifts() {
		l = append(l, wind(gust(0, x, 0)), wind(gust(3, 0, x)), wind(gust(0, x, x)), wind(gust(0, 1, 0), gust(64, x, 8)), wind(gust(0, -8, x), gust(64, 1, 0)), wind(gust(0, 1, 0), gust(1, x, 0), gust(64, 2, 0)))
	}
	return l
}

// driftByHand goes through the gusts from the last one on.
func driftByHand(w []impl.Gust, i int) impl.Place {
	for _, g := range slices.Backward(w) {
		if g.From <= i {
			return g.Drift
		}
	}
	return at(0, 0)
}

// normalByHand has a gust for each tick at which the drift is another one than before.
func normalByHand(driftOf func(int) impl.Place) []impl.Gust {
	var w []impl.Gust
	before := at(0, 0)
	for i := range 65 {
		p := driftOf(i)
		if p != before {
			w = append(w, impl.Gust{From: i, Drift: p})
		}
		before = p
	}
	return w
}

func allTicks() []int {
	l := []int{math.MinInt, math.MinInt + 1, -(1 << 32), -(1 << 32) + 5, -129, -64, -2, 256, 999, 1 << 32, 1<<32 + 1, 1 << 62, math.MaxInt - 1, math.MaxInt}
	for i := -1; i <= 130; i++ {
		l = append(l, i)
	}
	return l
}

func TestIsWind(t *testing.T) {
	checkReport(t, "IsWind", impl.IsWind, someWinds(), noWinds())
}

func TestDriftAt(t *testing.T) {
	w := wind(gust(2, 1, 0), gust(5, -2, 3), gust(64, 8, -8))
	for _, c := range []struct {
		w    []impl.Gust
		i    int
		want impl.Place
	}{
		{w, math.MinInt, at(0, 0)}, {w, -1, at(0, 0)}, {w, 0, at(0, 0)}, {w, 1, at(0, 0)},
		{w, 2, at(1, 0)}, {w, 3, at(1, 0)}, {w, 4, at(1, 0)}, {w, 5, at(-2, 3)}, {w, 6, at(-2, 3)}, {w, 63, at(-2, 3)},
		{w, 64, at(8, -8)}, {w, 65, at(8, -8)}, {w, 128, at(8, -8)}, {w, 129, at(8, -8)}, {w, 1000, at(8, -8)}, {w, math.MaxInt, at(8, -8)},
		{nil, 0, at(0, 0)}, {nil, math.MaxInt, at(0, 0)}, {nil, math.MinInt, at(0, 0)},
		{wind(gust(0, 1, 2)), -1, at(0, 0)}, {wind(gust(0, 1, 2)), 0, at(1, 2)}, {wind(gust(0, 1, 2)), math.MinInt, at(0, 0)},
	} {
		if got := impl.DriftAt(c.w, c.i); got != c.want {
			t.Errorf("DriftAt(%v, %d) = %v", c.w, c.i, got)
		}
	}
}

func TestDriftAtEachTick(t *testing.T) {
	for _, w := range someWinds() {
		for _, i := range allTicks() {
			if got, want := impl.DriftAt(w, i), driftByHand(w, i); got != want {
				t.Errorf("DriftAt(%v, %d) = %v, not %v", w, i, got, want)
			}
		}
	}
	for _, w := range noWinds() {
		for _, i := range []int{math.MinInt, -1, 0, 1, 5, 63, 64, 65, 128, math.MaxInt} {
			if got := impl.DriftAt(w, i); got != at(0, 0) {
				t.Errorf("DriftAt(%v, %d) = %v", w, i, got)
			}
		}
	}
}

func TestDriftOfEachValue(t *testing.T) {
	for x := -8; x <= 8; x++ {
		for y := -8; y <= 8; y++ {
			w := wind(gust(3, x, y))
			if got := impl.DriftAt(w, 3); got != at(x, y) {
				t.Errorf("DriftAt(%v, 3) = %v", w, got)
			}
			if got, ok := impl.DriftOver(w, 0, 128); got != at(125*x, 125*y) || !ok {
				t.Errorf("DriftOver(%v, 0, 128) = %v, %t", w, got, ok)
			}
		}
	}
}

func TestDriftOver(t *testing.T) {
	w := wind(gust(2, 1, 0), gust(5, -2, 3))
	most := wind(gust(0, 8, -8))
	for _, c := range []struct {
		w    []impl.Gust
		a, b int
		want impl.Place
		ok   bool
	}{
		{w, 1, 7, at(-1, 6), true},
		{w, 0, 2, at(0, 0), true},
		{w, 0, 3, at(1, 0), true},
		{w, 2, 5, at(3, 0), true},
		{w, 4, 6, at(-1, 3), true},
		{w, 0, 0, at(0, 0), true},
		{w, 5, 5, at(0, 0), true},
		{w, 128, 128, at(0, 0), true},
		{w, 127, 128, at(-2, 3), true},
		{w, 0, 128, at(3-246, 369), true},
		{w, 0, 129, at(0, 0), false},
		{w, 128, 129, at(0, 0), false},
		{w, 129, 129, at(0, 0), false},
		{w, 6, 5, at(0, 0), false},
		{w, 128, 127, at(0, 0), false},
		{w, 129, 128, at(0, 0), false},
		{w, -1, 5, at(0, 0), false},
		{w, -1, 0, at(0, 0), false},
		{w, -1, -1, at(0, 0), false},
		{w, 0, -1, at(0, 0), false},
		{w, math.MinInt, math.MaxInt, at(0, 0), false},
		{w, math.MaxInt, math.MinInt, at(0, 0), false},
		{w, 0, math.MaxInt, at(0, 0), false},
		{w, 0, math.MinInt, at(0, 0), false},
		{w, math.MinInt, 0, at(0, 0), false},
		{w, math.MaxInt, math.MaxInt, at(0, 0), false},
		{w, 1 << 32, 1<<32 + 1, at(0, 0), false},
		{most, 0, 128, at(1024, -1024), true},
		{most, 1, 128, at(1016, -1016), true},
		{most, 64, 128, at(512, -512), true},
		{nil, 0, 128, at(0, 0), true},
		{nil, 0, 129, at(0, 0), false},
	} {
		if got, ok := impl.DriftOver(c.w, c.a, c.b); got != c.want || ok != c.ok {
			t.Errorf("DriftOver(%v, %d, %d) = %v, %t", c.w, c.a, c.b, got, ok)
		}
	}
}

func sumByHand(w []impl.Gust, a, b int) impl.Place {
	sum := at(0, 0)
	for i := a; i < b; i++ {
		p := driftByHand(w, i)
		sum = at(sum.X+p.X, sum.Y+p.Y)
	}
	return sum
}

func TestDriftOverAllTicks(t *testing.T) {
	for _, w := range someWinds() {
		for a := -2; a <= 130; a++ {
			for b := -2; b <= 130; b++ {
				want, wantOk := at(0, 0), a >= 0 && b >= a && b <= 128
				if wantOk {
					want = sumByHand(w, a, b)
				}
				if got, ok := impl.DriftOver(w, a, b); got != want || ok != wantOk {
					t.Errorf("DriftOver(%v, %d, %d) = %v, %t, not %v, %t", w, a, b, got, ok, want, wantOk)
				}
			}
		}
	}
	for _, w := range noWinds() {
		for _, c := range [][2]int{{0, 0}, {0, 1}, {3, 70}, {0, 128}, {-1, 0}, {2, 1}, {0, 129}} {
			if got, ok := impl.DriftOver(w, c[0], c[1]); got != at(0, 0) || ok {
				t.Errorf("DriftOver(%v, %d, %d) = %v, %t", w, c[0], c[1], got, ok)
			}
		}
	}
}

// The drift over some ticks and over those behind them is the drift over all of them; over one tick, it is that at this tick.
func TestDriftsAddUp(t *testing.T) {
	for _, w := range someWinds() {
		for a := 0; a <= 128; a += 5 {
			for b := a; b <= 128; b += 3 {
				for _, c := range []int{b, (b + 128) / 2, 128} {
					first, _ := impl.DriftOver(w, a, b)
					second, _ := impl.DriftOver(w, b, c)
					sum, _ := impl.AddPlaces(first, second)
					if got, ok := impl.DriftOver(w, a, c); got != sum || !ok {
						t.Errorf("DriftOver(%v, %d, %d) = %v, %t, not %v", w, a, c, got, ok, sum)
					}
				}
			}
		}
		for i := range 128 {
			if got, ok := impl.DriftOver(w, i, i+1); got != impl.DriftAt(w, i) || !ok {
				t.Errorf("DriftOver(%v, %d, %d) = %v, %t", w, i, i+1, got, ok)
			}
		}
	}
}

func TestNormalWind(t *testing.T) {
	for _, c := range []struct{ w, want []impl.Gust }{
		{nil, nil},
		{wind(gust(0, 0, 0)), nil},
		{wind(gust(64, 0, 0)), nil},
		{wind(gust(3, 0, 0), gust(7, 0, 0)), nil},
		{wind(gust(0, 1, 2)), wind(gust(0, 1, 2))},
		{wind(gust(64, 1, 2)), wind(gust(64, 1, 2))},
		{wind(gust(3, 0, 0), gust(7, 2, 2)), wind(gust(7, 2, 2))},
		{wind(gust(3, 2, 2), gust(7, 2, 2)), wind(gust(3, 2, 2))},
		{wind(gust(3, 2, 2), gust(7, 2, 2), gust(9, 1, 2)), wind(gust(3, 2, 2), gust(9, 1, 2))},
		{wind(gust(3, 2, 2), gust(7, 0, 0), gust(9, 2, 2)), wind(gust(3, 2, 2), gust(7, 0, 0), gust(9, 2, 2))},
		{wind(gust(3, 2, 2), gust(7, 0, 0), gust(9, 0, 0)), wind(gust(3, 2, 2), gust(7, 0, 0))},
		{wind(gust(0, 2, 2), gust(64, 2, 2)), wind(gust(0, 2, 2))},
		{wind(gust(0, 0, 0), gust(64, 2, 2)), wind(gust(64, 2, 2))},
		{wind(gust(0, 2, 2), gust(64, 0, 0)), wind(gust(0, 2, 2), gust(64, 0, 0))},
		{gustsFrom(1, 9, 8), gustsFrom(1, 9, 8)},
		{gustsFrom(57, 1, 8), gustsFrom(57, 1, 8)},
	} {
		if got := impl.NormalWind(c.w); !slices.Equal(got, c.want) {
			t.Errorf("NormalWind(%v) = %v", c.w, got)
		}
	}
}

func TestNormalWindHasTheSameDrifts(t *testing.T) {
	for _, w := range someWinds() {
		got := impl.NormalWind(w)
		if want := normalByHand(func(i int) impl.Place { return driftByHand(w, i) }); !slices.Equal(got, want) {
			t.Errorf("NormalWind(%v) = %v, not %v", w, got, want)
		}
		for _, i := range allTicks() {
			if impl.DriftAt(got, i) != impl.DriftAt(w, i) {
				t.Errorf("NormalWind(%v) has the drift %v at %d", w, impl.DriftAt(got, i), i)
			}
		}
		if again := impl.NormalWind(got); !slices.Equal(again, got) {
			t.Errorf("NormalWind(%v) = %v", got, again)
		}
	}
	for _, w := range noWinds() {
		if got := impl.NormalWind(w); len(got) != 0 {
			t.Errorf("NormalWind(%v) = %v", w, got)
		}
	}
}

func TestLaterWind(t *testing.T) {
	w := wind(gust(2, 1, 0), gust(5, -2, 3))
	still := wind(gust(4, 1, 1), gust(9, 0, 0))
	late := wind(gust(0, 1, 0), gust(64, 0, 1))
	same := wind(gust(4, 0, 0), gust(9, 1, 1), gust(12, 1, 1))
	for _, c := range []struct {
		w    []impl.Gust
		n    int
		want []impl.Gust
	}{
		{w, 0, w},
		{w, 1, wind(gust(1, 1, 0), gust(4, -2, 3))},
		{w, 2, wind(gust(0, 1, 0), gust(3, -2, 3))},
		{w, 3, wind(gust(0, 1, 0), gust(2, -2, 3))},
		{w, 4, wind(gust(0, 1, 0), gust(1, -2, 3))},
		{w, 5, wind(gust(0, -2, 3))},
		{w, 6, wind(gust(0, -2, 3))},
		{w, 64, wind(gust(0, -2, 3))},
		{w, 65, nil},
		{w, -1, nil},
		{w, math.MaxInt, nil},
		{w, math.MinInt, nil},
		{w, 1 << 32, nil},
		{still, 3, wind(gust(1, 1, 1), gust(6, 0, 0))},
		{still, 4, wind(gust(0, 1, 1), gust(5, 0, 0))},
		{still, 8, wind(gust(0, 1, 1), gust(1, 0, 0))},
		{still, 9, nil},
		{still, 10, nil},
		{still, 64, nil},
		{late, 0, late},
		{late, 1, wind(gust(0, 1, 0), gust(63, 0, 1))},
		{late, 63, wind(gust(0, 1, 0), gust(1, 0, 1))},
		{late, 64, wind(gust(0, 0, 1))},
		{same, 0, wind(gust(9, 1, 1))},
		{same, 4, wind(gust(5, 1, 1))},
		{same, 9, wind(gust(0, 1, 1))},
		{same, 11, wind(gust(0, 1, 1))},
		{same, 12, wind(gust(0, 1, 1))},
		{nil, 0, nil},
		{nil, 64, nil},
	} {
		if got := impl.LaterWind(c.w, c.n); !slices.Equal(got, c.want) {
			t.Errorf("LaterWind(%v, %d) = %v", c.w, c.n, got)
		}
	}
}

func TestLaterWindByEachNumber(t *testing.T) {
	for _, w := range someWinds() {
		for n := range 65 {
			got := impl.LaterWind(w, n)
			if want := normalByHand(func(i int) impl.Place { return driftByHand(w, i+n) }); !slices.Equal(got, want) || !impl.IsWind(got) {
				t.Errorf("LaterWind(%v, %d) = %v, not %v", w, n, got, want)
			}
			for i := range 130 {
				if impl.DriftAt(got, i) != impl.DriftAt(w, i+n) {
					t.Errorf("LaterWind(%v, %d) has the drift %v at %d", w, n, impl.DriftAt(got, i), i)
				}
			}
		}
		for _, n := range []int{-1, -2, -64, 65, 66, 128, 1 << 32, 1<<32 + 1, math.MaxInt, math.MinInt} {
			if got := impl.LaterWind(w, n); len(got) != 0 {
				t.Errorf("LaterWind(%v, %d) = %v", w, n, got)
			}
		}
	}
	for _, w := range noWinds() {
		for _, n := range []int{-1, 0, 1, 63, 64, 65} {
			if got := impl.LaterWind(w, n); len(got) != 0 {
				t.Errorf("LaterWind(%v, %d) = %v", w, n, got)
			}
		}
	}
}

func TestJoinWinds(t *testing.T) {
	w := wind(gust(2, 1, 0), gust(5, -2, 3))
	v := wind(gust(0, 1, 0), gust(4, 0, 0), gust(30, 1, 0))
	full := gustsFrom(1, 9, 8)
	for _, c := range []struct {
		a, b []impl.Gust
		i    int
		want []impl.Gust
		ok   bool
	}{
		{nil, nil, 0, nil, true},
		{nil, nil, 64, nil, true},
		{w, nil, 4, wind(gust(2, 1, 0), gust(4, 0, 0)), true},
		{w, nil, 2, nil, true},
		{w, nil, 3, wind(gust(2, 1, 0), gust(3, 0, 0)), true},
		{w, nil, 0, nil, true},
		{w, nil, 64, wind(gust(2, 1, 0), gust(5, -2, 3), gust(64, 0, 0)), true},
		{nil, w, 0, w, true},
		{nil, w, 2, w, true},
		{nil, w, 3, wind(gust(3, 1, 0), gust(5, -2, 3)), true},
		{nil, w, 5, wind(gust(5, -2, 3)), true},
		{nil, w, 64, wind(gust(64, -2, 3)), true},
		{w, w, 3, w, true},
		{w, w, 64, w, true},
		{v, w, 0, w, true},
		{w, v, 0, v, true},
		{v, w, 3, wind(gust(0, 1, 0), gust(5, -2, 3)), true},
		{v, w, 64, wind(gust(0, 1, 0), gust(4, 0, 0), gust(30, 1, 0), gust(64, -2, 3)), true},
		{w, v, 3, wind(gust(2, 1, 0), gust(4, 0, 0), gust(30, 1, 0)), true},
		{w, v, 30, wind(gust(2, 1, 0), gust(5, -2, 3), gust(30, 1, 0)), true},
		{w, v, 29, wind(gust(2, 1, 0), gust(5, -2, 3), gust(29, 0, 0), gust(30, 1, 0)), true},
		{wind(gust(0, 0, 0)), wind(gust(9, 0, 0)), 5, nil, true},
		{wind(gust(5, 1, 1), gust(7, 1, 1)), wind(gust(0, 1, 1)), 20, wind(gust(5, 1, 1)), true},
		{full, full, 40, full, true},
		{full, nil, 64, wind(append(full[:7:7], gust(64, 0, 0))...), true},
		{wind(append(full[:7:7], gust(63, 8, 8))...), nil, 64, nil, false},
		{nil, full, 0, full, true},
		{full, gustsFrom(0, 9, 8), 63, wind(append(full[:7:7], gust(63, 0, -6))...), true},
		{gustsFrom(0, 1, 8), wind(gust(0, 1, 1)), 8, nil, false},
		{gustsFrom(0, 1, 8), wind(gust(0, 1, 1)), 7, wind(append(gustsFrom(0, 1, 7), gust(7, 1, 1))...), true},
		{gustsFrom(0, 1, 8), gustsFrom(57, 1, 8), 20, nil, false},
		{gustsFrom(0, 1, 4), gustsFrom(60, 1, 4), 30, nil, false},
		{gustsFrom(0, 1, 3), gustsFrom(60, 1, 4), 30, wind(append(append(gustsFrom(0, 1, 3), gust(30, 0, 0)), gustsFrom(60, 1, 4)...)...), true},
		{gustsFrom(0, 1, 4), gustsFrom(60, 1, 4), 60, wind(append(gustsFrom(0, 1, 4), gustsFrom(60, 1, 4)...)...), true},
		{w, v, -1, nil, false},
		{w, v, 65, nil, false},
		{w, w, 65, nil, false},
		{nil, nil, -1, nil, false},
		{nil, nil, math.MinInt, nil, false},
		{nil, nil, math.MaxInt, nil, false},
		{nil, nil, 1 << 32, nil, false},
	} {
		got, ok := impl.JoinWinds(c.a, c.b, c.i)
		if !slices.Equal(got, c.want) || ok != c.ok {
			t.Errorf("JoinWinds(%v, %v, %d) = %v, %t, not %v, %t", c.a, c.b, c.i, got, ok, c.want, c.ok)
		}
	}
}

func joinedByHand(a, b []impl.Gust, i int) ([]impl.Gust, bool) {
	w := normalByHand(func(k int) impl.Place {
		if k < i {
			return driftByHand(a, k)
		}
		return driftByHand(b, k)
	})
	if len(w) > 8 {
		return nil, false
	}
	return w, true
}

func TestJoinWindsAtEachTick(t *testing.T) {
	rejected := 0
	for _, a := range someWinds() {
		for _, b := range someWinds() {
			for i := range 65 {
				want, wantOk := joinedByHand(a, b, i)
				got, ok := impl.JoinWinds(a, b, i)
				if !slices.Equal(got, want) || ok != wantOk {
					t.Errorf("JoinWinds(%v, %v, %d) = %v, %t, not %v, %t", a, b, i, got, ok, want, wantOk)
				}
				if !ok {
					rejected++
				}
			}
		}
	}
	if rejected == 0 {
		t.Error("no joined wind has too many gusts")
	}
}

func TestJoinWindsRejects(t *testing.T) {
	for _, w := range noWinds() {
		for _, v := range [][]impl.Gust{nil, wind(gust(2, 1, 0)), w} {
			for _, i := range []int{-1, 0, 1, 33, 64, 65} {
				for _, pair := range [][2][]impl.Gust{{w, v}, {v, w}} {
					if got, ok := impl.JoinWinds(pair[0], pair[1], i); len(got) != 0 || ok {
						t.Errorf("JoinWinds(%v, %v, %d) = %v, %t", pair[0], pair[1], i, got, ok)
					}
				}
			}
		}
	}
}

func TestTurnWind(t *testing.T) {
	w := wind(gust(2, 1, 0), gust(5, -2, 3), gust(6, -2, 3), gust(64, 8, -7))
	for _, c := range []struct {
		n    int
		want []impl.Gust
	}{
		{0, w},
		{1, wind(gust(2, 0, 1), gust(5, -3, -2), gust(6, -3, -2), gust(64, 7, 8))},
		{2, wind(gust(2, -1, 0), gust(5, 2, -3), gust(6, 2, -3), gust(64, -8, 7))},
		{3, wind(gust(2, 0, -1), gust(5, 3, 2), gust(6, 3, 2), gust(64, -7, -8))},
		{4, w},
		{-1, wind(gust(2, 0, -1), gust(5, 3, 2), gust(6, 3, 2), gust(64, -7, -8))},
		{-2, wind(gust(2, -1, 0), gust(5, 2, -3), gust(6, 2, -3), gust(64, -8, 7))},
		{-7, wind(gust(2, 0, 1), gust(5, -3, -2), gust(6, -3, -2), gust(64, 7, 8))},
		{math.MinInt, w},
		{math.MinInt + 1, wind(gust(2, 0, 1), gust(5, -3, -2), gust(6, -3, -2), gust(64, 7, 8))},
		{math.MaxInt, wind(gust(2, 0, -1), gust(5, 3, 2), gust(6, 3, 2), gust(64, -7, -8))},
	} {
		if got := impl.TurnWind(w, c.n); !slices.Equal(got, c.want) {
			t.Errorf("TurnWind(%v, %d) = %v", w, c.n, got)
		}
	}
}

// A turned wind keeps its gusts, also those that change nothing, and drifts the turned way.
func TestTurnWindByEachNumber(t *testing.T) {
	for _, n := range someTurns() {
		for _, w := range someWinds() {
			want := slices.Clone(w)
			for i := range want {
				want[i].Drift = turnedByHand(want[i].Drift, n)
			}
			got := impl.TurnWind(w, n)
			if !slices.Equal(got, want) || !impl.IsWind(got) {
				t.Errorf("TurnWind(%v, %d) = %v, not %v", w, n, got, want)
			}
			sum, _ := impl.DriftOver(w, 1, 99)
			if turned, ok := impl.DriftOver(got, 1, 99); turned != turnedByHand(sum, n) || !ok {
				t.Errorf("TurnWind(%v, %d) drifts by %v, %t", w, n, turned, ok)
			}
		}
		for _, w := range noWinds() {
			if got := impl.TurnWind(w, n); len(got) != 0 {
				t.Errorf("TurnWind(%v, %d) = %v", w, n, got)
			}
		}
	}
}

func someRoses() [][]impl.Place {
	return [][]impl.Place{
		rose(at(0, 0)), rose(at(1, 0)), rose(at(8, 8)), rose(at(-8, -8)), rose(at(-8, 8)), rose(at(1, -2), at(1, 3)), rose(at(-8, 8), at(8, -8)), rose(at(0, 0), at(0, 1)),
		rose(at(-1, 2), at(0, -1), at(3, 0)), rose(at(-8, -8), at(-8, 8), at(8, -8), at(8, 8)), rose(at(-1, 0), at(0, -1), at(0, 1), at(1, 0)), rose(at(5, 5), at(5, 6), at(5, 7), at(6, -8)),
		rose(at(-2, 3), at(0, 0), at(1, 0)), rose(at(0, 0), at(2, 2)),
	}
}

// noRoses has lists with one fault each, in drifts at any position, and with several.
func noRoses() [][]impl.Place {
	l := [][]impl.Place{
		nil, {}, rose(at(1, 0), at(2, 0), at(3, 0), at(4, 0), at(5, 0)), rose(at(0, 0), at(0, 1), at(0, 2), at(0, 3), at(0, 4)), slices.Repeat(rose(at(0, 0)), 100),
		rose(at(0, 0), at(0, 0)), rose(at(1, 2), at(1, 2)), rose(at(1, 1), at(2, 2), at(2, 2)), rose(at(1, 1), at(1, 1), at(2, 2)), rose(at(1, 1), at(2, 2), at(3, 3), at(3, 3)),
		rose(at(1, 0), at(0, 1)), rose(at(1, 1), at(1, 0)), rose(at(0, 0), at(2, 0), at(1, 0)), rose(at(0, 0), at(1, 0), at(0, 0)), rose(at(0, 0), at(1, 0), at(2, 0), at(2, -1)),
		rose(at(0, -9), at(0, 9)), rose(at(9, 9), at(-9, -9)),
	}
	for _, x := range beyondDrifts() {
		l = append(l, rose(at(x, 0)), rose(at(0, x)), rose(at(x, x)), rose(at(x, 0), at(8, 8)), rose(at(-8, 0), at(x, 0)), rose(at(0, 0), at(1, x), at(2, 0)), rose(at(0, 0), at(1, 0), at(2, 0), at(3, x)))
	}
	return l
}

func TestIsRose(t *testing.T) {
	checkReport(t, "IsRose", impl.IsRose, someRoses(), noRoses())
}

func TestFitsRose(t *testing.T) {
	r := rose(at(-2, 3), at(0, 0), at(1, 0))
	noCalm := rose(at(-2, 3), at(1, 0))
	w := wind(gust(2, 1, 0), gust(5, -2, 3), gust(9, 4, 4), gust(12, 0, 0))
	fits := w[:2:2]
	late := wind(gust(0, 1, 0), gust(64, 2, 0))
	for _, c := range []struct {
		w    []impl.Gust
		r    []impl.Place
		n    int
		want bool
	}{
		{w, r, 0, true}, {w, r, 1, true}, {w, r, 2, true}, {w, r, 3, true}, {w, r, 6, true}, {w, r, 9, true}, {w, r, 10, false}, {w, r, 13, false}, {w, r, 128, false},
		{w, r, -1, true}, {w, r, math.MinInt, true}, {w, r, 129, false}, {w, r, math.MaxInt, false},
		{fits, r, 64, true}, {fits, r, 65, true}, {fits, r, 127, true}, {fits, r, 128, true}, {fits, r, 129, false}, {fits, r, math.MaxInt, false}, {fits, r, 1 << 32, false},
		{fits, noCalm, 1, false}, {fits, noCalm, 128, false}, {fits, noCalm, 0, true}, {fits, noCalm, -5, true}, {fits, noCalm, math.MinInt, true}, {fits, noCalm, 129, false},
		{late, r, 63, true}, {late, r, 64, true}, {late, r, 65, false}, {late, r, 128, false},
		{nil, r, 128, true}, {nil, r, 129, false}, {nil, noCalm, 0, true}, {nil, noCalm, 1, false}, {nil, rose(at(0, 0)), 128, true},
		{wind(gust(0, 1, 0)), noCalm, 128, true}, {wind(gust(1, 1, 0)), noCalm, 128, false}, {wind(gust(0, 0, 1)), noCalm, 1, false}, {wind(gust(0, -1, 0)), noCalm, 1, false}, {wind(gust(0, 1, 3)), noCalm, 1, false},
	} {
		if got := impl.FitsRose(c.w, c.r, c.n); got != c.want {
			t.Errorf("FitsRose(%v, %v, %d) is %t", c.w, c.r, c.n, got)
		}
	}
}

func TestFitsRoseForEachNumber(t *testing.T) {
	for _, w := range someWinds() {
		for _, r := range someRoses() {
			fits := true
			for n := range 129 {
				if fits = fits && (n == 0 || slices.Contains(r, driftByHand(w, n-1))); impl.FitsRose(w, r, n) != fits {
					t.Errorf("FitsRose(%v, %v, %d) is %t", w, r, n, !fits)
				}
			}
		}
	}
}

func TestFitsRoseRejects(t *testing.T) {
	for _, n := range []int{math.MinInt, -1, 0, 1, 64, 128, 129, math.MaxInt} {
		for _, w := range noWinds() {
			if r := rose(at(-1, 0), at(0, 0), at(1, 0), at(2, 0)); impl.FitsRose(w, r, n) {
				t.Errorf("FitsRose(%v, %v, %d) is true", w, r, n)
			}
		}
		for _, r := range noRoses() {
			for _, w := range [][]impl.Gust{nil, wind(gust(0, 1, 0))} {
				if impl.FitsRose(w, r, n) {
					t.Errorf("FitsRose(%v, %v, %d) is true", w, r, n)
				}
			}
		}
	}
}

func TestRoseBox(t *testing.T) {
	r := rose(at(-1, 2), at(0, -1), at(3, 0))
	corners := rose(at(-8, 8), at(8, -8))
	for _, c := range []struct {
		r    []impl.Place
		n    int
		want impl.Box
		ok   bool
	}{
		{r, 0, boxFrom(0, 0, 0, 0), true},
		{r, 1, boxFrom(-1, -1, 3, 2), true},
		{r, 2, boxFrom(-2, -2, 6, 4), true},
		{r, 4, boxFrom(-4, -4, 12, 8), true},
		{r, 127, boxFrom(-127, -127, 381, 254), true},
		{r, 128, boxFrom(-128, -128, 384, 256), true},
		{r, 129, impl.Box{}, false},
		{r, -1, impl.Box{}, false},
		{r, math.MaxInt, impl.Box{}, false},
		{r, math.MinInt, impl.Box{}, false},
		{r, 1<<32 + 1, impl.Box{}, false},
		{corners, 0, boxFrom(0, 0, 0, 0), true},
		{corners, 128, boxFrom(-1024, -1024, 1024, 1024), true},
		{rose(at(5, -3)), 0, boxFrom(0, 0, 0, 0), true},
		{rose(at(5, -3)), 1, boxFrom(5, -3, 5, -3), true},
		{rose(at(5, -3)), 128, boxFrom(640, -384, 640, -384), true},
		{rose(at(0, 0)), 128, boxFrom(0, 0, 0, 0), true},
		{rose(at(1, 4), at(2, 6)), 3, boxFrom(3, 12, 6, 18), true},
	} {
		if got, ok := impl.RoseBox(c.r, c.n); got != c.want || ok != c.ok {
			t.Errorf("RoseBox(%v, %d) = %v, %t", c.r, c.n, got, ok)
		}
	}
}

// allSums has each sum of n drifts of a rose.
func allSums(r []impl.Place, n int) []impl.Place {
	sums := rose(at(0, 0))
	for range n {
		var next []impl.Place
		for _, p := range sums {
			for _, q := range r {
				next = append(next, at(p.X+q.X, p.Y+q.Y))
			}
		}
		slices.SortFunc(next, impl.ComparePlaces)
		sums = slices.Compact(next)
	}
	return sums
}

func TestRoseBoxIsTheLeastOfAllSums(t *testing.T) {
	for _, r := range someRoses() {
		for n := range 7 {
			want, _ := impl.BoxOf(allSums(r, n))
			if got, ok := impl.RoseBox(r, n); got != want || !ok {
				t.Errorf("RoseBox(%v, %d) = %v, %t, not %v", r, n, got, ok, want)
			}
		}
		one, _ := impl.RoseBox(r, 1)
		for n := range 129 {
			want := boxFrom(n*one.Low.X, n*one.Low.Y, n*one.High.X, n*one.High.Y)
			if got, ok := impl.RoseBox(r, n); got != want || !ok {
				t.Errorf("RoseBox(%v, %d) = %v, %t, not %v", r, n, got, ok, want)
			}
		}
	}
	for _, r := range noRoses() {
		for _, n := range []int{-1, 0, 1, 128, 129} {
			if got, ok := impl.RoseBox(r, n); got != (impl.Box{}) || ok {
				t.Errorf("RoseBox(%v, %d) = %v, %t", r, n, got, ok)
			}
		}
	}
}

// windOf has the drifts of a rose in turn, one every step ticks from the tick 0 on.
func windOf(r []impl.Place, step int) []impl.Gust {
	var w []impl.Gust
	for i := range 8 {
		w = append(w, impl.Gust{From: i * step, Drift: r[i*i%len(r)]})
	}
	return w
}

func TestFittingWindsDriftWithinTheBox(t *testing.T) {
	for _, r := range someRoses() {
		for step := 1; step <= 9; step++ {
			w := windOf(r, step)
			if !impl.FitsRose(w, r, 128) {
				t.Errorf("FitsRose(%v, %v, 128) is false", w, r)
			}
			for a := 0; a <= 128; a += 4 {
				for b := a; b <= 128; b++ {
					box, ok := impl.RoseBox(r, b-a)
					sum, okSum := impl.DriftOver(w, a, b)
					if !ok || !okSum || !impl.InBox(box, sum) {
						t.Errorf("DriftOver(%v, %d, %d) = %v, %t, out of %v, %t", w, a, b, sum, okSum, box, ok)
					}
				}
			}
		}
	}
}

func TestWorstDrift(t *testing.T) {
	r := rose(at(-1, 2), at(0, -1), at(3, 0))
	square := rose(at(-4, -4), at(-4, 4), at(4, -4), at(4, 4))
	row := rose(at(2, -3), at(2, 0), at(2, 5))
	for _, c := range []struct {
		r    []impl.Place
		want [4]impl.Place
	}{
		{r, [4]impl.Place{at(3, 0), at(-1, 2), at(-1, 2), at(0, -1)}},
		{square, [4]impl.Place{at(4, -4), at(-4, 4), at(-4, -4), at(-4, -4)}},
		{row, [4]impl.Place{at(2, -3), at(2, 5), at(2, -3), at(2, -3)}},
		{rose(at(-3, 7), at(0, 7), at(5, 7)), [4]impl.Place{at(5, 7), at(-3, 7), at(-3, 7), at(-3, 7)}},
		{rose(at(-8, -8), at(-5, -6)), [4]impl.Place{at(-5, -6), at(-5, -6), at(-8, -8), at(-8, -8)}},
		{rose(at(5, 6), at(8, 8)), [4]impl.Place{at(8, 8), at(8, 8), at(5, 6), at(5, 6)}},
		{rose(at(1, -8)), [4]impl.Place{at(1, -8), at(1, -8), at(1, -8), at(1, -8)}},
		{rose(at(0, 0)), [4]impl.Place{}},
	} {
		for h, want := range c.want {
			if got := impl.WorstDrift(c.r, h); got != want {
				t.Errorf("WorstDrift(%v, %d) = %v", c.r, h, got)
			}
		}
	}
}

func wayByHand(p impl.Place, h int) int {
	return []int{p.X, p.Y, -p.X, -p.Y}[h]
}

// Nothing goes farther than the worst drift, and nothing before it in the rose as far; n times it is on the side of the box.
func TestWorstDriftIsTheFirstFarthest(t *testing.T) {
	for _, r := range someRoses() {
		for h := range 4 {
			worst := impl.WorstDrift(r, h)
			want := slices.MaxFunc(r, func(p, q impl.Place) int { return wayByHand(p, h) - wayByHand(q, h) })
			if worst != want {
				t.Errorf("WorstDrift(%v, %d) = %v, not %v", r, h, worst, want)
			}
			box, _ := impl.RoseBox(r, 100)
			side := max(wayByHand(box.Low, h), wayByHand(box.High, h))
			if side != 100*wayByHand(worst, h) {
				t.Errorf("RoseBox(%v, 100) goes to %d in the direction of %d", r, side, h)
			}
		}
		for _, h := range noHeadings() {
			if got := impl.WorstDrift(r, h); got != at(0, 0) {
				t.Errorf("WorstDrift(%v, %d) = %v", r, h, got)
			}
		}
	}
	for _, r := range noRoses() {
		for h := -1; h <= 4; h++ {
			if got := impl.WorstDrift(r, h); got != at(0, 0) {
				t.Errorf("WorstDrift(%v, %d) = %v", r, h, got)
			}
		}
	}
}

func windResults(w []impl.Gust) map[string][]impl.Gust {
	joined, _ := impl.JoinWinds(w, wind(gust(3, 1, 1)), 60)
	joinedBehind, _ := impl.JoinWinds(wind(gust(0, 1, 1)), w, 1)
	joinedAtStart, _ := impl.JoinWinds(w, w, 0)
	return map[string][]impl.Gust{
		"NormalWind": impl.NormalWind(w), "LaterWind by 0": impl.LaterWind(w, 0), "LaterWind by 3": impl.LaterWind(w, 3), "TurnWind by 0": impl.TurnWind(w, 0), "TurnWind by 1": impl.TurnWind(w, 1),
		"JoinWinds": joined, "JoinWinds behind another": joinedBehind, "JoinWinds at 0": joinedAtStart,
	}
}

func TestWindsShareNothing(t *testing.T) {
	for _, w := range append(someWinds(), noWinds()...) {
		checkSharesNothing(t, w, gust(-7, 99, 98), gust(77, 66, 55), windResults)
	}
}

func TestWindsAreNotChanged(t *testing.T) {
	for _, w := range append(someWinds(), noWinds()...) {
		part, whole := sparing(w, gust(-7, 99, 98))
		before := slices.Clone(whole)
		impl.IsWind(part)
		impl.DriftAt(part, 5)
		impl.DriftOver(part, 1, 99)
		impl.FitsRose(part, rose(at(0, 0)), 128)
		if !slices.Equal(whole, before) {
			t.Errorf("the argument %v is changed", w)
		}
	}
}

func TestRosesAreNotChanged(t *testing.T) {
	for _, r := range append(someRoses(), noRoses()...) {
		whole := append(slices.Clone(r), at(99, 98), at(97, 96), at(95, 94))
		before := fmt.Sprint(whole)
		part := whole[:len(r)]
		impl.IsRose(part)
		impl.FitsRose(nil, part, 128)
		impl.RoseBox(part, 128)
		impl.WorstDrift(part, 2)
		if got := fmt.Sprint(whole); got != before {
			t.Errorf("the argument %s is changed to %s", before, got)
		}
	}
}
