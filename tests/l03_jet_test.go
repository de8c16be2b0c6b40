package tests

import (
	"fmt"
	"math"
	"slices"
	"strings"
	"testing"

	"loop.example/g03017/impl"
)

func jet(x, y, heading, tilt, lift int) impl.Jet {
	return impl.Jet{At: at(x, y), Heading: heading, Tilt: tilt, Lift: lift}
}

func TestLimitsOfJets(t *testing.T) {
	if impl.MaxAt != 1024 || impl.MaxTilt != 16 || impl.MaxLift != 32 {
		t.Error(impl.MaxAt, impl.MaxTilt, impl.MaxLift)
	}
}

func someJets() []impl.Jet {
	l := []impl.Jet{
		jet(8, 0, 1, 2, 5), jet(0, 0, 0, 0, 1), jet(0, 0, 3, 16, 32), jet(12, -16, 3, 4, 16), jet(-7, 5, 2, 1, 2),
		jet(1024, 1024, 0, 16, 32), jet(-1024, 1024, 1, 16, 32), jet(-1024, -1024, 2, 16, 32), jet(1024, -1024, 3, 16, 32), jet(1024, -1024, 0, 0, 31),
	}
	for h := range 4 {
		for _, tilt := range []int{0, 1, 7, 15, 16} {
			for _, lift := range []int{1, 2, 3, 6, 31, 32} {
				l = append(l, jet(3*tilt-lift, 40*h-lift, h, tilt, lift))
			}
		}
	}
	return l
}

// noJets has each of the five numbers just beyond its limits, and far beyond.
func noJets() []impl.Jet {
	l := []impl.Jet{{}, jet(0, 0, 4, -1, 0), jet(2000, -2000, -1, 17, 33)}
	for _, x := range append(beyondMeasures(), 1025, -1025, 4096, -4096) {
		l = append(l, jet(x, 0, 0, 1, 1), jet(0, x, 1, 1, 1), jet(x, 1024, 2, 0, 32), jet(-1024, x, 3, 16, 1))
	}
	for _, h := range noHeadings() {
		l = append(l, jet(1, 2, h, 3, 4), jet(0, 0, h, 0, 1))
	}
	for _, tilt := range append(beyondMeasures(), -1, -2, -16, 17, 32, 256) {
		l = append(l, jet(1, 2, 0, tilt, 4), jet(0, 0, 3, tilt, 1))
	}
	for _, lift := range append(beyondMeasures(), 0, -1, -2, -32, 33, 64, 256) {
		l = append(l, jet(1, 2, 0, 3, lift), jet(0, 0, 3, 0, lift))
	}
	return l
}

// ticksAround has the ticks of a flight, and some below 0 and above it.
func ticksAround(flight int) []int {
	l := []int{math.MinInt, math.MinInt + 1, -(1 << 32), -100, -2, -1, flight + 1, flight + 2, 100, 256, 1 << 32, 1<<32 + 1, math.MaxInt - 1, math.MaxInt}
	for t := range flight + 1 {
		l = append(l, t)
	}
	return l
}

// heightByHand goes up and down tick by tick, in whole eighths.
func heightByHand(lift, t int) int {
	height := 0
	for i := range t {
		height += lift - 2*i
	}
	return height
}

func placeByHand(j impl.Jet, t int) impl.Place {
	way := turnedByHand(at(j.Tilt*t, 0), j.Heading)
	return at(j.At.X+way.X, j.At.Y+way.Y)
}

func TestIsJet(t *testing.T) {
	checkReport(t, "IsJet", impl.IsJet, someJets(), noJets())
}

func TestFlightOf(t *testing.T) {
	for _, c := range []struct{ lift, want int }{{1, 2}, {2, 3}, {5, 6}, {8, 9}, {31, 32}, {32, 33}} {
		if got := impl.FlightOf(jet(8, 0, 1, 2, c.lift)); got != c.want {
			t.Errorf("FlightOf with the lift %d = %d", c.lift, got)
		}
	}
	for _, j := range someJets() {
		if got := impl.FlightOf(j); got != j.Lift+1 {
			t.Errorf("FlightOf(%v) = %d", j, got)
		}
	}
	for _, j := range noJets() {
		if got := impl.FlightOf(j); got != 0 {
			t.Errorf("FlightOf(%v) = %d", j, got)
		}
	}
}

func TestFlightOfEachJetAtOnePlace(t *testing.T) {
	for h := range 4 {
		for tilt := range 17 {
			for lift := 1; lift <= 32; lift++ {
				if got := impl.FlightOf(jet(-9, 1024, h, tilt, lift)); got != lift+1 {
					t.Errorf("FlightOf(%d, %d, %d) = %d", h, tilt, lift, got)
				}
			}
		}
	}
}

func TestHeightAt(t *testing.T) {
	for _, c := range []struct {
		lift int
		want []int
	}{
		{1, []int{0, 1, 0}},
		{2, []int{0, 2, 2, 0}},
		{3, []int{0, 3, 4, 3, 0}},
		{4, []int{0, 4, 6, 6, 4, 0}},
		{5, []int{0, 5, 8, 9, 8, 5, 0}},
	} {
		for i, want := range c.want {
			if got := impl.HeightAt(jet(8, 0, 1, 2, c.lift), i); got != want {
				t.Errorf("HeightAt with the lift %d at %d = %d", c.lift, i, got)
			}
		}
	}
}

// A drop is above the floor at each tick behind 0 and before its landing, and on it at both.
func TestHeightAtEachTick(t *testing.T) {
	for lift := 1; lift <= 32; lift++ {
		j := jet(1, 2, 3, 4, lift)
		for _, i := range ticksAround(lift + 1) {
			want := 0
			if i > 0 && i < lift+1 {
				want = heightByHand(lift, i)
			}
			if got := impl.HeightAt(j, i); got != want || (got > 0) != (i > 0 && i <= lift) {
				t.Errorf("HeightAt with the lift %d at %d = %d, not %d", lift, i, got, want)
			}
		}
	}
	for _, j := range noJets() {
		for _, i := range ticksAround(4) {
			if got := impl.HeightAt(j, i); got != 0 {
				t.Errorf("HeightAt(%v, %d) = %d", j, i, got)
			}
		}
	}
}

func TestPlaceAt(t *testing.T) {
	for _, c := range []struct {
		j    impl.Jet
		i    int
		want impl.Place
		ok   bool
	}{
		{jet(8, 0, 1, 2, 5), 0, at(8, 0), true},
		{jet(8, 0, 1, 2, 5), 1, at(8, 2), true},
		{jet(8, 0, 1, 2, 5), 5, at(8, 10), true},
		{jet(8, 0, 1, 2, 5), 6, at(8, 12), true},
		{jet(8, 0, 1, 2, 5), 7, at(0, 0), false},
		{jet(8, 0, 1, 2, 5), -1, at(0, 0), false},
		{jet(8, 5, 0, 3, 2), 3, at(17, 5), true},
		{jet(8, 5, 2, 3, 2), 2, at(2, 5), true},
		{jet(8, 5, 3, 3, 2), 2, at(8, -1), true},
		{jet(8, 5, 3, 0, 2), 3, at(8, 5), true},
		{jet(1024, 1024, 0, 16, 32), 33, at(1552, 1024), true},
		{jet(-1024, -1024, 3, 16, 32), 33, at(-1024, -1552), true},
	} {
		if got, ok := impl.PlaceAt(c.j, c.i); got != c.want || ok != c.ok {
			t.Errorf("PlaceAt(%v, %d) = %v, %t", c.j, c.i, got, ok)
		}
	}
}

func TestPlaceAtEachTick(t *testing.T) {
	for _, j := range someJets() {
		for _, i := range ticksAround(j.Lift + 1) {
			want, wantOk := at(0, 0), i >= 0 && i <= j.Lift+1
			if wantOk {
				want = placeByHand(j, i)
			}
			if got, ok := impl.PlaceAt(j, i); got != want || ok != wantOk {
				t.Errorf("PlaceAt(%v, %d) = %v, %t, not %v, %t", j, i, got, ok, want, wantOk)
			}
		}
	}
	for _, j := range noJets() {
		for _, i := range ticksAround(4) {
			if got, ok := impl.PlaceAt(j, i); got != at(0, 0) || ok {
				t.Errorf("PlaceAt(%v, %d) = %v, %t", j, i, got, ok)
			}
		}
	}
}

func TestLandingOfAndReachOf(t *testing.T) {
	for _, c := range []struct {
		j     impl.Jet
		want  impl.Place
		reach int
	}{
		{jet(8, 0, 1, 2, 5), at(8, 12), 12},
		{jet(8, 0, 0, 2, 5), at(20, 0), 12},
		{jet(8, 0, 2, 2, 5), at(-4, 0), 12},
		{jet(8, 0, 3, 2, 5), at(8, -12), 12},
		{jet(5, 6, 2, 0, 32), at(5, 6), 0},
		{jet(5, 6, 2, 1, 1), at(3, 6), 2},
		{jet(5, 6, 2, 16, 1), at(-27, 6), 32},
		{jet(-1024, 1024, 2, 16, 32), at(-1552, 1024), 528},
		{jet(-1024, 1024, 1, 16, 32), at(-1024, 1552), 528},
	} {
		if got, ok := impl.LandingOf(c.j); got != c.want || !ok {
			t.Errorf("LandingOf(%v) = %v, %t", c.j, got, ok)
		}
		if got := impl.ReachOf(c.j); got != c.reach {
			t.Errorf("ReachOf(%v) = %d", c.j, got)
		}
	}
	for _, j := range noJets() {
		if got, ok := impl.LandingOf(j); got != at(0, 0) || ok {
			t.Errorf("LandingOf(%v) = %v, %t", j, got, ok)
		}
		if got := impl.ReachOf(j); got != 0 {
			t.Errorf("ReachOf(%v) = %d", j, got)
		}
	}
}

func TestDropsLandAsFarAwayAsTheyReach(t *testing.T) {
	for h := range 4 {
		for tilt := range 17 {
			for lift := 1; lift <= 32; lift++ {
				j := jet(-100, 1000, h, tilt, lift)
				reach := impl.ReachOf(j)
				if reach != tilt*(lift+1) {
					t.Errorf("ReachOf(%v) = %d", j, reach)
				}
				got, ok := impl.LandingOf(j)
				if want, _ := impl.StepFrom(j.At, h, reach); got != want || !ok {
					t.Errorf("LandingOf(%v) = %v, %t, not %v", j, got, ok, want)
				}
				if last, _ := impl.PlaceAt(j, impl.FlightOf(j)); got != last {
					t.Errorf("LandingOf(%v) = %v, but the flight ends at %v", j, got, last)
				}
			}
		}
	}
}

func TestPeakOf(t *testing.T) {
	for _, c := range []struct{ lift, tick, height int }{
		{1, 1, 1}, {2, 1, 2}, {3, 2, 4}, {4, 2, 6}, {5, 3, 9}, {6, 3, 12}, {31, 16, 256}, {32, 16, 272},
	} {
		if tick, height := impl.PeakOf(jet(8, 0, 1, 2, c.lift)); tick != c.tick || height != c.height {
			t.Errorf("PeakOf with the lift %d = %d, %d", c.lift, tick, height)
		}
	}
	for _, j := range noJets() {
		if tick, height := impl.PeakOf(j); tick != 0 || height != 0 {
			t.Errorf("PeakOf(%v) = %d, %d", j, tick, height)
		}
	}
}

func TestPeakOfIsTheFirstGreatestHeight(t *testing.T) {
	for _, j := range someJets() {
		heights := []int{}
		for i := range j.Lift + 2 {
			heights = append(heights, impl.HeightAt(j, i))
		}
		greatest := slices.Max(heights)
		first := slices.Index(heights, greatest)
		if tick, height := impl.PeakOf(j); tick != first || height != greatest {
			t.Errorf("PeakOf(%v) = %d, %d, not %d, %d", j, tick, height, first, greatest)
		}
	}
}

func TestLiftFor(t *testing.T) {
	for _, c := range []struct {
		height, want int
		ok           bool
	}{
		{0, 1, true}, {1, 1, true}, {2, 2, true}, {3, 3, true}, {4, 3, true}, {5, 4, true}, {9, 5, true}, {10, 6, true}, {256, 31, true}, {257, 32, true}, {272, 32, true},
		{273, 0, false}, {274, 0, false}, {4096, 0, false}, {4097, 0, false}, {1 << 32, 0, false}, {math.MaxInt, 0, false},
		{-1, 0, false}, {-2, 0, false}, {-4096, 0, false}, {-(1 << 32), 0, false}, {math.MinInt, 0, false},
	} {
		if got, ok := impl.LiftFor(c.height); got != c.want || ok != c.ok {
			t.Errorf("LiftFor(%d) = %d, %t", c.height, got, ok)
		}
	}
}

// Just above each peak, the next greater lift is told.
func TestLiftForEachHeight(t *testing.T) {
	for height := range 273 {
		want := 1
		for heightByHand(want, (want+1)/2) < height {
			want++
		}
		if got, ok := impl.LiftFor(height); got != want || !ok {
			t.Errorf("LiftFor(%d) = %d, %t, not %d", height, got, ok, want)
		}
	}
}

func TestAimJet(t *testing.T) {
	for _, c := range []struct {
		at, target impl.Place
		lift       int
		want       impl.Jet
		ok         bool
	}{
		{at(0, 0), at(-18, 0), 5, jet(0, 0, 2, 3, 5), true},
		{at(0, 0), at(-17, 0), 5, impl.Jet{}, false},
		{at(0, 0), at(-19, 0), 5, impl.Jet{}, false},
		{at(0, 0), at(-18, 0), 4, impl.Jet{}, false},
		{at(0, 0), at(18, 18), 5, impl.Jet{}, false},
		{at(0, 0), at(18, 1), 5, impl.Jet{}, false},
		{at(7, -9), at(7, -9), 5, jet(7, -9, 0, 0, 5), true},
		{at(7, -9), at(7, -8), 5, impl.Jet{}, false},
		{at(7, -9), at(7, -3), 5, jet(7, -9, 1, 1, 5), true},
		{at(7, -9), at(7, -15), 5, jet(7, -9, 3, 1, 5), true},
		{at(7, -9), at(13, -9), 5, jet(7, -9, 0, 1, 5), true},
		{at(0, 0), at(96, 0), 5, jet(0, 0, 0, 16, 5), true},
		{at(0, 0), at(102, 0), 5, impl.Jet{}, false},
		{at(0, 0), at(0, -32), 1, jet(0, 0, 3, 16, 1), true},
		{at(0, 0), at(0, -34), 1, impl.Jet{}, false},
		{at(1024, 0), at(1552, 0), 32, jet(1024, 0, 0, 16, 32), true},
		{at(1024, 0), at(1553, 0), 32, impl.Jet{}, false},
		{at(1024, 0), at(1585, 0), 32, impl.Jet{}, false},
		{at(-1024, 1024), at(-1024, 1057), 32, jet(-1024, 1024, 1, 1, 32), true},
		{at(1025, 0), at(1025, 0), 32, impl.Jet{}, false},
		{at(0, -1025), at(0, -992), 32, impl.Jet{}, false},
		{at(0, 0), at(0, 0), 1, jet(0, 0, 0, 0, 1), true},
		{at(0, 0), at(0, 0), 0, impl.Jet{}, false},
		{at(0, 0), at(0, 0), -1, impl.Jet{}, false},
		{at(0, 0), at(0, 0), 33, impl.Jet{}, false},
		{at(0, 0), at(34, 0), 33, impl.Jet{}, false},
		{at(0, 0), at(0, 0), math.MinInt, impl.Jet{}, false},
		{at(0, 0), at(0, 0), math.MaxInt, impl.Jet{}, false},
	} {
		if got, ok := impl.AimJet(c.at, c.target, c.lift); got != c.want || ok != c.ok {
			t.Errorf("AimJet(%v, %v, %d) = %v, %t", c.at, c.target, c.lift, got, ok)
		}
	}
}

// aimedByHand divides the distance by the ticks of the flight.
func aimedByHand(from impl.Place, x, y, lift int) (impl.Jet, bool) {
	for h, far := range []int{x, y, -x, -y} {
		aside := []int{y, x, y, x}[h]
		if aside == 0 && far >= 0 && far%(lift+1) == 0 && far/(lift+1) <= 16 {
			return jet(from.X, from.Y, h, far/(lift+1), lift), true
		}
	}
	return impl.Jet{}, false
}

func checkAim(t *testing.T, from impl.Place, x, y, lift int) {
	t.Helper()
	want, wantOk := aimedByHand(from, x, y, lift)
	if got, ok := impl.AimJet(from, at(from.X+x, from.Y+y), lift); got != want || ok != wantOk {
		t.Errorf("AimJet(%v, %d and %d from it, %d) = %v, %t, not %v, %t", from, x, y, lift, got, ok, want, wantOk)
	}
}

func TestAimJetAtTargetsAround(t *testing.T) {
	for _, lift := range []int{1, 2, 5} {
		for x := -20; x <= 20; x++ {
			for y := -20; y <= 20; y++ {
				checkAim(t, at(-3, 1000), x, y, lift)
			}
		}
	}
}

func TestAimJetAtTargetsStraightAhead(t *testing.T) {
	for _, lift := range []int{1, 2, 7, 31, 32} {
		for far := -17 * (lift + 1); far <= 17*(lift+1); far++ {
			checkAim(t, at(1024, -1024), far, 0, lift)
			checkAim(t, at(1024, -1024), 0, far, lift)
		}
	}
}

func TestAimJetFindsEachJet(t *testing.T) {
	for _, j := range someJets() {
		target, _ := impl.LandingOf(j)
		want := j
		if j.Tilt == 0 {
			want.Heading = 0
		}
		if got, ok := impl.AimJet(j.At, target, j.Lift); got != want || !ok {
			t.Errorf("AimJet(%v, %v, %d) = %v, %t", j.At, target, j.Lift, got, ok)
		}
	}
}

func TestAimJetAtNoPlaces(t *testing.T) {
	for _, p := range noPlaces() {
		for _, lift := range []int{1, 7, 32} {
			for _, pair := range [][2]impl.Place{{p, at(0, 0)}, {at(0, 0), p}, {p, p}, {at(1024, -1024), p}, {p, at(-1024, 1024)}} {
				if got, ok := impl.AimJet(pair[0], pair[1], lift); got != (impl.Jet{}) || ok {
					t.Errorf("AimJet(%v, %v, %d) = %v, %t", pair[0], pair[1], lift, got, ok)
				}
			}
		}
	}
}

func TestTurnJet(t *testing.T) {
	for _, c := range []struct {
		j    impl.Jet
		n    int
		want impl.Jet
	}{
		{jet(12, -16, 3, 4, 16), 0, jet(12, -16, 3, 4, 16)},
		{jet(12, -16, 3, 4, 16), 1, jet(16, 12, 0, 4, 16)},
		{jet(12, -16, 3, 4, 16), 2, jet(-12, 16, 1, 4, 16)},
		{jet(12, -16, 3, 4, 16), 3, jet(-16, -12, 2, 4, 16)},
		{jet(12, -16, 3, 4, 16), 4, jet(12, -16, 3, 4, 16)},
		{jet(12, -16, 3, 4, 16), -1, jet(-16, -12, 2, 4, 16)},
		{jet(12, -16, 0, 4, 16), -1, jet(-16, -12, 3, 4, 16)},
		{jet(12, -16, 0, 4, 16), -6, jet(-12, 16, 2, 4, 16)},
		{jet(12, -16, 0, 4, 16), math.MaxInt, jet(-16, -12, 3, 4, 16)},
		{jet(12, -16, 0, 4, 16), math.MinInt, jet(12, -16, 0, 4, 16)},
		{jet(1024, -1024, 1, 0, 1), 1, jet(1024, 1024, 2, 0, 1)},
	} {
		if got := impl.TurnJet(c.j, c.n); got != c.want {
			t.Errorf("TurnJet(%v, %d) = %v", c.j, c.n, got)
		}
	}
	for _, j := range noJets() {
		for _, n := range someTurns() {
			if got := impl.TurnJet(j, n); got != (impl.Jet{}) {
				t.Errorf("TurnJet(%v, %d) = %v", j, n, got)
			}
		}
	}
}

// A turned jet throws a drop that is at the turned places, at the same heights.
func TestTurnedJetsThrowTurnedDrops(t *testing.T) {
	for _, j := range someJets() {
		for _, n := range someTurns() {
			k := impl.TurnJet(j, n)
			p := turnedByHand(j.At, n)
			if want := jet(p.X, p.Y, (j.Heading+quarters(n))%4, j.Tilt, j.Lift); k != want {
				t.Errorf("TurnJet(%v, %d) = %v", j, n, k)
			}
			for _, i := range []int{0, 1, j.Lift, j.Lift + 1} {
				got, ok := impl.PlaceAt(k, i)
				if want := turnedByHand(placeByHand(j, i), n); got != want || !ok || impl.HeightAt(k, i) != impl.HeightAt(j, i) {
					t.Errorf("%v turned by %d: at %d the drop is at %v, %t, not %v", j, n, i, got, ok, want)
				}
			}
		}
	}
}

func TestShiftJet(t *testing.T) {
	for _, c := range []struct {
		j    impl.Jet
		by   impl.Place
		want impl.Jet
		ok   bool
	}{
		{jet(12, -16, 3, 4, 16), at(0, 0), jet(12, -16, 3, 4, 16), true},
		{jet(12, -16, 3, 4, 16), at(5, -7), jet(17, -23, 3, 4, 16), true},
		{jet(1023, -1023, 3, 4, 16), at(1, -1), jet(1024, -1024, 3, 4, 16), true},
		{jet(1024, 0, 3, 4, 16), at(1, 0), impl.Jet{}, false},
		{jet(0, 1024, 3, 4, 16), at(0, 1), impl.Jet{}, false},
		{jet(-1024, 0, 3, 4, 16), at(-1, 0), impl.Jet{}, false},
		{jet(0, -1024, 3, 4, 16), at(0, -1), impl.Jet{}, false},
		{jet(1024, -1024, 1, 4, 16), at(-2048, 2048), jet(-1024, 1024, 1, 4, 16), true},
		{jet(1024, -1024, 1, 4, 16), at(-2049, 2048), impl.Jet{}, false},
		{jet(1024, -1024, 1, 4, 16), at(-2048, 2049), impl.Jet{}, false},
		{jet(1024, 0, 1, 4, 16), at(4096, 0), impl.Jet{}, false},
		{jet(0, 0, 1, 4, 16), at(4096, -4096), impl.Jet{}, false},
		{jet(0, 0, 1, 4, 16), at(4097, 0), impl.Jet{}, false},
		{jet(1025, 0, 1, 4, 16), at(-1, 0), impl.Jet{}, false},
		{jet(4097, 0, 1, 4, 16), at(-4096, 0), impl.Jet{}, false},
		{jet(0, 0, 4, 4, 16), at(1, 1), impl.Jet{}, false},
		{jet(0, 0, 1, 17, 16), at(1, 1), impl.Jet{}, false},
		{jet(0, 0, 1, 4, 0), at(1, 1), impl.Jet{}, false},
	} {
		if got, ok := impl.ShiftJet(c.j, c.by); got != c.want || ok != c.ok {
			t.Errorf("ShiftJet(%v, %v) = %v, %t", c.j, c.by, got, ok)
		}
	}
}

func TestShiftJetRejects(t *testing.T) {
	for _, by := range noPlaces() {
		for _, j := range []impl.Jet{jet(0, 0, 0, 0, 1), jet(1024, -1024, 1, 2, 3), jet(-1024, 1024, 1, 2, 3)} {
			if got, ok := impl.ShiftJet(j, by); got != (impl.Jet{}) || ok {
				t.Errorf("ShiftJet(%v, %v) = %v, %t", j, by, got, ok)
			}
		}
	}
	for _, j := range noJets() {
		for _, by := range []impl.Place{at(0, 0), at(1, 1), at(-1, -1), at(-j.At.X, -j.At.Y)} {
			if got, ok := impl.ShiftJet(j, by); got != (impl.Jet{}) || ok {
				t.Errorf("ShiftJet(%v, %v) = %v, %t", j, by, got, ok)
			}
		}
	}
}

func TestMeetingsOf(t *testing.T) {
	for _, c := range []struct {
		what string
		a, b impl.Jet
		want []int
	}{
		{"in the middle", jet(8, 0, 1, 2, 5), jet(2, 6, 0, 2, 5), []int{3}},
		{"the same jet", jet(8, 0, 1, 2, 3), jet(8, 0, 1, 2, 3), []int{0, 1, 2, 3, 4}},
		{"straight up from one place", jet(8, 0, 1, 0, 1), jet(8, 0, 3, 0, 1), []int{0, 1, 2}},
		{"from one place, another way", jet(8, 0, 1, 2, 5), jet(8, 0, 2, 2, 5), []int{0}},
		{"from one place, another speed", jet(8, 0, 1, 2, 5), jet(8, 0, 1, 3, 5), []int{0}},
		{"from one place, another height", jet(8, 0, 1, 2, 5), jet(8, 0, 1, 2, 6), []int{0}},
		{"straight up from one place, another height", jet(8, 0, 1, 0, 5), jet(8, 0, 1, 0, 32), []int{0}},
		{"from places apart, straight up", jet(8, 0, 1, 0, 5), jet(8, 1, 1, 0, 5), nil},
		{"side by side", jet(8, 0, 1, 2, 5), jet(9, 0, 1, 2, 5), nil},
		{"in the middle, another height", jet(8, 0, 1, 2, 5), jet(2, 6, 0, 2, 6), nil},
		{"between two ticks", jet(0, 0, 0, 1, 5), jet(3, 0, 2, 1, 5), nil},
		{"head on", jet(0, 0, 0, 1, 5), jet(4, 0, 2, 1, 5), []int{2}},
		{"one from behind", jet(0, 0, 0, 3, 5), jet(8, 0, 0, 1, 5), []int{4}},
		{"just before the landing", jet(0, 0, 0, 2, 4), jet(8, 0, 0, 0, 4), []int{4}},
		{"at the landing", jet(0, 0, 0, 2, 4), jet(10, 0, 0, 0, 4), []int{5}},
		{"at the landing, head on", jet(0, 0, 1, 1, 4), jet(0, 10, 3, 1, 4), []int{5}},
		{"behind the landing", jet(0, 0, 0, 2, 4), jet(12, 0, 0, 0, 4), nil},
		{"above the landing of the shorter flight", jet(0, 0, 0, 2, 4), jet(10, 0, 0, 0, 5), nil},
		{"at the landing of the longer flight", jet(0, 0, 0, 2, 5), jet(12, 0, 0, 0, 4), nil},
	} {
		for _, pair := range [][2]impl.Jet{{c.a, c.b}, {c.b, c.a}} {
			if got := impl.MeetingsOf(pair[0], pair[1]); !slices.Equal(got, c.want) {
				t.Errorf("%s: MeetingsOf(%v, %v) = %d, not %d", c.what, pair[0], pair[1], got, c.want)
			}
		}
	}
}

func meetingsByHand(a, b impl.Jet) []int {
	var l []int
	for i := range min(a.Lift, b.Lift) + 2 {
		if placeByHand(a, i) == placeByHand(b, i) && heightByHand(a.Lift, i) == heightByHand(b.Lift, i) {
			l = append(l, i)
		}
	}
	return l
}

func TestMeetingsOfAllPairs(t *testing.T) {
	jets := someJets()
	for x := -4; x <= 4; x++ {
		for h := range 4 {
			jets = append(jets, jet(x, -x, h, 1, 4), jet(x, x, h, 2, 4), jet(x, 0, h, 1, 5))
		}
	}
	for _, a := range jets {
		for _, b := range jets {
			if got, want := impl.MeetingsOf(a, b), meetingsByHand(a, b); !slices.Equal(got, want) {
				t.Errorf("MeetingsOf(%v, %v) = %d, not %d", a, b, got, want)
			}
		}
	}
}

func TestMeetingsOfNoJets(t *testing.T) {
	for _, j := range noJets() {
		for _, k := range []impl.Jet{j, jet(0, 0, 0, 0, 1), jet(1, 2, 0, 3, 4)} {
			if got := impl.MeetingsOf(j, k); len(got) != 0 {
				t.Errorf("MeetingsOf(%v, %v) = %d", j, k, got)
			}
			if got := impl.MeetingsOf(k, j); len(got) != 0 {
				t.Errorf("MeetingsOf(%v, %v) = %d", k, j, got)
			}
		}
	}
}

func TestMeetingsOfGivesNewLists(t *testing.T) {
	j := jet(8, 0, 1, 2, 3)
	first, second := impl.MeetingsOf(j, j), impl.MeetingsOf(j, j)
	for i := range second {
		second[i] = -1
	}
	if !slices.Equal(first, []int{0, 1, 2, 3, 4}) {
		t.Errorf("two results of MeetingsOf share memory: %d", first)
	}
}

func TestFormatJet(t *testing.T) {
	for j, want := range map[impl.Jet]string{
		jet(12, -16, 3, 4, 16):       "at 1.5-2i heading 3 tilt 0.5 lift 2",
		jet(8, 0, 1, 2, 5):           "at 1+0i heading 1 tilt 0.25 lift 0.625",
		jet(0, 0, 0, 0, 1):           "at 0+0i heading 0 tilt 0 lift 0.125",
		jet(-1024, 1024, 2, 16, 32):  "at -128+128i heading 2 tilt 2 lift 4",
		jet(1023, -1023, 2, 15, 31):  "at 127.875-127.875i heading 2 tilt 1.875 lift 3.875",
		jet(1024, -1024, 0, 8, 8):    "at 128-128i heading 0 tilt 1 lift 1",
		jet(-1024, -1024, 0, 16, 24): "at -128-128i heading 0 tilt 2 lift 3",
	} {
		if got := impl.FormatJet(j); got != want {
			t.Errorf("FormatJet(%v) = %q", j, got)
		}
	}
	for _, j := range noJets() {
		if got := impl.FormatJet(j); got != "" {
			t.Errorf("FormatJet(%v) = %q", j, got)
		}
	}
}

// writtenByHand writes jets that are not valid, too, if their numbers are measures.
func writtenByHand(j impl.Jet) string {
	plus := "+"
	if j.At.Y < 0 {
		plus = ""
	}
	return fmt.Sprint("at ", decimalOf(j.At.X), plus, decimalOf(j.At.Y), "i heading ", j.Heading, " tilt ", decimalOf(j.Tilt), " lift ", decimalOf(j.Lift))
}

func TestParseJetReadsWhatIsWritten(t *testing.T) {
	jets := someJets()
	for x := -1024; x <= 1024; x += 3 {
		jets = append(jets, jet(x, -x, quarters(x), quarters(x)*4, 1+quarters(x)*8), jet(5, x, 1, 2, 3))
	}
	for _, j := range jets {
		s := writtenByHand(j)
		if got := impl.FormatJet(j); got != s {
			t.Errorf("FormatJet(%v) = %q, not %q", j, got, s)
		}
		if got, ok := impl.ParseJet(s); got != j || !ok {
			t.Errorf("ParseJet(%q) = %v, %t", s, got, ok)
		}
	}
}

func checkNoJet(t *testing.T, s string) {
	t.Helper()
	if j, ok := impl.ParseJet(s); j != (impl.Jet{}) || ok {
		t.Errorf("ParseJet(%q) = %v, %t", s, j, ok)
	}
}

func TestParseJetRejectsWhatIsNotValid(t *testing.T) {
	for _, j := range noJets() {
		checkNoJet(t, writtenByHand(j))
	}
	for _, s := range []string{
		"at 128.125+0i heading 0 tilt 0 lift 1", "at 0-128.125i heading 0 tilt 0 lift 1", "at 512+0i heading 0 tilt 0 lift 1", "at 0+0i heading 4 tilt 0 lift 1", "at 0+0i heading -1 tilt 0 lift 1",
		"at 0+0i heading 0 tilt -0.125 lift 1", "at 0+0i heading 0 tilt 2.125 lift 1", "at 0+0i heading 0 tilt 0 lift 0", "at 0+0i heading 0 tilt 0 lift 4.125", "at 0+0i heading 0 tilt 0 lift -1",
	} {
		checkNoJet(t, s)
	}
}

// Each change of a text is one that only looks like it.
func TestParseJetRejectsOtherWritings(t *testing.T) {
	for _, s := range []string{"at 1.5-2i heading 3 tilt 0.5 lift 2", "at 0+0i heading 0 tilt 0 lift 0.125"} {
		for i := range len(s) {
			checkNoJet(t, s[:i])
			checkNoJet(t, s[:i]+" "+s[i:])
			checkNoJet(t, s[:i]+"\x00"+s[i:])
			checkNoJet(t, s[:i]+strings.ToUpper(s[i:i+1])+"x"+s[i+1:])
		}
		for _, other := range []string{s + " ", s + "\n", s + " " + s, s + s, s + " x", strings.ReplaceAll(s, " ", "\t"), strings.ReplaceAll(s, " ", "  "), strings.ReplaceAll(s, " ", ""), strings.ToUpper(s)} {
			checkNoJet(t, other)
		}
		words := strings.Split(s, " ")
		for i := range words {
			checkNoJet(t, strings.Join(slices.Delete(slices.Clone(words), i, i+1), " "))
			checkNoJet(t, strings.Join(slices.Insert(slices.Clone(words), i, words[i]), " "))
			for k := 0; k < len(words); k += 2 {
				if k == i {
					continue
				}
				swapped := slices.Clone(words)
				swapped[i], swapped[k] = swapped[k], swapped[i]
				checkNoJet(t, strings.Join(swapped, " "))
			}
		}
	}
}

func TestParseJetRejects(t *testing.T) {
	for _, s := range []string{
		"", " ", "       ", "at", "jet", "at heading tilt lift", "at  heading  tilt  lift ", "1.5-2i 3 0.5 2", "a a a a a a a a",
		"heading 3 at 1.5-2i tilt 0.5 lift 2", "at 1.5-2i heading 3 lift 2 tilt 0.5", "lift 2 tilt 0.5 heading 3 at 1.5-2i", "at 1.5-2i tilt 0.5 heading 3 lift 2",
		"at 1.5-2i heading 3 tilt 0.5", "at 1.5-2i heading 3 lift 2", "at 1.5-2i tilt 0.5 lift 2", "heading 3 tilt 0.5 lift 2",
		"to 1.5-2i heading 3 tilt 0.5 lift 2", "at 1.5-2i head 3 tilt 0.5 lift 2", "at 1.5-2i heading 3 tild 0.5 lift 2", "at 1.5-2i heading 3 tilt 0.5 life 2", "At 1.5-2i heading 3 tilt 0.5 lift 2",
		"at 1.50-2i heading 3 tilt 0.5 lift 2", "at 1.5-2 heading 3 tilt 0.5 lift 2", "at 1.5-2.0i heading 3 tilt 0.5 lift 2", "at +1.5-2i heading 3 tilt 0.5 lift 2", "at 12,-16 heading 3 tilt 0.5 lift 2",
		"at 1.5-2i heading 03 tilt 0.5 lift 2", "at 1.5-2i heading +3 tilt 0.5 lift 2", "at 1.5-2i heading 3.0 tilt 0.5 lift 2", "at 1.5-2i heading 7 tilt 0.5 lift 2", "at 1.5-2i heading x tilt 0.5 lift 2", "at 1.5-2i heading  tilt 0.5 lift 2",
		"at 1.5-2i heading 3 tilt 0.50 lift 2", "at 1.5-2i heading 3 tilt .5 lift 2", "at 1.5-2i heading 3 tilt 5e-1 lift 2", "at 1.5-2i heading 3 tilt -0 lift 2", "at 1.5-2i heading 3 tilt 0.3 lift 2", "at 1.5-2i heading 3 tilt nan lift 2",
		"at 1.5-2i heading 3 tilt 0.5 lift 2.0", "at 1.5-2i heading 3 tilt 0.5 lift 02", "at 1.5-2i heading 3 tilt 0.5 lift +2", "at 1.5-2i heading 3 tilt 0.5 lift two", "at 1.5-2i heading 3 tilt 0.5 lift 99999999999999999999", "at 1.5-2i heading 3 tilt 0.5 lift ",
		" at 1.5-2i heading 3 tilt 0.5 lift 2", "at 1.5-2i heading 3 tilt 0.5 lift 2 ", "at 1.5-2i heading 3 tilt 0.5 lift 2\n", "at 1.5-2i heading 3 tilt 0.5 lift 2i", "at 1.5-2i\xc2\xa0heading 3 tilt 0.5 lift 2 ", strings.Repeat("at ", 400), strings.Repeat(" ", 400),
	} {
		checkNoJet(t, s)
	}
}
