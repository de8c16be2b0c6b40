package tests

import (
	"fmt"
	"slices"
	"testing"

	"loop.example/g03017/impl"
)

// gyre has another drift for each heading, two of which are the same: 3, 0 to the east, -1, 2 to the north and to the west, and 0, -1 to the south.
func gyre() []impl.Place {
	return rose(at(-1, 2), at(0, -1), at(3, 0))
}

func calm() []impl.Place {
	return rose(at(0, 0))
}

func eastOrWest() []impl.Place {
	return rose(at(-1, 0), at(1, 0))
}

// oneDrop throws a drop that flies 6 ticks, to 8, 12.
func oneDrop(w []impl.Gust) impl.Show {
	return show(single(32), score(cue(0, "a", 5, 0), cue(1, "a", 0, 0)), w, 9)
}

// threeDrops throws drops to 8, 4 and to 8, 12 and to 8, 6, that fly 2, 6 and 3 ticks.
func threeDrops() impl.Show {
	return show(single(32), score(cue(0, "a", 1, 0), cue(1, "a", 5, 0), cue(2, "a", 2, 0), cue(3, "a", 0, 0)), nil, 9)
}

// fourNozzles throw drops to 5, 0 and to 8, 16 and to -20, 0 and to 0, -20, that fly 5, 4, 4 and 3 ticks.
func fourNozzles() impl.Show {
	return show(crossed(5, 7), atOnce(6, 6, 6, 6), nil, 2)
}

// against throws a drop that flies 6 ticks, and one that flies 2, both by 1 to the east in each tick.
func against() impl.Show {
	return show(rig(nozzle("a", "p", 0, 0, 0, 1, 32), pump("p", 64)), score(cue(0, "a", 5, 0), cue(1, "a", 1, 0), cue(2, "a", 0, 0)), nil, 3)
}

// briefShows have few drops, so that there is time for many roses and basins.
func briefShows() []impl.Show {
	return []impl.Show{
		oneDrop(nil), oneDrop(wind(gust(2, 1, -3))), threeDrops(), fourNozzles(), against(), show(three(10), atOnce(6, 9, 5), wind(gust(0, 1, 1)), 2),
		show(single(32), score(cue(63, "a", 32, 0)), wind(gust(64, -8, 8)), 64), show(corners(), atOnce(0, 32, 32, 32, 32, 31), nil, 1), show(fountain(), atOnce(32, 8, 5), wind(gust(0, -8, -8)), 1),
	}
}

// moved has a box with its sides moved by some eighths each.
func moved(b impl.Box, lowX, lowY, highX, highY int) impl.Box {
	return boxFrom(b.Low.X+lowX, b.Low.Y+lowY, b.High.X+highX, b.High.Y+highY)
}

func wholeFloor() impl.Box {
	return boxFrom(-4096, -4096, 4096, 4096)
}

// someBasins has boxes that are near a box or not.
func someBasins(b impl.Box) []impl.Box {
	return []impl.Box{b, wholeFloor(), {}, boxFrom(b.Low.X, b.Low.Y, b.Low.X, b.Low.Y), boxFrom(b.High.X, b.High.Y, b.High.X, b.High.Y), boxFrom(4096, -4096, 4096, -4096), boxFrom(-4096, -4096, 0, 0), boxFrom(0, 0, 4096, 4096)}
}

// basinsAround has, besides, each box of which each side is moved by an eighth at the most.
func basinsAround(b impl.Box) []impl.Box {
	l := someBasins(b)
	for i := range 81 {
		if c := moved(b, i%3-1, i/3%3-1, i/9%3-1, i/27-1); c.Low.X <= c.High.X && c.Low.Y <= c.High.Y {
			l = append(l, c)
		}
	}
	return l
}

// blownByHand is where the drop of a jet lands if there is one drift at all ticks.
func blownByHand(j impl.Jet, drift impl.Place) impl.Place {
	n := j.Lift + 1
	p := placeByHand(j, n)
	return at(p.X+n*drift.X, p.Y+n*drift.Y)
}

// isBeyond tells whether a place is outside of a box on the side of a heading.
func isBeyond(b impl.Box, p impl.Place, h int) bool {
	return []bool{p.X > b.High.X, p.Y > b.High.Y, p.X < b.Low.X, p.Y < b.Low.Y}[h]
}

func isOutside(b impl.Box, p impl.Place) bool {
	return isBeyond(b, p, 0) || isBeyond(b, p, 1) || isBeyond(b, p, 2) || isBeyond(b, p, 3)
}

// boxByHand begins with a box of the first place.
func boxByHand(places []impl.Place) impl.Box {
	b := impl.Box{Low: places[0], High: places[0]}
	for _, p := range places {
		b = boxFrom(min(b.Low.X, p.X), min(b.Low.Y, p.Y), max(b.High.X, p.X), max(b.High.Y, p.Y))
	}
	return b
}

func blownPlaces(j impl.Jet, r []impl.Place) []impl.Place {
	var l []impl.Place
	for _, drift := range r {
		l = append(l, blownByHand(j, drift))
	}
	return l
}

// basinByHand is the least one of some drops; there is none without drops.
func basinByHand(births []birth, r []impl.Place) (impl.Box, bool) {
	var l []impl.Place
	for _, b := range births {
		l = append(l, blownPlaces(b.jet, r)...)
	}
	if len(l) == 0 {
		return impl.Box{}, false
	}
	return boxByHand(l), true
}

// wetting is a drop that lands outside of a basin, in a drift.
type wetting struct {
	birth
	drift impl.Place
}

func wettingByHand(births []birth, r []impl.Place, basin impl.Box) (wetting, bool) {
	for _, b := range births {
		for h := range 4 {
			worst := slices.MaxFunc(r, func(p, q impl.Place) int { return wayByHand(p, h) - wayByHand(q, h) })
			if isBeyond(basin, blownByHand(b.jet, worst), h) {
				return wetting{b, worst}, true
			}
		}
	}
	return wetting{}, false
}

func (w wetting) wind() []impl.Gust {
	if w.drift == at(0, 0) {
		return nil
	}
	return wind(impl.Gust{Drift: w.drift})
}

func placeText(p impl.Place) string {
	plus := "+"
	if p.Y < 0 {
		plus = ""
	}
	return fmt.Sprint(decimalOf(p.X), plus, decimalOf(p.Y), "i")
}

func (w wetting) line() string {
	return fmt.Sprint("wet: ", w.from, " at ", w.tick, " lands at ", placeText(blownByHand(w.jet, w.drift)), " in ", placeText(w.drift))
}

// wetDropsByHand has the drops that land outside of a basin in a wind.
func wetDropsByHand(births []birth, w []impl.Gust, basin impl.Box) []impl.Drop {
	var l []impl.Drop
	for _, b := range births {
		if d := b.drop(w, b.landing()); isOutside(basin, d.At) {
			l = append(l, d)
		}
	}
	return l
}

// limitByHand goes down from Most: a lift counts only if those below it do.
func limitByHand(d impl.Device, r []impl.Place, basin impl.Box) int {
	limit := d.Most
	for lift := d.Most; lift >= 1; lift-- {
		for _, p := range blownPlaces(jet(d.At.X, d.At.Y, d.Heading, d.Tilt, lift), r) {
			if isOutside(basin, p) {
				limit = lift - 1
			}
		}
	}
	return limit
}

func limitedByHand(s impl.Show, r []impl.Place, basin impl.Box) impl.Show {
	s.Rig = slices.Clone(s.Rig)
	for i, d := range s.Rig {
		if d.Kind == 2 {
			s.Rig[i].Most = limitByHand(d, r, basin)
		}
	}
	return s
}

func TestLandingBox(t *testing.T) {
	square := rose(at(-8, -8), at(-8, 8), at(8, -8), at(8, 8))
	breeze := rose(at(0, 0), at(0, 1))
	for _, c := range []struct {
		j    impl.Jet
		r    []impl.Place
		want impl.Box
	}{
		{jet(8, 0, 1, 2, 5), calm(), boxFrom(8, 12, 8, 12)}, {jet(8, 0, 1, 2, 5), rose(at(1, 0)), boxFrom(14, 12, 14, 12)}, {jet(8, 0, 1, 2, 5), rose(at(-2, -3)), boxFrom(-4, -6, -4, -6)}, {jet(8, 0, 1, 2, 5), gyre(), boxFrom(2, 6, 26, 24)},
		{jet(-7, 5, 2, 1, 2), rose(at(-1, 0), at(0, -1), at(0, 1), at(1, 0)), boxFrom(-13, 2, -7, 8)}, {jet(12, -16, 3, 4, 16), rose(at(0, 0), at(2, 2)), boxFrom(12, -84, 46, -50)},
		// The least lift and the greatest one, and no tilt.
		{jet(0, 0, 0, 0, 1), calm(), boxFrom(0, 0, 0, 0)}, {jet(0, 0, 0, 0, 1), rose(at(1, -2), at(1, 3)), boxFrom(2, -4, 2, 6)}, {jet(5, 6, 0, 3, 1), rose(at(1, -2), at(1, 3)), boxFrom(13, 2, 13, 12)}, {jet(1024, -1024, 0, 0, 31), rose(at(5, 5), at(5, 6), at(5, 7), at(6, -8)), boxFrom(1184, -1280, 1216, -800)},
		{jet(0, 0, 2, 0, 32), gyre(), boxFrom(-33, -33, 99, 66)}, {jet(1024, 1024, 0, 16, 32), square, boxFrom(1288, 760, 1816, 1288)}, {jet(-1024, -1024, 2, 16, 32), square, boxFrom(-1816, -1288, -1288, -760)},
		{jet(-1024, 1024, 1, 16, 32), rose(at(-8, 8)), boxFrom(-1288, 1816, -1288, 1816)}, {jet(1024, -1024, 3, 16, 32), rose(at(-8, 8), at(8, -8)), boxFrom(760, -1816, 1288, -1288)},
		// Each heading.
		{jet(10, 20, 0, 2, 3), breeze, boxFrom(18, 20, 18, 24)}, {jet(10, 20, 1, 2, 3), breeze, boxFrom(10, 28, 10, 32)}, {jet(10, 20, 2, 2, 3), breeze, boxFrom(2, 20, 2, 24)}, {jet(10, 20, 3, 2, 3), breeze, boxFrom(10, 12, 10, 16)},
	} {
		if got, ok := impl.LandingBox(c.j, c.r); got != c.want || !ok {
			t.Errorf("LandingBox(%v, %v) = %v, %t, not %v", c.j, c.r, got, ok, c.want)
		}
	}
}

func TestLandingBoxOfAllJets(t *testing.T) {
	for _, j := range someJets() {
		for _, r := range someRoses() {
			want := boxByHand(blownPlaces(j, r))
			if got, ok := impl.LandingBox(j, r); got != want || !ok {
				t.Errorf("LandingBox(%v, %v) = %v, %t, not %v", j, r, got, ok, want)
			}
		}
	}
}

// The drifts of a rose can be added up in any order, and each of them be used any number of times.
func TestLandingBoxIsTheLeastOfAllLandings(t *testing.T) {
	for _, r := range someRoses() {
		for _, j := range []impl.Jet{jet(0, 0, 0, 0, 1), jet(3, -4, 1, 2, 1), jet(-7, 5, 2, 1, 2), jet(9, 9, 3, 16, 3), jet(40, 0, 0, 7, 6), jet(-1024, 1024, 1, 3, 9), jet(8, 0, 1, 2, 32)} {
			p, l := placeByHand(j, j.Lift+1), rose()
			for _, sum := range allSums(r, j.Lift+1) {
				l = append(l, at(p.X+sum.X, p.Y+sum.Y))
			}
			if got, ok := impl.LandingBox(j, r); got != boxByHand(l) || !ok {
				t.Errorf("LandingBox(%v, %v) = %v, %t, not %v", j, r, got, ok, boxByHand(l))
			}
		}
	}
}

func TestLandingBoxOfWhatIsNone(t *testing.T) {
	check := func(j impl.Jet, r []impl.Place) {
		t.Helper()
		if got, ok := impl.LandingBox(j, r); got != (impl.Box{}) || ok {
			t.Errorf("LandingBox(%v, %v) = %v, %t", j, r, got, ok)
		}
	}
	for _, j := range noJets() {
		check(j, gyre())
		check(j, nil)
	}
	for _, r := range noRoses() {
		check(jet(8, 0, 1, 2, 5), r)
		check(impl.Jet{}, r)
	}
}

func TestLeastBasin(t *testing.T) {
	breeze := rose(at(0, 0), at(0, 1))
	square := rose(at(-8, -8), at(-8, 8), at(8, -8), at(8, 8))
	for _, c := range []struct {
		s    impl.Show
		r    []impl.Place
		want impl.Box
	}{
		// One drop; its own wind does not count.
		{oneDrop(nil), calm(), boxFrom(8, 12, 8, 12)}, {oneDrop(nil), rose(at(-2, -3)), boxFrom(-4, -6, -4, -6)}, {oneDrop(nil), gyre(), boxFrom(2, 6, 26, 24)}, {oneDrop(wind(gust(0, 8, 8))), calm(), boxFrom(8, 12, 8, 12)}, {oneDrop(wind(gust(2, 8, 8), gust(4, -8, 3))), gyre(), boxFrom(2, 6, 26, 24)},
		// Several flights, and several nozzles.
		{threeDrops(), calm(), boxFrom(8, 4, 8, 12)}, {threeDrops(), eastOrWest(), boxFrom(2, 4, 14, 12)}, {threeDrops(), rose(at(1, -2), at(1, 3)), boxFrom(10, 0, 14, 30)}, {fourNozzles(), calm(), boxFrom(-20, -20, 8, 16)}, {fourNozzles(), breeze, boxFrom(-20, -20, 8, 20)}, {fourNozzles(), square, boxFrom(-52, -44, 45, 48)},
		// The small drop lands farther to the east than the great one, or farther to the west.
		{against(), rose(at(-2, 0)), boxFrom(-6, 0, -2, 0)}, {against(), rose(at(-1, 0)), boxFrom(0, 0, 0, 0)}, {against(), calm(), boxFrom(2, 0, 6, 0)},
	} {
		if got, ok := impl.LeastBasin(c.s, c.r); got != c.want || !ok {
			t.Errorf("LeastBasin(%v, %v) = %v, %t, not %v", c.s, c.r, got, ok, c.want)
		}
	}
}

func TestLeastBasinOfAllShows(t *testing.T) {
	for k, s := range someShows() {
		births := birthsByHand(s)
		for i := range 3 {
			r := someRoses()[(5*i+k)%14]
			want, wantOk := basinByHand(births, r)
			if got, ok := impl.LeastBasin(s, r); got != want || ok != wantOk {
				t.Errorf("LeastBasin(%v, %v) = %v, %t, not %v", s, r, got, ok, want)
			}
		}
	}
}

// With any side an eighth within, the least basin is too small.
func TestTheLeastBasinIsSafeAndNoneWithinItIs(t *testing.T) {
	for _, s := range briefShows() {
		for _, r := range someRoses() {
			b, ok := impl.LeastBasin(s, r)
			if !ok || !impl.IsSafe(s, r, b) || !impl.IsSafe(s, r, moved(b, -1, -1, 1, 1)) || !impl.IsSafe(s, r, wholeFloor()) {
				t.Errorf("%v is not safe around %v for %v", s, b, r)
			}
			for _, c := range []impl.Box{moved(b, 1, 0, 0, 0), moved(b, 0, 1, 0, 0), moved(b, 0, 0, -1, 0), moved(b, 0, 0, 0, -1)} {
				if impl.IsSafe(s, r, c) {
					t.Errorf("%v is safe around %v for %v", s, c, r)
				}
			}
			// The sides go outwards together with the one that is too far in.
			for _, c := range []impl.Box{moved(b, 1, -9, 9, 9), moved(b, -9, 1, 9, 9), moved(b, -9, -9, -1, 9), moved(b, -9, -9, 9, -1)} {
				if _, wet := impl.WetWind(s, r, c); impl.IsBox(c) && !wet || impl.IsSafe(s, r, c) {
					t.Errorf("%v is safe around %v for %v", s, c, r)
				}
			}
		}
	}
}

func TestShowsWithoutDropsAreSafeAroundEachBasin(t *testing.T) {
	for _, s := range quietShows() {
		for _, r := range someRoses() {
			for _, b := range append(someBasins(boxFrom(5, 6, 7, 8)), boxFrom(-4096, 4096, -4096, 4096)) {
				w, wet := impl.WetWind(s, r, b)
				drops := impl.WetDrops(s, b)
				if !impl.IsDry(s, b) || !impl.IsSafe(s, r, b) || len(w) != 0 || wet || len(drops) != 0 || impl.SafetyLine(s, r, b) != "safe" {
					t.Errorf("%v is not safe around %v for %v: %v, %t, %v", s, b, r, w, wet, drops)
				}
				if got, ok := impl.LimitShow(s, r, b); !sameShow(got, limitedByHand(s, r, b)) || !ok {
					t.Errorf("LimitShow(%v, %v, %v) = %v, %t", s, r, b, got, ok)
				}
			}
			if b, ok := impl.LeastBasin(s, r); b != (impl.Box{}) || ok {
				t.Errorf("LeastBasin(%v, %v) = %v, %t", s, r, b, ok)
			}
		}
	}
}

func TestIsDryAndWetDrops(t *testing.T) {
	first, second, third := drop("a", 0, 8, 4, 0), drop("a", 1, 8, 12, 0), drop("a", 2, 8, 6, 0)
	four := fourNozzles()
	four.Ticks = 1
	a, b, c, d := drop("a", 0, 5, 0, 0), drop("b", 0, 8, 16, 0), drop("c", 0, -20, 0, 0), drop("d", 0, 0, -20, 0)
	for _, x := range []struct {
		s     impl.Show
		basin impl.Box
		want  []impl.Drop
	}{
		// A box of the one place, and beside it; on each side, and one eighth within.
		{oneDrop(nil), boxFrom(8, 12, 8, 12), nil}, {oneDrop(nil), boxFrom(9, 12, 9, 12), []impl.Drop{drop("a", 0, 8, 12, 0)}}, {oneDrop(nil), impl.Box{}, []impl.Drop{drop("a", 0, 8, 12, 0)}}, {oneDrop(nil), wholeFloor(), nil},
		{oneDrop(nil), boxFrom(0, 0, 8, 20), nil}, {oneDrop(nil), boxFrom(0, 0, 7, 20), []impl.Drop{drop("a", 0, 8, 12, 0)}}, {oneDrop(nil), boxFrom(0, 0, 20, 12), nil}, {oneDrop(nil), boxFrom(0, 0, 20, 11), []impl.Drop{drop("a", 0, 8, 12, 0)}},
		{oneDrop(nil), boxFrom(8, 0, 20, 20), nil}, {oneDrop(nil), boxFrom(9, 0, 20, 20), []impl.Drop{drop("a", 0, 8, 12, 0)}}, {oneDrop(nil), boxFrom(0, 12, 20, 20), nil}, {oneDrop(nil), boxFrom(0, 13, 20, 20), []impl.Drop{drop("a", 0, 8, 12, 0)}},
		// Its own wind counts, at the ticks of the flight.
		{oneDrop(wind(gust(0, 8, 0))), boxFrom(0, 0, 55, 20), []impl.Drop{drop("a", 0, 56, 12, 0)}}, {oneDrop(wind(gust(0, 8, 0))), boxFrom(0, 0, 56, 20), nil}, {oneDrop(wind(gust(5, -1, -2))), boxFrom(7, 10, 7, 10), nil}, {oneDrop(wind(gust(6, -1, -2))), boxFrom(7, 10, 7, 10), []impl.Drop{drop("a", 0, 8, 12, 0)}},
		// The first drops, the last ones, those between, all of them.
		{threeDrops(), boxFrom(8, 4, 8, 12), nil}, {threeDrops(), boxFrom(0, 5, 20, 20), []impl.Drop{first}}, {threeDrops(), boxFrom(0, 0, 20, 11), []impl.Drop{second}}, {threeDrops(), boxFrom(0, 0, 20, 5), []impl.Drop{second, third}}, {threeDrops(), boxFrom(0, 7, 20, 20), []impl.Drop{first, third}}, {threeDrops(), boxFrom(0, 6, 20, 11), []impl.Drop{first, second}}, {threeDrops(), boxFrom(0, 0, 7, 20), []impl.Drop{first, second, third}},
		{four, boxFrom(-20, -20, 8, 16), nil}, {four, boxFrom(-19, -20, 8, 16), []impl.Drop{c}}, {four, boxFrom(-20, -19, 8, 15), []impl.Drop{b, d}}, {four, boxFrom(-20, -20, 4, 16), []impl.Drop{a, b}}, {four, boxFrom(-19, -19, 4, 15), []impl.Drop{a, b, c, d}},
		{fourNozzles(), boxFrom(-19, -20, 7, 16), []impl.Drop{b, c, drop("b", 1, 8, 16, 0), drop("c", 1, -20, 0, 0)}},
	} {
		if got := impl.WetDrops(x.s, x.basin); !slices.Equal(got, x.want) || impl.IsDry(x.s, x.basin) != (len(x.want) == 0) {
			t.Errorf("WetDrops(%v, %v) = %v, not %v, and IsDry is %t", x.s, x.basin, got, x.want, impl.IsDry(x.s, x.basin))
		}
	}
}

func TestIsDryAndWetDropsOfAllShows(t *testing.T) {
	for _, s := range append(someShows(), briefShows()...) {
		births := birthsByHand(s)
		basin := boxFrom(8, 4, 8, 4)
		if len(births) > 0 {
			var places []impl.Place
			for _, b := range births {
				places = append(places, b.drop(s.Wind, b.landing()).At)
			}
			basin = boxByHand(places)
		}
		for _, c := range []impl.Box{basin, moved(basin, 1, 0, 0, 0), moved(basin, 0, 1, 0, 0), moved(basin, 0, 0, -1, 0), moved(basin, 0, 0, 0, -1), wholeFloor(), {}, boxFrom(-4096, -50, 20, 4096)} {
			var want []impl.Drop
			if impl.IsBox(c) {
				want = wetDropsByHand(births, s.Wind, c)
			}
			if got := impl.WetDrops(s, c); !slices.Equal(got, want) || impl.IsDry(s, c) != (impl.IsBox(c) && len(want) == 0) {
				t.Errorf("WetDrops(%v, %v) = %v, not %v, and IsDry is %t", s, c, got, want, impl.IsDry(s, c))
			}
		}
	}
}

func TestTheOwnWindDoesNotCountForSafety(t *testing.T) {
	for _, c := range []struct {
		w         []impl.Gust
		r         []impl.Place
		basin     impl.Box
		dry, safe bool
	}{
		{wind(gust(0, 8, 0)), calm(), boxFrom(8, 12, 8, 12), false, true}, {wind(gust(5, 0, -1)), calm(), boxFrom(8, 12, 8, 12), false, true}, {wind(gust(6, 0, -1)), calm(), boxFrom(8, 12, 8, 12), true, true}, {wind(gust(0, 3, 1)), gyre(), boxFrom(2, 6, 26, 17), false, false}, {wind(gust(0, 4, 0)), gyre(), boxFrom(2, 6, 26, 24), false, true},
		{wind(gust(0, 1, 0)), calm(), boxFrom(14, 12, 14, 12), true, false}, {nil, gyre(), boxFrom(8, 12, 8, 12), true, false}, {nil, gyre(), boxFrom(2, 6, 25, 24), true, false}, {wind(gust(0, 3, 0)), rose(at(2, 0), at(3, 0)), boxFrom(26, 12, 26, 12), true, false}, {wind(gust(0, 3, 0)), rose(at(3, 0)), boxFrom(26, 12, 26, 12), true, true},
	} {
		s := oneDrop(c.w)
		if dry, safe := impl.IsDry(s, c.basin), impl.IsSafe(s, c.r, c.basin); dry != c.dry || safe != c.safe {
			t.Errorf("around %v, for %v, %v is dry %t and safe %t", c.basin, c.r, s, dry, safe)
		}
	}
}

func TestWetWind(t *testing.T) {
	diagonal := rose(at(-8, -8), at(8, 8))
	for _, c := range []struct {
		s     impl.Show
		r     []impl.Place
		basin impl.Box
		want  []impl.Gust
		ok    bool
	}{
		// On each side, on two at once, on three and on all four: the least heading.
		{oneDrop(nil), gyre(), boxFrom(2, 6, 26, 24), nil, false}, {oneDrop(nil), gyre(), boxFrom(2, 6, 25, 24), wind(gust(0, 3, 0)), true}, {oneDrop(nil), gyre(), boxFrom(2, 6, 26, 23), wind(gust(0, -1, 2)), true}, {oneDrop(nil), gyre(), boxFrom(3, 6, 26, 24), wind(gust(0, -1, 2)), true}, {oneDrop(nil), gyre(), boxFrom(2, 7, 26, 24), wind(gust(0, 0, -1)), true},
		{oneDrop(nil), gyre(), boxFrom(2, 6, 25, 23), wind(gust(0, 3, 0)), true}, {oneDrop(nil), gyre(), boxFrom(3, 6, 25, 24), wind(gust(0, 3, 0)), true}, {oneDrop(nil), gyre(), boxFrom(2, 7, 25, 24), wind(gust(0, 3, 0)), true}, {oneDrop(nil), gyre(), boxFrom(2, 7, 26, 23), wind(gust(0, -1, 2)), true}, {oneDrop(nil), gyre(), boxFrom(3, 7, 26, 24), wind(gust(0, -1, 2)), true},
		{oneDrop(nil), gyre(), boxFrom(3, 7, 26, 23), wind(gust(0, -1, 2)), true}, {oneDrop(nil), gyre(), boxFrom(3, 7, 25, 23), wind(gust(0, 3, 0)), true}, {oneDrop(nil), gyre(), boxFrom(8, 12, 8, 12), wind(gust(0, 3, 0)), true},
		{oneDrop(nil), rose(at(-3, 0), at(0, -2), at(0, 2), at(3, 0)), boxFrom(-9, 1, 25, 23), wind(gust(0, 3, 0)), true}, {oneDrop(nil), rose(at(-3, 0), at(0, -2), at(0, 2), at(3, 0)), boxFrom(-9, 1, 26, 23), wind(gust(0, 0, 2)), true}, {oneDrop(nil), rose(at(-3, 0), at(0, -2), at(0, 2), at(3, 0)), boxFrom(-9, 1, 26, 24), wind(gust(0, -3, 0)), true}, {oneDrop(nil), rose(at(-3, 0), at(0, -2), at(0, 2), at(3, 0)), boxFrom(-10, 1, 26, 24), wind(gust(0, 0, -2)), true},
		// One drift for several headings.
		{oneDrop(nil), diagonal, boxFrom(-40, -36, 56, 60), nil, false}, {oneDrop(nil), diagonal, boxFrom(-40, -36, 56, 59), wind(gust(0, 8, 8)), true}, {oneDrop(nil), diagonal, boxFrom(-40, -35, 56, 60), wind(gust(0, -8, -8)), true}, {oneDrop(nil), diagonal, boxFrom(-39, -35, 56, 60), wind(gust(0, -8, -8)), true},
		{oneDrop(nil), rose(at(1, -2)), boxFrom(14, 0, 14, 0), nil, false}, {oneDrop(nil), rose(at(1, -2)), boxFrom(0, 1, 20, 20), wind(gust(0, 1, -2)), true}, {oneDrop(nil), rose(at(1, -2)), boxFrom(15, 0, 20, 20), wind(gust(0, 1, -2)), true}, {oneDrop(nil), rose(at(2, -3), at(2, 5)), boxFrom(0, -100, 19, 100), wind(gust(0, 2, -3)), true},
		// The drift 0, 0, by which the wind has no gusts.
		{oneDrop(nil), calm(), boxFrom(8, 12, 8, 12), nil, false}, {oneDrop(nil), calm(), boxFrom(9, 9, 20, 20), nil, true}, {oneDrop(wind(gust(0, 1, 0))), calm(), boxFrom(0, 13, 20, 20), nil, true}, {oneDrop(nil), rose(at(0, 0), at(2, 2)), boxFrom(9, 0, 100, 100), nil, true}, {oneDrop(nil), rose(at(0, 0), at(2, 2)), boxFrom(9, 0, 19, 100), wind(gust(0, 2, 2)), true}, {oneDrop(nil), rose(at(-1, -1), at(0, 0)), boxFrom(0, 0, 7, 100), nil, true},
		// The first drop, also where a later one has a lesser heading.
		{threeDrops(), eastOrWest(), boxFrom(2, 0, 14, 20), nil, false}, {threeDrops(), eastOrWest(), boxFrom(3, 0, 20, 20), wind(gust(0, -1, 0)), true}, {threeDrops(), eastOrWest(), boxFrom(6, 0, 12, 20), wind(gust(0, 1, 0)), true}, {threeDrops(), eastOrWest(), boxFrom(7, 0, 20, 20), wind(gust(0, -1, 0)), true}, {threeDrops(), eastOrWest(), boxFrom(7, 0, 13, 20), wind(gust(0, -1, 0)), true}, {threeDrops(), eastOrWest(), boxFrom(7, 0, 9, 20), wind(gust(0, 1, 0)), true},
		{fourNozzles(), eastOrWest(), boxFrom(-24, -20, 12, 16), nil, false}, {fourNozzles(), eastOrWest(), boxFrom(-23, -20, 11, 16), wind(gust(0, 1, 0)), true}, {fourNozzles(), eastOrWest(), boxFrom(-23, -20, 12, 16), wind(gust(0, -1, 0)), true}, {fourNozzles(), eastOrWest(), boxFrom(1, -20, 11, 16), wind(gust(0, -1, 0)), true},
	} {
		got, ok := impl.WetWind(c.s, c.r, c.basin)
		checkList(t, got, ok, c.want, c.ok, "WetWind(%v, %v, %v)", c.s, c.r, c.basin)
		if safe := impl.IsSafe(c.s, c.r, c.basin); safe == c.ok {
			t.Errorf("IsSafe(%v, %v, %v) is %t", c.s, c.r, c.basin, safe)
		}
	}
}

// checkSafety asks whether a show is safe, or the wind that is told makes it wet.
func checkSafety(t *testing.T, s impl.Show, births []birth, r []impl.Place, basin impl.Box) {
	t.Helper()
	first, wet := wettingByHand(births, r, basin)
	w, ok := impl.WetWind(s, r, basin)
	checkList(t, w, ok, first.wind(), wet, "WetWind(%v, %v, %v)", s, r, basin)
	if safe := impl.IsSafe(s, r, basin); safe == wet {
		t.Errorf("IsSafe(%v, %v, %v) is %t", s, r, basin, safe)
	}
	line := "safe"
	if wet {
		line = first.line()
	}
	if got := impl.SafetyLine(s, r, basin); got != line {
		t.Errorf("SafetyLine(%v, %v, %v) = %q, not %q", s, r, basin, got, line)
	}
	if !wet {
		return
	}
	s.Wind = w
	drops := impl.WetDrops(s, basin)
	if !impl.FitsRose(w, r, 128) || !slices.Equal(w, impl.NormalWind(w)) || impl.IsDry(s, basin) || len(drops) == 0 || drops[0].From != first.from || drops[0].Born != first.tick {
		t.Errorf("in the wind %v of %v, the wet drops of %v around %v are %v", w, r, s, basin, drops)
	}
}

func TestSafetyOfBriefShows(t *testing.T) {
	for _, s := range briefShows() {
		births := birthsByHand(s)
		for _, r := range someRoses() {
			b, _ := basinByHand(births, r)
			for _, basin := range basinsAround(b) {
				checkSafety(t, s, births, r, basin)
			}
		}
	}
}

func TestSafetyOfAllShows(t *testing.T) {
	for k, s := range someShows() {
		births := birthsByHand(s)
		for i, r := range someRoses() {
			b, _ := basinByHand(births, r)
			basins := basinsAround(b)
			checkSafety(t, s, births, r, b)
			checkSafety(t, s, births, r, basins[(7*k+5*i)%len(basins)])
		}
	}
}

// A safe show keeps dry in all winds that fit, also in those that change.
func TestSafeShowsKeepDryInWindsThatFit(t *testing.T) {
	for k, s := range append(briefShows(), someShows()...) {
		for i := range 3 {
			r := someRoses()[(k+5*i)%14]
			b, ok := impl.LeastBasin(s, r)
			for step := 1; ok && step <= 9; step += 2 {
				s.Wind = windOf(r, step)
				if !impl.FitsRose(s.Wind, r, 128) || !impl.IsDry(s, b) {
					t.Errorf("%v is not dry around %v", s, b)
				}
			}
		}
	}
}

// Of a drop that flies four ticks, all winds are gone through that differ in these ticks.
func TestShowsAreSafeIfTheyKeepDryInAllWinds(t *testing.T) {
	s := show(single(32), score(cue(0, "a", 3, 0), cue(1, "a", 0, 0)), nil, 1)
	for _, r := range someRoses() {
		b, _ := impl.LeastBasin(s, r)
		for _, basin := range basinsAround(b) {
			allDry := true
			for _, drifts := range listsOf(4, r...) {
				if len(drifts) == 4 {
					s.Wind = nil
					for i, p := range drifts {
						s.Wind = append(s.Wind, impl.Gust{From: i, Drift: p})
					}
					allDry = allDry && impl.IsDry(s, basin)
				}
			}
			if safe := impl.IsSafe(s, r, basin); safe != allDry {
				t.Errorf("IsSafe(%v, %v, %v) is %t", s, r, basin, safe)
			}
		}
	}
}

func TestLiftLimit(t *testing.T) {
	// Lift n lands at 2n + 2 in the direction of the heading.
	east, north, west, south := nozzle("a", "p", 0, 0, 0, 2, 32), nozzle("a", "p", 0, 0, 1, 2, 32), nozzle("a", "p", 0, 0, 2, 2, 32), nozzle("a", "p", 0, 0, 3, 2, 32)
	withMost := func(most int) impl.Device {
		return nozzle("a", "p", 0, 0, 0, 2, most)
	}
	for _, c := range []struct {
		d     impl.Device
		r     []impl.Place
		basin impl.Box
		want  int
	}{
		// All lifts, all but one, some, one, none.
		{east, calm(), wholeFloor(), 32}, {east, calm(), boxFrom(4, 0, 66, 0), 32}, {east, calm(), boxFrom(4, 0, 65, 0), 31}, {east, calm(), boxFrom(0, 0, 13, 0), 5}, {east, calm(), boxFrom(0, 0, 12, 0), 5}, {east, calm(), boxFrom(0, 0, 11, 0), 4}, {east, calm(), boxFrom(0, 0, 4, 0), 1}, {east, calm(), boxFrom(4, 0, 4, 0), 1}, {east, calm(), boxFrom(0, 0, 3, 0), 0}, {east, calm(), impl.Box{}, 0},
		{north, calm(), boxFrom(0, 4, 0, 12), 5}, {west, calm(), boxFrom(-12, 0, -4, 0), 5}, {south, calm(), boxFrom(0, -12, 0, -4), 5}, {north, calm(), boxFrom(0, 4, 0, 11), 4}, {west, calm(), boxFrom(-11, 0, -4, 0), 4}, {south, calm(), boxFrom(0, -11, 0, -4), 4},
		// Another Most: below the limit, equal to it, above it, and 0.
		{withMost(0), calm(), wholeFloor(), 0}, {withMost(0), calm(), boxFrom(0, 0, 12, 0), 0}, {withMost(0), calm(), boxFrom(9, 9, 9, 9), 0}, {withMost(1), calm(), boxFrom(0, 0, 12, 0), 1}, {withMost(4), calm(), boxFrom(0, 0, 12, 0), 4}, {withMost(5), calm(), boxFrom(0, 0, 12, 0), 5}, {withMost(6), calm(), boxFrom(0, 0, 12, 0), 5}, {withMost(1), calm(), boxFrom(0, 0, 3, 0), 0},
		// Small lifts land outside, and greater ones inside again.
		{east, calm(), boxFrom(5, 0, 100, 0), 0}, {east, calm(), boxFrom(6, 0, 100, 0), 0}, {east, calm(), boxFrom(66, 0, 100, 0), 0}, {north, calm(), boxFrom(0, 5, 0, 100), 0}, {west, calm(), boxFrom(-100, 0, -5, 0), 0}, {south, calm(), boxFrom(0, -100, 0, -5), 0}, {nozzle("a", "p", -3, 0, 0, 1, 32), calm(), boxFrom(0, 0, 9, 0), 0}, {nozzle("a", "p", -3, 0, 0, 1, 32), calm(), boxFrom(-1, 0, 9, 0), 11},
		// Beside the basin, and with a rose.
		{east, calm(), boxFrom(0, 1, 100, 100), 0}, {east, calm(), boxFrom(0, -100, 100, -1), 0}, {east, eastOrWest(), boxFrom(0, 0, 12, 0), 3}, {east, eastOrWest(), boxFrom(2, 0, 12, 0), 3}, {east, eastOrWest(), boxFrom(3, 0, 100, 0), 0}, {east, rose(at(-3, 0)), boxFrom(-10, 0, 0, 0), 9}, {east, rose(at(0, 1)), boxFrom(0, 0, 100, 7), 6}, {east, rose(at(0, -1)), boxFrom(0, -7, 100, 0), 6}, {east, rose(at(0, -1), at(0, 2)), boxFrom(0, -7, 100, 8), 3}, {east, rose(at(-2, 0)), boxFrom(0, 0, 0, 0), 32},
		{nozzle("a", "p", 5, 7, 3, 0, 32), calm(), boxFrom(5, 7, 5, 7), 32}, {nozzle("a", "p", 5, 7, 3, 0, 32), gyre(), boxFrom(0, 0, 100, 100), 4},
		// A pump and a lamp.
		{pump("p", 32), calm(), wholeFloor(), 0}, {lamp("z", "a", 0, 0), calm(), wholeFloor(), 0}, {impl.Device{}, calm(), wholeFloor(), 0},
	} {
		if got := impl.LiftLimit(c.d, c.r, c.basin); got != c.want {
			t.Errorf("LiftLimit(%v, %v, %v) = %d, not %d", c.d, c.r, c.basin, got, c.want)
		}
	}
}

func TestLiftLimitOfAllNozzles(t *testing.T) {
	for _, d := range slices.Concat(someDevices(), fountain(), three(10), crossed(5, 7), corners(), crowd(40)) {
		for _, r := range someRoses() {
			for _, lift := range ints(1, 2, 5, 17, 32) {
				basins := someBasins(boxByHand(append(blownPlaces(jet(d.At.X, d.At.Y, d.Heading, d.Tilt, lift), r), d.At)))
				for _, basin := range append(basins, moved(basins[0], 1, 0, 0, 0), moved(basins[0], 0, 1, 0, 0), moved(basins[0], 0, 0, -1, 0), moved(basins[0], 0, 0, 0, -1)) {
					want := 0
					if d.Kind == 2 && impl.IsBox(basin) {
						want = limitByHand(d, r, basin)
					}
					if got := impl.LiftLimit(d, r, basin); got != want {
						t.Errorf("LiftLimit(%v, %v, %v) = %d, not %d", d, r, basin, got, want)
					}
				}
			}
		}
	}
}

// Each lift up to the limit lands in the basin, and the next one, if there is one, can land outside.
func TestLiftLimitIsTheGreatest(t *testing.T) {
	basin := boxFrom(-60, -30, 70, 50)
	for _, d := range slices.Concat(fountain()[:3], three(10)[:3], crossed(5, 7)[:4], crowd(40)[:7]) {
		for _, r := range someRoses() {
			limit := impl.LiftLimit(d, r, basin)
			for lift := 1; lift <= min(limit+1, d.Most); lift++ {
				b, ok := impl.LandingBox(jet(d.At.X, d.At.Y, d.Heading, d.Tilt, lift), r)
				if within := impl.InBox(basin, b.Low) && impl.InBox(basin, b.High); !ok || within != (lift <= limit) {
					t.Errorf("LiftLimit(%v, %v, %v) = %d, and the lift %d lands in %v", d, r, basin, limit, lift, b)
				}
			}
		}
	}
}

func TestLimitShow(t *testing.T) {
	limited := func(a, b, c int) []impl.Device {
		l := three(10)
		l[0].Most, l[1].Most, l[2].Most = a, b, c
		return l
	}
	for _, c := range []struct {
		r     []impl.Place
		basin impl.Box
		want  []impl.Device
	}{
		{calm(), wholeFloor(), limited(32, 4, 32)}, {calm(), boxFrom(-8, 0, 8, 20), limited(9, 4, 32)}, {calm(), boxFrom(-7, 0, 8, 20), limited(9, 4, 0)}, {calm(), boxFrom(-8, 0, 3, 20), limited(0, 2, 32)}, {calm(), boxFrom(100, 100, 200, 200), limited(0, 0, 0)}, {calm(), impl.Box{}, limited(0, 0, 0)},
		{rose(at(-1, 0), at(0, 1)), boxFrom(-30, 0, 8, 30), limited(9, 4, 21)}, {rose(at(0, -2)), boxFrom(-100, 0, 100, 100), limited(32, 3, 0)},
	} {
		for _, s := range []impl.Show{show(three(10), pulses(), wind(gust(2, 1, 0), gust(5, -2, 3)), 64), show(three(10), nil, nil, 0), show(three(10), atOnce(6, 9, 5), wind(gust(0, 0, 0)), 5)} {
			want := show(c.want, s.Score, s.Wind, s.Ticks)
			if got, ok := impl.LimitShow(s, c.r, c.basin); !sameShow(got, want) || !ok {
				t.Errorf("LimitShow(%v, %v, %v) = %v, %t, not %v", s, c.r, c.basin, got, ok, want)
			}
		}
	}
}

// Where a nozzle throws less, more water is left to those beside it: they are safe, too.
func TestLimitedShowsAreSafe(t *testing.T) {
	for k, s := range append(briefShows(), someShows()...) {
		births := birthsByHand(s)
		r := someRoses()[k%14]
		b, _ := basinByHand(births, r)
		shrunk := boxFrom(b.Low.X, b.Low.Y, (b.Low.X+b.High.X)/2, (b.Low.Y+b.High.Y)/2)
		for _, basin := range []impl.Box{b, shrunk, someBasins(b)[k%8], boxFrom(-60, -30, 70, 50)} {
			if !impl.IsBox(basin) {
				continue
			}
			limited, ok := impl.LimitShow(s, r, basin)
			if want := limitedByHand(s, r, basin); !sameShow(limited, want) || !ok {
				t.Errorf("LimitShow(%v, %v, %v) = %v, %t, not %v", s, r, basin, limited, ok, want)
			}
			if !impl.IsShow(limited) || !impl.IsSafe(limited, r, basin) || impl.SafetyLine(limited, r, basin) != "safe" {
				t.Errorf("limited, %v is not safe around %v for %v", limited, basin, r)
			}
			if again, ok := impl.LimitShow(limited, r, basin); !sameShow(again, limited) || !ok {
				t.Errorf("limited once more, %v is %v, %t", limited, again, ok)
			}
		}
	}
}

func TestSafetyLine(t *testing.T) {
	late := show(rig(nozzle("a", "p", 100, -12, 0, 2, 32), pump("p", 64)), score(cue(5, "a", 5, 0), cue(6, "a", 0, 0)), nil, 9)
	named := show(rig(nozzle("jet9", "p", 1, -1, 3, 0, 32), pump("p", 64)), score(cue(63, "jet9", 1, 0)), nil, 64)
	for _, c := range []struct {
		s     impl.Show
		r     []impl.Place
		basin impl.Box
		want  string
	}{
		{late, rose(at(8, 0)), boxFrom(0, -100, 159, 100), "wet: a at 5 lands at 20-1.5i in 1+0i"}, {late, rose(at(8, 0)), boxFrom(0, -100, 160, 100), "safe"}, {named, calm(), impl.Box{}, "wet: jet9 at 63 lands at 0.125-0.125i in 0+0i"}, {named, rose(at(-1, 1)), boxFrom(0, 0, 9, 9), "wet: jet9 at 63 lands at -0.125+0.125i in -0.125+0.125i"},
		{oneDrop(nil), calm(), boxFrom(8, 12, 8, 12), "safe"}, {oneDrop(nil), calm(), boxFrom(8, 12, 8, 11), "nothing to say"}, {oneDrop(nil), calm(), boxFrom(8, 13, 8, 13), "wet: a at 0 lands at 1+1.5i in 0+0i"}, {oneDrop(nil), rose(at(1, -2)), boxFrom(8, 12, 8, 12), "wet: a at 0 lands at 1.75+0i in 0.125-0.25i"},
		{oneDrop(nil), rose(at(-3, 0)), boxFrom(8, 12, 8, 12), "wet: a at 0 lands at -1.25+1.5i in -0.375+0i"}, {oneDrop(nil), rose(at(0, -5)), boxFrom(8, 12, 8, 12), "wet: a at 0 lands at 1-2.25i in 0-0.625i"}, {oneDrop(nil), rose(at(-8, 8)), boxFrom(8, 12, 8, 12), "wet: a at 0 lands at -5+7.5i in -1+1i"}, {oneDrop(nil), rose(at(0, -2)), boxFrom(0, 1, 9, 9), "wet: a at 0 lands at 1+0i in 0-0.25i"},
		// The own wind of the show does not count.
		{oneDrop(wind(gust(0, 1, 0))), calm(), boxFrom(14, 12, 14, 12), "wet: a at 0 lands at 1+1.5i in 0+0i"}, {oneDrop(wind(gust(0, 8, 8))), calm(), boxFrom(8, 12, 8, 12), "safe"},
		// The first drop of several for which there is a heading, and its least one.
		{threeDrops(), eastOrWest(), boxFrom(2, 0, 14, 20), "safe"}, {threeDrops(), eastOrWest(), boxFrom(3, 0, 20, 20), "wet: a at 1 lands at 0.25+1.5i in -0.125+0i"}, {threeDrops(), eastOrWest(), boxFrom(7, 0, 13, 20), "wet: a at 0 lands at 0.75+0.5i in -0.125+0i"}, {threeDrops(), eastOrWest(), boxFrom(7, 0, 9, 20), "wet: a at 0 lands at 1.25+0.5i in 0.125+0i"},
		{fourNozzles(), eastOrWest(), boxFrom(-23, -20, 11, 16), "wet: b at 0 lands at 1.5+2i in 0.125+0i"}, {fourNozzles(), eastOrWest(), boxFrom(-23, -20, 12, 16), "wet: c at 0 lands at -3+0i in -0.125+0i"}, {oneDrop(nil), gyre(), boxFrom(3, 7, 26, 23), "wet: a at 0 lands at 0.25+3i in -0.125+0.25i"},
		{impl.Show{Ticks: -1}, calm(), impl.Box{}, "nothing to say"}, {oneDrop(nil), nil, wholeFloor(), "nothing to say"}, {impl.Show{}, calm(), impl.Box{}, "safe"},
	} {
		if got := impl.SafetyLine(c.s, c.r, c.basin); got != c.want {
			t.Errorf("SafetyLine(%v, %v, %v) = %q, not %q", c.s, c.r, c.basin, got, c.want)
		}
	}
}

// checkNothingToSay expects that the show, the rose or the box is none.
func checkNothingToSay(t *testing.T, s impl.Show, r []impl.Place, basin impl.Box) {
	t.Helper()
	w, wet := impl.WetWind(s, r, basin)
	limited, ok := impl.LimitShow(s, r, basin)
	if len(w) != 0 || wet || impl.IsSafe(s, r, basin) || !sameShow(limited, impl.Show{}) || ok || impl.SafetyLine(s, r, basin) != "nothing to say" {
		t.Errorf("of %v, %v and %v, there is told: %v, %t; %v, %t; %q", s, r, basin, w, wet, limited, ok, impl.SafetyLine(s, r, basin))
	}
}

func TestNothingIsToldOfNoShow(t *testing.T) {
	for _, s := range noShows() {
		for _, basin := range []impl.Box{wholeFloor(), {}, boxFrom(1, 0, 0, 0)} {
			checkNothingToSay(t, s, gyre(), basin)
			checkNothingToSay(t, s, nil, basin)
			if drops := impl.WetDrops(s, basin); len(drops) != 0 || impl.IsDry(s, basin) {
				t.Errorf("WetDrops(%v, %v) = %v, and IsDry is %t", s, basin, drops, impl.IsDry(s, basin))
			}
		}
		for _, r := range [][]impl.Place{gyre(), nil} {
			if b, ok := impl.LeastBasin(s, r); b != (impl.Box{}) || ok {
				t.Errorf("LeastBasin(%v, %v) = %v, %t", s, r, b, ok)
			}
		}
	}
}

func TestNothingIsToldOfNoRose(t *testing.T) {
	for _, r := range noRoses() {
		for _, s := range []impl.Show{oneDrop(nil), fourNozzles(), {}, {Ticks: -1}} {
			for _, basin := range []impl.Box{wholeFloor(), {}, boxFrom(1, 0, 0, 0)} {
				checkNothingToSay(t, s, r, basin)
			}
			if b, ok := impl.LeastBasin(s, r); b != (impl.Box{}) || ok {
				t.Errorf("LeastBasin(%v, %v) = %v, %t", s, r, b, ok)
			}
		}
		for _, basin := range []impl.Box{wholeFloor(), {}, boxFrom(1, 0, 0, 0)} {
			if got := impl.LiftLimit(nozzle("a", "p", 0, 0, 0, 0, 32), r, basin); got != 0 {
				t.Errorf("LiftLimit for %v = %d", r, got)
			}
		}
	}
}

func TestNothingIsToldOfNoBasin(t *testing.T) {
	for _, basin := range noBoxes() {
		for _, s := range []impl.Show{oneDrop(nil), fourNozzles(), {}, show(three(10), nil, nil, 64), {Ticks: -1}} {
			checkNothingToSay(t, s, gyre(), basin)
			checkNothingToSay(t, s, rose(at(1, 1), at(1, 1)), basin)
			if drops := impl.WetDrops(s, basin); len(drops) != 0 || impl.IsDry(s, basin) {
				t.Errorf("WetDrops(%v, %v) = %v, and IsDry is %t", s, basin, drops, impl.IsDry(s, basin))
			}
		}
		for _, r := range [][]impl.Place{calm(), gyre(), nil} {
			if got := impl.LiftLimit(nozzle("a", "p", 0, 0, 0, 0, 32), r, basin); got != 0 {
				t.Errorf("LiftLimit around %v = %d", basin, got)
			}
		}
	}
}

func TestLiftLimitOfNoNozzle(t *testing.T) {
	for _, d := range append(noDevices(), pump("p", 32), pump("p", 512), lamp("z", "a", 0, 0)) {
		for _, r := range [][]impl.Place{calm(), nil} {
			for _, basin := range []impl.Box{wholeFloor(), boxFrom(1, 0, 0, 0)} {
				if got := impl.LiftLimit(d, r, basin); got != 0 {
					t.Errorf("LiftLimit(%v, %v, %v) = %d", d, r, basin, got)
				}
			}
		}
	}
}

// A show that is turned, for the turned rose, is as safe around the turned basin.
func TestTurnedShowsAreAsSafe(t *testing.T) {
	for _, s := range briefShows() {
		for _, r := range someRoses() {
			b, _ := impl.LeastBasin(s, r)
			for n := range 4 {
				turned := impl.TurnShow(s, n)
				var drifts []impl.Place
				for _, p := range r {
					drifts = append(drifts, turnedByHand(p, n))
				}
				drifts = impl.SortedPlaces(drifts)
				if got, ok := impl.LeastBasin(turned, drifts); got != impl.TurnBox(b, n) || !ok {
					t.Errorf("LeastBasin(%v, %v) = %v, %t, not that of %v turned by %d", turned, drifts, got, ok, b, n)
				}
				for _, c := range []impl.Box{b, {Low: b.Low, High: b.Low}, moved(b, 0, 0, -1, 0)} {
					if impl.IsBox(c) && impl.IsSafe(turned, drifts, impl.TurnBox(c, n)) != impl.IsSafe(s, r, c) {
						t.Errorf("turned by %d, %v is safe around %v, or no more", n, s, c)
					}
				}
			}
		}
	}
}

// tellingOfBasin has results of each function that returns something with memory of its own.
func tellingOfBasin(s impl.Show, r []impl.Place, basin impl.Box) telling {
	w, _ := impl.WetWind(s, r, basin)
	limited, _ := impl.LimitShow(s, r, basin)
	wide, _ := impl.LimitShow(s, r, wholeFloor())
	return telling{drops: impl.WetDrops(s, basin), landings: impl.WetDrops(s, impl.Box{}), shows: []impl.Show{limited, wide, {Wind: w}}}
}

func TestBasinsShareNothing(t *testing.T) {
	for k, s := range slices.Concat(someShows(), briefShows(), quietShows(), noShows()[:40]) {
		devices, allDevices := sparing(s.Rig, pump("spare", 1))
		cues, allCues := sparing(s.Score, cue(64, "zzz", 7, 7))
		gusts, allGusts := sparing(s.Wind, gust(-7, 99, 98))
		drifts, allDrifts := sparing(append(someRoses(), nil)[k%15], at(7, 7))
		before := show(slices.Clone(allDevices), slices.Clone(allCues), slices.Clone(allGusts), s.Ticks)
		driftsBefore := slices.Clone(allDrifts)
		part, basin := show(devices, cues, gusts, s.Ticks), boxFrom(-20, 0, 8, 20)
		told, again := tellingOfBasin(part, drifts, basin), tellingOfBasin(part, drifts, basin)
		impl.IsDry(part, basin)
		impl.LandingBox(jet(8, 0, 1, 2, 5), drifts)
		impl.LeastBasin(part, drifts)
		impl.IsSafe(part, drifts, basin)
		impl.LiftLimit(nozzle("a", "p", 0, 0, 0, 0, 32), drifts, basin)
		impl.SafetyLine(part, drifts, basin)
		told.spoil()
		if !sameShow(show(allDevices, allCues, allGusts, part.Ticks), before) || !slices.Equal(allDrifts, driftsBefore) {
			t.Errorf("an argument is changed: %v or %v", s, drifts)
		}
		if !again.isSame(tellingOfBasin(part, drifts, basin)) {
			t.Errorf("results of %v share memory", s)
		}
	}
}
