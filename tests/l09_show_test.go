package tests

import (
	"math"
	"slices"
	"strings"
	"testing"

	"loop.example/g03017/impl"
)

func show(rig []impl.Device, score []impl.Cue, wind []impl.Gust, ticks int) impl.Show {
	return impl.Show{Rig: rig, Score: score, Wind: wind, Ticks: ticks}
}

func drop(from string, born, x, y, height int) impl.Drop {
	return impl.Drop{From: from, Born: born, At: at(x, y), Height: height}
}

func sameShow(a, b impl.Show) bool {
	return slices.Equal(a.Rig, b.Rig) && slices.Equal(a.Score, b.Score) && slices.Equal(a.Wind, b.Wind) && a.Ticks == b.Ticks
}

// single has one nozzle with as much water as it can throw.
func single(most int) []impl.Device {
	return rig(nozzle("a", "p", 8, 0, 1, 2, most), pump("p", 64))
}

// three has nozzles on one pump: the second throws little, and the third straight up.
func three(water int) []impl.Device {
	return rig(nozzle("a", "p", 8, 0, 1, 2, 32), nozzle("b", "p", 0, 8, 0, 1, 4), nozzle("c", "p", -8, 0, 2, 0, 32), lamp("l", "a", 8, 8), lamp("m", "b", 0, 8), lamp("n", "a", 0, 0), pump("p", water))
}

// crossed has nozzles that hang on two pumps in turn, the first one on the last pump.
func crossed(p, q int) []impl.Device {
	return rig(nozzle("a", "q", 0, 0, 0, 1, 32), nozzle("b", "p", 8, 8, 1, 2, 32), nozzle("c", "q", -8, 0, 2, 3, 32), nozzle("d", "p", 0, -8, 3, 4, 32), lamp("l", "d", 1, 1), lamp("m", "a", 2, 2), pump("p", p), pump("q", q))
}

// corners has nozzles from which drops go as far as they can, one of them in the middle.
func corners() []impl.Device {
	return rig(pump("a0", 512), nozzle("b", "a0", 1024, 1024, 0, 16, 32), nozzle("c", "a0", -1024, 1024, 1, 16, 32), nozzle("d", "a0", -1024, -1024, 2, 16, 32), nozzle("e", "a0", 1024, -1024, 3, 16, 32), nozzle("f", "a0", 0, 0, 0, 16, 31), lamp("g", "b", 4096, 4096))
}

// crowd has as many nozzles as there may be.
func crowd(water int) []impl.Device {
	l := rig()
	for i, name := range strings.Split("abcdefg", "") {
		l = append(l, nozzle(name, "p", 40*i, -9*i, i%4, 2*i, 32))
	}
	return append(l, pump("p", water))
}

// atOnce gives the first names these levels at the tick 0.
func atOnce(levels ...int) []impl.Cue {
	l := score()
	for i, level := range levels {
		l = append(l, cue(0, string(rune('a'+i)), level, 0))
	}
	return l
}

// pulses has levels by which drops have different lifts, and later ones land before earlier ones.
func pulses() []impl.Cue {
	return score(
		cue(0, "a", 5, 0), cue(0, "c", 2, 0), cue(1, "a", 1, 0), cue(2, "a", 0, 0), cue(3, "b", 32, 16), cue(3, "c", 0, 0),
		cue(7, "a", 30, 9), cue(7, "c", 1, 0), cue(9, "d", 9, 0), cue(20, "a", 0, 16), cue(20, "d", 0, 2), cue(63, "a", 32, 0),
	)
}

func showRigs() [][]impl.Device {
	return [][]impl.Device{three(10), crossed(5, 7), corners(), crowd(40), single(32), fountain(), three(0), crossed(512, 0), pumps("a", "b", "p"), nil}
}

func showScores() [][]impl.Cue {
	return [][]impl.Cue{
		pulses(), program(), atOnce(6, 9, 5, 7, 32, 31, 1), atOnce(32, 32, 32, 32, 32, 32, 32), score(cue(0, "p", 32, 0), cue(0, "q", 32, 0), cue(1, "l", 32, 0), cue(2, "nobody", 32, 3), cue(4, "b", 3, 0)),
		score(cue(60, "a", 32, 4), cue(61, "c", 3, 0), cue(63, "b", 32, 0), cue(64, "a", 5, 0), cue(64, "d", 32, 16)), nil,
	}
}

func showWinds() [][]impl.Gust {
	return [][]impl.Gust{
		wind(gust(2, 1, 0), gust(5, -2, 3), gust(9, 0, 0)), nil, wind(gust(0, 8, -8)), wind(gust(64, -3, 5)), wind(gust(63, 0, 2), gust(64, 0, 0)),
		gustsFrom(0, 9, 8), gustsFrom(57, 1, 8), wind(gust(0, -8, -8), gust(64, 8, 8)),
	}
}

// someShows has each rig with each score, for all ticks and for some, in one of the winds.
func someShows() []impl.Show {
	l := []impl.Show{{}, show(three(10), pulses(), wind(gust(0, 1, 1)), 0), show(nil, nil, nil, 64)}
	ticks := ints(64, 1, 8, 63, 2)
	for i, devices := range showRigs() {
		for k, cues := range showScores() {
			winds := showWinds()
			l = append(l, show(devices, cues, winds[(i+k)%len(winds)], 64), show(devices, cues, winds[(3*i+k+1)%len(winds)], ticks[(i+2*k)%5]))
		}
	}
	return l
}

// quietShows are valid and throw no drop.
func quietShows() []impl.Show {
	return []impl.Show{
		{}, show(nil, atOnce(5), wind(gust(0, 1, 1)), 64), show(three(10), nil, nil, 64), show(three(10), atOnce(5, 5), nil, 0), show(three(0), atOnce(5, 5), nil, 64),
		show(single(0), atOnce(5), nil, 64), show(single(9), score(cue(64, "a", 5, 0)), nil, 64), show(pumps("a", "b"), atOnce(5, 5), nil, 64),
	}
}

// noShows has shows with one fault each, whose other parts throw drops and light lamps.
func noShows() []impl.Show {
	l := []impl.Show{{Ticks: -1}, {Ticks: 65}, {Rig: rig(impl.Device{}), Ticks: 5}, {Score: score(impl.Cue{}), Ticks: 5}, {Wind: wind(gust(-1, 0, 0)), Ticks: 5}, show(rig(impl.Device{}), score(impl.Cue{}), wind(gust(0, 9, 0)), 65)}
	for _, devices := range noRigs() {
		l = append(l, show(devices, atOnce(6, 9, 5), wind(gust(0, 1, 1)), 9))
	}
	for _, cues := range noScores() {
		l = append(l, show(three(100), cues, wind(gust(0, 1, 1)), 64))
	}
	for _, gusts := range noWinds() {
		l = append(l, show(three(100), atOnce(6, 9, 5), gusts, 9))
	}
	for _, ticks := range beyondTicks() {
		l = append(l, show(three(100), atOnce(6, 9, 5), nil, ticks), show(nil, nil, nil, ticks))
	}
	return l
}

// nozzlesByHand has the places in a rig of the nozzles on a pump, in the order of their Names.
func nozzlesByHand(l []impl.Device, pump string) []int {
	var places []int
	for i, d := range l {
		if d.Kind == 2 && d.Line == pump {
			places = append(places, i)
		}
	}
	slices.SortFunc(places, func(i, k int) int {
		return strings.Compare(l[i].Name, l[k].Name)
	})
	return places
}

func demandsByHand(s impl.Show, places []int, t int) []int {
	var demands []int
	for _, i := range places {
		demands = append(demands, min(rampedByHand(s.Score, s.Rig[i].Name, t), s.Rig[i].Most))
	}
	return demands
}

func liftsByHand(s impl.Show, t int) []int {
	lifts := make([]int, len(s.Rig))
	for _, d := range s.Rig {
		if d.Kind == 1 && t >= 0 && t < s.Ticks {
			places := nozzlesByHand(s.Rig, d.Name)
			for i, share := range sharedByHand(d.Most, demandsByHand(s, places, t)) {
				lifts[places[i]] = share
			}
		}
	}
	return lifts
}

// birth is a drop that is thrown.
type birth struct {
	from string
	tick int
	jet  impl.Jet
}

func (b birth) landing() int {
	return b.tick + b.jet.Lift + 1
}

// drop tells where a drop is at a tick of its flight.
func (b birth) drop(w []impl.Gust, t int) impl.Drop {
	p, moved := placeByHand(b.jet, t-b.tick), sumByHand(w, b.tick, t)
	return drop(b.from, b.tick, p.X+moved.X, p.Y+moved.Y, heightByHand(b.jet.Lift, t-b.tick))
}

// birthsByHand goes through the nozzles one by one, and puts their drops in order at the end.
func birthsByHand(s impl.Show) []birth {
	var births []birth
	for i, d := range s.Rig {
		for t := range s.Ticks {
			if lift := liftsByHand(s, t)[i]; lift > 0 {
				births = append(births, birth{d.Name, t, jet(d.At.X, d.At.Y, d.Heading, d.Tilt, lift)})
			}
		}
	}
	slices.SortFunc(births, func(a, b birth) int {
		if a.tick != b.tick {
			return a.tick - b.tick
		}
		return strings.Compare(a.from, b.from)
	})
	return births
}

func flyingByHand(w []impl.Gust, births []birth, t int) []impl.Drop {
	var drops []impl.Drop
	for _, b := range births {
		if b.tick <= t && t < b.landing() {
			drops = append(drops, b.drop(w, t))
		}
	}
	return drops
}

func countByHand(births []birth, counts func(birth) bool) int {
	n := 0
	for _, b := range births {
		if counts(b) {
			n++
		}
	}
	return n
}

func TestIsShow(t *testing.T) {
	checkReport(t, "IsShow", impl.IsShow, someShows(), noShows())
	for _, devices := range someRigs() {
		checkReport(t, "IsShow", impl.IsShow, []impl.Show{show(devices, pulses(), showWinds()[0], 64)}, nil)
	}
	for _, cues := range someScores() {
		checkReport(t, "IsShow", impl.IsShow, []impl.Show{show(three(10), cues, showWinds()[0], 0)}, nil)
	}
	for _, gusts := range someWinds() {
		checkReport(t, "IsShow", impl.IsShow, []impl.Show{show(three(10), pulses(), gusts, 1)}, nil)
	}
}

func TestIsShowOfEachTicks(t *testing.T) {
	for n := -300; n <= 300; n++ {
		if want := n >= 0 && n <= 64; impl.IsShow(show(three(10), pulses(), nil, n)) != want || impl.IsShow(impl.Show{Ticks: n}) != want {
			t.Errorf("IsShow of %d ticks is not %t", n, want)
		}
	}
}

func TestLiftsAt(t *testing.T) {
	shut := rig(nozzle("a", "p", 8, 0, 1, 2, 0), nozzle("b", "p", 0, 8, 0, 1, 4), pump("p", 3))
	for _, c := range []struct {
		rig   []impl.Device
		score []impl.Cue
		want  []int
	}{
		// More water than is wanted, just enough, less and less, with an eighth left or not, and none at all. The second nozzle wants 9, and its Most is 4.
		{three(512), atOnce(6, 9, 5), ints(6, 4, 5, 0, 0, 0, 0)}, {three(16), atOnce(6, 9, 5), ints(6, 4, 5, 0, 0, 0, 0)}, {three(15), atOnce(6, 9, 5), ints(6, 4, 5, 0, 0, 0, 0)},
		{three(14), atOnce(6, 9, 5), ints(5, 4, 5, 0, 0, 0, 0)}, {three(13), atOnce(6, 9, 5), ints(5, 4, 4, 0, 0, 0, 0)}, {three(12), atOnce(6, 9, 5), ints(4, 4, 4, 0, 0, 0, 0)}, {three(11), atOnce(6, 9, 5), ints(4, 4, 3, 0, 0, 0, 0)},
		{three(2), atOnce(6, 9, 5), ints(1, 1, 0, 0, 0, 0, 0)}, {three(1), atOnce(6, 9, 5), ints(1, 0, 0, 0, 0, 0, 0)}, {three(0), atOnce(6, 9, 5), ints(0, 0, 0, 0, 0, 0, 0)},
		// Levels of 0, at the start, at the end and between; below Most, equal to it and above.
		{three(9), atOnce(6, 0, 5), ints(5, 0, 4, 0, 0, 0, 0)}, {three(9), atOnce(0, 9, 7), ints(0, 4, 5, 0, 0, 0, 0)}, {three(9), atOnce(7, 3), ints(6, 3, 0, 0, 0, 0, 0)}, {three(512), atOnce(32, 4, 32), ints(32, 4, 32, 0, 0, 0, 0)}, {three(512), atOnce(1, 5, 31), ints(1, 4, 31, 0, 0, 0, 0)},
		{shut, atOnce(8, 8), ints(0, 3, 0)}, {three(9), nil, ints(0, 0, 0, 0, 0, 0, 0)}, {three(9), atOnce(0, 0, 0), ints(0, 0, 0, 0, 0, 0, 0)},
		// One nozzle, none, no devices.
		{single(32), atOnce(7), ints(7, 0)}, {single(6), atOnce(7), ints(6, 0)}, {single(0), atOnce(7), ints(0, 0)}, {pumps("a", "b", "c"), atOnce(7, 7, 7), ints(0, 0, 0)}, {nil, atOnce(7), nil},
		// Two pumps, each of which gives its own water only.
		{crossed(5, 7), atOnce(6, 6, 6, 6), ints(4, 3, 3, 2, 0, 0, 0, 0)}, {crossed(7, 5), atOnce(6, 6, 6, 6), ints(3, 4, 2, 3, 0, 0, 0, 0)}, {crossed(0, 7), atOnce(6, 6, 6, 6), ints(4, 0, 3, 0, 0, 0, 0, 0)}, {crossed(5, 0), atOnce(6, 6, 6, 6), ints(0, 3, 0, 2, 0, 0, 0, 0)},
		{crossed(5, 9), atOnce(1, 6, 2, 6), ints(1, 3, 2, 2, 0, 0, 0, 0)}, {crossed(512, 512), atOnce(6, 7, 8, 9), ints(6, 7, 8, 9, 0, 0, 0, 0)},
		// Cues of pumps, of lamps and of no device.
		{three(9), score(cue(0, "l", 5, 0), cue(0, "p", 6, 0), cue(0, "q", 7, 0), cue(0, "zz", 8, 0)), ints(0, 0, 0, 0, 0, 0, 0)}, {three(9), score(cue(0, "a", 32, 0), cue(0, "aa", 5, 0), cue(0, "l", 5, 0), cue(0, "p", 6, 0)), ints(9, 0, 0, 0, 0, 0, 0)},
	} {
		for _, w := range [][]impl.Gust{nil, wind(gust(0, 8, 8))} {
			if got := impl.LiftsAt(show(c.rig, c.score, w, 1), 0); !slices.Equal(got, c.want) {
				t.Errorf("LiftsAt of %v, %v = %v, not %v", c.rig, c.score, got, c.want)
			}
		}
	}
}

func TestLiftsAtOfEachTick(t *testing.T) {
	s := show(three(10), score(cue(1, "a", 8, 4), cue(2, "b", 9, 0), cue(3, "c", 5, 2), cue(5, "b", 0, 0)), nil, 7)
	for i, want := range map[int][]int{
		-1: ints(0, 0, 0), 0: ints(0, 0, 0), 1: ints(0, 0, 0), 2: ints(2, 4, 0), 3: ints(4, 4, 0), 4: ints(4, 4, 2), 5: ints(5, 0, 5), 6: ints(5, 0, 5), 7: ints(0, 0, 0), 8: ints(0, 0, 0), 64: ints(0, 0, 0),
		math.MinInt: ints(0, 0, 0), math.MaxInt: ints(0, 0, 0), 1<<32 + 5: ints(0, 0, 0), -(1 << 32) + 5: ints(0, 0, 0),
	} {
		if got := impl.LiftsAt(s, i); !slices.Equal(got, append(want, 0, 0, 0, 0)) {
			t.Errorf("LiftsAt at %d = %v, not %v", i, got, want)
		}
	}
	s.Ticks = 0
	if got := impl.LiftsAt(s, 0); !slices.Equal(got, same(0, 7)) {
		t.Errorf("LiftsAt without ticks = %v", got)
	}
	s.Ticks = 64
	if got := impl.LiftsAt(s, 63); !slices.Equal(got, ints(5, 0, 5, 0, 0, 0, 0)) {
		t.Errorf("LiftsAt at the last tick there may be = %v", got)
	}
}

func TestLiftsAtOfAllShows(t *testing.T) {
	for _, s := range someShows() {
		for _, i := range allTicks() {
			if got, want := impl.LiftsAt(s, i), liftsByHand(s, i); !slices.Equal(got, want) {
				t.Errorf("LiftsAt(%v, %d) = %v, not %v", s, i, got, want)
			}
		}
	}
}

// The water of each pump is shared fairly, and none is lost.
func TestLiftsAreFairShares(t *testing.T) {
	for _, s := range someShows() {
		for i := range s.Ticks {
			lifts := impl.LiftsAt(s, i)
			for _, d := range s.Rig {
				places, shares := nozzlesByHand(s.Rig, d.Name), ints()
				for _, k := range places {
					shares = append(shares, lifts[k])
				}
				if d.Kind == 1 && !impl.IsFair(d.Most, demandsByHand(s, places, i), shares) {
					t.Errorf("at %d, the shares %v of %s in %v are not fair", i, shares, d.Name, s)
				}
			}
		}
	}
}

func TestJetAt(t *testing.T) {
	s := show(crossed(5, 7), append(atOnce(6, 6, 6, 6), cue(1, "b", 0, 0), cue(1, "p", 9, 0), cue(2, "a", 1, 0)), wind(gust(0, 5, 5)), 3)
	for _, c := range []struct {
		name string
		i    int
		want impl.Jet
	}{
		{"a", 0, jet(0, 0, 0, 1, 4)}, {"b", 0, jet(8, 8, 1, 2, 3)}, {"c", 0, jet(-8, 0, 2, 3, 3)}, {"d", 0, jet(0, -8, 3, 4, 2)},
		{"a", 1, jet(0, 0, 0, 1, 4)}, {"b", 1, impl.Jet{}}, {"d", 1, jet(0, -8, 3, 4, 5)}, {"a", 2, jet(0, 0, 0, 1, 1)}, {"c", 2, jet(-8, 0, 2, 3, 6)}, {"b", 2, impl.Jet{}},
		// Ticks at which none is thrown, other devices, and names that no device has.
		{"a", 3, impl.Jet{}}, {"a", -1, impl.Jet{}}, {"a", math.MinInt, impl.Jet{}}, {"a", math.MaxInt, impl.Jet{}}, {"a", 1 << 32, impl.Jet{}},
		{"p", 0, impl.Jet{}}, {"p", 1, impl.Jet{}}, {"q", 0, impl.Jet{}}, {"l", 0, impl.Jet{}}, {"m", 0, impl.Jet{}}, {"e", 0, impl.Jet{}}, {"", 0, impl.Jet{}}, {"A", 0, impl.Jet{}}, {"aa", 0, impl.Jet{}}, {"a ", 0, impl.Jet{}}, {"a\x00", 0, impl.Jet{}},
	} {
		if got, ok := impl.JetAt(s, c.name, c.i); got != c.want || ok != (c.want != impl.Jet{}) {
			t.Errorf("JetAt(%q, %d) = %v, %t, not %v", c.name, c.i, got, ok, c.want)
		}
	}
}

func TestJetAtOfAllShows(t *testing.T) {
	for _, s := range someShows() {
		births := birthsByHand(s)
		for _, i := range []int{math.MinInt, -1, 0, 1, 2, 5, 7, 8, 20, 62, 63, 64, 65, math.MaxInt} {
			for _, name := range allNames() {
				var want impl.Jet
				for _, b := range births {
					if b.from == name && b.tick == i {
						want = b.jet
					}
				}
				if got, ok := impl.JetAt(s, name, i); got != want || ok != impl.IsJet(want) {
					t.Errorf("JetAt(%v, %q, %d) = %v, %t, not %v", s, name, i, got, ok, want)
				}
			}
		}
	}
}

func checkDrops(t *testing.T, s impl.Show, i int, want []impl.Drop) {
	t.Helper()
	if got := impl.DropsAt(s, i); !slices.Equal(got, want) {
		t.Errorf("DropsAt(%v, %d) = %v, not %v", s, i, got, want)
	}
}

// A wind begins and ends while the drop is in the air, also behind the last tick of the show.
func TestDropsAtOfOneDrop(t *testing.T) {
	for _, ticks := range ints(1, 2, 3, 4, 5, 64) {
		s := show(single(32), score(cue(0, "a", 3, 0), cue(1, "a", 0, 0)), wind(gust(1, 1, 0), gust(2, 5, -4), gust(3, 0, 0)), ticks)
		for i, want := range map[int]impl.Drop{0: drop("a", 0, 8, 0, 0), 1: drop("a", 0, 8, 2, 3), 2: drop("a", 0, 9, 4, 4), 3: drop("a", 0, 14, 2, 3)} {
			checkDrops(t, s, i, []impl.Drop{want})
		}
		for _, i := range []int{math.MinInt, math.MinInt + 1, -(1 << 32) + 1, -2, -1, 4, 5, 6, 64, 128, 129, 1<<32 + 1, math.MaxInt} {
			checkDrops(t, s, i, nil)
		}
		if got := impl.LandingsOf(s); !slices.Equal(got, []impl.Drop{drop("a", 0, 14, 4, 0)}) {
			t.Errorf("LandingsOf with %d ticks = %v", ticks, got)
		}
	}
}

// The last drop there may be flies as long as it can, in a wind that begins at the last tick at which one can.
func TestDropsAtBehindTheLastTick(t *testing.T) {
	s := show(single(32), score(cue(63, "a", 32, 0)), wind(gust(64, -8, 8)), 64)
	for i, want := range map[int]impl.Drop{63: drop("a", 63, 8, 0, 0), 64: drop("a", 63, 8, 2, 32), 65: drop("a", 63, 0, 12, 62), 66: drop("a", 63, -8, 22, 90), 95: drop("a", 63, -240, 312, 32)} {
		checkDrops(t, s, i, []impl.Drop{want})
	}
	for _, i := range ints(0, 62, 96, 97, 127, 128, 129, 1000) {
		checkDrops(t, s, i, nil)
	}
	if got := impl.LandingsOf(s); !slices.Equal(got, []impl.Drop{drop("a", 63, -248, 322, 0)}) {
		t.Errorf("LandingsOf = %v", got)
	}
}

// Of two drops of a nozzle, the later one lands before the earlier one.
func TestDropsAtOfOneNozzle(t *testing.T) {
	s := show(single(32), score(cue(0, "a", 5, 0), cue(1, "a", 1, 0), cue(2, "a", 0, 0)), nil, 9)
	for i, want := range [][]impl.Drop{
		{drop("a", 0, 8, 0, 0)}, {drop("a", 0, 8, 2, 5), drop("a", 1, 8, 0, 0)}, {drop("a", 0, 8, 4, 8), drop("a", 1, 8, 2, 1)}, {drop("a", 0, 8, 6, 9)}, {drop("a", 0, 8, 8, 8)}, {drop("a", 0, 8, 10, 5)}, {}, {},
	} {
		checkDrops(t, s, i, want)
	}
	if got := impl.LandingsOf(s); !slices.Equal(got, []impl.Drop{drop("a", 0, 8, 12, 0), drop("a", 1, 8, 4, 0)}) {
		t.Errorf("LandingsOf = %v", got)
	}
}

// The drops of one birth are in the order of the Names, in which their pumps take turns.
func TestDropsAtOfSeveralNozzles(t *testing.T) {
	s := show(crossed(5, 7), atOnce(6, 6, 6, 6), wind(gust(0, 0, 1)), 2)
	for i, want := range [][]impl.Drop{
		{drop("a", 0, 0, 0, 0), drop("b", 0, 8, 8, 0), drop("c", 0, -8, 0, 0), drop("d", 0, 0, -8, 0)},
		{drop("a", 0, 1, 1, 4), drop("b", 0, 8, 11, 3), drop("c", 0, -11, 1, 3), drop("d", 0, 0, -11, 2), drop("a", 1, 0, 0, 0), drop("b", 1, 8, 8, 0), drop("c", 1, -8, 0, 0), drop("d", 1, 0, -8, 0)},
		{drop("a", 0, 2, 2, 6), drop("b", 0, 8, 14, 4), drop("c", 0, -14, 2, 4), drop("d", 0, 0, -14, 2), drop("a", 1, 1, 1, 4), drop("b", 1, 8, 11, 3), drop("c", 1, -11, 1, 3), drop("d", 1, 0, -11, 2)},
		{drop("a", 0, 3, 3, 6), drop("b", 0, 8, 17, 3), drop("c", 0, -17, 3, 3), drop("a", 1, 2, 2, 6), drop("b", 1, 8, 14, 4), drop("c", 1, -14, 2, 4), drop("d", 1, 0, -14, 2)},
		{drop("a", 0, 4, 4, 4), drop("a", 1, 3, 3, 6), drop("b", 1, 8, 17, 3), drop("c", 1, -17, 3, 3)},
		{drop("a", 1, 4, 4, 4)},
		{},
	} {
		checkDrops(t, s, i, want)
	}
	want := []impl.Drop{drop("a", 0, 5, 5, 0), drop("b", 0, 8, 20, 0), drop("c", 0, -20, 4, 0), drop("d", 0, 0, -17, 0), drop("a", 1, 5, 5, 0), drop("b", 1, 8, 20, 0), drop("c", 1, -20, 4, 0), drop("d", 1, 0, -17, 0)}
	if got := impl.LandingsOf(s); !slices.Equal(got, want) {
		t.Errorf("LandingsOf = %v, not %v", got, want)
	}
}

func TestDropsAtOfNone(t *testing.T) {
	for _, s := range quietShows() {
		for _, i := range allTicks() {
			checkDrops(t, s, i, nil)
			if thrown, landed := impl.ThrownBy(s, i), impl.LandedBy(s, i); thrown != 0 || landed != 0 {
				t.Errorf("at %d, %d are thrown and %d landed in %v", i, thrown, landed, s)
			}
		}
		if got := impl.LandingsOf(s); len(got) != 0 || impl.HighestOf(s) != 0 || impl.WaterOf(s) != 0 {
			t.Errorf("%v has the landings %v, the height %d, the water %d", s, got, impl.HighestOf(s), impl.WaterOf(s))
		}
	}
}

func TestDropsAtOfAllShows(t *testing.T) {
	for _, s := range someShows() {
		births := birthsByHand(s)
		for _, i := range allTicks() {
			checkDrops(t, s, i, flyingByHand(s.Wind, births, i))
		}
	}
}

func TestLandingsOfAllShows(t *testing.T) {
	for _, s := range someShows() {
		var want []impl.Drop
		for _, b := range birthsByHand(s) {
			want = append(want, b.drop(s.Wind, b.landing()))
		}
		if got := impl.LandingsOf(s); !slices.Equal(got, want) {
			t.Errorf("LandingsOf(%v) = %v, not %v", s, got, want)
		}
	}
}

// In each wind, a drop is where its jet says, moved by what the wind drifts over its ticks.
func TestDropsInAllWinds(t *testing.T) {
	for _, w := range someWinds() {
		for _, s := range []impl.Show{show(crossed(5, 7), pulses(), w, 64), show(corners(), score(cue(0, "b", 32, 0), cue(2, "b", 0, 0), cue(2, "c", 7, 0), cue(62, "f", 32, 0)), w, 64)} {
			for i := range 100 {
				for _, d := range impl.DropsAt(s, i) {
					j, _ := impl.JetAt(s, d.From, d.Born)
					p, _ := impl.PlaceAt(j, i-d.Born)
					by, _ := impl.DriftOver(w, d.Born, i)
					if at, ok := impl.AddPlaces(p, by); d.At != at || !ok || d.Height != impl.HeightAt(j, i-d.Born) {
						t.Errorf("at %d, %v is %v in the wind %v", i, j, d, w)
					}
				}
			}
			for _, d := range impl.LandingsOf(s) {
				j, _ := impl.JetAt(s, d.From, d.Born)
				p, _ := impl.LandingOf(j)
				by, _ := impl.DriftOver(w, d.Born, d.Born+impl.FlightOf(j))
				if at, ok := impl.AddPlaces(p, by); d.At != at || !ok || d.Height != 0 {
					t.Errorf("%v lands as %v in the wind %v", j, d, w)
				}
			}
		}
	}
}

func TestThrownByAndLandedBy(t *testing.T) {
	// Births at 0 to 4, with the lifts 5, 5, 1, 1, 2, that land at 6, 7, 4, 5, 7.
	s := show(single(32), score(cue(0, "a", 5, 0), cue(2, "a", 1, 0), cue(4, "a", 2, 0)), nil, 5)
	late := show(single(32), score(cue(63, "a", 32, 0)), nil, 64)
	for _, c := range []struct {
		s              impl.Show
		i              int
		thrown, landed int
	}{
		{s, math.MinInt, 0, 0}, {s, math.MinInt + 5, 0, 0}, {s, -(1 << 32) + 5, 0, 0}, {s, -1, 0, 0}, {s, 0, 1, 0}, {s, 1, 2, 0}, {s, 2, 3, 0}, {s, 3, 4, 0}, {s, 4, 5, 1}, {s, 5, 5, 2}, {s, 6, 5, 3}, {s, 7, 5, 5}, {s, 8, 5, 5},
		{s, 64, 5, 5}, {s, 128, 5, 5}, {s, 129, 5, 5}, {s, 1 << 32, 5, 5}, {s, math.MaxInt, 5, 5},
		{late, math.MinInt, 0, 0}, {late, 0, 0, 0}, {late, 62, 0, 0}, {late, 63, 1, 0}, {late, 64, 1, 0}, {late, 95, 1, 0}, {late, 96, 1, 1}, {late, 97, 1, 1}, {late, 1000, 1, 1}, {late, math.MaxInt, 1, 1},
		{show(crowd(512), atOnce(same(32, 7)...), nil, 64), 63, 448, 217}, {show(crowd(512), atOnce(same(1, 7)...), nil, 64), 65, 448, 448}, {show(crowd(512), atOnce(same(1, 7)...), nil, 64), 64, 448, 441}, {show(crossed(5, 7), atOnce(6, 6, 6, 6), nil, 2), 4, 8, 4},
	} {
		if thrown, landed := impl.ThrownBy(c.s, c.i), impl.LandedBy(c.s, c.i); thrown != c.thrown || landed != c.landed {
			t.Errorf("at %d, %d are thrown and %d landed in %v", c.i, thrown, landed, c.s)
		}
	}
}

func TestEachDropIsInTheAirOrHasLanded(t *testing.T) {
	for _, s := range someShows() {
		births := birthsByHand(s)
		for _, i := range allTicks() {
			thrown, landed := impl.ThrownBy(s, i), impl.LandedBy(s, i)
			if want := countByHand(births, func(b birth) bool { return b.tick <= i }); thrown != want {
				t.Errorf("ThrownBy(%v, %d) = %d, not %d", s, i, thrown, want)
			}
			if want := countByHand(births, func(b birth) bool { return b.landing() <= i }); landed != want {
				t.Errorf("LandedBy(%v, %d) = %d, not %d", s, i, landed, want)
			}
			if flying := len(impl.DropsAt(s, i)); flying != thrown-landed {
				t.Errorf("at %d, %d of %d thrown and %d landed are in the air in %v", i, flying, thrown, landed, s)
			}
		}
		if landed := len(impl.LandingsOf(s)); landed != impl.ThrownBy(s, math.MaxInt) || landed != impl.LandedBy(s, math.MaxInt) {
			t.Errorf("%d drops of %v land", landed, s)
		}
	}
}

func TestHighestOf(t *testing.T) {
	for _, c := range []struct {
		s    impl.Show
		want int
	}{
		{impl.Show{}, 0}, {show(single(32), nil, nil, 64), 0}, {show(single(32), atOnce(5), nil, 0), 0}, {show(single(0), atOnce(5), nil, 9), 0}, {show(three(0), atOnce(5, 5, 5), nil, 9), 0}, {show(single(32), score(cue(9, "a", 5, 0)), nil, 9), 0},
		// One drop, with lifts that are even and odd, also one that is highest behind the last tick.
		{show(single(32), atOnce(1), nil, 1), 1}, {show(single(32), atOnce(2), nil, 1), 2}, {show(single(32), atOnce(3), nil, 1), 4}, {show(single(32), atOnce(4), nil, 1), 6}, {show(single(32), atOnce(5), nil, 1), 9}, {show(single(32), atOnce(31), nil, 1), 256}, {show(single(32), atOnce(32), nil, 1), 272}, {show(single(32), score(cue(63, "a", 32, 0)), nil, 64), 272},
		// The greatest lift is first, last, between, of another nozzle, cut by Most or by the water.
		{show(single(32), score(cue(0, "a", 5, 0), cue(1, "a", 2, 0)), nil, 3), 9}, {show(single(32), score(cue(0, "a", 2, 0), cue(2, "a", 5, 0)), nil, 3), 9}, {show(single(32), score(cue(0, "a", 2, 0), cue(1, "a", 5, 0), cue(2, "a", 1, 0)), nil, 3), 9}, {show(single(32), score(cue(0, "a", 2, 0), cue(2, "a", 5, 0)), nil, 2), 2},
		{show(crossed(5, 7), atOnce(1, 5, 2, 0), nil, 4), 9}, {show(crossed(9, 9), atOnce(1, 1, 1, 4), nil, 4), 6}, {show(single(3), atOnce(32), nil, 4), 4}, {show(three(7), atOnce(32, 32, 32), nil, 4), 4}, {show(single(32), atOnce(5), wind(gust(0, 8, 8)), 4), 9},
	} {
		if got := impl.HighestOf(c.s); got != c.want {
			t.Errorf("HighestOf(%v) = %d, not %d", c.s, got, c.want)
		}
	}
}

func TestHighestOfAllShowsIsSeen(t *testing.T) {
	for _, s := range someShows() {
		want := 0
		births := birthsByHand(s)
		for i := range 98 {
			for _, d := range flyingByHand(s.Wind, births, i) {
				want = max(want, d.Height)
			}
		}
		if got := impl.HighestOf(s); got != want {
			t.Errorf("HighestOf(%v) = %d, not %d", s, got, want)
		}
	}
}

func TestWaterOf(t *testing.T) {
	for _, c := range []struct {
		s    impl.Show
		want int
	}{
		{impl.Show{}, 0}, {show(three(10), atOnce(6, 9, 5), nil, 0), 0}, {show(three(10), nil, nil, 64), 0}, {show(three(0), atOnce(6, 9, 5), nil, 64), 0}, {show(pumps("a", "b"), atOnce(6, 9), nil, 64), 0},
		// Pumps that are always exhausted, and such that are never.
		{show(three(10), atOnce(6, 9, 5), nil, 1), 10}, {show(three(10), atOnce(6, 9, 5), nil, 2), 20}, {show(three(10), atOnce(6, 9, 5), nil, 64), 640}, {show(three(1), atOnce(6, 9, 5), nil, 64), 64}, {show(three(15), atOnce(6, 9, 5), nil, 64), 960}, {show(three(16), atOnce(6, 9, 5), nil, 64), 960}, {show(crossed(5, 7), atOnce(6, 6, 6, 6), nil, 10), 120},
		{show(crossed(5, 7), atOnce(6, 6, 0, 1), nil, 10), 110}, {show(single(32), score(cue(0, "a", 5, 0), cue(1, "a", 1, 0), cue(2, "a", 0, 0)), nil, 64), 6}, {show(single(3), atOnce(32), nil, 10), 30}, {show(single(32), score(cue(0, "a", 4, 4)), wind(gust(0, 1, 1)), 6), 14},
		// More than the greatest measure.
		{show(crowd(512), atOnce(same(32, 7)...), nil, 64), 14336},
	} {
		if got := impl.WaterOf(c.s); got != c.want {
			t.Errorf("WaterOf(%v) = %d, not %d", c.s, got, c.want)
		}
	}
	for _, s := range someShows() {
		want := 0
		for i := range s.Ticks {
			want += totalByHand(liftsByHand(s, i))
		}
		if got := impl.WaterOf(s); got != want {
			t.Errorf("WaterOf(%v) = %d, not %d", s, got, want)
		}
	}
}

func TestLitAt(t *testing.T) {
	s := show(three(9), score(cue(0, "a", 5, 0), cue(1, "b", 5, 0), cue(2, "a", 0, 0), cue(3, "b", 0, 0), cue(3, "c", 9, 0), cue(4, "l", 5, 0), cue(4, "p", 5, 0)), nil, 5)
	for i, want := range map[int][]string{
		0: {"l", "n"}, 1: {"l", "m", "n"}, 2: {"m"}, 3: {}, 4: {}, 5: {}, 6: {}, 64: {}, -1: {}, math.MinInt: {}, math.MaxInt: {}, 1 << 32: {}, 1<<32 + 1: {}, -(1 << 32) + 1: {},
	} {
		if got := impl.LitAt(s, i); !slices.Equal(got, want) {
			t.Errorf("LitAt at %d = %q, not %q", i, got, want)
		}
	}
	for _, c := range []struct {
		s    impl.Show
		want []string
	}{
		// Levels without water, with too little for all, and with a Most of 0.
		{show(three(0), atOnce(5, 5, 5), nil, 1), nil}, {show(three(1), atOnce(5, 5, 5), nil, 1), []string{"l", "n"}}, {show(three(1), atOnce(0, 5, 5), nil, 1), []string{"m"}}, {show(crossed(0, 9), atOnce(5, 5, 5, 5), nil, 1), []string{"m"}}, {show(crossed(9, 0), atOnce(5, 5, 5, 5), nil, 1), []string{"l"}}, {show(crossed(9, 9), atOnce(5, 5, 5, 5), nil, 1), []string{"l", "m"}},
		{show(rig(nozzle("a", "p", 0, 0, 0, 0, 0), lamp("l", "a", 0, 0), pump("p", 9)), atOnce(5), nil, 1), nil}, {show(single(32), atOnce(5), nil, 1), nil}, {show(three(9), atOnce(5), nil, 0), nil}, {impl.Show{Ticks: 1}, nil}, {show(corners(), atOnce(0, 1), nil, 1), []string{"g"}},
	} {
		if got := impl.LitAt(c.s, 0); !slices.Equal(got, c.want) {
			t.Errorf("LitAt(%v, 0) = %q, not %q", c.s, got, c.want)
		}
	}
}

func litByHand(s impl.Show, i int) []string {
	var lit []string
	lifts := liftsByHand(s, i)
	for _, d := range s.Rig {
		for k, holder := range s.Rig {
			if d.Kind == 3 && d.Line == holder.Name && lifts[k] > 0 {
				lit = append(lit, d.Name)
			}
		}
	}
	return lit
}

func TestLitAtOfAllShows(t *testing.T) {
	for _, s := range someShows() {
		for i := -2; i < 70; i++ {
			if got, want := impl.LitAt(s, i), litByHand(s, i); !slices.Equal(got, want) {
				t.Errorf("LitAt(%v, %d) = %q, not %q", s, i, got, want)
			}
		}
	}
}

func turnedShowByHand(s impl.Show, n int) impl.Show {
	turned := slices.Clone(s.Wind)
	for i, g := range turned {
		turned[i].Drift = turnedByHand(g.Drift, n)
	}
	return show(turnedRigByHand(s.Rig, n), s.Score, turned, s.Ticks)
}

func TestTurnShow(t *testing.T) {
	w := wind(gust(2, 1, 0), gust(5, -2, 3))
	s := show(rig(nozzle("a", "p", 8, 16, 3, 4, 32), lamp("l", "a", 4096, -4000), pump("p", 40)), pulses(), w, 7)
	once := show(rig(nozzle("a", "p", -16, 8, 0, 4, 32), lamp("l", "a", 4000, 4096), pump("p", 40)), pulses(), wind(gust(2, 0, 1), gust(5, -3, -2)), 7)
	twice := show(rig(nozzle("a", "p", -8, -16, 1, 4, 32), lamp("l", "a", -4096, 4000), pump("p", 40)), pulses(), wind(gust(2, -1, 0), gust(5, 2, -3)), 7)
	thrice := show(rig(nozzle("a", "p", 16, -8, 2, 4, 32), lamp("l", "a", -4000, -4096), pump("p", 40)), pulses(), wind(gust(2, 0, -1), gust(5, 3, 2)), 7)
	for n, want := range map[int]impl.Show{
		0: s, 1: once, 2: twice, 3: thrice, 4: s, 5: once, 6: twice, 103: thrice, -1: thrice, -2: twice, -3: once, -4: s, -5: thrice,
		math.MaxInt: thrice, math.MinInt: s, math.MinInt + 1: once, 1<<32 + 1: once,
	} {
		if got := impl.TurnShow(s, n); !sameShow(got, want) {
			t.Errorf("TurnShow by %d = %v, not %v", n, got, want)
		}
	}
}

func TestTurnShowOfAllShows(t *testing.T) {
	for _, s := range someShows() {
		for _, n := range someTurns() {
			got := impl.TurnShow(s, n)
			if want := turnedShowByHand(s, n); !sameShow(got, want) || !impl.IsShow(got) {
				t.Errorf("TurnShow(%v, %d) = %v, not %v", s, n, got, want)
			}
			if back := impl.TurnShow(got, -n); !sameShow(back, s) {
				t.Errorf("turned by %d and back, %v is %v", n, s, back)
			}
		}
	}
}

// checkSameDrops asks of another show whether it throws the drops of a show, each in the place to which its own is taken.
func checkSameDrops(t *testing.T, what string, s, other impl.Show, take func(impl.Place) impl.Place) {
	t.Helper()
	taken := func(drops []impl.Drop) []impl.Drop {
		for i, d := range drops {
			drops[i].At = take(d.At)
		}
		return drops
	}
	for _, i := range ints(-1, 0, 1, 2, 5, 8, 21, 63, 64, 70, 95, 96) {
		checkDrops(t, other, i, taken(impl.DropsAt(s, i)))
		if got, want := impl.LiftsAt(other, i), impl.LiftsAt(s, i); !slices.Equal(got, want) {
			t.Errorf("%s, %v has the lifts %v at %d, not %v", what, s, got, i, want)
		}
		if got, want := impl.LitAt(other, i), impl.LitAt(s, i); !slices.Equal(got, want) {
			t.Errorf("%s, %v lights %q at %d, not %q", what, s, got, i, want)
		}
		if impl.ThrownBy(other, i) != impl.ThrownBy(s, i) || impl.LandedBy(other, i) != impl.LandedBy(s, i) {
			t.Errorf("%s, %v throws or lands other drops by %d", what, s, i)
		}
	}
	if got, want := impl.LandingsOf(other), taken(impl.LandingsOf(s)); !slices.Equal(got, want) {
		t.Errorf("%s, %v has the landings %v, not %v", what, s, got, want)
	}
	if impl.HighestOf(other) != impl.HighestOf(s) || impl.WaterOf(other) != impl.WaterOf(s) {
		t.Errorf("%s, %v throws higher or lower", what, s)
	}
}

func TestTurnedShowsThrowTurnedDrops(t *testing.T) {
	for k, s := range someShows() {
		for _, n := range ints(k%3+1, -1) {
			checkSameDrops(t, "turned", s, impl.TurnShow(s, n), func(p impl.Place) impl.Place {
				return turnedByHand(p, n)
			})
		}
		j, ok := impl.JetAt(s, "a", 1)
		turned, turnedOk := impl.JetAt(impl.TurnShow(s, k), "a", 1)
		if turned != impl.TurnJet(j, k) || turnedOk != ok {
			t.Errorf("turned by %d, %v throws %v, not %v turned", k, s, turned, j)
		}
	}
}

func TestShiftShow(t *testing.T) {
	w, p := wind(gust(2, 1, 0)), pump("p", 40)
	s := show(rig(nozzle("a", "p", 8, 16, 3, 4, 32), lamp("l", "a", 4000, -4000), p), pulses(), w, 7)
	still := show(rig(p), atOnce(5), w, 64)
	shifted := func(x, y, lampX, lampY int) impl.Show {
		return show(rig(nozzle("a", "p", x, y, 3, 4, 32), lamp("l", "a", lampX, lampY), p), pulses(), w, 7)
	}
	for _, c := range []struct {
		s    impl.Show
		by   impl.Place
		want impl.Show
		ok   bool
	}{
		{s, at(0, 0), s, true}, {s, at(1, -2), shifted(9, 14, 4001, -4002), true}, {s, at(96, -96), shifted(104, -80, 4096, -4096), true}, {s, at(-1032, 1008), shifted(-1024, 1024, 2968, -2992), true},
		// The lamp, or the nozzle, just leaves the floor.
		{s, at(97, 0), impl.Show{}, false}, {s, at(0, -97), impl.Show{}, false}, {s, at(-1033, 0), impl.Show{}, false}, {s, at(0, 1009), impl.Show{}, false},
		// A place that is none, also where nothing would move.
		{s, at(4097, 0), impl.Show{}, false}, {s, at(0, -4097), impl.Show{}, false}, {s, at(math.MaxInt, math.MinInt), impl.Show{}, false}, {s, at(1<<32, 0), impl.Show{}, false},
		{still, at(4096, -4096), still, true}, {still, at(4097, 0), impl.Show{}, false}, {still, at(0, math.MinInt), impl.Show{}, false}, {impl.Show{}, at(5, 5), impl.Show{}, true}, {impl.Show{}, at(0, 4097), impl.Show{}, false},
	} {
		if got, ok := impl.ShiftShow(c.s, c.by); !sameShow(got, c.want) || ok != c.ok {
			t.Errorf("ShiftShow(%v, %v) = %v, %t, not %v", c.s, c.by, got, ok, c.want)
		}
	}
}

func TestShiftShowOfAllShows(t *testing.T) {
	for _, s := range someShows() {
		for _, by := range slices.Concat(somePlaces(), noPlaces()) {
			devices, wantOk := shiftedByHand(s.Rig, by)
			want := show(devices, s.Score, s.Wind, s.Ticks)
			if !wantOk {
				want = impl.Show{}
			}
			if got, ok := impl.ShiftShow(s, by); !sameShow(got, want) || ok != wantOk {
				t.Errorf("ShiftShow(%v, %v) = %v, %t, not %v", s, by, got, ok, want)
			}
		}
	}
}

func TestShiftedShowsThrowShiftedDrops(t *testing.T) {
	for _, s := range someShows() {
		for _, by := range []impl.Place{at(7, -5), at(-40, 900)} {
			if other, ok := impl.ShiftShow(s, by); ok {
				checkSameDrops(t, "moved", s, other, func(p impl.Place) impl.Place {
					return at(p.X+by.X, p.Y+by.Y)
				})
			}
		}
	}
}

func TestNothingIsToldOfWhatIsNoShow(t *testing.T) {
	for _, s := range noShows() {
		for _, i := range []int{math.MinInt, -1, 0, 1, 5, 8, 64, math.MaxInt} {
			lifts, drops, lit := impl.LiftsAt(s, i), impl.DropsAt(s, i), impl.LitAt(s, i)
			if len(lifts) != 0 || len(drops) != 0 || len(lit) != 0 || impl.ThrownBy(s, i) != 0 || impl.LandedBy(s, i) != 0 {
				t.Errorf("at %d, %v has the lifts %v, the drops %v, the lit lamps %q", i, s, lifts, drops, lit)
			}
			for _, name := range []string{"a", "b", "p", ""} {
				if j, ok := impl.JetAt(s, name, i); j != (impl.Jet{}) || ok {
					t.Errorf("JetAt(%v, %q, %d) = %v, %t", s, name, i, j, ok)
				}
			}
			if got := impl.TurnShow(s, i); !sameShow(got, impl.Show{}) {
				t.Errorf("TurnShow(%v, %d) = %v", s, i, got)
			}
		}
		if landings := impl.LandingsOf(s); len(landings) != 0 || impl.HighestOf(s) != 0 || impl.WaterOf(s) != 0 {
			t.Errorf("%v has the landings %v, the height %d, the water %d", s, landings, impl.HighestOf(s), impl.WaterOf(s))
		}
		for _, by := range []impl.Place{at(0, 0), at(5, -7), at(4097, 0)} {
			if got, ok := impl.ShiftShow(s, by); !sameShow(got, impl.Show{}) || ok {
				t.Errorf("ShiftShow(%v, %v) = %v, %t", s, by, got, ok)
			}
		}
	}
}

// telling has results of each function that returns something with memory of its own.
type telling struct {
	lifts    []int
	drops    []impl.Drop
	landings []impl.Drop
	lit      []string
	shows    []impl.Show
}

func tellingOf(s impl.Show) telling {
	shifted, _ := impl.ShiftShow(s, at(0, 0))
	shiftedFar, _ := impl.ShiftShow(s, at(0, -4))
	return telling{impl.LiftsAt(s, 1), impl.DropsAt(s, 1), impl.LandingsOf(s), impl.LitAt(s, 1), []impl.Show{impl.TurnShow(s, 0), impl.TurnShow(s, 1), shifted, shiftedFar}}
}

func (x telling) isSame(y telling) bool {
	return slices.Equal(x.lifts, y.lifts) && slices.Equal(x.drops, y.drops) && slices.Equal(x.landings, y.landings) && slices.Equal(x.lit, y.lit) && slices.EqualFunc(x.shows, y.shows, sameShow)
}

func (x telling) spoil() {
	spoil(x.lifts, 99)
	spoil(x.drops, drop("spoilt", 99, 98, 97, 96))
	spoil(x.landings, drop("spoilt", 99, 98, 97, 96))
	spoil(x.lit, "spoilt")
	for _, s := range x.shows {
		spoil(s.Rig, pump("spoilt", 77))
		spoil(s.Score, cue(77, "spoilt", 66, 55))
		spoil(s.Wind, gust(77, 66, 55))
	}
}

func TestShowsShareNothing(t *testing.T) {
	for _, s := range append(someShows(), noShows()...) {
		devices, allDevices := sparing(s.Rig, pump("spare", 1))
		cues, allCues := sparing(s.Score, cue(64, "zzz", 7, 7))
		gusts, allGusts := sparing(s.Wind, gust(-7, 99, 98))
		before := show(slices.Clone(allDevices), slices.Clone(allCues), slices.Clone(allGusts), s.Ticks)
		part := show(devices, cues, gusts, s.Ticks)
		told, again := tellingOf(part), tellingOf(part)
		impl.IsShow(part)
		impl.JetAt(part, "a", 1)
		impl.ThrownBy(part, 5)
		impl.LandedBy(part, 5)
		impl.HighestOf(part)
		impl.WaterOf(part)
		told.spoil()
		if !sameShow(show(allDevices, allCues, allGusts, part.Ticks), before) {
			t.Errorf("the argument %v is changed", s)
		}
		if !again.isSame(tellingOf(part)) {
			t.Errorf("results of %v share memory", s)
		}
	}
}
