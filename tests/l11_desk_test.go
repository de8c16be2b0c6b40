package tests

import (
	"fmt"
	"regexp"
	"slices"
	"strconv"
	"strings"
	"testing"

	"loop.example/g03017/impl"
)

func desk(s impl.Show, r []impl.Place, basin impl.Box) impl.Desk {
	return impl.Desk{Show: s, Rose: r, Basin: basin}
}

func sameDesk(a, b impl.Desk) bool {
	return sameShow(a.Show, b.Show) && slices.Equal(a.Rose, b.Rose) && a.Basin == b.Basin
}

func bareDesk() impl.Desk {
	return desk(impl.Show{}, calm(), impl.Box{})
}

// plot throws, at the ticks 0, 1, 3, 4 and 5, drops with the lifts 5, 1, 1, 3 and 3. It is safe around its basin, but not dry in its own wind.
func plot() impl.Desk {
	return desk(show(
		rig(nozzle("a", "p", 8, 0, 1, 2, 32), nozzle("b", "p", 0, 8, 0, 1, 4), lamp("l", "a", 4000, -8), pump("p", 10), pump("q", 5)),
		score(cue(0, "a", 5, 0), cue(1, "a", 1, 0), cue(2, "a", 0, 0), cue(2, "b", 3, 2)),
		wind(gust(2, 1, 0), gust(5, -2, 3)), 6,
	), eastOrWest(), boxFrom(0, 0, 20, 20))
}

// shallow is the same with a basin outside of which some drops can land.
func shallow() impl.Desk {
	d := plot()
	d.Basin = boxFrom(0, 0, 20, 10)
	return d
}

// crowdedDesk has as many devices, cues, gusts and drifts as there may be.
func crowdedDesk() impl.Desk {
	return desk(show(fountain(), program(), gustsFrom(0, 9, 8), 64), someRoses()[9], wholeFloor())
}

// stillDesk has as many gusts as there may be, all but one of which change nothing.
func stillDesk() impl.Desk {
	d := plot()
	d.Show.Wind = wind(gust(0, 0, 0), gust(1, 0, 0), gust(2, 0, 0), gust(3, 0, 0), gust(4, 5, 5), gust(5, 5, 5), gust(6, 5, 5), gust(7, 5, 5))
	return d
}

func someDesks() []impl.Desk {
	l := []impl.Desk{bareDesk(), plot(), shallow(), crowdedDesk(), stillDesk()}
	for k, s := range slices.Concat(briefShows(), quietShows(), someShows()) {
		r := someRoses()[5*k%14]
		b, _ := basinByHand(birthsByHand(s), r)
		shrunk := boxFrom(b.Low.X, b.Low.Y, (b.Low.X+b.High.X)/2, (b.Low.Y+b.High.Y)/2)
		basins := []impl.Box{b, {}, shrunk, boxFrom(-60, -30, 70, 50), wholeFloor()}
		l = append(l, desk(s, r, basins[k%5]))
	}
	return l
}

// noDesks has desks with one fault each, and with several.
func noDesks() []impl.Desk {
	l := []impl.Desk{{}, desk(impl.Show{Ticks: -1}, nil, boxFrom(1, 0, 0, 0)), desk(plot().Show, rose(at(9, 0)), boxFrom(1, 0, 0, 0)), desk(impl.Show{Ticks: 65}, calm(), boxFrom(1, 0, 0, 0)), desk(impl.Show{Ticks: 65}, nil, impl.Box{})}
	for _, s := range noShows() {
		l = append(l, desk(s, calm(), impl.Box{}))
	}
	for _, r := range noRoses() {
		l = append(l, desk(plot().Show, r, plot().Basin), desk(impl.Show{}, r, impl.Box{}))
	}
	for _, b := range noBoxes() {
		l = append(l, desk(plot().Show, eastOrWest(), b), desk(impl.Show{}, calm(), b))
	}
	return l
}

func TestLimitsOfDesks(t *testing.T) {
	if impl.MaxLines != 40 || impl.MaxText != 4000 {
		t.Error(impl.MaxLines, impl.MaxText)
	}
}

func TestNewDesk(t *testing.T) {
	for range 2 {
		d := impl.NewDesk()
		if !sameDesk(d, desk(impl.Show{}, rose(at(0, 0)), boxFrom(0, 0, 0, 0))) || !impl.IsDesk(d) {
			t.Errorf("NewDesk is %v", d)
		}
		spoil(d.Rose, at(77, 77))
	}
}

func TestIsDesk(t *testing.T) {
	checkReport(t, "IsDesk", impl.IsDesk, someDesks(), noDesks())
}

func checkLine(t *testing.T, d impl.Desk, line string, want impl.Desk, answer string) {
	t.Helper()
	got, told := impl.DeskLine(d, line)
	if told != answer {
		t.Errorf("%q is answered with %q, not %q, at %v", line, told, answer, d)
	}
	if !sameDesk(got, want) {
		t.Errorf("by %q, the desk %v is %v, not %v", line, d, got, want)
	}
}

// lineCase is a line that is done at some desk; without a change it leaves the desk as it is.
type lineCase struct {
	before func() impl.Desk
	line   string
	answer string
	change func(*impl.Desk)
}

func checkLines(t *testing.T, cases []lineCase) {
	t.Helper()
	for _, c := range cases {
		want := c.before()
		if c.change != nil {
			c.change(&want)
		}
		checkLine(t, c.before(), c.line, want, c.answer)
	}
}

func rigIs(devices ...impl.Device) func(*impl.Desk) {
	return func(d *impl.Desk) { d.Show.Rig = devices }
}

func scoreIs(cues ...impl.Cue) func(*impl.Desk) {
	return func(d *impl.Desk) { d.Show.Score = cues }
}

func windIs(gusts ...impl.Gust) func(*impl.Desk) {
	return func(d *impl.Desk) { d.Show.Wind = gusts }
}

func ticksAre(n int) func(*impl.Desk) {
	return func(d *impl.Desk) { d.Show.Ticks = n }
}

func roseIs(drifts ...impl.Place) func(*impl.Desk) {
	return func(d *impl.Desk) { d.Rose = drifts }
}

func basinIs(lowX, lowY, highX, highY int) func(*impl.Desk) {
	return func(d *impl.Desk) { d.Basin = boxFrom(lowX, lowY, highX, highY) }
}

func TestLinesOfDevices(t *testing.T) {
	l := plot().Show.Rig
	checkLines(t, []lineCase{
		{bareDesk, "device pump p most 4", "ok", rigIs(pump("p", 32))},
		{plot, "device pump z most 64", "ok", rigIs(append(slices.Clone(l), pump("z", 512))...)},
		{plot, "device nozzle aa on q at 1.5-2i heading 3 tilt 0.5 most 4", "ok", rigIs(l[0], nozzle("aa", "q", 12, -16, 3, 4, 32), l[1], l[2], l[3], l[4])},
		{plot, "device lamp m on b at 0+0i", "ok", rigIs(l[0], l[1], l[2], lamp("m", "b", 0, 0), l[3], l[4])},
		// A Name that is there, a Line that names no such device, a full rig, and a text that is no device.
		{plot, "device pump p most 4", "no", nil}, {plot, "device nozzle b on p at 0+1i heading 0 tilt 0.125 most 0.5", "no", nil}, {plot, "device nozzle c on x at 0+0i heading 0 tilt 0 most 0", "no", nil}, {plot, "device nozzle c on b at 0+0i heading 0 tilt 0 most 0", "no", nil}, {plot, "device lamp c on p at 0+0i", "no", nil},
		{bareDesk, "device lamp c on a at 0+0i", "no", nil}, {crowdedDesk, "device pump z most 1", "no", nil}, {bareDesk, "device pump P most 4", "no", nil}, {bareDesk, "device pump p most 65", "no", nil}, {bareDesk, "device pump p most 4.0", "no", nil}, {bareDesk, "device pump p", "no", nil}, {bareDesk, "device pump", "no", nil}, {bareDesk, "device p", "no", nil}, {bareDesk, "device device pump p most 4", "no", nil},
		// An empty text, one that begins with a blank or ends with one, and one with a blank too many.
		{bareDesk, "device ", "no", nil}, {bareDesk, "device  ", "no", nil}, {bareDesk, "device  pump p most 4", "no", nil}, {bareDesk, "device pump p most 4 ", "no", nil}, {bareDesk, "device pump  p most 4", "no", nil}, {bareDesk, "device pump p most 4\n", "no", nil}, {bareDesk, "device \tpump p most 4", "no", nil},
		{bareDesk, "device #", "no", nil}, {bareDesk, "device limit", "no", nil}, {bareDesk, "device 5 a 1.5", "no", nil}, {bareDesk, "device", "what", nil},
		// Nothing hangs on it, or something does; it is not there, it is empty, or it is no name.
		{plot, "remove l", "ok", rigIs(l[0], l[1], l[3], l[4])}, {plot, "remove b", "ok", rigIs(l[0], l[2], l[3], l[4])}, {plot, "remove q", "ok", rigIs(l[:4]...)}, {func() impl.Desk { return desk(show(pumps("p"), nil, nil, 3), calm(), impl.Box{}) }, "remove p", "ok", rigIs()},
		{plot, "remove a", "no", nil}, {plot, "remove p", "no", nil}, {plot, "remove x", "no", nil}, {plot, "remove aa", "no", nil}, {plot, "remove ", "no", nil}, {plot, "remove A", "no", nil}, {plot, "remove 9", "no", nil}, {plot, "remove b\n", "no", nil}, {plot, "remove \tb", "no", nil}, {plot, "remove abcdefghijkl", "no", nil}, {plot, "remove #", "no", nil}, {plot, "remove \xff", "no", nil}, {bareDesk, "remove p", "no", nil}, {bareDesk, "remove ", "no", nil},
		{plot, "remove", "what", nil}, {plot, "remove b ", "what", nil}, {plot, "remove  b", "what", nil}, {plot, "remove b l", "what", nil}, {plot, "remove  ", "what", nil},
	})
}

func TestLinesOfCues(t *testing.T) {
	l := plot().Show.Score
	checkLines(t, []lineCase{
		{bareDesk, "cue 5 a 1.5", "ok", scoreIs(cue(5, "a", 12, 0))}, {bareDesk, "cue 64 nobody 4 in 16", "ok", scoreIs(cue(64, "nobody", 32, 16))},
		{plot, "cue 0 b 0.125 in 3", "ok", scoreIs(l[0], cue(0, "b", 1, 3), l[1], l[2], l[3])}, {plot, "cue 9 a 0", "ok", scoreIs(append(slices.Clone(l), cue(9, "a", 0, 0))...)},
		// A cue that is there, a full score, and a text that is no cue.
		{plot, "cue 2 a 0", "no", nil}, {plot, "cue 2 a 4 in 5", "no", nil}, {crowdedDesk, "cue 5 a 1.5", "no", nil}, {bareDesk, "cue 65 a 1.5", "no", nil}, {bareDesk, "cue 5 A 1.5", "no", nil}, {bareDesk, "cue 5 a 4.125", "no", nil}, {bareDesk, "cue 5 a 1.5 in 17", "no", nil}, {bareDesk, "cue 5 a 1.5 in 0", "no", nil}, {bareDesk, "cue 05 a 1.5", "no", nil}, {bareDesk, "cue 5 a", "no", nil}, {bareDesk, "cue a", "no", nil},
		{bareDesk, "cue ", "no", nil}, {bareDesk, "cue  ", "no", nil}, {bareDesk, "cue  5 a 1.5", "no", nil}, {bareDesk, "cue 5 a 1.5 ", "no", nil}, {bareDesk, "cue 5  a 1.5", "no", nil}, {bareDesk, "cue 5 a 1.5\n", "no", nil}, {bareDesk, "cue cue 5 a 1.5", "no", nil}, {bareDesk, "cue pump p most 4", "no", nil}, {bareDesk, "cue", "what", nil},
	})
}

func TestLinesOfGusts(t *testing.T) {
	full := gustsFrom(0, 9, 8)
	checkLines(t, []lineCase{
		{bareDesk, "gust 0 1-1i", "ok", windIs(gust(0, 8, -8))}, {bareDesk, "gust 64 -1+1i", "ok", windIs(gust(64, -8, 8))}, {bareDesk, "gust 7 0.125+0i", "ok", windIs(gust(7, 1, 0))}, {bareDesk, "gust 0 0+0i", "ok", nil},
		// At 0, before a gust, at one, between two and behind both: none that comes later is left.
		{plot, "gust 0 0+1i", "ok", windIs(gust(0, 0, 8))}, {plot, "gust 1 0+1i", "ok", windIs(gust(1, 0, 8))}, {plot, "gust 2 0+1i", "ok", windIs(gust(2, 0, 8))}, {plot, "gust 4 0+1i", "ok", windIs(gust(2, 1, 0), gust(4, 0, 8))}, {plot, "gust 5 0+1i", "ok", windIs(gust(2, 1, 0), gust(5, 0, 8))}, {plot, "gust 6 0+1i", "ok", windIs(gust(2, 1, 0), gust(5, -2, 3), gust(6, 0, 8))}, {plot, "gust 64 0+1i", "ok", windIs(gust(2, 1, 0), gust(5, -2, 3), gust(64, 0, 8))},
		{plot, "gust 0 0+0i", "ok", windIs()}, {plot, "gust 4 0+0i", "ok", windIs(gust(2, 1, 0), gust(4, 0, 0))},
		// The drift that blows there already.
		{plot, "gust 0 0.125+0i", "ok", windIs(gust(0, 1, 0))}, {plot, "gust 2 0.125+0i", "ok", windIs(gust(2, 1, 0))}, {plot, "gust 3 0.125+0i", "ok", windIs(gust(2, 1, 0))}, {plot, "gust 9 -0.25+0.375i", "ok", nil}, {plot, "gust 64 -0.25+0.375i", "ok", nil}, {plot, "gust 1 0+0i", "ok", windIs()},
		// A place that is no drift, and a tick beyond the last one.
		{plot, "gust 0 1.125+0i", "no", nil}, {plot, "gust 0 -1.125+0i", "no", nil}, {plot, "gust 0 0+1.125i", "no", nil}, {plot, "gust 0 0-1.125i", "no", nil}, {plot, "gust 0 512-512i", "no", nil}, {plot, "gust 65 0+0i", "no", nil}, {plot, "gust 65 0+1i", "no", nil}, {plot, "gust 999 -0.25+0.375i", "no", nil}, {bareDesk, "gust 65 0+0i", "no", nil}, {plot, "gust 65 2+0i", "no", nil},
		// As many gusts as there may be: another one behind them, with their drift, in place of the last one, and gusts that change nothing.
		{crowdedDesk, "gust 64 0+0i", "no", nil}, {crowdedDesk, "gust 64 0-0.75i", "ok", nil}, {crowdedDesk, "gust 63 0+0i", "ok", windIs(append(full[:7:7], gust(63, 0, 0))...)}, {crowdedDesk, "gust 62 0+0i", "ok", windIs(append(full[:7:7], gust(62, 0, 0))...)}, {crowdedDesk, "gust 0 0+0i", "ok", windIs()}, {crowdedDesk, "gust 64 2+0i", "no", nil},
		{stillDesk, "gust 64 0+0i", "ok", windIs(gust(4, 5, 5), gust(64, 0, 0))}, {stillDesk, "gust 64 0.625+0.625i", "ok", windIs(gust(4, 5, 5))}, {stillDesk, "gust 65 0+0i", "no", nil}, {stillDesk, "gust 64 2+0i", "no", nil},
		{plot, "gust", "what", nil}, {plot, "gust ", "what", nil}, {plot, "gust 5", "what", nil}, {plot, "gust 5 ", "what", nil}, {plot, "gust 0+1i", "what", nil}, {plot, "gust  0+1i", "what", nil}, {plot, "gust 0+1i 5", "what", nil}, {plot, "gust 5 0+1i ", "what", nil}, {plot, "gust 5  0+1i", "what", nil}, {plot, "gust  5 0+1i", "what", nil}, {plot, "gust 5 0+1i 0+1i", "what", nil}, {plot, "gust 5 5 0+1i", "what", nil}, {plot, "gust 5 5", "what", nil}, {plot, "gust 1000 0+1i", "what", nil}, {plot, "gust 5 512.125+0i", "what", nil}, {plot, "gust x 0+1i", "what", nil}, {plot, "gust 5 x", "what", nil}, {plot, "gust 65 x", "what", nil},
	})
}

func TestLinesOfTicks(t *testing.T) {
	for n := range 1000 {
		want, answer := plot(), "no"
		if n <= 64 {
			want.Show.Ticks, answer = n, "ok"
		}
		checkLine(t, plot(), fmt.Sprint("ticks ", n), want, answer)
	}
	checkLines(t, []lineCase{
		{bareDesk, "ticks 64", "ok", ticksAre(64)}, {bareDesk, "ticks 65", "no", nil}, {crowdedDesk, "ticks 0", "ok", ticksAre(0)},
		{plot, "ticks", "what", nil}, {plot, "ticks ", "what", nil}, {plot, "ticks 5 6", "what", nil}, {plot, "ticks 5 ", "what", nil}, {plot, "ticks  5", "what", nil}, {plot, "ticks x", "what", nil}, {plot, "ticks 1000", "what", nil}, {plot, "ticks -1", "what", nil},
	})
}

func TestLinesOfRoses(t *testing.T) {
	checkLines(t, []lineCase{
		{plot, "rose 0+0i", "ok", roseIs(at(0, 0))}, {plot, "rose 1-1i", "ok", roseIs(at(8, -8))}, {plot, "rose -1+1i 1-1i", "ok", roseIs(at(-8, 8), at(8, -8))}, {plot, "rose 0-0.125i 0+0i 0+0.125i", "ok", roseIs(at(0, -1), at(0, 0), at(0, 1))}, {plot, "rose -0.125+0i 0-0.125i 0+0.125i 0.125+0i", "ok", roseIs(at(-1, 0), at(0, -1), at(0, 1), at(1, 0))}, {plot, "rose -0.125+0i 0.125+0i", "ok", nil},
		// Five of them, equal ones, ones that are not in order, and no drifts.
		{plot, "rose -0.125+0i 0-0.125i 0+0.125i 0.125+0i 0.25+0i", "no", nil}, {plot, "rose" + strings.Repeat(" 0+0i", 400), "no", nil}, {plot, "rose 0+0i 0+0i", "no", nil}, {plot, "rose 0+0i 0.125+0i 0.125+0i", "no", nil}, {plot, "rose 0+0i 0+0.125i 0+0.125i 1+0i", "no", nil}, {plot, "rose 0.125+0i 0+0i", "no", nil}, {plot, "rose 0+0.125i 0+0i", "no", nil}, {plot, "rose 0+0i 1+0i 0.5+0i", "no", nil},
		{plot, "rose 1.125+0i", "no", nil}, {plot, "rose 0-1.125i", "no", nil}, {plot, "rose 0+0i 512+512i", "no", nil}, {plot, "rose -1.125+0i 0+0i", "no", nil},
		// No place, or words of which one is none.
		{plot, "rose", "what", nil}, {plot, "rose ", "what", nil}, {plot, "rose  ", "what", nil}, {plot, "rose  0+0i", "what", nil}, {plot, "rose 0+0i ", "what", nil}, {plot, "rose 0+0i  1+0i", "what", nil}, {plot, "rose x", "what", nil}, {plot, "rose x 0+0i", "what", nil}, {plot, "rose 0+0i x", "what", nil}, {plot, "rose 0+0i x 1+0i", "what", nil}, {plot, "rose 0", "what", nil}, {plot, "rose 512.125+0i", "what", nil}, {plot, "rose 0+0i 0+0i 0+0i 0+0i 0+0i x", "what", nil}, {plot, "rose 0+0i;1+0i", "what", nil}, {plot, "rose 0+0i; 1+0i", "what", nil},
	})
}

func TestLinesOfBasins(t *testing.T) {
	checkLines(t, []lineCase{
		{plot, "basin 0+0i 0+0i", "ok", basinIs(0, 0, 0, 0)}, {plot, "basin -1-2i 3+4i", "ok", basinIs(-8, -16, 24, 32)}, {plot, "basin -512-512i 512+512i", "ok", basinIs(-4096, -4096, 4096, 4096)}, {plot, "basin 512-0.125i 512+0i", "ok", basinIs(4096, -1, 4096, 0)}, {plot, "basin 0+0i 2.5+2.5i", "ok", nil},
		// Low and High the wrong way about, in X, in Y, in both.
		{plot, "basin 0.125+0i 0+0i", "no", nil}, {plot, "basin 0+0.125i 0+0i", "no", nil}, {plot, "basin 3+4i -1-2i", "no", nil}, {plot, "basin 1+0i 0+512i", "no", nil}, {plot, "basin 0+1i 512+0i", "no", nil},
		{plot, "basin", "what", nil}, {plot, "basin ", "what", nil}, {plot, "basin 0+0i", "what", nil}, {plot, "basin 0+0i ", "what", nil}, {plot, "basin  0+0i", "what", nil}, {plot, "basin 0+0i 1+1i 2+2i", "what", nil}, {plot, "basin 0+0i 1+1i ", "what", nil}, {plot, "basin 0+0i  1+1i", "what", nil}, {plot, "basin  0+0i 1+1i", "what", nil}, {plot, "basin x 1+1i", "what", nil}, {plot, "basin 0+0i x", "what", nil}, {plot, "basin 0+0i 512+512.125i", "what", nil}, {plot, "basin 0 1+1i", "what", nil}, {plot, "basin 1+1i 0+0i x", "what", nil},
	})
}

func TestLinesThatTurn(t *testing.T) {
	d := plot()
	turned := func(n int) func(*impl.Desk) {
		return func(d *impl.Desk) { d.Show = turnedShowByHand(d.Show, n) }
	}
	once := show(rig(nozzle("a", "p", 0, 8, 2, 2, 32), nozzle("b", "p", -8, 0, 1, 1, 4), lamp("l", "a", 8, 4000), d.Show.Rig[3], d.Show.Rig[4]), d.Show.Score, wind(gust(2, 0, 1), gust(5, -3, -2)), 6)
	checkLine(t, d, "turn 1", desk(once, d.Rose, d.Basin), "ok")
	checkLines(t, []lineCase{
		{plot, "turn 0", "ok", nil}, {plot, "turn 2", "ok", turned(2)}, {plot, "turn 3", "ok", turned(3)}, {plot, "turn 4", "ok", nil}, {plot, "turn 998", "ok", turned(2)}, {plot, "turn 999", "ok", turned(3)}, {bareDesk, "turn 5", "ok", nil}, {crowdedDesk, "turn 5", "ok", turned(1)}, {stillDesk, "turn 0", "ok", nil}, {stillDesk, "turn 65", "ok", turned(1)},
		{plot, "turn", "what", nil}, {plot, "turn ", "what", nil}, {plot, "turn -1", "what", nil}, {plot, "turn 1000", "what", nil}, {plot, "turn 1 1", "what", nil}, {plot, "turn 1 ", "what", nil}, {plot, "turn  1", "what", nil}, {plot, "turn x", "what", nil}, {plot, "turn 0+1i", "what", nil},
	})
}

func TestLinesThatShift(t *testing.T) {
	l := plot().Show.Rig
	checkLines(t, []lineCase{
		{plot, "shift 0+0i", "ok", nil}, {plot, "shift 1-2i", "ok", rigIs(nozzle("a", "p", 16, -16, 1, 2, 32), nozzle("b", "p", 8, -8, 0, 1, 4), lamp("l", "a", 4008, -24), l[3], l[4])}, {plot, "shift 12-128i", "ok", rigIs(nozzle("a", "p", 104, -1024, 1, 2, 32), nozzle("b", "p", 96, -1016, 0, 1, 4), lamp("l", "a", 4096, -1032), l[3], l[4])}, {bareDesk, "shift 512-512i", "ok", nil},
		// The lamp, or a nozzle, is not valid any more.
		{plot, "shift 12.125+0i", "no", nil}, {plot, "shift 0-128.125i", "no", nil}, {plot, "shift -129.125+0i", "no", nil}, {plot, "shift 512+512i", "no", nil},
		{plot, "shift", "what", nil}, {plot, "shift ", "what", nil}, {plot, "shift 1", "what", nil}, {plot, "shift 512.125+0i", "what", nil}, {bareDesk, "shift 512.125+0i", "what", nil}, {plot, "shift 0+0i 0+0i", "what", nil}, {plot, "shift 0+0i ", "what", nil}, {plot, "shift  0+0i", "what", nil}, {plot, "shift x", "what", nil},
	})
}

func TestLinesThatLimit(t *testing.T) {
	limited := func(a, b int) func(*impl.Desk) {
		return func(d *impl.Desk) { d.Show.Rig[0].Most, d.Show.Rig[1].Most = a, b }
	}
	narrow := func() impl.Desk {
		d := plot()
		d.Basin = boxFrom(0, 0, 4, 20)
		return d
	}
	wide := func() impl.Desk {
		return desk(plot().Show, eastOrWest(), wholeFloor())
	}
	checkLines(t, []lineCase{
		{plot, "safe", "safe", nil}, {plot, "limit", "ok", limited(7, 4)}, {wide, "safe", "safe", nil}, {wide, "limit", "ok", nil}, {bareDesk, "limit", "ok", nil},
		{shallow, "safe", "wet: a at 0 lands at 0.25+1.5i in -0.125+0i", nil}, {shallow, "limit", "ok", limited(4, 4)}, {narrow, "safe", "wet: a at 0 lands at 1.75+1.5i in 0.125+0i", nil}, {narrow, "limit", "ok", limited(0, 1)},
		{plot, "limit ", "what", nil}, {plot, "limit 5", "what", nil}, {plot, " limit", "what", nil}, {plot, "limits", "what", nil}, {plot, "Limit", "what", nil}, {plot, "limi", "what", nil},
	})
	d := shallow()
	after, _ := impl.DeskLine(d, "limit")
	checkLine(t, after, "safe", after, "safe")
	checkLine(t, after, "limit", after, "ok")
}

func TestLinesThatAsk(t *testing.T) {
	checkLines(t, []lineCase{
		// Levels of names that have cues, also behind the show, and of names that have none, or are none.
		{plot, "level a 0", "0.625", nil}, {plot, "level a 1", "0.125", nil}, {plot, "level a 2", "0", nil}, {plot, "level b 2", "0", nil}, {plot, "level b 3", "0.125", nil}, {plot, "level b 4", "0.375", nil}, {plot, "level b 5", "0.375", nil}, {plot, "level b 64", "0.375", nil}, {plot, "level b 999", "0.375", nil},
		{plot, "level p 0", "0", nil}, {plot, "level nobody 3", "0", nil}, {plot, "level B 4", "0", nil}, {plot, "level  4", "0", nil}, {plot, "level 4 4", "0", nil}, {plot, "level b\n 4", "0", nil}, {plot, "level \t 4", "0", nil}, {bareDesk, "level a 0", "0", nil}, {crowdedDesk, "level b 0", "0", nil}, {crowdedDesk, "level b 64", "3.75", nil}, {crowdedDesk, "level b 999", "0.25", nil},
		{plot, "level", "what", nil}, {plot, "level ", "what", nil}, {plot, "level  ", "what", nil}, {plot, "level a", "what", nil}, {plot, "level a ", "what", nil}, {plot, "level 4", "what", nil}, {plot, "level a 1000", "what", nil}, {plot, "level a 4 4", "what", nil}, {plot, "level a  4", "what", nil}, {plot, "level a 4 ", "what", nil}, {plot, "level  a 4", "what", nil}, {plot, "level   4", "what", nil}, {plot, "level a x", "what", nil}, {plot, "level a 0.5", "what", nil}, {plot, "level 4 a", "what", nil},
		{plot, "lifts 0", "a 0.625", nil}, {plot, "lifts 1", "a 0.125", nil}, {plot, "lifts 2", "none", nil}, {plot, "lifts 3", "b 0.125", nil}, {plot, "lifts 5", "b 0.375", nil}, {plot, "lifts 6", "none", nil}, {plot, "lifts 999", "none", nil}, {bareDesk, "lifts 0", "none", nil}, {crowdedDesk, "lifts 3", "b 0.75", nil}, {crowdedDesk, "lifts 10", "a 0.125; b 1", nil},
		{plot, "lifts", "what", nil}, {plot, "lifts ", "what", nil}, {plot, "lifts 1000", "what", nil}, {plot, "lifts 0 ", "what", nil}, {plot, "lifts  0", "what", nil}, {plot, "lifts 0 0", "what", nil}, {plot, "lifts a", "what", nil},
		{plot, "drops 0", "a 0 1+0i 0", nil}, {plot, "drops 2", "a 0 1+0.5i 1; a 1 1+0.25i 0.125", nil}, {plot, "drops 3", "a 0 1.125+0.75i 1.125; b 3 0+1i 0", nil}, {plot, "drops 6", "b 4 0.125+1.375i 0.5; b 5 -0.125+1.375i 0.375", nil}, {plot, "drops 8", "b 5 -0.375+2.125i 0.375", nil}, {plot, "drops 9", "none", nil}, {plot, "drops 64", "none", nil}, {plot, "drops 999", "none", nil}, {bareDesk, "drops 0", "none", nil},
		{plot, "drops", "what", nil}, {plot, "drops ", "what", nil}, {plot, "drops 1000", "what", nil}, {plot, "drops 0 ", "what", nil}, {plot, "drops  0", "what", nil}, {plot, "drops 0 0", "what", nil}, {plot, "drop 0", "what", nil},
		{plot, "landings", "a 0 1.125+1.875i; a 1 1.125+0.5i; b 3 0.5+1i; b 4 -0.125+2.125i; b 5 -0.5+2.5i", nil}, {bareDesk, "landings", "none", nil}, {plot, "landings ", "what", nil}, {plot, "landings 5", "what", nil}, {plot, "landing", "what", nil},
		{plot, "count 0", "1 0", nil}, {plot, "count 2", "2 0", nil}, {plot, "count 3", "3 1", nil}, {plot, "count 4", "4 1", nil}, {plot, "count 5", "5 2", nil}, {plot, "count 8", "5 4", nil}, {plot, "count 9", "5 5", nil}, {plot, "count 999", "5 5", nil}, {bareDesk, "count 5", "0 0", nil},
		{plot, "count", "what", nil}, {plot, "count ", "what", nil}, {plot, "count 1000", "what", nil}, {plot, "count 5 ", "what", nil}, {plot, "count  5", "what", nil}, {plot, "count 5 5", "what", nil}, {plot, "count a", "what", nil},
		{plot, "high", "1.125", nil}, {bareDesk, "high", "0", nil}, {plot, "high ", "what", nil}, {plot, "high 5", "what", nil}, {plot, "highest", "what", nil},
		{bareDesk, "safe", "safe", nil}, {plot, "safe ", "what", nil}, {plot, "safe 5", "what", nil}, {plot, "safer", "what", nil},
		{plot, "least", "0+0.5i 1.75+1.5i", nil}, {bareDesk, "least", "none", nil}, {crowdedDesk, "least ", "what", nil}, {plot, "least 5", "what", nil}, {plot, "leas", "what", nil},
		{plot, "dry", "no", nil}, {stillDesk, "dry", "no", nil}, {func() impl.Desk { return desk(plot().Show, calm(), boxFrom(-4, 4, 9, 20)) }, "dry", "yes", nil}, {func() impl.Desk { return desk(plot().Show, calm(), boxFrom(-3, 4, 9, 20)) }, "dry", "no", nil}, {bareDesk, "dry", "yes", nil}, {plot, "dry ", "what", nil}, {plot, "dry 5", "what", nil}, {plot, "dryer", "what", nil},
	})
}

func TestEmptyLinesAndRemarks(t *testing.T) {
	for _, d := range someDesks()[:9] {
		for _, line := range []string{"", "#", "# ", "##", "#limit", "# ticks 5", "#\n", "#\x00", "#\xff", "# what", "#ticks 5", "#" + strings.Repeat("x", 5000)} {
			checkLine(t, d, line, d, "")
		}
		for _, line := range []string{" ", "  ", " #", " # limit", "\t#", "\n", "\n#", "\x00", "what", "ok", "no", "none", "limit#", "limit #", "limit# ", "x#", "//", "ticks #", "＃"} {
			checkLine(t, d, line, d, "what")
		}
	}
}

// wordsOfLines has a line for each word, all of which are done at some desk.
func wordsOfLines() []string {
	return []string{
		"device pump z9 most 1.5", "remove q", "cue 7 b 1.5 in 2", "gust 5 0-0.5i", "ticks 12", "rose -1+0i 0.5-1i", "basin -1+0i 2+1.5i", "turn 3", "shift 0.5-1i",
		"limit", "level b 14", "lifts 10", "drops 16", "landings", "count 15", "high", "safe", "least", "dry",
	}
}

func TestLinesThatOnlyBeginLikeACommand(t *testing.T) {
	for _, line := range wordsOfLines() {
		word, text, more := strings.Cut(line, " ")
		lines := []string{
			" " + line, "\t" + line, "\n" + line, strings.ToUpper(line), strings.ToUpper(line[:1]) + line[1:], "x" + line, line[1:], word + "x " + text, word + "; " + text, word + ": " + text, word + "\t" + text, word + "\n" + text, word + "\xc2\xa0" + text, word + "\x00 " + text, word + text + " ",
			word + "s " + text, word[:len(word)-1] + " " + text, "ok " + line, word + word, word + "x", strings.TrimSuffix(word, "s") + "s", "#" + word + " " + text, "x #" + text,
		}
		if more {
			lines = append(lines, word, word+"\n", text)
		} else {
			lines = append(lines, word+" ", word+"  ", word+"\n", word+"\r", word+" 5", word+" 0+0i", word+" "+word, word+" a 5", word+" # now")
		}
		for _, d := range []impl.Desk{bareDesk(), plot()} {
			for _, other := range lines {
				if other == line || other == word && !more {
					continue
				}
				answer := "what"
				if other[0] == '#' {
					answer = ""
				}
				checkLine(t, d, other, d, answer)
			}
		}
	}
}

// What is no number, though it looks like one, is asked for by no line.
func TestNumbersOfLines(t *testing.T) {
	for _, form := range []string{"gust %s 0+0i", "ticks %s", "turn %s", "level a %s", "lifts %s", "drops %s", "count %s"} {
		for _, number := range []string{"0", "7", "10", "64", "65", "999"} {
			if _, answer := impl.DeskLine(plot(), fmt.Sprintf(form, number)); answer == "what" || answer == "" {
				t.Errorf("%q of %q is answered with %q", form, number, answer)
			}
		}
		for _, number := range []string{"", " ", "00", "01", "007", "-0", "+0", "-1", "+1", "+5", "-999", "1000", "1001", "9999", "5.0", "5.", "0.5", "1e1", "0x5", "1_0", "5\n", "\t5", "5\x00", "a", "5a", "five", "0+0i", "٣", "18446744073709551617", strings.Repeat("9", 400), strings.Repeat("0", 400)} {
			checkLine(t, plot(), fmt.Sprintf(form, number), plot(), "what")
		}
	}
}

// What is no place, or is one that is written in another way, is no place of a line.
func TestPlacesOfLines(t *testing.T) {
	for _, form := range []string{"gust 5 %s", "rose %s", "rose -1-1i %s", "rose %s 1+1i", "basin %s 512+512i", "basin -512-512i %s", "shift %s"} {
		for _, place := range []string{"0+0i", "0.125-0.5i", "-0.25+0i", "512-512i", "-512+512i", "511.875+0i"} {
			if _, answer := impl.DeskLine(plot(), fmt.Sprintf(form, place)); answer != "ok" && answer != "no" {
				t.Errorf("%q of %q is answered with %q", form, place, answer)
			}
		}
		for _, place := range []string{"", " ", "0", "i", "1i", "0+0", "0-0i", "-0+0i", "+0+0i", "0+-1i", "0++1i", "00+0i", "0+00i", "0+01i", "0.50+0i", "0+0.0i", ".5+0i", "0+0.1i", "0+i", "0+0I", "0+0j", "(0+0i)", "0,0", "0 + 0i", "0+0i\n", "\t0+0i", "512.125+0i", "0-512.125i", "4096+0i", "1e0+0i", "inf+0i", "nan+nani", "a", "5", strings.Repeat("0", 400) + "+0i"} {
			checkLine(t, plot(), fmt.Sprintf(form, place), plot(), "what")
		}
	}
}

// shapes has what each word wants behind it: a number N, a name A, a place P, some places R, a text T.
func shapes() map[string]string {
	return map[string]string{
		"device": "T", "remove": "A", "cue": "T", "gust": "NP", "ticks": "N", "rose": "R", "basin": "PP", "turn": "N", "shift": "P",
		"limit": "", "level": "AN", "lifts": "N", "drops": "N", "landings": "", "count": "N", "high": "", "safe": "", "least": "", "dry": "",
	}
}

var (
	numberText = regexp.MustCompile(`\A(0|[1-9][0-9]?[0-9]?)\z`)
	placeParts = regexp.MustCompile(`\A(-?[0-9.]+)\+?(-?[0-9.]+)i\z`)
)

func placeOfText(s string) (impl.Place, bool) {
	parts := placeParts.FindStringSubmatch(s)
	if parts == nil {
		return impl.Place{}, false
	}
	x, _ := strconv.ParseFloat(parts[1], 64)
	y, _ := strconv.ParseFloat(parts[2], 64)
	p, ok := validOr(at(int(x*8), int(y*8)))
	return p, ok && placeText(p) == s
}

func isOfShape(word string, kind byte) bool {
	switch kind {
	case 'N':
		return numberText.MatchString(word)
	case 'P':
		_, ok := placeOfText(word)
		return ok
	}
	return true
}

func areOfShape(words []string, shape string) bool {
	switch shape {
	case "T":
		return len(words) > 0
	case "R":
		shape = strings.Repeat("P", max(len(words), 1))
	}
	if len(words) != len(shape) {
		return false
	}
	for i, word := range words {
		if !isOfShape(word, shape[i]) {
			return false
		}
	}
	return true
}

func roseByHand(r []impl.Place) bool {
	for i, p := range r {
		if !within(p.X, -8, 8) || !within(p.Y, -8, 8) || i > 0 && (r[i-1].X > p.X || r[i-1].X == p.X && r[i-1].Y >= p.Y) {
			return false
		}
	}
	return within(len(r), 1, 4)
}

func placesOfTexts(words []string) []impl.Place {
	var l []impl.Place
	for _, word := range words {
		p, _ := placeOfText(word)
		l = append(l, p)
	}
	return l
}

func numberOfText(words []string) int {
	n := 0
	for _, word := range words {
		if numberText.MatchString(word) {
			n, _ = strconv.Atoi(word)
		}
	}
	return n
}

// changedByHand does what a line says with the desk, and tells whether it can be done; the words are those behind the first one.
func changedByHand(d impl.Desk, word string, words []string) (impl.Desk, bool) {
	text, n, places := strings.Join(words, " "), numberOfText(words), placesOfTexts(words)
	after, ok := d, true
	switch word {
	case "device":
		x, _ := impl.ParseDevice(text)
		after.Show.Rig, ok = addedByHand(d.Show.Rig, x)
	case "remove":
		after.Show.Rig, ok = removedByHand(d.Show.Rig, text)
	case "cue":
		x, _ := impl.ParseCue(text)
		after.Show.Score, ok = cueAddedByHand(d.Show.Score, x)
	case "gust":
		after.Show.Wind, ok = joinedByHand(d.Show.Wind, wind(impl.Gust{Drift: places[1]}), n)
		ok = ok && n <= 64 && roseByHand(places[1:])
	case "ticks":
		after.Show.Ticks, ok = n, n <= 64
	case "rose":
		after.Rose, ok = places, roseByHand(places)
	case "basin":
		after.Basin = impl.Box{Low: places[0], High: places[1]}
		ok = places[0].X <= places[1].X && places[0].Y <= places[1].Y
	case "turn":
		after.Show = turnedShowByHand(d.Show, n)
	case "shift":
		after.Show.Rig, ok = shiftedByHand(d.Show.Rig, places[0])
	case "limit":
		after.Show = limitedByHand(d.Show, d.Rose, d.Basin)
	}
	if !ok {
		return d, false
	}
	return after, true
}

func listText(texts []string) string {
	if len(texts) == 0 {
		return "none"
	}
	return strings.Join(texts, "; ")
}

func dropTexts(drops []impl.Drop, withHeight bool) []string {
	var texts []string
	for _, x := range drops {
		s := fmt.Sprint(x.From, " ", x.Born, " ", placeText(x.At))
		if withHeight {
			s += " " + decimalOf(x.Height)
		}
		texts = append(texts, s)
	}
	return texts
}

func liftTexts(s impl.Show, t int) []string {
	var texts []string
	for i, lift := range liftsByHand(s, t) {
		if lift > 0 {
			texts = append(texts, s.Rig[i].Name+" "+decimalOf(lift))
		}
	}
	return texts
}

func highestByHand(births []birth) int {
	highest := 0
	for _, b := range births {
		for t := range b.jet.Lift + 1 {
			highest = max(highest, heightByHand(b.jet.Lift, t))
		}
	}
	return highest
}

// toldOfAll answers what asks for no tick.
func toldOfAll(d impl.Desk, births []birth, word string) string {
	switch word {
	case "landings":
		var drops []impl.Drop
		for _, b := range births {
			drops = append(drops, b.drop(d.Show.Wind, b.landing()))
		}
		return listText(dropTexts(drops, false))
	case "high":
		return decimalOf(highestByHand(births))
	case "safe":
		if w, wet := wettingByHand(births, d.Rose, d.Basin); wet {
			return w.line()
		}
		return "safe"
	case "least":
		if b, ok := basinByHand(births, d.Rose); ok {
			return placeText(b.Low) + " " + placeText(b.High)
		}
		return "none"
	case "dry":
		if len(wetDropsByHand(births, d.Show.Wind, d.Basin)) == 0 {
			return "yes"
		}
		return "no"
	}
	return "no answer to " + word
}

func toldByHand(d impl.Desk, word string, words []string) string {
	n, births := numberOfText(words), birthsByHand(d.Show)
	switch word {
	case "level":
		return decimalOf(rampedByHand(d.Show.Score, words[0], n))
	case "lifts":
		return listText(liftTexts(d.Show, n))
	case "drops":
		return listText(dropTexts(flyingByHand(d.Show.Wind, births, n), true))
	case "count":
		thrown := countByHand(births, func(b birth) bool { return b.tick <= n })
		landed := countByHand(births, func(b birth) bool { return b.landing() <= n })
		return fmt.Sprint(thrown, " ", landed)
	}
	return toldOfAll(d, births, word)
}

// lineByHand expects a valid desk.
func lineByHand(d impl.Desk, line string) (impl.Desk, string) {
	if line == "" || line[0] == '#' {
		return d, ""
	}
	words := strings.Split(line, " ")
	shape, known := shapes()[words[0]]
	if !known || !areOfShape(words[1:], shape) {
		return d, "what"
	}
	if slices.Contains([]string{"device", "remove", "cue", "gust", "ticks", "rose", "basin", "turn", "shift", "limit"}, words[0]) {
		after, ok := changedByHand(d, words[0], words[1:])
		if !ok {
			return d, "no"
		}
		return after, "ok"
	}
	return d, toldByHand(d, words[0], words[1:])
}

// someLines has, besides, lines of each word that are refused at some desks.
func someLines() []string {
	return append(wordsOfLines(),
		"device nozzle d on p at 1.5-2i heading 3 tilt 0.5 most 4", "device nozzle a0 on p at 0+0i heading 0 tilt 0 most 0", "device lamp m on a at 0+0i", "device pump a most 0", "device ", "device pump",
		"remove a", "remove b", "remove c", "remove l", "remove m", "remove p", "remove ", "remove x", "cue 0 a 4", "cue 64 p 0.125 in 16", "cue 5 a 0.5", "cue 63 nobody 0", "cue ", "cue 5", "cue 65 a 1",
		"gust 0 0+0i", "gust 0 1-1i", "gust 1 0.125+0i", "gust 9 0+0i", "gust 63 -1+1i", "gust 64 0+0.125i", "gust 64 0+0i", "gust 65 0+0i", "gust 5 1.125+0i", "ticks 0", "ticks 1", "ticks 64", "ticks 65", "ticks 999",
		"rose 0+0i", "rose -1-1i -1+1i 1-1i 1+1i", "rose 0+0i 0+0i", "rose 1+0i 0+0i", "rose 0+0i 2+0i", "rose -1+0i -0.5+0i 0+0i 0.5+0i 1+0i", "basin 0+0i 0+0i", "basin -512-512i 512+512i", "basin 1+0i 0+1i",
		"turn 0", "turn 1", "turn 2", "turn 4", "turn 999", "shift 0+0i", "shift 1+0i", "shift -128-128i", "shift 512-512i",
		"level a 0", "level a 5", "level b 22", "level c 999", "level nobody 5", "level  5", "level p 64", "lifts 0", "lifts 1", "lifts 8", "lifts 63", "lifts 64", "drops 0", "drops 2", "drops 9", "drops 64", "drops 95", "drops 96", "drops 999", "count 0", "count 4", "count 64", "count 95", "count 96", "count 999",
		"", "#", "# limit", " limit", "limit ", "LIMIT", "level a", "level a 1000", "rose", "gust 5", "turn -1", "what",
	)
}

func TestLinesAtAllDesks(t *testing.T) {
	for _, d := range someDesks() {
		for _, line := range someLines() {
			want, answer := lineByHand(d, line)
			checkLine(t, d, line, want, answer)
			if after, _ := impl.DeskLine(d, line); !impl.IsDesk(after) {
				t.Errorf("by %q, the desk %v is %v, which is none", line, d, after)
			}
		}
	}
}

func TestLinesOfWhichAByteIsAnother(t *testing.T) {
	for _, line := range wordsOfLines() {
		for _, other := range changedTexts(line) {
			want, answer := lineByHand(plot(), other)
			checkLine(t, plot(), other, want, answer)
		}
	}
}

func TestLinesOfEachTick(t *testing.T) {
	for _, d := range []impl.Desk{plot(), crowdedDesk(), desk(show(crossed(5, 7), pulses(), wind(gust(2, 1, 0), gust(60, -2, 3)), 64), gyre(), wholeFloor())} {
		for n := range 140 {
			for _, form := range []string{"level a %d", "lifts %d", "drops %d", "count %d", "turn %d"} {
				line := fmt.Sprintf(form, n)
				want, answer := lineByHand(d, line)
				checkLine(t, d, line, want, answer)
			}
		}
	}
}

// A desk that is none is left as it is, whatever the line.
func TestLinesAtNoDesk(t *testing.T) {
	for _, d := range noDesks() {
		for _, line := range append(someLines(), "rose 0+0i 0.125+0i", "basin 0+0i 1+1i", "nothing", "\x00") {
			checkLine(t, d, line, d, "")
		}
	}
}

func spoilDesk(d impl.Desk) {
	spoil(d.Show.Rig, pump("spoilt", 77))
	spoil(d.Show.Score, cue(77, "spoilt", 66, 55))
	spoil(d.Show.Wind, gust(77, 66, 55))
	spoil(d.Rose, at(77, 77))
}

func TestDesksShareNothing(t *testing.T) {
	for _, d := range slices.Concat(someDesks()[:40], noDesks()[:60], []impl.Desk{desk(plot().Show, nil, impl.Box{}), desk(crowdedDesk().Show, gyre(), boxFrom(1, 0, 0, 0))}) {
		devices, allDevices := sparing(d.Show.Rig, pump("spare", 1))
		cues, allCues := sparing(d.Show.Score, cue(64, "zzz", 7, 7))
		gusts, allGusts := sparing(d.Show.Wind, gust(-7, 99, 98))
		drifts, allDrifts := sparing(d.Rose, at(7, 7))
		before := desk(show(slices.Clone(allDevices), slices.Clone(allCues), slices.Clone(allGusts), d.Show.Ticks), slices.Clone(allDrifts), d.Basin)
		part := desk(show(devices, cues, gusts, d.Show.Ticks), drifts, d.Basin)
		for _, line := range someLines() {
			after, answer := impl.DeskLine(part, line)
			again, _ := impl.DeskLine(part, line)
			spoilDesk(after)
			if !sameDesk(desk(show(allDevices, allCues, allGusts, part.Show.Ticks), allDrifts, part.Basin), before) {
				t.Fatalf("by %q, the argument %v is changed", line, d)
			}
			checkLine(t, part, line, again, answer)
		}
	}
}

// linesOf has lines by which a new desk becomes this one, with a normal wind.
func linesOf(d impl.Desk) []string {
	var lines []string
	for kind := 1; kind <= 3; kind++ {
		for _, x := range d.Show.Rig {
			if x.Kind == kind {
				lines = append(lines, "device "+deviceText(x))
			}
		}
	}
	for _, x := range slices.Backward(d.Show.Score) {
		lines = append(lines, "cue "+cueText(x, x.Ramp > 0))
	}
	for _, g := range d.Show.Wind {
		lines = append(lines, fmt.Sprint("gust ", g.From, " ", placeText(g.Drift)))
	}
	roseLine := "rose"
	for _, p := range d.Rose {
		roseLine += " " + placeText(p)
	}
	return append(lines, fmt.Sprint("ticks ", d.Show.Ticks), roseLine, "basin "+placeText(d.Basin.Low)+" "+placeText(d.Basin.High))
}

func TestDesksAreBuiltByLines(t *testing.T) {
	for _, want := range someDesks() {
		d := impl.NewDesk()
		for _, line := range linesOf(want) {
			after, answer := impl.DeskLine(d, line)
			if answer != "ok" {
				t.Errorf("%q is answered with %q at %v", line, answer, d)
			}
			d = after
		}
		want.Show.Wind = normalByHand(func(i int) impl.Place { return driftByHand(want.Show.Wind, i) })
		if !sameDesk(d, want) {
			t.Errorf("by %q, the desk is %v, not %v", linesOf(want), d, want)
		}
	}
}

func checkText(t *testing.T, text string, want []string) {
	t.Helper()
	if got := impl.DeskText(text); !slices.Equal(got, want) {
		t.Errorf("DeskText(%.100q), of %d bytes, is %q, not %q", text, len(text), got, want)
	}
}

// answersByHand does the lines with a new desk.
func answersByHand(lines []string) []string {
	d := bareDesk()
	var answers []string
	for _, line := range lines {
		after, answer := lineByHand(d, line)
		answers = append(answers, answer)
		d = after
	}
	return answers
}

// A desk tells what its show is.
func TestDeskTextTellsWhatTheShowIs(t *testing.T) {
	questions := []string{"level a 5", "lifts 1", "drops 4", "landings", "count 7", "high", "safe", "least", "dry"}
	for _, d := range someDesks() {
		lines := linesOf(d)
		lines = append(lines, questions[:min(40-len(lines), 9)]...)
		checkText(t, strings.Join(lines, "\n"), answersByHand(lines))
	}
}

func TestDeskText(t *testing.T) {
	for _, c := range []struct {
		text string
		want []string
	}{
		// One line, none, and empty ones alone.
		{"high", []string{"0"}}, {"ticks 65", []string{"no"}}, {"what", []string{"what"}}, {"# high", []string{""}}, {"", []string{""}}, {"\n", []string{"", ""}}, {"\n\n\n", []string{"", "", "", ""}}, {" ", []string{"what"}}, {" \n", []string{"what", ""}},
		// A line feed at the end, at the start, two of them between; and other bytes, which divide nothing.
		{"high\n", []string{"0", ""}}, {"\nhigh", []string{"", "0"}}, {"high\n\nhigh", []string{"0", "", "0"}}, {"high\nlow\n\n", []string{"0", "what", "", ""}}, {"high\r\nhigh", []string{"what", "0"}}, {"high\rhigh", []string{"what"}}, {"high\x00high", []string{"what"}}, {"high;high", []string{"what"}}, {"high\u2028high", []string{"what"}}, {"# a\rhigh", []string{""}}, {`high\nhigh`, []string{"what"}},
		// The new desk, and what later lines make of what earlier ones did.
		{"safe\nleast\ndry\nlandings\nlifts 0\ndrops 0\ncount 999\nlevel a 0\nlimit\nturn 1\nshift 512+512i", []string{"safe", "none", "yes", "none", "none", "none", "0 0", "0", "ok", "ok", "ok"}},
		{"device pump p most 1\ndevice pump p most 1\nremove p\nremove p\ndevice pump p most 1", []string{"ok", "no", "ok", "no", "ok"}}, {"device nozzle a on p at 0+0i heading 0 tilt 0 most 4\ndevice pump p most 1\ndevice nozzle a on p at 0+0i heading 0 tilt 0 most 4\nremove p\nremove a\nremove p", []string{"no", "ok", "ok", "no", "ok", "ok"}},
		{"cue 0 a 1\ncue 0 a 2\nlevel a 0\ncue 2 a 4 in 4\nlevel a 4\n#\nlevel b 4", []string{"ok", "no", "1", "ok", "2.5", "", "0"}},
		{"device pump p most 4\ndevice nozzle a on p at 1+0i heading 1 tilt 0.25 most 4\ncue 0 a 0.625\ncue 1 a 0\nlandings\nticks 9\nlandings\ngust 2 0.125+0i\nlandings\ngust 4 0+0i\nlandings\nturn 1\nlandings\nshift 0-1i\nlandings\ncue 1 a 0\nremove a\nlandings", []string{"ok", "ok", "ok", "ok", "none", "ok", "a 0 1+1.5i", "ok", "a 0 1.5+1.5i", "ok", "a 0 1.25+1.5i", "ok", "a 0 -1.5+1.25i", "ok", "a 0 -1.5+0.25i", "no", "ok", "none"}},
		{"device pump p most 4\ndevice nozzle a on p at 1+0i heading 1 tilt 0.25 most 4\ncue 0 a 0.625\ncue 1 a 0\nticks 9\nsafe\nleast\nrose 0-0.25i 0.125+0i\nleast\nbasin 0+0i 1.75+1.5i\nsafe\nbasin 1+0i 1.5+1.5i\nsafe\ndry\nlimit\nsafe\nhigh\nlifts 0", []string{"ok", "ok", "ok", "ok", "ok", "wet: a at 0 lands at 1+1.5i in 0+0i", "1+1.5i 1+1.5i", "ok", "1+0i 1.75+1.5i", "ok", "safe", "ok", "wet: a at 0 lands at 1.75+1.5i in 0.125+0i", "yes", "ok", "safe", "0.5", "a 0.375"}},
	} {
		checkText(t, c.text, c.want)
	}
}

func TestDeskTextOfManyLines(t *testing.T) {
	for n := range 100 {
		var want, wantTicks []string
		if n < 40 {
			want = slices.Repeat([]string{""}, n+1)
			wantTicks = append(slices.Repeat([]string{"ok"}, n), "none")
		}
		checkText(t, strings.Repeat("\n", n), want)
		checkText(t, strings.Repeat("ticks 5\n", n)+"least", wantTicks)
	}
	checkText(t, strings.Repeat("high\n", 40), nil)
	checkText(t, strings.Repeat("\n", 39)+"high", append(slices.Repeat([]string{""}, 39), "0"))
	checkText(t, strings.Repeat("\n", 3999), nil)
	checkText(t, strings.Repeat("\n", 100000), nil)
}

func TestDeskTextOfManyBytes(t *testing.T) {
	for _, n := range ints(3998, 3999, 4000, 4001, 4002, 8000, 100000) {
		told := func(answers ...string) []string {
			if n > 4000 {
				return nil
			}
			return answers
		}
		checkText(t, "#"+strings.Repeat("x", n-1), told(""))
		checkText(t, strings.Repeat("x", n), told("what"))
		checkText(t, "#"+strings.Repeat("é", n/2-1)+strings.Repeat("x", 1+n%2), told(""))
		checkText(t, "high\n"+strings.Repeat(" ", n-10)+"\nhigh", told("0", "what", "0"))
		checkText(t, strings.Repeat("\n", 39)+strings.Repeat("#", n-39), told(slices.Repeat([]string{""}, 40)...))
		checkText(t, strings.Repeat("\n", 40)+strings.Repeat("#", n-40), nil)
	}
	longest := strings.Repeat("# "+strings.Repeat("x", 97)+"\n", 39) + "#" + strings.Repeat("x", 99)
	checkText(t, longest, slices.Repeat([]string{""}, 40))
	checkText(t, longest+"x", nil)
}

func TestDeskTextKeepsNothing(t *testing.T) {
	text := "device pump p most 1\nticks 5\nrose 0+1i\nbasin 0+0i 1+1i\ncue 0 a 1\ngust 0 0+1i"
	want := slices.Repeat([]string{"ok"}, 6)
	first := impl.DeskText(text)
	spoil(first, "spoilt")
	checkText(t, text, want)
	checkText(t, "remove p\nleast\nlevel a 0", []string{"no", "none", "0"})
	if d := impl.NewDesk(); !sameDesk(d, bareDesk()) {
		t.Errorf("NewDesk is %v", d)
	}
}
