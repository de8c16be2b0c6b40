package tests

import (
	"fmt"
	"math"
	"slices"
	"strings"
	"testing"

	"loop.example/g03017/impl"
)

func cue(tick int, name string, level, ramp int) impl.Cue {
	return impl.Cue{Tick: tick, Name: name, Level: level, Ramp: ramp}
}

func score(cues ...impl.Cue) []impl.Cue {
	return cues
}

func TestLimitsOfScores(t *testing.T) {
	if impl.MaxCues != 12 || impl.MaxRamp != 16 {
		t.Error(impl.MaxCues, impl.MaxRamp)
	}
}

func someCues() []impl.Cue {
	return score(
		cue(0, "a", 0, 0), cue(0, "a", 0, 1), cue(0, "a", 1, 0), cue(1, "a", 0, 0), cue(5, "a", 12, 0), cue(12, "b", 32, 8), cue(33, "p0", 17, 9),
		cue(64, "a", 32, 16), cue(63, "a", 31, 15), cue(64, "abcdefgh", 0, 0), cue(0, "a0123456", 32, 0), cue(0, "z", 0, 16), cue(1, "z9", 8, 1),
		// Words that the texts of cues have are names as well.
		cue(3, "in", 4, 0), cue(3, "in", 4, 5),
	)
}

func beyondTicks() []int {
	return []int{-1, -2, -64, 65, 66, 128, 1<<32 + 5, -(1 << 32) + 5, math.MaxInt, math.MinInt, math.MinInt + 5}
}

func beyondLevels() []int {
	return []int{-1, -2, -32, 33, 34, 64, 4096, 1<<32 + 8, -(1 << 32) + 8, math.MaxInt, math.MinInt, math.MinInt + 8}
}

func beyondRamps() []int {
	return []int{-1, -2, -16, 17, 18, 32, 999, 1000, 1<<32 + 4, -(1 << 32) + 4, math.MaxInt, math.MinInt, math.MinInt + 4}
}

// noCues has cues with one fault each, and some with several.
func noCues() []impl.Cue {
	l := score(impl.Cue{}, cue(-1, "", -1, -1), cue(65, "A", 33, 17), cue(0, "", 0, 0))
	for _, name := range noNames() {
		l = append(l, cue(0, name, 0, 0), cue(64, name, 32, 16), cue(5, name, 8, 0))
	}
	for _, tick := range beyondTicks() {
		l = append(l, cue(tick, "a", 0, 0), cue(tick, "b9", 32, 16))
	}
	for _, level := range beyondLevels() {
		l = append(l, cue(0, "a", level, 0), cue(64, "b9", level, 16))
	}
	for _, ramp := range beyondRamps() {
		l = append(l, cue(0, "a", 0, ramp), cue(64, "b9", 32, ramp))
	}
	return l
}

func cueByHand(x impl.Cue) bool {
	return within(x.Tick, 0, 64) && isNameByHand(x.Name) && within(x.Level, 0, 32) && within(x.Ramp, 0, 16)
}

// cueGrid has each combination of fields at, within and beyond the limits.
func cueGrid() []impl.Cue {
	var l []impl.Cue
	for _, name := range []string{"a", "abcdefgh", "abcdefghi", "", "B", "0"} {
		for _, tick := range []int{-1, 0, 1, 32, 63, 64, 65} {
			for _, level := range []int{-1, 0, 1, 16, 31, 32, 33} {
				for _, ramp := range []int{-1, 0, 1, 8, 15, 16, 17} {
					l = append(l, cue(tick, name, level, ramp))
				}
			}
		}
	}
	return l
}

func TestIsCue(t *testing.T) {
	checkReport(t, "IsCue", impl.IsCue, someCues(), noCues())
}

func TestIsCueOfEachField(t *testing.T) {
	for _, x := range slices.Concat(cueGrid(), someCues(), noCues()) {
		if got := impl.IsCue(x); got != cueByHand(x) {
			t.Errorf("IsCue(%+v) is %t", x, got)
		}
	}
}

func TestCompareCues(t *testing.T) {
	for _, c := range []struct {
		a, b impl.Cue
		want int
	}{
		{cue(5, "a", 8, 4), cue(5, "a", 8, 4), 0}, {cue(5, "a", 8, 4), cue(5, "a", 0, 0), 0}, {cue(5, "a", 1, 9), cue(5, "a", 9, 1), 0}, {impl.Cue{}, impl.Cue{}, 0},
		{cue(5, "a", 8, 4), cue(6, "a", 8, 4), -1}, {cue(5, "a", 8, 4), cue(5, "b", 8, 4), -1}, {cue(5, "b", 8, 4), cue(6, "a", 0, 0), -1}, {cue(5, "a", 8, 4), cue(6, "b", 0, 0), -1}, {cue(9, "a", 0, 0), cue(10, "a", 0, 0), -1},
		{cue(5, "a", 0, 0), cue(5, "aa", 0, 0), -1}, {cue(5, "az", 0, 0), cue(5, "b", 0, 0), -1}, {cue(5, "a0", 0, 0), cue(5, "aa", 0, 0), -1}, {cue(5, "a10", 0, 0), cue(5, "a9", 0, 0), -1}, {cue(5, "", 0, 0), cue(5, "a", 0, 0), -1},
		// Cues that are not valid, and ticks whose difference wraps around.
		{cue(5, "B", 0, 0), cue(5, "a", 0, 0), -1}, {cue(5, "a\xff", 0, 0), cue(5, "b", 0, 0), -1}, {cue(5, "z", 0, 0), cue(5, "\x80", 0, 0), -1}, {cue(5, "a", 0, 0), cue(5, "a\x00", 0, 0), -1}, {cue(5, "a ", 0, 0), cue(5, "a0", 0, 0), -1}, {cue(5, "\xc3", 0, 0), cue(5, "é", 0, 0), -1},
		{cue(-1, "a", 0, 0), cue(0, "a", 0, 0), -1}, {cue(-2, "b", 0, 0), cue(-1, "a", 0, 0), -1}, {cue(64, "b", 0, 0), cue(65, "a", 0, 0), -1}, {cue(5, "b", 0, 0), cue(1<<32+5, "a", 0, 0), -1}, {cue(5, "a", -7, 99), cue(5, "a", 99, -7), 0},
		{cue(math.MinInt, "b", 0, 0), cue(math.MaxInt, "a", 0, 0), -1}, {cue(math.MinInt, "b", 0, 0), cue(1, "a", 0, 0), -1}, {cue(-2, "b", 0, 0), cue(math.MaxInt, "a", 0, 0), -1}, {cue(math.MinInt, "a", 0, 0), cue(math.MinInt, "b", 0, 0), -1}, {cue(math.MaxInt, "a", 0, 0), cue(math.MaxInt, "a", 1, 1), 0},
	} {
		if got := impl.CompareCues(c.a, c.b); got != c.want {
			t.Errorf("CompareCues(%+v, %+v) = %d", c.a, c.b, got)
		}
		if got := impl.CompareCues(c.b, c.a); got != -c.want {
			t.Errorf("CompareCues(%+v, %+v) = %d", c.b, c.a, got)
		}
	}
}

// comparedByHand goes through the bytes of the names.
func comparedByHand(a, b impl.Cue) int {
	switch {
	case a.Tick < b.Tick:
		return -1
	case a.Tick > b.Tick:
		return 1
	}
	for i := 0; i < len(a.Name) && i < len(b.Name); i++ {
		if a.Name[i] < b.Name[i] {
			return -1
		}
		if a.Name[i] > b.Name[i] {
			return 1
		}
	}
	return min(max(len(a.Name)-len(b.Name), -1), 1)
}

func TestCompareCuesOfAllPairs(t *testing.T) {
	var l []impl.Cue
	for i, name := range append(noNames(), "a", "aa", "b", "z9", "abcdefgh") {
		for _, tick := range []int{math.MinInt, -1, 0, 1, 64, math.MaxInt} {
			l = append(l, cue(tick, name, i, -i), cue(tick, name, 0, 0))
		}
	}
	for _, a := range l {
		for _, b := range l {
			if got, want := impl.CompareCues(a, b), comparedByHand(a, b); got != want {
				t.Errorf("CompareCues(%+v, %+v) = %d, not %d", a, b, got, want)
			}
		}
	}
}

// cuesEach has n cues of one name, step ticks apart.
func cuesEach(name string, n, step, ramp int) []impl.Cue {
	var l []impl.Cue
	for i := range n {
		l = append(l, cue(i*step, name, 11*(i+1)%33, ramp))
	}
	return l
}

// cuesAt has n cues of n names at one tick.
func cuesAt(tick, n int) []impl.Cue {
	var l []impl.Cue
	for i := range n {
		l = append(l, cue(tick, string(rune('a'+i)), i, i))
	}
	return l
}

// program is a score of as many cues as there may be, of three names, with ramps that rise, fall and are interrupted.
func program() []impl.Cue {
	return score(
		cue(0, "a", 8, 4), cue(0, "b", 32, 16), cue(2, "a", 0, 0), cue(2, "c", 5, 5), cue(3, "b", 1, 7), cue(6, "b", 30, 3),
		cue(9, "a", 31, 16), cue(9, "b", 30, 10), cue(25, "a", 0, 16), cue(26, "a", 17, 16), cue(40, "c", 0, 16), cue(64, "b", 2, 1),
	)
}

func someScores() [][]impl.Cue {
	l := [][]impl.Cue{
		nil, {}, program(), program()[:11], program()[1:], cuesAt(0, 12), cuesAt(64, 12), cuesAt(7, 11), cuesEach("a", 12, 5, 16), cuesEach("b", 12, 1, 7), cuesEach("c", 11, 6, 0), cuesEach("a", 2, 64, 16),
		score(cue(5, "a", 1, 1), cue(5, "aa", 1, 1), cue(5, "b", 1, 1), cue(6, "a", 1, 1)), score(cue(5, "b", 1, 1), cue(6, "a", 1, 1)), score(cue(9, "a", 1, 1), cue(10, "a", 1, 1)), score(cue(0, "z", 32, 16), cue(64, "a", 32, 16)),
		score(cue(2, "a", 8, 4), cue(4, "a", 1, 3), cue(4, "b", 5, 0)), score(cue(0, "a", 32, 16), cue(8, "a", 32, 16), cue(12, "a", 32, 16), cue(14, "a", 0, 16)),
	}
	for _, x := range someCues() {
		l = append(l, score(x))
	}
	return l
}

// noScores has lists with one fault each.
func noScores() [][]impl.Cue {
	x, y := cue(5, "a", 1, 1), cue(5, "b", 2, 2)
	l := [][]impl.Cue{
		append(program(), cue(64, "c", 1, 1)), append(cuesAt(0, 12), cue(1, "a", 1, 1)), cuesEach("a", 13, 5, 16), slices.Repeat(score(x), 13), slices.Repeat(program(), 50),
		// Out of order, and two with the same Tick and Name.
		score(y, x), score(cue(6, "a", 1, 1), x), score(cue(6, "a", 1, 1), y), score(cue(10, "a", 1, 1), cue(9, "a", 1, 1)), score(x, cue(7, "a", 1, 1), cue(6, "a", 1, 1)), score(cue(7, "a", 1, 1), x, y), score(cue(5, "aa", 1, 1), x),
		score(x, x), score(x, cue(5, "a", 0, 0)), score(x, y, y), score(x, y, cue(5, "b", 3, 2)), score(x, y, cue(6, "a", 1, 1), cue(6, "a", 1, 2)), score(x, y, x), append(program()[:11], cue(40, "c", 1, 1)),
	}
	for _, none := range noCues() {
		l = append(l, score(none), score(none, cue(64, "zz", 1, 1)), score(x, none), score(cue(0, "0", 1, 1), none), score(x, y, none), score(none, x, y))
	}
	return l
}

func scoreByHand(l []impl.Cue) bool {
	for i, x := range l {
		if i >= 12 || !cueByHand(x) || i > 0 && comparedByHand(l[i-1], x) != -1 {
			return false
		}
	}
	return true
}

// someSteps has cues of which scores are made: ramps of several lengths that rise and fall, close together and far apart.
func someSteps() []impl.Cue {
	return score(
		cue(0, "a", 32, 16), cue(1, "a", 3, 5), cue(2, "b", 20, 9), cue(3, "a", 9, 2), cue(3, "b", 0, 0), cue(4, "a", 0, 7),
		cue(5, "a", 31, 1), cue(5, "b", 7, 4), cue(9, "a", 2, 16), cue(11, "c", 8, 3), cue(62, "a", 13, 12), cue(64, "b", 32, 16), cue(5, "", 1, 1), cue(2, "a", 33, 1),
	)
}

// stepLists has each list of up to four cues of some.
func stepLists() [][]impl.Cue {
	return listsOf(4, someSteps()...)
}

func allScores() [][]impl.Cue {
	l := someScores()
	for _, x := range stepLists() {
		if scoreByHand(x) {
			l = append(l, x)
		}
	}
	return l
}

func TestIsScore(t *testing.T) {
	checkReport(t, "IsScore", impl.IsScore, someScores(), noScores())
}

func TestIsScoreOfAllLists(t *testing.T) {
	scores := 0
	for _, l := range slices.Concat(stepLists(), someScores(), noScores()) {
		want := scoreByHand(l)
		if got := impl.IsScore(l); got != want {
			t.Errorf("IsScore(%v) is %t", l, got)
		}
		if want {
			scores++
		}
	}
	if scores < 700 {
		t.Error("only", scores, "lists are scores")
	}
}

func TestAddCue(t *testing.T) {
	l := score(cue(5, "c", 1, 2), cue(5, "e", 3, 4), cue(9, "c", 5, 6))
	eleven := cuesAt(7, 11)
	for _, c := range []struct {
		l    []impl.Cue
		x    impl.Cue
		want []impl.Cue
	}{
		{nil, l[0], l[:1]}, {score(), l[0], l[:1]}, {l, cue(0, "z", 0, 0), slices.Concat(score(cue(0, "z", 0, 0)), l)}, {l, cue(5, "b", 32, 16), slices.Concat(score(cue(5, "b", 32, 16)), l)}, {l, cue(5, "bz", 1, 1), slices.Concat(score(cue(5, "bz", 1, 1)), l)},
		{l, cue(5, "d", 1, 1), slices.Concat(l[:1], score(cue(5, "d", 1, 1)), l[1:])}, {l, cue(5, "ca", 1, 1), slices.Concat(l[:1], score(cue(5, "ca", 1, 1)), l[1:])}, {l, cue(6, "a", 1, 1), slices.Concat(l[:2], score(cue(6, "a", 1, 1)), l[2:])}, {l, cue(9, "a", 1, 1), slices.Concat(l[:2], score(cue(9, "a", 1, 1)), l[2:])},
		{l, cue(9, "d", 1, 1), append(slices.Clone(l), cue(9, "d", 1, 1))}, {l, cue(64, "a", 1, 1), append(slices.Clone(l), cue(64, "a", 1, 1))}, {l, cue(10, "c", 0, 0), append(slices.Clone(l), cue(10, "c", 0, 0))},
		{eleven, cue(7, "l", 11, 11), append(cuesAt(7, 11), cue(7, "l", 11, 11))}, {eleven, cue(6, "z", 0, 0), append(score(cue(6, "z", 0, 0)), eleven...)},
		// A second time, another cue with the same Tick and Name, and to a full score.
		{l, l[0], nil}, {l, l[1], nil}, {l, l[2], nil}, {l, cue(5, "c", 0, 0), nil}, {l, cue(9, "c", 32, 16), nil}, {eleven, cue(7, "k", 0, 0), nil},
		{cuesAt(7, 12), cue(0, "a", 1, 1), nil}, {cuesAt(7, 12), cue(64, "a", 1, 1), nil}, {program(), program()[3], nil}, {program(), cue(20, "a", 1, 1), nil},
		// To a list that is no score, also where the cue would be in its place.
		{score(l[1], l[0]), l[2], nil}, {score(l[0], l[0]), l[2], nil}, {score(impl.Cue{}), l[2], nil}, {append(program(), cue(64, "c", 1, 1)), cue(64, "d", 1, 1), nil}, {score(l[2], l[0]), l[1], nil}, {score(cue(5, "a", 33, 0)), l[1], nil},
		{l, impl.Cue{}, nil}, {l, cue(65, "a", 1, 1), nil}, {l, cue(-1, "a", 1, 1), nil}, {l, cue(6, "", 1, 1), nil}, {l, cue(6, "a", 33, 1), nil}, {l, cue(6, "a", -1, 1), nil}, {l, cue(6, "a", 1, 17), nil}, {l, cue(6, "a", 1, -1), nil},
	} {
		got, ok := impl.AddCue(c.l, c.x)
		want, wantOk := c.want, c.want != nil
		if !wantOk {
			want = c.l
		}
		checkList(t, got, ok, want, wantOk, "AddCue(%v, %v)", c.l, c.x)
	}
}

// cueAddedByHand puts the cue before the first one that is behind it.
func cueAddedByHand(l []impl.Cue, x impl.Cue) ([]impl.Cue, bool) {
	place := 0
	for place < len(l) && comparedByHand(l[place], x) <= 0 {
		place++
	}
	larger := slices.Concat(l[:place], score(x), l[place:])
	if !scoreByHand(l) || !scoreByHand(larger) {
		return l, false
	}
	return larger, true
}

func TestAddCueToAllLists(t *testing.T) {
	for _, l := range slices.Concat(allScores(), noScores(), stepLists()[:1000]) {
		for _, x := range append(someSteps(), cue(0, "b", 1, 1), cue(64, "z", 0, 0), cue(4, "b", 2, 2), impl.Cue{}, cue(4, "b", 2, 17)) {
			got, ok := impl.AddCue(l, x)
			want, wantOk := cueAddedByHand(l, x)
			checkList(t, got, ok, want, wantOk, "AddCue(%v, %v)", l, x)
		}
	}
	for _, l := range someScores() {
		for _, x := range noCues() {
			got, ok := impl.AddCue(l, x)
			checkList(t, got, ok, l, false, "AddCue(%v, %v)", l, x)
		}
	}
}

func TestRemoveCue(t *testing.T) {
	l := score(cue(5, "c", 1, 2), cue(5, "e", 3, 4), cue(9, "c", 5, 6))
	full := program()
	for _, c := range []struct {
		l    []impl.Cue
		tick int
		name string
		want []impl.Cue
	}{
		{l, 5, "c", l[1:]}, {l, 5, "e", score(l[0], l[2])}, {l, 9, "c", l[:2]}, {l[:1], 5, "c", []impl.Cue{}}, {score(cue(0, "a", 0, 0)), 0, "a", []impl.Cue{}},
		{full, 0, "a", full[1:]}, {full, 64, "b", full[:11]}, {full, 9, "b", slices.Concat(full[:7], full[8:])}, {full, 26, "a", slices.Concat(full[:9], full[10:])}, {full, 2, "c", slices.Concat(full[:3], full[4:])},
		// The Tick of another Name, the Name of another Tick, and neither.
		{l, 5, "d", nil}, {l, 5, "a", nil}, {l, 5, "f", nil}, {l, 9, "e", nil}, {l, 9, "", nil}, {l, 9, "cc", nil}, {l, 9, "C", nil}, {l, 5, "c ", nil}, {l, 6, "c", nil}, {l, 4, "c", nil}, {l, 10, "c", nil}, {l, 8, "c", nil},
		{l, 0, "x", nil}, {l, 64, "x", nil}, {l, -1, "c", nil}, {l, -5, "c", nil}, {l, math.MaxInt, "c", nil}, {l, math.MinInt, "c", nil}, {l, 1<<32 + 5, "c", nil}, {nil, 5, "c", nil}, {score(), 0, "", nil}, {nil, 0, "", nil},
		{score(l[1], l[0]), 5, "c", nil}, {score(l[0], l[0]), 5, "c", nil}, {score(impl.Cue{}), 0, "", nil}, {score(l[0], cue(65, "c", 1, 1)), 65, "c", nil}, {score(l[0], cue(9, "c", 33, 1)), 5, "c", nil}, {append(program(), cue(64, "c", 1, 1)), 64, "c", nil},
	} {
		got, ok := impl.RemoveCue(c.l, c.tick, c.name)
		want, wantOk := c.want, c.want != nil
		if !wantOk {
			want = c.l
		}
		checkList(t, got, ok, want, wantOk, "RemoveCue(%v, %d, %q)", c.l, c.tick, c.name)
	}
}

func cueRemovedByHand(l []impl.Cue, tick int, name string) ([]impl.Cue, bool) {
	left := []impl.Cue{}
	for _, x := range l {
		if x.Tick != tick || x.Name != name {
			left = append(left, x)
		}
	}
	if !scoreByHand(l) || len(left) == len(l) {
		return l, false
	}
	return left, true
}

func TestRemoveCueOfAllLists(t *testing.T) {
	for _, l := range slices.Concat(allScores(), noScores(), stepLists()[:300]) {
		for _, x := range slices.Concat(someSteps(), someCues(), l[:min(len(l), 20)]) {
			got, ok := impl.RemoveCue(l, x.Tick, x.Name)
			want, wantOk := cueRemovedByHand(l, x.Tick, x.Name)
			checkList(t, got, ok, want, wantOk, "RemoveCue(%v, %d, %q)", l, x.Tick, x.Name)
			if ok && slices.Contains(l, x) {
				back, added := impl.AddCue(got, x)
				checkList(t, back, added, l, true, "%v of %v, removed and added,", x, l)
			}
		}
	}
}

func TestLevelAtOfEachTick(t *testing.T) {
	for _, c := range []struct {
		what string
		l    []impl.Cue
		name string
		want []int
	}{
		{"no cue", nil, "a", ints(0, 0, 0)},
		{"a cue without a ramp", score(cue(2, "a", 9, 0)), "a", ints(0, 0, 9, 9, 9)},
		{"a cue without a ramp at the start", score(cue(0, "a", 9, 0)), "a", ints(9, 9, 9)},
		{"a ramp of one tick", score(cue(2, "a", 9, 1)), "a", ints(0, 0, 0, 9, 9)},
		{"a ramp of two ticks", score(cue(2, "a", 9, 2)), "a", ints(0, 0, 0, 4, 9, 9)},
		{"a ramp from the start", score(cue(0, "a", 8, 4)), "a", ints(0, 2, 4, 6, 8, 8, 8)},
		{"a ramp that is rounded down", score(cue(0, "a", 5, 7)), "a", ints(0, 0, 1, 2, 2, 3, 4, 5, 5)},
		{"a ramp to 0", score(cue(1, "a", 0, 3)), "a", ints(0, 0, 0, 0, 0)},
		{"a ramp that falls", score(cue(0, "a", 9, 0), cue(1, "a", 1, 3)), "a", ints(9, 9, 6, 3, 1, 1)},
		{"a ramp that falls to 0 and is rounded down", score(cue(0, "a", 4, 0), cue(1, "a", 0, 3)), "a", ints(4, 4, 2, 1, 0, 0)},
		{"a ramp that stays", score(cue(0, "a", 9, 0), cue(1, "a", 9, 3)), "a", ints(9, 9, 9, 9, 9, 9)},
		{"a fall at once", score(cue(0, "a", 9, 0), cue(2, "a", 3, 0)), "a", ints(9, 9, 3, 3)},
		{"interrupted at its first tick", score(cue(1, "a", 8, 4), cue(2, "a", 8, 3)), "a", ints(0, 0, 2, 4, 6, 8, 8)},
		{"interrupted within, to fall", score(cue(1, "a", 8, 4), cue(3, "a", 0, 4)), "a", ints(0, 0, 2, 4, 3, 2, 1, 0, 0)},
		{"interrupted within, to rise faster", score(cue(1, "a", 8, 8), cue(3, "a", 32, 3)), "a", ints(0, 0, 1, 2, 12, 22, 32, 32)},
		{"interrupted within, at once", score(cue(1, "a", 8, 4), cue(3, "a", 1, 0)), "a", ints(0, 0, 2, 1, 1, 1, 1)},
		{"interrupted within, to stay", score(cue(1, "a", 8, 4), cue(3, "a", 4, 4)), "a", ints(0, 0, 2, 4, 4, 4, 4, 4)},
		{"interrupted a tick before its end", score(cue(1, "a", 8, 4), cue(4, "a", 0, 2)), "a", ints(0, 0, 2, 4, 6, 3, 0, 0)},
		{"interrupted at its end", score(cue(1, "a", 8, 4), cue(5, "a", 0, 2)), "a", ints(0, 0, 2, 4, 6, 8, 4, 0, 0)},
		{"another one behind its end", score(cue(1, "a", 8, 4), cue(6, "a", 0, 2)), "a", ints(0, 0, 2, 4, 6, 8, 8, 4, 0)},
		{"a fall that is interrupted", score(cue(0, "a", 32, 0), cue(1, "a", 0, 4), cue(3, "a", 32, 4)), "a", ints(32, 32, 24, 16, 20, 24, 28, 32)},
		{"interrupted twice", score(cue(0, "a", 32, 16), cue(4, "a", 0, 4), cue(6, "a", 10, 3)), "a", ints(0, 2, 4, 6, 8, 6, 4, 6, 8, 10, 10)},
		{"interrupted twice, tick by tick", score(cue(0, "a", 32, 4), cue(1, "a", 32, 4), cue(2, "a", 32, 4)), "a", ints(0, 8, 14, 18, 23, 27, 32, 32)},
		{"interrupted twice by long ramps", score(cue(0, "a", 32, 8), cue(2, "a", 0, 16), cue(6, "a", 32, 16)), "a", ints(0, 4, 8, 7, 7, 6, 6, 7, 9, 10)},
		{"cues of another name between", score(cue(0, "a", 32, 16), cue(1, "b", 5, 0), cue(4, "a", 0, 4), cue(4, "b", 0, 0), cue(5, "b", 9, 9), cue(6, "a", 10, 3)), "a", ints(0, 2, 4, 6, 8, 6, 4, 6, 8, 10, 10)},
		{"the other name", score(cue(0, "a", 32, 16), cue(1, "b", 5, 0), cue(4, "a", 0, 4), cue(4, "b", 0, 0), cue(5, "b", 9, 9), cue(6, "a", 10, 3)), "b", ints(0, 5, 5, 5, 0, 0, 1, 2, 3, 4, 5, 6, 7, 8, 9, 9)},
		{"a name that is not there", score(cue(0, "a", 32, 0)), "b", ints(0, 0, 0)},
		{"a name that begins with one", score(cue(0, "a", 32, 0)), "aa", ints(0, 0, 0)},
		{"no name", score(cue(0, "a", 32, 0)), "", ints(0, 0, 0)},
	} {
		for i, want := range c.want {
			if got := impl.LevelAt(c.l, c.name, i); got != want {
				t.Errorf("%s: LevelAt(%v, %q, %d) = %d, not %d", c.what, c.l, c.name, i, got, want)
			}
		}
	}
}

func TestLevelAtOfFarTicks(t *testing.T) {
	l := score(cue(0, "b", 7, 0), cue(62, "a", 8, 0), cue(64, "a", 16, 16))
	for _, c := range []struct {
		name    string
		t, want int
	}{
		{"a", 61, 0}, {"a", 62, 8}, {"a", 63, 8}, {"a", 64, 8}, {"a", 65, 8}, {"a", 66, 9}, {"a", 78, 15}, {"a", 79, 15}, {"a", 80, 16}, {"a", 81, 16}, {"a", 128, 16}, {"a", 1000, 16}, {"a", 1 << 32, 16}, {"a", math.MaxInt, 16}, {"b", math.MaxInt, 7},
		{"a", -1, 0}, {"b", -1, 0}, {"b", -64, 0}, {"b", math.MinInt, 0}, {"a", math.MinInt, 0}, {"a", math.MinInt + 63, 0}, {"a", math.MinInt + 64, 0}, {"b", -(1 << 32), 0}, {"c", -1, 0}, {"c", 64, 0}, {"c", math.MaxInt, 0}, {"", 70, 0},
	} {
		if got := impl.LevelAt(l, c.name, c.t); got != c.want {
			t.Errorf("LevelAt of %q at %d = %d, not %d", c.name, c.t, got, c.want)
		}
	}
}

// rampedByHand goes back from the last cue to those before.
func rampedByHand(l []impl.Cue, name string, t int) int {
	for k := len(l) - 1; k >= 0; k-- {
		x := l[k]
		if x.Name != name || x.Tick > t {
			continue
		}
		if t >= x.Tick+x.Ramp {
			return x.Level
		}
		from := rampedByHand(l[:k], name, x.Tick)
		return from + floorOf((t-x.Tick)*(x.Level-from), x.Ramp)
	}
	return 0
}

func scoreNames() []string {
	return []string{"a", "b", "c", "aa", "z", "in", "abcdefgh", "", "B", "nobody", "abcdefghi"}
}

func TestLevelAtOfAllScores(t *testing.T) {
	for _, l := range allScores() {
		for _, name := range scoreNames() {
			for i := -2; i < 84; i++ {
				want := rampedByHand(l, name, i)
				if got := impl.LevelAt(l, name, i); got != want || !within(got, 0, 32) {
					t.Errorf("LevelAt(%v, %q, %d) = %d, not %d", l, name, i, got, want)
				}
			}
		}
	}
}

func TestLevelAtOfAllInterruptions(t *testing.T) {
	for at := range 5 {
		for _, level := range []int{0, 3, 32} {
			for first := range 6 {
				for second := range 6 {
					l := score(cue(0, "a", 13, 0), cue(1, "a", level, first), cue(1+at+1, "a", 20, second), cue(8, "a", 1, 4))
					for i := range 14 {
						if got, want := impl.LevelAt(l, "a", i), rampedByHand(l, "a", i); got != want {
							t.Errorf("LevelAt(%v, a, %d) = %d, not %d", l, i, got, want)
						}
					}
				}
			}
		}
	}
}

func TestLevelAtOfWhatIsNoScore(t *testing.T) {
	for _, l := range noScores() {
		for _, x := range l[:min(len(l), 14)] {
			for _, i := range []int{-1, 0, 5, 6, 20, 64, 100, math.MaxInt, math.MinInt} {
				if got := impl.LevelAt(l, x.Name, i); got != 0 {
					t.Errorf("LevelAt(%v, %q, %d) = %d", l, x.Name, i, got)
				}
			}
		}
	}
}

func TestFrameAt(t *testing.T) {
	l := score(cue(2, "a", 8, 4), cue(4, "a", 1, 3), cue(4, "b", 5, 0))
	for _, c := range []struct {
		l     []impl.Cue
		names []string
		t     int
		want  []int
	}{
		{l, []string{"b", "a", "x"}, 4, ints(5, 4, 0)}, {l, []string{"a", "b"}, 3, ints(2, 0)}, {l, []string{"a", "a", "b", "a"}, 5, ints(3, 3, 5, 3)}, {l, []string{"x"}, 5, ints(0)}, {l, []string{""}, 5, ints(0)}, {l, []string{"a", "", "b", "A", "abcdefghi"}, 70, ints(1, 0, 5, 0, 0)},
		{l, nil, 4, nil}, {l, []string{}, 4, nil}, {nil, nil, 4, nil}, {nil, []string{"a", "b"}, 4, ints(0, 0)}, {l, []string{"a", "b"}, -1, ints(0, 0)}, {l, []string{"a", "b"}, math.MinInt, ints(0, 0)}, {l, []string{"a", "b"}, math.MaxInt, ints(1, 5)},
		{score(l[1], l[0]), []string{"a", "b"}, 6, ints(0, 0)}, {append(program(), cue(64, "c", 1, 1)), []string{"a", "b", "c"}, 64, ints(0, 0, 0)}, {score(impl.Cue{Level: 9}), []string{"", "a"}, 4, ints(0, 0)},
		{l, slices.Repeat([]string{"b", "a"}, 300), 4, slices.Repeat(ints(5, 4), 300)},
	} {
		if got := impl.FrameAt(c.l, c.names, c.t); !slices.Equal(got, c.want) {
			t.Errorf("FrameAt(%v, %q, %d) = %v, not %v", c.l, c.names, c.t, got, c.want)
		}
	}
}

func TestFrameAtOfAllScores(t *testing.T) {
	names := append(scoreNames(), "a", "b")
	for _, l := range append(allScores(), noScores()...) {
		for i := -1; i < 84; i += 5 {
			got := impl.FrameAt(l, names, i)
			if len(got) != len(names) {
				t.Fatalf("FrameAt(%v, %q, %d) = %v", l, names, i, got)
			}
			for k, name := range names {
				if got[k] != impl.LevelAt(l, name, i) {
					t.Errorf("FrameAt(%v, %q, %d) = %v", l, names, i, got)
				}
			}
		}
	}
}

func TestLaterScore(t *testing.T) {
	l := score(cue(0, "a", 8, 4), cue(2, "b", 1, 3), cue(2, "c", 5, 0))
	for _, c := range []struct {
		l    []impl.Cue
		n    int
		want []impl.Cue
	}{
		{l, 0, l}, {l, 1, score(cue(1, "a", 8, 4), cue(3, "b", 1, 3), cue(3, "c", 5, 0))}, {l, 62, score(cue(62, "a", 8, 4), cue(64, "b", 1, 3), cue(64, "c", 5, 0))}, {l, 63, nil}, {l, 64, nil}, {l, 65, nil}, {l, -1, nil}, {l, -64, nil},
		{l[:1], 64, score(cue(64, "a", 8, 4))}, {l[:1], 65, nil}, {l[1:2], -1, nil}, {l[1:2], -2, nil}, {score(cue(64, "a", 1, 16)), 0, score(cue(64, "a", 1, 16))}, {score(cue(64, "a", 1, 16)), 1, nil}, {score(cue(64, "a", 1, 16)), -1, nil}, {cuesAt(0, 12), 64, cuesAt(64, 12)}, {cuesAt(1, 12), 64, nil},
		{nil, 0, []impl.Cue{}}, {nil, 64, []impl.Cue{}}, {nil, 65, nil}, {nil, -1, nil}, {score(), 1, []impl.Cue{}}, {nil, math.MaxInt, nil}, {nil, math.MinInt, nil},
		{l, math.MaxInt, nil}, {l, math.MinInt, nil}, {l, 1 << 32, nil}, {l, 1<<32 + 1, nil}, {l, math.MinInt + 1, nil},
		{score(l[1], l[0]), 0, nil}, {score(l[1], l[1]), 1, nil}, {score(impl.Cue{}), 1, nil}, {score(cue(-1, "a", 1, 1)), 1, nil}, {score(cue(-5, "a", 1, 1)), 64, nil}, {score(cue(math.MinInt, "a", 1, 1)), 0, nil}, {score(cue(math.MaxInt, "a", 1, 1)), 1, nil}, {append(program(), cue(64, "c", 1, 1)), 0, nil},
	} {
		got, ok := impl.LaterScore(c.l, c.n)
		checkList(t, got, ok, c.want, c.want != nil, "LaterScore(%v, %d)", c.l, c.n)
	}
}

func laterByHand(l []impl.Cue, n int) ([]impl.Cue, bool) {
	later := []impl.Cue{}
	for _, x := range l {
		later = append(later, cue(x.Tick+n, x.Name, x.Level, x.Ramp))
	}
	if !within(n, 0, 64) || !scoreByHand(l) || !scoreByHand(later) {
		return nil, false
	}
	return later, true
}

func TestLaterScoreOfAllLists(t *testing.T) {
	for _, l := range append(allScores(), noScores()...) {
		for _, n := range append(beyondTicks(), 0, 1, 2, 3, 10, 40, 52, 53, 59, 60, 61, 62, 63, 64) {
			got, ok := impl.LaterScore(l, n)
			want, wantOk := laterByHand(l, n)
			checkList(t, got, ok, want, wantOk, "LaterScore(%v, %d)", l, n)
		}
	}
}

// What is made later has each level later.
func TestLaterScoresHaveLaterLevels(t *testing.T) {
	for _, l := range allScores() {
		for _, n := range []int{0, 1, 7, 50, 60, 64} {
			later, ok := impl.LaterScore(l, n)
			if !ok {
				continue
			}
			for i := range 84 {
				for _, name := range []string{"a", "b"} {
					if got, want := impl.LevelAt(later, name, i), impl.LevelAt(l, name, i-n); got != want {
						t.Errorf("LevelAt(%v, %q, %d) = %d, but %d made later by %d", later, name, i, got, want, n)
					}
				}
			}
			if len(l) > 0 && impl.EndOf(later) != impl.EndOf(l)+n {
				t.Errorf("EndOf(%v) = %d, later by %d", later, impl.EndOf(later), n)
			}
		}
	}
}

func TestMergeScores(t *testing.T) {
	l := score(cue(2, "a", 8, 4), cue(4, "a", 1, 3), cue(4, "c", 5, 0))
	odd, even := program(), program()
	for i := range 6 {
		odd, even = slices.Delete(odd, i, i+1), slices.Delete(even, i+1, i+2)
	}
	for _, c := range []struct {
		a, b, want []impl.Cue
	}{
		{l, nil, l}, {l, score(), l}, {program(), nil, program()}, {nil, nil, []impl.Cue{}}, {score(), []impl.Cue{}, []impl.Cue{}},
		{l, score(cue(0, "z", 1, 1), cue(1, "a", 2, 2)), slices.Concat(score(cue(0, "z", 1, 1), cue(1, "a", 2, 2)), l)}, {l, score(cue(4, "d", 1, 1), cue(5, "a", 2, 2)), slices.Concat(l, score(cue(4, "d", 1, 1), cue(5, "a", 2, 2)))},
		// Parts that take turns, also within one tick, and with one Tick or one Name in both.
		{score(l[0], l[2]), l[1:2], l}, {score(cue(1, "a", 1, 1), cue(3, "a", 3, 3), cue(5, "a", 5, 5)), score(cue(2, "a", 2, 2), cue(4, "a", 4, 4)), score(cue(1, "a", 1, 1), cue(2, "a", 2, 2), cue(3, "a", 3, 3), cue(4, "a", 4, 4), cue(5, "a", 5, 5))},
		{l, score(cue(4, "b", 1, 1)), score(l[0], l[1], cue(4, "b", 1, 1), l[2])}, {l, score(cue(2, "b", 1, 1), cue(3, "a", 1, 1)), score(l[0], cue(2, "b", 1, 1), cue(3, "a", 1, 1), l[1], l[2])},
		// MaxCues together, and one more.
		{odd, even, program()}, {cuesAt(7, 12)[:5], cuesAt(7, 12)[5:], cuesAt(7, 12)}, {cuesAt(7, 6), cuesAt(8, 6), append(cuesAt(7, 6), cuesAt(8, 6)...)}, {cuesAt(7, 11), score(cue(0, "a", 1, 1)), append(score(cue(0, "a", 1, 1)), cuesAt(7, 11)...)},
		{cuesAt(7, 12), score(cue(0, "a", 1, 1)), nil}, {cuesAt(7, 11), cuesAt(8, 2), nil}, {cuesAt(7, 7), cuesAt(8, 6), nil}, {program(), cuesAt(8, 12), nil}, {program(), program(), nil},
		// One Tick and Name in both.
		{l, l, nil}, {l, l[:1], nil}, {l, l[1:2], nil}, {l, l[2:], nil}, {l, score(cue(4, "a", 0, 0)), nil}, {l, score(cue(0, "a", 1, 1), cue(4, "c", 0, 16), cue(9, "a", 1, 1)), nil}, {cuesAt(7, 11), cuesAt(7, 1), nil},
		{l, score(l[1], l[0]), nil}, {nil, score(l[1], l[0]), nil}, {l, score(impl.Cue{}), nil}, {nil, score(cue(65, "a", 1, 1)), nil}, {nil, score(cue(6, "a", 1, 17)), nil}, {nil, append(program(), cue(64, "c", 1, 1)), nil}, {nil, score(l[0], l[0]), nil}, {l[1:], score(cue(9, "b", 1, 1), cue(8, "b", 1, 1)), nil},
	} {
		got, ok := impl.MergeScores(c.a, c.b)
		checkList(t, got, ok, c.want, c.want != nil, "MergeScores(%v, %v)", c.a, c.b)
		got, ok = impl.MergeScores(c.b, c.a)
		checkList(t, got, ok, c.want, c.want != nil, "MergeScores(%v, %v)", c.b, c.a)
	}
}

// mergedByHand adds the cues of one part to the other, one by one.
func mergedByHand(a, b []impl.Cue) ([]impl.Cue, bool) {
	merged, ok := a, scoreByHand(a) && scoreByHand(b)
	for i := 0; ok && i < len(b); i++ {
		merged, ok = cueAddedByHand(merged, b[i])
	}
	if !ok {
		return nil, false
	}
	return merged, true
}

func TestMergeScoresOfAllLists(t *testing.T) {
	lists := slices.Concat(someScores(), noScores()[:40], stepLists()[:180])
	for _, x := range allScores() {
		if len(x)%4 == 3 {
			lists = append(lists, x)
		}
	}
	for _, a := range lists {
		for _, b := range lists {
			got, ok := impl.MergeScores(a, b)
			want, wantOk := mergedByHand(a, b)
			checkList(t, got, ok, want, wantOk, "MergeScores(%v, %v)", a, b)
		}
	}
}

func TestOnlyNames(t *testing.T) {
	l := score(cue(0, "b", 1, 1), cue(2, "a", 8, 4), cue(2, "c", 7, 7), cue(4, "a", 1, 3), cue(4, "aa", 2, 2), cue(4, "b", 5, 0))
	for _, c := range []struct {
		l     []impl.Cue
		names []string
		want  []impl.Cue
	}{
		{l, []string{"a"}, score(l[1], l[3])}, {l, []string{"b"}, score(l[0], l[5])}, {l, []string{"b", "a"}, score(l[0], l[1], l[3], l[5])}, {l, []string{"c", "x", "aa"}, score(l[2], l[4])}, {l, []string{"a", "a"}, score(l[1], l[3])}, {l, []string{"c", "b", "aa", "a"}, l},
		{l, []string{"x", "", "A", "a ", "bb"}, nil}, {l, []string{""}, nil}, {l, []string{}, nil}, {l, nil, nil}, {nil, nil, nil}, {nil, []string{"a"}, nil}, {l, append(slices.Repeat([]string{"x"}, 900), "c"), score(l[2])}, {program(), []string{"c", "b", "a"}, program()},
		{score(l[1], l[0]), []string{"a", "b"}, nil}, {score(l[1], l[1]), []string{"a"}, nil}, {score(impl.Cue{}), []string{""}, nil}, {score(l[0], cue(9, "a", 33, 0)), []string{"b"}, nil}, {append(program(), cue(64, "c", 1, 1)), []string{"a"}, nil}, {append(program(), cue(64, "c", 1, 1)), []string{"c"}, nil},
	} {
		if got := impl.OnlyNames(c.l, c.names); !slices.Equal(got, c.want) {
			t.Errorf("OnlyNames(%v, %q) = %v", c.l, c.names, got)
		}
	}
}

// What is left of a score has the levels of the names that are left, and of no others.
func TestOnlyNamesKeepsTheirLevels(t *testing.T) {
	for _, l := range append(allScores(), noScores()...) {
		for _, names := range [][]string{nil, {"a"}, {"c", "a"}, {"b"}, {"x", "b", "b"}, {"a", "b", "c"}, scoreNames()} {
			only := impl.OnlyNames(l, names)
			if !impl.IsScore(only) {
				t.Errorf("OnlyNames(%v, %q) = %v", l, names, only)
			}
			for _, name := range []string{"a", "b", "c", "z"} {
				for i := 0; i < 84; i += 3 {
					want := 0
					if slices.Contains(names, name) {
						want = impl.LevelAt(l, name, i)
					}
					if got := impl.LevelAt(only, name, i); got != want {
						t.Errorf("LevelAt of %q at %d is %d in %v, only %q of %v", name, i, got, only, names, l)
					}
				}
			}
		}
	}
}

func TestMergedNamesAreTheScoreAgain(t *testing.T) {
	for _, l := range allScores() {
		some := impl.OnlyNames(l, []string{"a", "in", "z9"})
		var others []string
		for _, x := range l {
			if !slices.Contains([]string{"a", "in", "z9"}, x.Name) {
				others = append(others, x.Name)
			}
		}
		got, ok := impl.MergeScores(impl.OnlyNames(l, others), some)
		checkList(t, got, ok, l, true, "MergeScores of the names %q of %v and the others", others, l)
	}
}

func TestEndOf(t *testing.T) {
	for _, c := range []struct {
		l    []impl.Cue
		want int
	}{
		{nil, 0}, {score(), 0}, {score(cue(0, "a", 9, 0)), 0}, {score(cue(0, "a", 9, 5)), 5}, {score(cue(5, "a", 9, 0)), 5}, {score(cue(5, "a", 0, 7)), 12}, {score(cue(64, "a", 9, 16)), 80}, {score(cue(64, "a", 9, 0)), 64},
		{score(cue(2, "a", 8, 4), cue(4, "a", 1, 3), cue(4, "b", 5, 0)), 7},
		// An earlier cue of the name has a longer ramp, which the last one interrupts.
		{score(cue(2, "a", 8, 16), cue(4, "a", 1, 3)), 7}, {score(cue(2, "a", 8, 16), cue(4, "a", 1, 14)), 18}, {score(cue(2, "a", 8, 16), cue(4, "a", 1, 13)), 17}, {score(cue(2, "a", 8, 16), cue(4, "a", 1, 15)), 19}, {score(cue(2, "a", 8, 16), cue(18, "a", 1, 0)), 18}, {score(cue(2, "a", 8, 16), cue(4, "a", 8, 0)), 4},
		{score(cue(0, "a", 8, 16), cue(1, "a", 1, 12), cue(2, "a", 1, 10)), 12}, {score(cue(0, "a", 8, 16), cue(1, "a", 1, 0), cue(2, "a", 1, 16)), 18},
		// Another name ends later, with an earlier cue or with a longer ramp, or at the same tick.
		{score(cue(2, "a", 8, 16), cue(4, "a", 1, 3), cue(5, "b", 1, 9)), 14}, {score(cue(2, "a", 8, 16), cue(4, "b", 1, 3)), 18}, {score(cue(2, "b", 8, 16), cue(4, "a", 1, 3)), 18}, {score(cue(2, "b", 8, 10), cue(4, "a", 1, 8)), 12}, {score(cue(2, "a", 8, 16), cue(3, "b", 8, 16), cue(4, "a", 1, 3), cue(4, "b", 1, 2)), 7},
		{program(), 65}, {program()[:11], 56}, {program()[:10], 42}, {program()[:9], 41}, {program()[:8], 25}, {program()[:7], 25}, {program()[:6], 9}, {program()[:2], 16}, {cuesAt(0, 12), 11}, {cuesAt(64, 12), 75}, {cuesEach("a", 12, 5, 16), 71},
		{score(cue(4, "b", 1, 3), cue(4, "a", 1, 3)), 0}, {score(cue(4, "b", 1, 3), cue(4, "b", 1, 3)), 0}, {score(impl.Cue{Tick: 5}), 0}, {score(cue(4, "b", 1, 17)), 0}, {score(cue(65, "b", 1, 1)), 0}, {score(cue(4, "b", 33, 1)), 0}, {append(program(), cue(64, "c", 1, 1)), 0}, {score(cue(math.MaxInt, "b", 1, math.MaxInt)), 0}, {score(cue(0, "a", 1, -1)), 0},
	} {
		if got := impl.EndOf(c.l); got != c.want {
			t.Errorf("EndOf(%v) = %d, not %d", c.l, got, c.want)
		}
	}
}

func endByHand(l []impl.Cue) int {
	end := 0
	for i, x := range l {
		isLast := true
		for _, y := range l[i+1:] {
			isLast = isLast && y.Name != x.Name
		}
		if isLast {
			end = max(end, x.Tick+x.Ramp)
		}
	}
	return end
}

func TestFromItsEndLevelsStay(t *testing.T) {
	for _, l := range allScores() {
		end := impl.EndOf(l)
		if want := endByHand(l); end != want {
			t.Errorf("EndOf(%v) = %d, not %d", l, end, want)
		}
		for _, name := range scoreNames() {
			last := impl.LevelAt(l, name, end)
			for _, i := range []int{end + 1, end + 2, end + 3, end + 16, 80, 81, 96, 1000, math.MaxInt} {
				if got := impl.LevelAt(l, name, i); got != last {
					t.Errorf("LevelAt(%v, %q, %d) = %d, but %d at its end", l, name, i, got, last)
				}
			}
		}
	}
}

// From its end on, a name has the Level of its last cue.
func TestAtItsEndEachNameHasItsLastLevel(t *testing.T) {
	for _, l := range allScores() {
		levels := map[string]int{}
		for _, x := range l {
			levels[x.Name] = x.Level
		}
		for _, name := range scoreNames() {
			if got := impl.LevelAt(l, name, impl.EndOf(l)); got != levels[name] {
				t.Errorf("LevelAt(%v, %q, %d) = %d", l, name, impl.EndOf(l), got)
			}
		}
	}
}

func TestFormatCue(t *testing.T) {
	for x, want := range map[impl.Cue]string{
		cue(5, "a", 12, 0): "5 a 1.5", cue(12, "b", 32, 8): "12 b 4 in 8", cue(0, "a", 0, 0): "0 a 0", cue(64, "abcdefgh", 31, 16): "64 abcdefgh 3.875 in 16", cue(9, "a", 1, 1): "9 a 0.125 in 1", cue(10, "z9", 8, 10): "10 z9 1 in 10", cue(3, "in", 4, 5): "3 in 0.5 in 5", cue(3, "in", 4, 0): "3 in 0.5",
	} {
		if got := impl.FormatCue(x); got != want {
			t.Errorf("FormatCue(%v) = %q, not %q", x, got, want)
		}
	}
	for _, x := range noCues() {
		if got := impl.FormatCue(x); got != "" {
			t.Errorf("FormatCue(%v) = %q", x, got)
		}
	}
}

// cueText writes cues that are not valid, too, and a Ramp of 0 as well if it is asked to.
func cueText(x impl.Cue, withRamp bool) string {
	s := fmt.Sprint(x.Tick, " ", x.Name, " ", decimalOf(x.Level))
	if withRamp {
		s += fmt.Sprint(" in ", x.Ramp)
	}
	return s
}

func TestParseCueReadsWhatIsWritten(t *testing.T) {
	cues := slices.Concat(someCues(), someSteps()[:12], program())
	for tick := range 65 {
		for level := range 33 {
			for ramp := range 17 {
				cues = append(cues, cue(tick, "a", level, ramp))
			}
		}
	}
	for _, x := range cues {
		s := cueText(x, x.Ramp > 0)
		if got := impl.FormatCue(x); got != s {
			t.Errorf("FormatCue(%v) = %q, not %q", x, got, s)
		}
		if got, ok := impl.ParseCue(s); got != x || !ok {
			t.Errorf("ParseCue(%q) = %v, %t", s, got, ok)
		}
	}
}

func checkNoCue(t *testing.T, s string) {
	t.Helper()
	if x, ok := impl.ParseCue(s); x != (impl.Cue{}) || ok {
		t.Errorf("ParseCue(%q) = %v, %t", s, x, ok)
	}
}

func TestParseCueRejectsWhatIsNotValid(t *testing.T) {
	for _, x := range append(noCues(), cueGrid()...) {
		if !cueByHand(x) {
			checkNoCue(t, cueText(x, true))
			x.Ramp = 0
			if !cueByHand(x) {
				checkNoCue(t, cueText(x, false))
			}
		}
	}
	for _, s := range []string{
		"65 a 1", "65 a 1 in 2", "-1 a 1", "999 a 1", "1000 a 1", "5 A 1", "5  1", "5 1 1", "5 abcdefghi 1", "5 a 4.125", "5 a 4.125 in 2", "5 a -0.125", "5 a 512", "5 a 512.125", "5 a 1 in 17", "5 a 1 in -1", "5 a 1 in 999", "5 a 1 in 1000",
	} {
		checkNoCue(t, s)
	}
}

// What is read of a changed text is a cue of which just this text is written.
func TestParseCueReadsNoOtherWritings(t *testing.T) {
	for _, s := range []string{"5 a 1.5", "12 b 4 in 8", "0 in 0 in 16"} {
		for _, text := range changedTexts(s) {
			x, ok := impl.ParseCue(text)
			if ok && (!cueByHand(x) || cueText(x, x.Ramp > 0) != text) || !ok && x != (impl.Cue{}) {
				t.Errorf("ParseCue(%q) = %v, %t", text, x, ok)
			}
		}
	}
}

func TestParseCueRejectsOtherWords(t *testing.T) {
	// Turned around, the numbers of the second one are those of no cue.
	for _, s := range []string{"5 a 1.5", "17 b 4 in 8"} {
		for _, other := range []string{s + " ", " " + s, s + "\n", s + " " + s, s + s, s + " x", s + " in", s + " in ", s + " in 0", s + " in 5 in 5", s + " in 5 5", s + " 5 in", s + " for 5", s + " IN 5", s + " in  5", s + "  in 5", s + "in 5", s + " in5", strings.ReplaceAll(s, " ", "\t"), strings.ReplaceAll(s, " ", "  "), strings.ReplaceAll(s, " ", ""), strings.ToUpper(s), strings.ReplaceAll(s, " ", "\xc2\xa0")} {
			checkNoCue(t, other)
		}
		words := strings.Split(s, " ")
		for i := range words {
			checkNoCue(t, strings.Join(slices.Delete(slices.Clone(words), i, i+1), " "))
			checkNoCue(t, strings.Join(slices.Insert(slices.Clone(words), i, words[i]), " "))
			checkNoCue(t, strings.Join(slices.Insert(slices.Clone(words), i, ""), " "))
			for k := range i {
				other := slices.Clone(words)
				other[k], other[i] = words[i], words[k]
				checkNoCue(t, strings.Join(other, " "))
			}
		}
	}
}

func TestParseCueRejects(t *testing.T) {
	for _, s := range []string{
		"", " ", "  ", "    ", "     ", "5", "5 a", "5 a ", "a 1.5", "5 1.5", "in 8", "5 a in 8", "12 b 4 in", "12 b 4 8", "12 b 4 in 0", "5 a 1.5 in 0", "0 a 0 in 0", "5 a 1.5 in 00", "5 a 1.5 in -0", "12 b 4 for 8", "12 b 4 In 8", "12 b 4  8", "12 b 4 in  8", "12 b 4  in 8",
		"05 a 1.5", "+5 a 1.5", "-0 a 1.5", "00 a 1.5", "5.0 a 1.5", "5e0 a 1.5", "0x5 a 1.5", "five a 1.5", "5\n a 1.5", "5i a 1.5", "٥ a 1.5", "99999999999999999999 a 1.5", " 5 a 1.5",
		"5 a 1.50", "5 a 01.5", "5 a +1.5", "5 a -0", "5 a .5", "5 a 1.", "5 a 1.6", "5 a 1,5", "5 a 1e0", "5 a 0x1", "5 a nan", "5 a one", "5 a 1.5\n", "5 a 1.5i", "5 a 4.0", "5 a 00", "5 a 99999999999999999999",
		"12 b 4 in 08", "12 b 4 in +8", "12 b 4 in 8.0", "12 b 4 in 8e0", "12 b 4 in eight", "12 b 4 in 8\n", "12 b 4 in 0x8", "12 b 4 in 99999999999999999999", "12 b 4 in in", "12 b 04 in 8", "012 b 4 in 8", "12 b x in 8", "x b 4 in 8",
		strings.Repeat("5 ", 400), strings.Repeat(" ", 4000), "5 " + strings.Repeat("a", 4000) + " 1.5", "5 a 1" + strings.Repeat(" in 8", 300),
	} {
		checkNoCue(t, s)
	}
}

func scoreResults(l []impl.Cue) map[string][]impl.Cue {
	added, _ := impl.AddCue(l, cue(64, "zz", 1, 1))
	addedFirst, _ := impl.AddCue(l, cue(0, "0", 1, 1))
	addedEarly, _ := impl.AddCue(l, cue(0, "a0", 1, 1))
	notAdded, _ := impl.AddCue(l, impl.Cue{})
	removed, _ := impl.RemoveCue(l, 5, "a")
	removedFirst, _ := impl.RemoveCue(l, 0, "a")
	removedLast, _ := impl.RemoveCue(l, 64, "b")
	notRemoved, _ := impl.RemoveCue(l, 5, "nobody")
	later, _ := impl.LaterScore(l, 1)
	notLater, _ := impl.LaterScore(l, 0)
	mergedFirst, _ := impl.MergeScores(l, nil)
	mergedSecond, _ := impl.MergeScores(nil, l)
	merged, _ := impl.MergeScores(l, score(cue(1, "zz", 1, 1)))
	mergedBehind, _ := impl.MergeScores(score(cue(1, "zz", 1, 1)), l)
	return map[string][]impl.Cue{
		"AddCue": added, "AddCue at the start": addedFirst, "AddCue early": addedEarly, "AddCue of none": notAdded,
		"RemoveCue": removed, "RemoveCue at the start": removedFirst, "RemoveCue at the end": removedLast, "RemoveCue of none": notRemoved,
		"LaterScore": later, "LaterScore by 0": notLater, "MergeScores with nothing": mergedFirst, "MergeScores of nothing": mergedSecond, "MergeScores": merged, "MergeScores the other way": mergedBehind,
		"OnlyNames": impl.OnlyNames(l, []string{"a", "b"}), "OnlyNames of all": impl.OnlyNames(l, scoreNames()), "OnlyNames of none": impl.OnlyNames(l, nil),
	}
}

func TestScoresShareNothing(t *testing.T) {
	for _, l := range append(allScores(), noScores()...) {
		checkSharesNothing(t, l, cue(64, "zzz", 7, 7), cue(77, "spoilt", 77, 77), scoreResults)
	}
}

func TestSecondScoresAreNotChanged(t *testing.T) {
	for _, l := range append(allScores(), noScores()...) {
		a, wholeA := sparing(score(cue(1, "zz", 1, 1)), cue(64, "zzz", 7, 7))
		b, wholeB := sparing(l, cue(64, "zzz", 7, 7))
		beforeA, beforeB := slices.Clone(wholeA), slices.Clone(wholeB)
		for _, merge := range []func() ([]impl.Cue, bool){
			func() ([]impl.Cue, bool) { return impl.MergeScores(a, b) },
			func() ([]impl.Cue, bool) { return impl.MergeScores(b, a) },
			func() ([]impl.Cue, bool) { return impl.MergeScores(nil, b) },
			func() ([]impl.Cue, bool) { return impl.MergeScores(b, b) },
		} {
			got, _ := merge()
			spoil(got, cue(77, "spoilt", 77, 77))
		}
		if !slices.Equal(wholeA, beforeA) || !slices.Equal(wholeB, beforeB) {
			t.Errorf("an argument of MergeScores of %v is changed", l)
		}
	}
}

func TestScoresAndNamesAreNotChanged(t *testing.T) {
	for _, l := range append(allScores(), noScores()...) {
		part, whole := sparing(l, cue(64, "zzz", 7, 7))
		before := slices.Clone(whole)
		names := []string{"b", "x", "a", "a", "spare", "spare"}
		impl.IsScore(part)
		impl.EndOf(part)
		impl.LevelAt(part, "a", 9)
		impl.OnlyNames(part, names[:4])
		frame := impl.FrameAt(part, names[:4], 9)
		again := impl.FrameAt(part, names[:4], 9)
		spoil(frame, 77)
		if !slices.Equal(whole, before) || !slices.Equal(names, []string{"b", "x", "a", "a", "spare", "spare"}) || !slices.Equal(again, impl.FrameAt(part, names[:4], 9)) {
			t.Errorf("an argument of %v is changed, or results share memory", l)
		}
	}
}
