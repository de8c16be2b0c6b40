package tests

import (
	"math"
	"slices"
	"testing"

	"loop.example/g03017/impl"
)

func run(level, count int) impl.Run {
	return impl.Run{Level: level, Count: count}
}

func runs(l ...impl.Run) []impl.Run {
	return l
}

func blocks(l ...impl.Block) []impl.Block {
	return l
}

// levels has n of them, from first on and step apart, and begins anew at 0 behind MaxLift.
func levels(n, first, step int) []int {
	l := []int{}
	for i := range n {
		l = append(l, (first+i*step)%33)
	}
	return l
}

func same(level, n int) []int {
	return slices.Repeat(ints(level), n)
}

func TestLimitsOfTracks(t *testing.T) {
	if impl.MaxTrack != 64 || impl.BlockSize != 8 || len(impl.Block{}) != 8 {
		t.Error(impl.MaxTrack, impl.BlockSize, len(impl.Block{}))
	}
}

// someTracks has tracks of each length, whose levels all are equal, all differ, stand in rows, or come again later.
func someTracks() [][]int {
	l := [][]int{nil, {5, 5, 7, 7, 7, 5, 0, 0, 32}, {0, 32, 0, 32}, {32, 31, 30}, {1, 1, 2, 3, 3, 3, 0, 0, 5}}
	for n := range 65 {
		rows := []int{}
		for i := range n {
			rows = append(rows, ints(3, 3, 0, 32, 32, 32, 31)[i*i%7])
		}
		l = append(l, same(0, n), same(32, n), same(7, n), levels(n, 0, 1), levels(n, 32, 32), levels(n, 5, 13), rows)
	}
	return l
}

// smallTracks has each list of up to five levels of some.
func smallTracks() [][]int {
	return listsOf(5, 0, 1, 5, 32)
}

func allTracks() [][]int {
	return append(someTracks(), smallTracks()...)
}

// noTracks has lists with one fault each, in any place, and with several, of which the sums wrap around to what is less.
func noTracks() [][]int {
	l := [][]int{
		same(0, 65), same(1, 65), same(32, 65), levels(65, 0, 1), same(0, 66), same(3, 72), same(3, 128), same(0, 256), same(0, 5000), append(same(0, 64), 33), append(same(0, 64), -1),
		{-1, 1}, {1, -1}, {33, -1}, {-32, 32}, {math.MaxInt, math.MaxInt, 2}, {math.MinInt, math.MinInt}, {math.MinInt, math.MaxInt, 1}, {1 << 62, 1 << 62, 1 << 62, 1 << 62},
	}
	for _, x := range append(beyondMeasures(), beyondLevels()...) {
		l = append(l, ints(x), ints(x, 5), ints(5, x), ints(5, x, 32), same(x, 8), append(same(0, 63), x), append(ints(x), same(32, 63)...), slices.Concat(same(1, 8), ints(x), same(1, 8)))
	}
	return l
}

func trackByHand(l []int) bool {
	if len(l) > 64 {
		return false
	}
	for _, x := range l {
		if x < 0 || x > 32 {
			return false
		}
	}
	return true
}

func TestIsTrack(t *testing.T) {
	checkReport(t, "IsTrack", impl.IsTrack, allTracks(), noTracks())
	checkReport(t, "IsTrack", impl.IsTrack, [][]int{{}, {0}, {32}, {0, 32}, same(0, 64), same(32, 64), make([]int, 64, 200)}, [][]int{{-1}, {33}, {0, 33}, {33, 0}, {0, -1}, same(0, 65), same(32, 65)})
}

func TestIsTrackOfEachLevel(t *testing.T) {
	for x := -600; x <= 600; x++ {
		if want := x >= 0 && x <= 32; impl.IsTrack(ints(x)) != want || impl.IsTrack(ints(3, 32, x)) != want || impl.IsTrack(append(same(7, 63), x)) != want {
			t.Errorf("IsTrack of %d is not %t", x, want)
		}
	}
}

func TestIsTrackOfEachLength(t *testing.T) {
	for n := range 300 {
		if want := n <= 64; impl.IsTrack(same(0, n)) != want || impl.IsTrack(levels(n, 3, 7)) != want {
			t.Errorf("IsTrack of %d levels is not %t", n, want)
		}
	}
}

func TestTrackOf(t *testing.T) {
	l := score(cue(0, "b", 7, 0), cue(2, "a", 8, 4), cue(4, "a", 1, 3), cue(5, "b", 9, 9))
	late := score(cue(63, "a", 20, 0), cue(64, "a", 5, 0), cue(64, "b", 32, 16))
	for _, c := range []struct {
		l    []impl.Cue
		name string
		n    int
		want []int
	}{
		{l, "a", 9, ints(0, 0, 0, 2, 4, 3, 2, 1, 1)}, {l, "b", 9, ints(7, 7, 7, 7, 7, 7, 7, 7, 7)}, {l, "a", 1, ints(0)}, {l, "b", 1, ints(7)}, {l, "a", 4, ints(0, 0, 0, 2)}, {l, "a", 5, ints(0, 0, 0, 2, 4)},
		// No ticks, MaxTrack, one more, and less than none.
		{l, "a", 0, nil}, {l, "b", 0, nil}, {l, "a", 64, slices.Concat(ints(0, 0, 0, 2, 4, 3, 2), same(1, 57))}, {late, "a", 64, append(same(0, 63), 20)}, {late, "b", 64, same(0, 64)}, {l, "a", 65, nil}, {late, "a", 66, nil}, {l, "a", -1, nil}, {l, "b", -64, nil},
		{l, "a", math.MaxInt, nil}, {l, "a", math.MinInt, nil}, {l, "a", 1 << 32, nil}, {l, "a", 1<<32 + 4, nil}, {l, "a", -(1 << 32) + 4, nil}, {l, "a", 1000, nil}, {l, "a", 1 << 40, nil},
		// Names without cues.
		{l, "c", 3, ints(0, 0, 0)}, {l, "", 3, ints(0, 0, 0)}, {l, "aa", 3, ints(0, 0, 0)}, {l, "B", 3, ints(0, 0, 0)}, {l, "abcdefghi", 3, ints(0, 0, 0)}, {l, "c", 64, same(0, 64)}, {l, "c", 0, nil}, {l, "c", 65, nil}, {l, "c", -1, nil},
		{nil, "a", 3, ints(0, 0, 0)}, {score(), "a", 64, same(0, 64)}, {nil, "a", 0, nil}, {nil, "a", 65, nil}, {nil, "a", -1, nil},
		{score(l[1], l[0]), "a", 5, nil}, {score(l[0], l[0]), "b", 5, nil}, {score(impl.Cue{}), "", 5, nil}, {score(impl.Cue{}), "c", 5, nil}, {score(cue(0, "a", 33, 0)), "a", 5, nil}, {append(program(), cue(64, "c", 1, 1)), "a", 5, nil}, {score(l[1], l[0]), "c", 0, nil}, {score(l[1], l[0]), "c", 65, nil},
	} {
		if got := impl.TrackOf(c.l, c.name, c.n); !slices.Equal(got, c.want) {
			t.Errorf("TrackOf(%v, %q, %d) = %v, not %v", c.l, c.name, c.n, got, c.want)
		}
	}
}

func TestTrackOfAllScores(t *testing.T) {
	for _, l := range allScores() {
		for _, name := range []string{"a", "b", "c", "aa", "in", "abcdefgh", "", "nobody"} {
			want := []int{}
			for i := range 64 {
				want = append(want, rampedByHand(l, name, i))
			}
			for _, n := range []int{0, 1, 2, 8, 9, 63, 64} {
				got := impl.TrackOf(l, name, n)
				if !slices.Equal(got, want[:n]) || !impl.IsTrack(got) {
					t.Errorf("TrackOf(%v, %q, %d) = %v, not %v", l, name, n, got, want[:n])
				}
			}
		}
	}
}

func TestTrackOfNone(t *testing.T) {
	for _, l := range noScores() {
		for _, name := range []string{"a", "b", "nobody", ""} {
			for _, n := range []int{-1, 0, 1, 8, 64, 65} {
				if got := impl.TrackOf(l, name, n); len(got) != 0 {
					t.Errorf("TrackOf(%v, %q, %d) = %v", l, name, n, got)
				}
			}
		}
	}
	for _, l := range someScores() {
		for _, n := range beyondTicks() {
			if got := impl.TrackOf(l, "a", n); len(got) != 0 {
				t.Errorf("TrackOf(%v, a, %d) = %v", l, n, got)
			}
		}
	}
}

func TestBlocksOf(t *testing.T) {
	eight := impl.Block{3, 1, 4, 1, 5, 9, 2, 6}
	for _, c := range []struct {
		l    []int
		want []impl.Block
	}{
		{nil, nil}, {[]int{}, nil}, {ints(5), blocks(impl.Block{5, 5, 5, 5, 5, 5, 5, 5})}, {ints(0), blocks(impl.Block{})}, {ints(5, 0), blocks(impl.Block{5})}, {ints(0, 5), blocks(impl.Block{0, 5, 5, 5, 5, 5, 5, 5})},
		// Just too few for a block, just a block, and one more.
		{eight[:7], blocks(impl.Block{3, 1, 4, 1, 5, 9, 2, 2})}, {eight[:], blocks(eight)}, {append(eight[:8:8], 7), blocks(eight, impl.Block{7, 7, 7, 7, 7, 7, 7, 7})}, {append(eight[:8:8], 7, 32), blocks(eight, impl.Block{7, 32, 32, 32, 32, 32, 32, 32})},
		{append(eight[:8:8], eight[:7]...), blocks(eight, impl.Block{3, 1, 4, 1, 5, 9, 2, 2})}, {append(eight[:8:8], eight[:]...), blocks(eight, eight)}, {append(eight[:8:8], 0), blocks(eight, impl.Block{})},
		{slices.Repeat(eight[:], 8), slices.Repeat(blocks(eight), 8)}, {slices.Repeat(eight[:], 8)[:63], append(slices.Repeat(blocks(eight), 7), impl.Block{3, 1, 4, 1, 5, 9, 2, 2})}, {slices.Repeat(eight[:], 8)[:57], append(slices.Repeat(blocks(eight), 7), impl.Block{3, 3, 3, 3, 3, 3, 3, 3})},
		{append(slices.Repeat(eight[:], 8), 3), nil}, {slices.Repeat(eight[:], 9), nil}, {ints(33), nil}, {ints(-1), nil}, {ints(5, 33), nil}, {append(eight[:8:8], -1), nil}, {ints(33, 5, 5, 5, 5, 5, 5, 5, 5), nil}, {same(33, 8), nil},
	} {
		if got := impl.BlocksOf(c.l); !slices.Equal(got, c.want) {
			t.Errorf("BlocksOf(%v) = %v, not %v", c.l, got, c.want)
		}
	}
}

// blocksByHand fills the blocks level by level.
func blocksByHand(l []int) []impl.Block {
	made := make([]impl.Block, (len(l)+7)/8)
	for i := range 8 * len(made) {
		made[i/8][i%8] = l[min(i, len(l)-1)]
	}
	return made
}

func TestTracksInBlocksAreTheTracksAgain(t *testing.T) {
	for _, l := range allTracks() {
		got := impl.BlocksOf(l)
		if want := blocksByHand(l); !slices.Equal(got, want) {
			t.Errorf("BlocksOf(%v) = %v, not %v", l, got, want)
		}
		back, ok := impl.TrackFrom(got, len(l))
		checkList(t, back, ok, l, true, "TrackFrom(BlocksOf(%v), %d)", l, len(l))
		for n := -1; n < 70; n++ {
			back, ok := impl.TrackFrom(got, n)
			want, wantOk := fromByHand(got, n)
			checkList(t, back, ok, want, wantOk, "TrackFrom(%v, %d)", got, n)
		}
	}
}

func TestTrackFrom(t *testing.T) {
	eight := impl.Block{3, 1, 4, 1, 5, 9, 2, 6}
	full, none := slices.Repeat(blocks(eight), 8), impl.Block{33, -1, 33, -1, 33, -1, 33, -1}
	for _, c := range []struct {
		blocks []impl.Block
		n      int
		want   []int
	}{
		{blocks(eight), 0, []int{}}, {blocks(eight), 1, ints(3)}, {blocks(eight), 7, eight[:7]}, {blocks(eight), 8, eight[:]}, {blocks(eight), 9, nil}, {blocks(eight), 16, nil}, {blocks(eight), 64, nil}, {blocks(eight), -1, nil}, {blocks(eight), -8, nil},
		{blocks(eight, eight), 8, eight[:]}, {blocks(eight, eight), 9, append(eight[:8:8], 3)}, {blocks(eight, eight), 15, append(eight[:8:8], eight[:7]...)}, {blocks(eight, eight), 16, append(eight[:8:8], eight[:]...)}, {blocks(eight, eight), 17, nil},
		{full, 63, slices.Repeat(eight[:], 8)[:63]}, {full, 64, slices.Repeat(eight[:], 8)}, {full, 65, nil}, {full, 66, nil}, {full[:7], 56, slices.Repeat(eight[:], 7)}, {full[:7], 57, nil},
		// More levels than a track has.
		{append(full, eight), 64, slices.Repeat(eight[:], 8)}, {append(full, eight), 65, nil}, {append(full, eight), 72, nil}, {append(full, eight), 73, nil}, {slices.Repeat(full, 30), 64, slices.Repeat(eight[:], 8)}, {slices.Repeat(full, 30), 65, nil}, {slices.Repeat(full, 30), 1920, nil}, {slices.Repeat(full, 30), 5, eight[:5]},
		{nil, 0, []int{}}, {blocks(), 0, []int{}}, {nil, 1, nil}, {nil, 8, nil}, {nil, -1, nil}, {nil, math.MaxInt, nil}, {nil, math.MinInt, nil},
		{full, math.MaxInt, nil}, {full, math.MinInt, nil}, {full, 1 << 32, nil}, {full, 1<<32 + 8, nil}, {full, -(1 << 32) + 8, nil}, {full, math.MinInt + 8, nil}, {full, 1 << 61, nil}, {full, 1 << 62, nil},
		// A level that is none among the first n, as the last one of these, and behind them.
		{blocks(impl.Block{1, 2, 33, 4}), 4, nil}, {blocks(impl.Block{1, 2, 33, 4}), 3, nil}, {blocks(impl.Block{1, 2, 33, 4}), 2, ints(1, 2)}, {blocks(impl.Block{-1, 2, 3, 4}), 1, nil}, {blocks(impl.Block{-1, 2, 3, 4}), 0, []int{}}, {blocks(impl.Block{-1, 2, 3, 4}), 8, nil},
		{blocks(impl.Block{32, 0, 32, -1}), 3, ints(32, 0, 32)}, {blocks(impl.Block{32, 0, 32, -1}), 4, nil}, {blocks(eight, none), 8, eight[:]}, {blocks(eight, none), 9, nil}, {blocks(none, eight), 9, nil}, {blocks(none, eight), 0, []int{}}, {append(full, none), 64, slices.Repeat(eight[:], 8)},
		{blocks(impl.Block{1, 2, math.MaxInt, 4}), 2, ints(1, 2)}, {blocks(impl.Block{1, 2, math.MaxInt, 4}), 3, nil}, {blocks(impl.Block{math.MinInt}), 1, nil}, {blocks(impl.Block{1<<32 + 5}), 1, nil}, {blocks(impl.Block{-(1 << 32) + 5}), 1, nil},
	} {
		got, ok := impl.TrackFrom(c.blocks, c.n)
		checkList(t, got, ok, c.want, c.want != nil, "TrackFrom(%v, %d)", c.blocks, c.n)
	}
}

// fromByHand puts all levels of the blocks together first.
func fromByHand(l []impl.Block, n int) ([]int, bool) {
	all := []int{}
	for _, b := range l {
		all = append(all, b[:]...)
	}
	if n < 0 || n > len(all) || !trackByHand(all[:n]) {
		return nil, false
	}
	return all[:n], true
}

func TestTrackFromEachFault(t *testing.T) {
	for _, x := range append(beyondMeasures(), beyondLevels()...) {
		for _, i := range []int{0, 1, 6, 7, 8, 9, 15, 16, 23} {
			l := blocks(impl.Block{32, 0, 5, 5, 6, 7, 32, 31}, impl.Block{}, impl.Block{1, 2, 3, 4, 5, 6, 7, 8})
			l[i/8][i%8] = x
			for n := -2; n < 27; n++ {
				got, ok := impl.TrackFrom(l, n)
				want, wantOk := fromByHand(l, n)
				checkList(t, got, ok, want, wantOk, "TrackFrom(%v, %d)", l, n)
			}
		}
	}
}

func TestRunsOf(t *testing.T) {
	for _, c := range []struct {
		l    []int
		want []impl.Run
	}{
		{nil, nil}, {[]int{}, nil}, {ints(5), runs(run(5, 1))}, {ints(0), runs(run(0, 1))}, {ints(32), runs(run(32, 1))},
		// All are equal, all differ, and some come again later.
		{ints(5, 5), runs(run(5, 2))}, {ints(0, 0, 0), runs(run(0, 3))}, {same(32, 64), runs(run(32, 64))}, {same(0, 64), runs(run(0, 64))}, {ints(5, 6), runs(run(5, 1), run(6, 1))}, {ints(0, 32, 31, 1), runs(run(0, 1), run(32, 1), run(31, 1), run(1, 1))},
		{ints(5, 6, 5), runs(run(5, 1), run(6, 1), run(5, 1))}, {ints(0, 5, 0, 5), runs(run(0, 1), run(5, 1), run(0, 1), run(5, 1))}, {ints(5, 5, 0, 5, 5, 5), runs(run(5, 2), run(0, 1), run(5, 3))}, {ints(0, 0, 5, 0, 0), runs(run(0, 2), run(5, 1), run(0, 2))},
		{ints(1, 1, 2, 3, 3, 3, 0, 0, 5), runs(run(1, 2), run(2, 1), run(3, 3), run(0, 2), run(5, 1))}, {ints(1, 2, 2), runs(run(1, 1), run(2, 2))}, {ints(1, 1, 2), runs(run(1, 2), run(2, 1))}, {append(same(7, 63), 8), runs(run(7, 63), run(8, 1))}, {append(ints(0), same(7, 63)...), runs(run(0, 1), run(7, 63))},
		{same(5, 65), nil}, {ints(33), nil}, {ints(-1), nil}, {ints(5, 5, 33), nil}, {ints(-1, 5, 5), nil}, {same(33, 3), nil}, {ints(math.MaxInt, math.MaxInt), nil},
	} {
		if got := impl.RunsOf(c.l); !slices.Equal(got, c.want) {
			t.Errorf("RunsOf(%v) = %v, not %v", c.l, got, c.want)
		}
	}
}

// runsByHand looks for the end of each run before it goes on behind it.
func runsByHand(l []int) []impl.Run {
	made := []impl.Run{}
	for i := 0; i < len(l); {
		k := i
		for k < len(l) && l[k] == l[i] {
			k++
		}
		made = append(made, run(l[i], k-i))
		i = k
	}
	return made
}

func TestTracksInRunsAreTheTracksAgain(t *testing.T) {
	for _, l := range allTracks() {
		got := impl.RunsOf(l)
		if want := runsByHand(l); !slices.Equal(got, want) {
			t.Errorf("RunsOf(%v) = %v, not %v", l, got, want)
		}
		back, ok := impl.TrackOfRuns(got)
		checkList(t, back, ok, l, true, "TrackOfRuns(RunsOf(%v))", l)
	}
}

func TestTrackOfRuns(t *testing.T) {
	alternating := slices.Repeat(runs(run(0, 1), run(32, 1)), 32)
	for _, c := range []struct {
		runs []impl.Run
		want []int
	}{
		{nil, []int{}}, {runs(), []int{}}, {runs(run(5, 1)), ints(5)}, {runs(run(0, 1)), ints(0)}, {runs(run(32, 3)), ints(32, 32, 32)}, {runs(run(1, 2), run(2, 1), run(3, 3)), ints(1, 1, 2, 3, 3, 3)}, {runs(run(5, 1), run(0, 2), run(5, 1)), ints(5, 0, 0, 5)},
		// Counts of 0, and below it.
		{runs(run(5, 0)), nil}, {runs(run(0, 0)), nil}, {runs(impl.Run{}), nil}, {runs(run(5, 2), run(6, 0)), nil}, {runs(run(6, 0), run(5, 2)), nil}, {runs(run(5, 2), run(6, 0), run(7, 2)), nil}, {runs(run(5, 2), run(6, 0), run(5, 2)), nil},
		{runs(run(5, -1)), nil}, {runs(run(5, 2), run(6, -1)), nil}, {runs(run(5, -1), run(6, 2)), nil}, {runs(run(5, 2), run(6, -2), run(7, 2)), nil},
		{runs(run(5, 65), run(6, -1)), nil}, {runs(run(5, -1), run(6, 65)), nil}, {runs(run(5, math.MinInt)), nil}, {runs(run(5, math.MinInt), run(6, math.MinInt)), nil},
		// Two side by side with one Level.
		{runs(run(5, 1), run(5, 1)), nil}, {runs(run(0, 1), run(0, 2)), nil}, {runs(run(5, 1), run(6, 1), run(6, 1)), nil}, {runs(run(6, 1), run(6, 1), run(5, 1)), nil}, {runs(run(5, 1), run(6, 2), run(6, 3), run(5, 1)), nil},
		{runs(run(33, 1)), nil}, {runs(run(-1, 1)), nil}, {runs(run(5, 1), run(33, 1)), nil}, {runs(run(33, 2), run(5, 1)), nil}, {runs(run(5, 1), run(-1, 1), run(5, 1)), nil},
		{runs(run(math.MaxInt, 1)), nil}, {runs(run(math.MinInt, 1)), nil}, {runs(run(1<<32+5, 1)), nil}, {runs(run(-(1<<32)+5, 1)), nil}, {runs(run(33, 0)), nil}, {runs(run(33, 65)), nil},
		// MaxTrack levels together, and one more.
		{runs(run(5, 64)), same(5, 64)}, {runs(run(5, 65)), nil}, {runs(run(5, 63), run(6, 1)), append(same(5, 63), 6)}, {runs(run(5, 63), run(6, 2)), nil},
		{runs(run(5, 1), run(6, 63)), append(ints(5), same(6, 63)...)}, {runs(run(5, 1), run(6, 64)), nil}, {runs(run(5, 64), run(6, 1)), nil}, {runs(run(5, 2), run(6, 63)), nil}, {runs(run(5, 64), run(6, 64)), nil},
		{alternating, slices.Repeat(ints(0, 32), 32)}, {append(alternating, run(0, 1)), nil}, {alternating[:63], slices.Repeat(ints(0, 32), 32)[:63]}, {append(alternating[:63:63], run(1, 2)), nil}, {append(alternating, run(0, 0)), nil}, {slices.Repeat(alternating, 100), nil},
		// Counts so great that their sum, or that of some of them, wraps around.
		{runs(run(5, math.MaxInt)), nil}, {runs(run(5, math.MaxInt), run(6, math.MaxInt), run(7, 2)), nil}, {runs(run(5, math.MaxInt), run(6, 1)), nil}, {runs(run(5, 1), run(6, math.MaxInt)), nil},
		{runs(run(5, 2), run(6, math.MaxInt), run(5, math.MaxInt)), nil}, {runs(run(5, math.MaxInt), run(6, math.MinInt)), nil}, {runs(run(5, math.MinInt), run(6, math.MaxInt), run(7, 5)), nil},
		{slices.Repeat(runs(run(5, 1<<62), run(6, 1<<62)), 2), nil}, {runs(run(5, 1<<32)), nil}, {runs(run(5, 1<<32+1)), nil}, {runs(run(5, 1), run(6, 1<<32+1)), nil}, {runs(run(5, -(1<<32)+1)), nil}, {runs(run(5, 1<<61)), nil}, {runs(run(5, 1<<40)), nil}, {runs(run(5, 256)), nil}, {runs(run(5, 257)), nil},
	} {
		got, ok := impl.TrackOfRuns(c.runs)
		checkList(t, got, ok, c.want, c.want != nil, "TrackOfRuns(%v)", c.runs)
	}
}

// ofRunsByHand adds one level after the other.
func ofRunsByHand(l []impl.Run) ([]int, bool) {
	made := []int{}
	for i, r := range l {
		if r.Level < 0 || r.Level > 32 || r.Count < 1 || i > 0 && r.Level == l[i-1].Level {
			return nil, false
		}
		for k := 0; k < r.Count; k++ {
			made = append(made, r.Level)
			if len(made) > 64 {
				return nil, false
			}
		}
	}
	return made, true
}

func TestTrackOfRunsOfAllLists(t *testing.T) {
	var pool []impl.Run
	for _, level := range []int{0, 5, 32, 33} {
		for _, count := range []int{-1, 0, 1, 2, 31, 32, 33, 62, 63, 64, 65, math.MaxInt, math.MinInt} {
			pool = append(pool, run(level, count))
		}
	}
	for _, l := range append(listsOf(3, pool...), listsOf(6, run(5, 1), run(0, 2), run(32, 30), run(-1, 1))...) {
		got, ok := impl.TrackOfRuns(l)
		want, wantOk := ofRunsByHand(l)
		checkList(t, got, ok, want, wantOk, "TrackOfRuns(%v)", l)
		if ok && !slices.Equal(impl.RunsOf(got), l) {
			t.Errorf("RunsOf(TrackOfRuns(%v)) = %v", l, impl.RunsOf(got))
		}
	}
}

func TestWindowOf(t *testing.T) {
	l, full := ints(3, 1, 4, 1, 5), levels(64, 0, 1)
	for _, c := range []struct {
		l    []int
		a, b int
		want []int
	}{
		// Empty at the beginning, within and at the end.
		{l, 0, 0, []int{}}, {l, 1, 1, []int{}}, {l, 3, 3, []int{}}, {l, 4, 4, []int{}}, {l, 5, 5, []int{}}, {l, 6, 6, nil}, {l, -1, -1, nil},
		{l, 0, 5, l}, {l, 0, 1, ints(3)}, {l, 0, 2, ints(3, 1)}, {l, 1, 3, ints(1, 4)}, {l, 2, 5, ints(4, 1, 5)}, {l, 4, 5, ints(5)}, {l, 1, 5, ints(1, 4, 1, 5)}, {l, 0, 4, ints(3, 1, 4, 1)},
		{l, -1, 0, nil}, {l, -1, 3, nil}, {l, -1, 5, nil}, {l, -2, -1, nil}, {l, 2, 1, nil}, {l, 5, 4, nil}, {l, 5, 0, nil}, {l, 1, 0, nil}, {l, 0, -1, nil}, {l, 0, 6, nil}, {l, 5, 6, nil}, {l, 6, 7, nil}, {l, 6, 5, nil}, {l, 2, 64, nil},
		{nil, 0, 0, []int{}}, {[]int{}, 0, 0, []int{}}, {nil, 0, 1, nil}, {nil, -1, 0, nil}, {nil, 1, 1, nil}, {nil, 1, 0, nil}, {ints(7), 0, 1, ints(7)}, {ints(7), 1, 1, []int{}}, {ints(7), 0, 2, nil},
		{full, 0, 64, full}, {full, 64, 64, []int{}}, {full, 63, 64, full[63:]}, {full, 8, 16, full[8:16]}, {full, 0, 65, nil}, {full, 64, 65, nil}, {full, 65, 65, nil},
		{l, math.MinInt, math.MinInt, nil}, {l, math.MinInt, 3, nil}, {l, 0, math.MaxInt, nil}, {l, math.MaxInt, math.MaxInt, nil}, {l, math.MaxInt, math.MinInt, nil}, {l, math.MinInt, math.MaxInt, nil},
		{l, math.MaxInt, 0, nil}, {l, 0, math.MinInt, nil}, {l, 1 << 32, 1<<32 + 2, nil}, {l, 0, 1<<32 + 2, nil}, {l, 1, -(1 << 32) + 3, nil},
		// Lists that are no tracks, also where the levels of the window are.
		{same(5, 65), 0, 64, nil}, {same(5, 65), 0, 0, nil}, {same(5, 65), 2, 5, nil}, {ints(5, 33), 0, 1, nil}, {ints(33, 5), 1, 2, nil}, {ints(-1), 0, 0, nil}, {ints(5, -1, 5), 0, 3, nil}, {ints(5, -1, 5), 2, 3, nil},
	} {
		got, ok := impl.WindowOf(c.l, c.a, c.b)
		checkList(t, got, ok, c.want, c.want != nil, "WindowOf(%v, %d, %d)", c.l, c.a, c.b)
	}
}

func windowByHand(l []int, a, b int) ([]int, bool) {
	if a < 0 || b < a || b > len(l) {
		return nil, false
	}
	window := []int{}
	for i := a; i < b; i++ {
		window = append(window, l[i])
	}
	return window, true
}

func TestWindowsOfAllTracks(t *testing.T) {
	for _, l := range allTracks() {
		for a := -2; a < len(l)+3; a++ {
			for b := -2; b < len(l)+3; b++ {
				got, ok := impl.WindowOf(l, a, b)
				want, wantOk := windowByHand(l, a, b)
				checkList(t, got, ok, want, wantOk, "WindowOf(%v, %d, %d)", l, a, b)
			}
		}
	}
}

func TestTracksInWindowsAreTheTracksAgain(t *testing.T) {
	for _, l := range allTracks() {
		for i := range len(l) + 1 {
			first, okFirst := impl.WindowOf(l, 0, i)
			second, okSecond := impl.WindowOf(l, i, len(l))
			back, ok := impl.JoinTracks(first, second)
			checkList(t, back, ok && okFirst && okSecond, l, true, "JoinTracks of the windows of %v up to %d and from it on", l, i)
		}
		for size := 1; size < 10; size++ {
			back, ok := []int{}, true
			for a := 0; a < len(l) && ok; a += size {
				window, okWindow := impl.WindowOf(l, a, min(a+size, len(l)))
				back, ok = impl.JoinTracks(back, window)
				ok = ok && okWindow
			}
			checkList(t, back, ok, l, true, "JoinTracks of the windows of %v that have %d levels", l, size)
		}
	}
}

func TestJoinTracks(t *testing.T) {
	l, full := ints(3, 1, 4), levels(64, 0, 1)
	for _, c := range []struct {
		a, b, want []int
	}{
		{l, ints(1, 5), ints(3, 1, 4, 1, 5)}, {ints(1, 5), l, ints(1, 5, 3, 1, 4)}, {l, l, ints(3, 1, 4, 3, 1, 4)}, {ints(0), ints(32), ints(0, 32)}, {ints(32), ints(0), ints(32, 0)}, {ints(0), ints(0), ints(0, 0)},
		{l, nil, l}, {nil, l, l}, {l, []int{}, l}, {nil, nil, []int{}}, {[]int{}, nil, []int{}}, {full, nil, full}, {nil, full, full},
		// MaxTrack levels together, and one more.
		{full[:63], full[63:], full}, {full[:1], full[1:], full}, {full[:32], full[32:], full}, {full[:40], full[40:], full}, {full, full[:1], nil}, {full[:1], full, nil}, {full[:63], full[:2], nil}, {full[:32], full[:33], nil}, {full[:33], full[:32], nil}, {full, full, nil},
		{l, ints(33), nil}, {ints(33), l, nil}, {l, ints(-1), nil}, {ints(-1), l, nil}, {nil, ints(33), nil}, {ints(-1), nil, nil}, {ints(33), ints(33), nil},
		{l, ints(5, 5, 33), nil}, {ints(-1, 5), l, nil}, {nil, same(0, 65), nil}, {same(0, 65), nil, nil}, {l, same(0, 65), nil}, {same(0, 65), same(0, 65), nil}, {ints(math.MaxInt), l, nil}, {l, ints(math.MinInt), nil},
	} {
		got, ok := impl.JoinTracks(c.a, c.b)
		checkList(t, got, ok, c.want, c.want != nil, "JoinTracks(%v, %v)", c.a, c.b)
	}
}

func TestHigherOf(t *testing.T) {
	full, back := levels(64, 0, 1), levels(64, 32, 32)
	for _, c := range []struct {
		a, b, want []int
	}{
		// One length, two lengths, and an empty one.
		{ints(1, 5, 3), ints(3, 2, 3), ints(3, 5, 3)}, {ints(5), ints(5), ints(5)}, {ints(0), ints(0), ints(0)}, {ints(0, 32), ints(32, 0), ints(32, 32)}, {ints(31), ints(32), ints(32)}, {ints(0), ints(1), ints(1)},
		{ints(1, 5), ints(3, 2, 4), ints(3, 5, 4)}, {ints(1, 5), ints(3, 2, 0), ints(3, 5, 0)}, {ints(1, 5), ints(0, 0, 0, 0, 7), ints(1, 5, 0, 0, 7)}, {ints(32), ints(0, 1), ints(32, 1)}, {ints(9), full, append(ints(9), full[1:]...)}, {full[:40], back[:2], append(ints(32, 31), full[2:40]...)},
		{ints(1, 5), nil, ints(1, 5)}, {ints(0, 0), []int{}, ints(0, 0)}, {nil, nil, nil}, {full, nil, full}, {full, full, full}, {full[:33], back[:33], slices.Concat(back[:17], full[17:33])},
		{ints(1, 5), ints(33), nil}, {ints(1, 5), ints(-1), nil}, {nil, ints(33), nil}, {nil, ints(-1), nil}, {ints(32), ints(5, 33), nil}, {ints(5, 5), ints(5, -1), nil},
		{full, same(0, 65), nil}, {nil, same(0, 65), nil}, {same(0, 65), same(0, 65), nil}, {ints(5), ints(math.MaxInt), nil}, {ints(5), ints(math.MinInt), nil}, {ints(5), ints(5, -(1 << 32)), nil},
	} {
		if got := impl.HigherOf(c.a, c.b); !slices.Equal(got, c.want) {
			t.Errorf("HigherOf(%v, %v) = %v, not %v", c.a, c.b, got, c.want)
		}
		if got := impl.HigherOf(c.b, c.a); !slices.Equal(got, c.want) {
			t.Errorf("HigherOf(%v, %v) = %v, not %v", c.b, c.a, got, c.want)
		}
	}
}

// higherByHand asks of each place which tracks have a level there.
func higherByHand(a, b []int) []int {
	higher := []int{}
	for i := 0; i < len(a) || i < len(b); i++ {
		switch {
		case i >= len(b), i < len(a) && a[i] > b[i]:
			higher = append(higher, a[i])
		default:
			higher = append(higher, b[i])
		}
	}
	return higher
}

func TestPairsOfTracks(t *testing.T) {
	lists := slices.Concat(someTracks(), listsOf(3, 0, 1, 5, 32))
	for _, a := range lists {
		for _, b := range lists {
			if got, want := impl.HigherOf(a, b), higherByHand(a, b); !slices.Equal(got, want) {
				t.Errorf("HigherOf(%v, %v) = %v, not %v", a, b, got, want)
			}
			var want []int
			if len(a)+len(b) <= 64 {
				want = append(append([]int{}, a...), b...)
			}
			got, ok := impl.JoinTracks(a, b)
			checkList(t, got, ok, want, want != nil, "JoinTracks(%v, %v)", a, b)
		}
	}
}

func TestPairsOfWhatIsNoTrack(t *testing.T) {
	others := [][]int{nil, {0}, {5, 32}, same(32, 64), {33}, {-1, 5}, same(0, 65)}
	for _, l := range noTracks() {
		for _, other := range append(others, l) {
			for _, pair := range [][2][]int{{l, other}, {other, l}} {
				joined, ok := impl.JoinTracks(pair[0], pair[1])
				checkList(t, joined, ok, nil, false, "JoinTracks(%v, %v)", pair[0], pair[1])
				if got := impl.HigherOf(pair[0], pair[1]); len(got) != 0 {
					t.Errorf("HigherOf(%v, %v) = %v", pair[0], pair[1], got)
				}
			}
		}
	}
}

func TestCutTrack(t *testing.T) {
	l := ints(3, 32, 0, 8, 31)
	for _, c := range []struct {
		l    []int
		most int
		want []int
	}{
		{l, 0, ints(0, 0, 0, 0, 0)}, {l, 1, ints(1, 1, 0, 1, 1)}, {l, 3, ints(3, 3, 0, 3, 3)}, {l, 7, ints(3, 7, 0, 7, 7)}, {l, 8, ints(3, 8, 0, 8, 8)}, {l, 9, ints(3, 9, 0, 8, 9)}, {l, 31, ints(3, 31, 0, 8, 31)},
		{l, 32, l}, {l, 33, l}, {l, 34, l}, {l, 64, l}, {l, 256, l}, {l, 4096, l}, {l, 4097, l}, {l, 1 << 24, l}, {l, 1<<32 + 3, l}, {l, 1 << 32, l}, {l, 1 << 61, l}, {l, 1<<61 + 1, l}, {l, 1 << 62, l}, {l, math.MaxInt, l}, {l, math.MaxInt - 1, l},
		{l, -1, nil}, {l, -2, nil}, {l, -32, nil}, {l, -(1 << 32) + 3, nil}, {l, math.MinInt, nil}, {l, math.MinInt + 3, nil},
		{nil, 0, nil}, {nil, 5, nil}, {nil, -1, nil}, {[]int{}, 33, nil}, {same(32, 64), 0, same(0, 64)}, {same(32, 64), 31, same(31, 64)}, {same(32, 64), 32, same(32, 64)}, {ints(5), 5, ints(5)}, {ints(5), 4, ints(4)}, {ints(0), 0, ints(0)},
		{same(1, 65), 5, nil}, {ints(33), 5, nil}, {ints(33), 33, nil}, {ints(5, 33), 0, nil}, {ints(-1), 5, nil}, {ints(5, -1), 0, nil}, {ints(-1), -1, nil}, {ints(math.MaxInt), 32, nil},
	} {
		if got := impl.CutTrack(c.l, c.most); !slices.Equal(got, c.want) {
			t.Errorf("CutTrack(%v, %d) = %v, not %v", c.l, c.most, got, c.want)
		}
	}
}

func TestStepOf(t *testing.T) {
	for _, c := range []struct {
		l    []int
		want int
	}{
		{nil, 0}, {[]int{}, 0}, {ints(0), 0}, {ints(5), 0}, {ints(32), 0}, {ints(5, 5), 0}, {same(32, 64), 0},
		// Rises, falls, and both.
		{ints(2, 7), 5}, {ints(7, 2), 5}, {ints(0, 32), 32}, {ints(32, 0), 32}, {ints(0, 1), 1}, {ints(1, 0), 1}, {ints(31, 32), 1}, {ints(1, 4, 8), 4}, {ints(8, 4, 1), 4}, {ints(8, 5, 1), 4}, {ints(0, 3, 1, 8), 7}, {ints(8, 1, 3, 0), 7}, {ints(5, 9, 2, 5), 7}, {ints(0, 7, 3, 8), 7},
		{ints(5, 5, 5, 6), 1}, {ints(6, 5, 5, 5), 1}, {ints(5, 5, 4, 5, 5), 1}, {ints(0, 16, 32), 16}, {ints(32, 16, 0), 16}, {ints(1, 1, 2, 3, 3, 3, 0, 0, 5), 5}, {append(same(0, 63), 32), 32}, {append(ints(32), same(0, 63)...), 32}, {levels(33, 0, 1), 1}, {levels(34, 0, 1), 32},
		{same(5, 65), 0}, {append(same(0, 64), 5), 0}, {ints(0, 33), 0}, {ints(-1, 5), 0}, {ints(5, 9, -1), 0}, {ints(33, 5, 9), 0}, {ints(math.MinInt, math.MaxInt), 0}, {ints(0, 5, math.MaxInt), 0},
	} {
		if got := impl.StepOf(c.l); got != c.want {
			t.Errorf("StepOf(%v) = %d, not %d", c.l, got, c.want)
		}
	}
}

func TestSumOfTrack(t *testing.T) {
	for _, c := range []struct {
		l    []int
		want int
	}{
		{nil, 0}, {[]int{}, 0}, {ints(0), 0}, {ints(1), 1}, {ints(32), 32}, {ints(3, 1, 4, 1, 5), 14}, {ints(1, 1, 2, 3, 3, 3, 0, 0, 5), 18}, {same(0, 64), 0}, {same(1, 64), 64}, {same(32, 63), 2016}, {same(32, 64), 2048}, {append(same(32, 63), 31), 2047}, {levels(33, 0, 1), 528},
		{same(1, 65), 0}, {same(32, 65), 0}, {same(32, 128), 0}, {ints(33), 0}, {ints(5, 33), 0}, {ints(-1), 0}, {ints(5, -1), 0}, {ints(-1, 1, 5), 0}, {ints(math.MaxInt, math.MaxInt, 7), 0}, {ints(math.MinInt, math.MinInt, 7), 0},
	} {
		if got := impl.SumOfTrack(c.l); got != c.want {
			t.Errorf("SumOfTrack(%v) = %d, not %d", c.l, got, c.want)
		}
	}
}

// stepByHand looks at each pair of levels that stand side by side, in both directions.
func stepByHand(l []int) int {
	step := 0
	for i := range l {
		for k := range l {
			if i-k == 1 || k-i == 1 {
				step = max(step, l[i]-l[k])
			}
		}
	}
	return step
}

func TestMeasuresOfAllTracks(t *testing.T) {
	for _, l := range allTracks() {
		if got, want := impl.StepOf(l), stepByHand(l); got != want {
			t.Errorf("StepOf(%v) = %d, not %d", l, got, want)
		}
		if got, want := impl.SumOfTrack(l), totalByHand(l); got != want {
			t.Errorf("SumOfTrack(%v) = %d, not %d", l, got, want)
		}
		for most := range 70 {
			got := impl.CutTrack(l, most)
			if want := cutByHand(l, most); !slices.Equal(got, want) || !impl.IsTrack(got) {
				t.Errorf("CutTrack(%v, %d) = %v, not %v", l, most, got, want)
			}
		}
	}
}

func TestNothingIsToldOfWhatIsNoTrack(t *testing.T) {
	for _, l := range noTracks() {
		made, told := impl.BlocksOf(l), impl.RunsOf(l)
		if len(made) != 0 || len(told) != 0 || impl.StepOf(l) != 0 || impl.SumOfTrack(l) != 0 {
			t.Errorf("%v has the blocks %v, the runs %v, the step %d, the sum %d", l, made, told, impl.StepOf(l), impl.SumOfTrack(l))
		}
		for _, i := range []int{math.MinInt, -1, 0, 1, 2, 32, 33, 64, 65, math.MaxInt} {
			if got := impl.CutTrack(l, i); len(got) != 0 {
				t.Errorf("CutTrack(%v, %d) = %v", l, i, got)
			}
			for _, a := range []int{-1, 0, 1, i} {
				got, ok := impl.WindowOf(l, a, i)
				checkList(t, got, ok, nil, false, "WindowOf(%v, %d, %d)", l, a, i)
			}
		}
	}
}

func trackResults(l []int) map[string][]int {
	results := map[string][]int{
		"CutTrack at 5": impl.CutTrack(l, 5), "CutTrack at 32": impl.CutTrack(l, 32), "CutTrack at 99": impl.CutTrack(l, 99),
		"HigherOf with nothing": impl.HigherOf(l, nil), "HigherOf of nothing": impl.HigherOf(nil, l), "HigherOf of itself": impl.HigherOf(l, l),
		"HigherOf with others": impl.HigherOf(l, ints(3, 7, 7)), "HigherOf of others": impl.HigherOf(ints(3, 7, 7), l),
	}
	results["WindowOf all"], _ = impl.WindowOf(l, 0, len(l))
	results["WindowOf the start"], _ = impl.WindowOf(l, 0, len(l)/2)
	results["WindowOf the end"], _ = impl.WindowOf(l, len(l)/2, len(l))
	results["JoinTracks with nothing"], _ = impl.JoinTracks(l, nil)
	results["JoinTracks of nothing"], _ = impl.JoinTracks(nil, l)
	results["JoinTracks of itself"], _ = impl.JoinTracks(l, l)
	results["JoinTracks with others"], _ = impl.JoinTracks(l, ints(3, 7, 7))
	results["JoinTracks of others"], _ = impl.JoinTracks(ints(3, 7, 7), l)
	return results
}

func TestTracksShareNothing(t *testing.T) {
	for _, l := range append(allTracks(), noTracks()...) {
		checkSharesNothing(t, l, -77, 99, trackResults)
	}
}

func TestTracksAreNotChanged(t *testing.T) {
	for _, l := range append(allTracks(), noTracks()...) {
		part, whole := sparing(l, -77)
		before := slices.Clone(whole)
		impl.IsTrack(part)
		impl.StepOf(part)
		impl.SumOfTrack(part)
		made, madeAgain := impl.BlocksOf(part), impl.BlocksOf(part)
		told, toldAgain := impl.RunsOf(part), impl.RunsOf(part)
		spoil(made, impl.Block{99})
		spoil(told, run(99, 99))
		if !slices.Equal(whole, before) || !slices.Equal(madeAgain, impl.BlocksOf(part)) || !slices.Equal(toldAgain, impl.RunsOf(part)) {
			t.Errorf("the argument %v is changed, or results share memory", l)
		}
	}
}

func TestSecondTracksAreNotChanged(t *testing.T) {
	for _, l := range append(allTracks(), noTracks()...) {
		a, wholeA := sparing(ints(3, 7, 7), -77)
		b, wholeB := sparing(l, -77)
		beforeA, beforeB := slices.Clone(wholeA), slices.Clone(wholeB)
		for _, pair := range [][2][]int{{a, b}, {b, a}, {b, b}, {nil, b}, {b, nil}} {
			joined, _ := impl.JoinTracks(pair[0], pair[1])
			spoil(joined, 99)
			spoil(impl.HigherOf(pair[0], pair[1]), 99)
		}
		if !slices.Equal(wholeA, beforeA) || !slices.Equal(wholeB, beforeB) {
			t.Errorf("an argument of JoinTracks or HigherOf of %v is changed", l)
		}
	}
}

func TestTracksShareNothingWithBlocks(t *testing.T) {
	for _, l := range append(allTracks(), noTracks()...) {
		part, whole := sparing(blocksByHand(l), impl.Block{-77})
		before := slices.Clone(whole)
		for _, n := range []int{len(l), 8 * len(part), min(len(l), 8), 1, 0, 8*len(part) + 1} {
			got, _ := impl.TrackFrom(part, n)
			again, _ := impl.TrackFrom(part, n)
			want := slices.Clone(again)
			spoil(got, 99)
			if !slices.Equal(whole, before) || !slices.Equal(again, want) {
				t.Errorf("TrackFrom of the blocks of %v and %d changes them, or shares memory", l, n)
			}
		}
	}
}

func TestTracksShareNothingWithRuns(t *testing.T) {
	for _, l := range append(allTracks(), noTracks()...) {
		part, whole := sparing(runsByHand(l), run(-77, 1))
		before := slices.Clone(whole)
		got, _ := impl.TrackOfRuns(part)
		again, _ := impl.TrackOfRuns(part)
		want := slices.Clone(again)
		spoil(got, 99)
		if !slices.Equal(whole, before) || !slices.Equal(again, want) {
			t.Errorf("TrackOfRuns of the runs of %v changes them, or shares memory", l)
		}
	}
}

func TestTracksShareNothingWithScores(t *testing.T) {
	for _, l := range append(allScores(), noScores()...) {
		part, whole := sparing(l, cue(64, "zzz", 7, 7))
		before := slices.Clone(whole)
		got, again := impl.TrackOf(part, "a", 20), impl.TrackOf(part, "a", 20)
		want := slices.Clone(again)
		spoil(got, 99)
		if !slices.Equal(whole, before) || !slices.Equal(again, want) {
			t.Errorf("TrackOf of %v changes it, or shares memory", l)
		}
	}
}
