package tests

import (
	"math"
	"slices"
	"testing"

	"loop.example/g03017/impl"
)

func ints(l ...int) []int {
	return l
}

func TestLimitsOfWater(t *testing.T) {
	if impl.MaxDemands != 8 || impl.MaxDemand != 64 || impl.MaxSupply != 512 {
		t.Error(impl.MaxDemands, impl.MaxDemand, impl.MaxSupply)
	}
}

// someDemands has demands that are all equal, of which some are equal, and of which none are, in several orders.
func someDemands() [][]int {
	return [][]int{
		nil, {}, {0}, {1}, {2}, {63}, {64}, {0, 0}, {64, 64}, {0, 64}, {64, 0}, {1, 64}, {63, 64}, {64, 63},
		{5, 5, 5}, {1, 1, 1}, {7, 7, 7, 7}, {0, 0, 0, 0, 0, 0, 0, 0}, {1, 1, 1, 1, 1, 1, 1, 1}, {63, 63, 63, 63, 63, 63, 63, 63}, {64, 64, 64, 64, 64, 64, 64, 64},
		{2, 10, 7, 9}, {10, 2, 10, 2}, {3, 9, 9, 3, 9}, {9, 9, 3}, {3, 9, 9}, {9, 3, 9}, {4, 4, 5, 5, 6, 6}, {0, 5, 0, 5}, {5, 0, 0, 5},
		{1, 2, 3, 4, 5, 6, 7, 8}, {8, 7, 6, 5, 4, 3, 2, 1}, {64, 1, 32, 2, 16, 4, 8, 0}, {0, 1, 62, 63, 64, 64, 2, 33}, {20, 20, 20, 20, 20, 20, 20, 21}, {21, 20, 20, 20, 20, 20, 20, 20},
	}
}

// beyondDemands has no demands; some of them would be, if they were narrowed.
func beyondDemands() []int {
	return append(beyondMeasures(), -1, -2, -64, 65, 66, 128, 255, 256, -256, 320, 512, 4096, -4096, 1<<32+64, math.MinInt+64)
}

// noDemands has lists with one fault each, in any place, and with several, of which the sums wrap around to what is less.
func noDemands() [][]int {
	l := [][]int{
		make([]int, 9), slices.Repeat([]int{1}, 9), slices.Repeat([]int{64}, 9), make([]int, 16), make([]int, 1000), append(make([]int, 8), 65), append(make([]int, 8), -1),
		{-1, 1}, {1, -1}, {65, -1}, {-64, 64}, {math.MaxInt, math.MaxInt, 2}, {math.MinInt, math.MinInt}, {math.MinInt, math.MaxInt, 1}, {1 << 62, 1 << 62, 1 << 62, 1 << 62}, {1 << 62, 1 << 62, math.MinInt},
	}
	for _, x := range beyondDemands() {
		l = append(l, ints(x), ints(x, 5), ints(5, x), ints(1, x, 64), ints(0, 0, 0, 0, 0, 0, 0, x), ints(x, 64, 64, 64, 64, 64, 64, 64))
	}
	return l
}

func noSupplies() []int {
	return []int{-1, -2, -64, -512, math.MinInt, math.MinInt + 1, math.MinInt + 20, 513, 514, 576, 1024, 65536, 1 << 32, 1<<32 + 20, -(1 << 32), -(1 << 32) + 20, 1 << 62, math.MaxInt - 1, math.MaxInt}
}

// smallLists has each list of up to size numbers, of which each is from least to most.
func smallLists(size, least, most int) [][]int {
	var pool []int
	for x := least; x <= most; x++ {
		pool = append(pool, x)
	}
	return listsOf(size, pool...)
}

func totalByHand(l []int) int {
	total := 0
	for _, x := range l {
		total += x
	}
	return total
}

func cutByHand(l []int, level int) []int {
	cut := slices.Clone(l)
	for i, x := range cut {
		if x > level {
			cut[i] = level
		}
	}
	return cut
}

// levelByHand goes down from the greatest level.
func levelByHand(supply int, l []int) int {
	level := 64
	for totalByHand(cutByHand(l, level)) > supply {
		level--
	}
	return level
}

// sharedByHand gives one eighth after the other: in each round, one to each that demands more, as long as there is one.
func sharedByHand(supply int, l []int) []int {
	s := make([]int, len(l))
	for range 64 {
		for i := range l {
			if supply > 0 && s[i] < l[i] {
				s[i]++
				supply--
			}
		}
	}
	return s
}

// inTurnByHand gives one eighth after the other to the first one that demands more.
func inTurnByHand(supply int, l []int) []int {
	s := make([]int, len(l))
	for i := range l {
		for supply > 0 && s[i] < l[i] {
			s[i]++
			supply--
		}
	}
	return s
}

func sharesByHand(l, s []int) bool {
	if len(l) != len(s) {
		return false
	}
	for i := range l {
		if s[i] < 0 || s[i] > l[i] {
			return false
		}
	}
	return true
}

// fairByHand looks at each pair of shares.
func fairByHand(supply int, l, s []int) bool {
	if !sharesByHand(l, s) || totalByHand(s) != min(supply, totalByHand(l)) {
		return false
	}
	for i := range s {
		for k := range s {
			if s[i] < l[i] && s[k]-s[i] > 1 {
				return false
			}
		}
	}
	return true
}

func TestIsDemands(t *testing.T) {
	checkReport(t, "IsDemands", impl.IsDemands, someDemands(), noDemands())
	checkReport(t, "IsDemands", impl.IsDemands, [][]int{make([]int, 8), slices.Repeat([]int{64}, 8), make([]int, 8, 100)}, [][]int{make([]int, 9), slices.Repeat([]int{64}, 9)})
}

func TestIsDemandsOfEachNumber(t *testing.T) {
	for x := -600; x <= 600; x++ {
		if want := x >= 0 && x <= 64; impl.IsDemands(ints(x)) != want || impl.IsDemands(ints(3, 64, x)) != want {
			t.Errorf("IsDemands of %d is not %t", x, want)
		}
	}
}

func TestTotalOf(t *testing.T) {
	for _, c := range []struct {
		l    []int
		want int
	}{
		{nil, 0},
		{ints(), 0},
		{ints(0), 0},
		{ints(1), 1},
		{ints(64), 64},
		{ints(2, 10, 7, 9), 28},
		{ints(0, 0, 0), 0},
		{ints(64, 64), 128},
		{ints(1, 2, 3, 4, 5, 6, 7, 8), 36},
		{slices.Repeat(ints(64), 8), 512},
		{slices.Repeat(ints(63), 8), 504},
		{slices.Repeat(ints(1), 9), 0},
		{slices.Repeat(ints(64), 9), 0},
		{ints(65), 0},
		{ints(5, 65), 0},
		{ints(5, -1), 0},
		{ints(-1), 0},
		{ints(1, 2, -1, 3), 0},
		{ints(math.MaxInt, math.MaxInt, 7), 0},
		{ints(math.MinInt, math.MinInt, 7), 0},
	} {
		if got := impl.TotalOf(c.l); got != c.want {
			t.Errorf("TotalOf(%d) = %d", c.l, got)
		}
	}
}

func TestTotalOfAll(t *testing.T) {
	for _, l := range append(someDemands(), smallLists(4, 0, 4)...) {
		if got, want := impl.TotalOf(l), totalByHand(l); got != want {
			t.Errorf("TotalOf(%d) = %d, not %d", l, got, want)
		}
	}
	for _, l := range noDemands() {
		if got := impl.TotalOf(l); got != 0 {
			t.Errorf("TotalOf(%d) = %d", l, got)
		}
	}
}

func TestCutAt(t *testing.T) {
	l := ints(2, 10, 7, 9)
	full := slices.Repeat(ints(64), 8)
	for _, c := range []struct {
		l     []int
		level int
		want  []int
	}{
		{l, 0, ints(0, 0, 0, 0)},
		{l, 1, ints(1, 1, 1, 1)},
		{l, 2, ints(2, 2, 2, 2)},
		{l, 3, ints(2, 3, 3, 3)},
		{l, 6, ints(2, 6, 6, 6)},
		{l, 7, ints(2, 7, 7, 7)},
		{l, 8, ints(2, 8, 7, 8)},
		{l, 9, ints(2, 9, 7, 9)},
		{l, 10, l},
		{l, 11, l},
		{l, 64, l},
		{l, 65, l},
		{l, 512, l},
		{l, 1 << 32, l},
		{l, math.MaxInt, l},
		{l, -1, nil},
		{l, -2, nil},
		{l, -(1 << 32) + 5, nil},
		{l, math.MinInt, nil},
		{l, math.MinInt + 5, nil},
		{full, 63, slices.Repeat(ints(63), 8)},
		{full, 64, full},
		{full, 65, full},
		{full, 0, make([]int, 8)},
		{ints(0, 64), 0, ints(0, 0)},
		{ints(0, 64), 63, ints(0, 63)},
		{ints(5, 5, 5), 4, ints(4, 4, 4)},
		{ints(5, 5, 5), 5, ints(5, 5, 5)},
		{nil, 0, nil},
		{nil, 64, nil},
		{nil, -1, nil},
		{slices.Repeat(ints(1), 9), 5, nil},
		{ints(65), 5, nil},
		{ints(65), 65, nil},
		{ints(-1), 5, nil},
		{ints(5, -1), 0, nil},
	} {
		if got := impl.CutAt(c.l, c.level); !slices.Equal(got, c.want) {
			t.Errorf("CutAt(%d, %d) = %d", c.l, c.level, got)
		}
	}
}

func TestCutAtEachLevel(t *testing.T) {
	for _, l := range someDemands() {
		for level := range 70 {
			got := impl.CutAt(l, level)
			if want := cutByHand(l, level); !slices.Equal(got, want) || !impl.IsDemands(got) {
				t.Errorf("CutAt(%d, %d) = %d, not %d", l, level, got, want)
			}
		}
		for _, level := range []int{-1, -2, -64, -65, -(1 << 32), math.MinInt, math.MinInt + 1} {
			if got := impl.CutAt(l, level); len(got) != 0 {
				t.Errorf("CutAt(%d, %d) = %d", l, level, got)
			}
		}
	}
	for _, l := range noDemands() {
		for _, level := range []int{math.MinInt, -1, 0, 1, 64, 65, math.MaxInt} {
			if got := impl.CutAt(l, level); len(got) != 0 {
				t.Errorf("CutAt(%d, %d) = %d", l, level, got)
			}
		}
	}
}

func TestLevelFor(t *testing.T) {
	l := ints(2, 10, 7, 9)
	full := slices.Repeat(ints(64), 8)
	for _, c := range []struct {
		supply int
		l      []int
		want   int
	}{
		{0, l, 0}, {1, l, 0}, {3, l, 0}, {4, l, 1}, {7, l, 1}, {8, l, 2}, {10, l, 2}, {11, l, 3}, {20, l, 6}, {22, l, 6}, {23, l, 7}, {24, l, 7}, {25, l, 8}, {26, l, 8},
		// One eighth less than the sum of the demands, just the sum, one more, and the greatest supply.
		{27, l, 9}, {28, l, 64}, {29, l, 64}, {512, l, 64},
		{-1, l, 0}, {513, l, 0}, {math.MaxInt, l, 0}, {math.MinInt, l, 0}, {1<<32 + 20, l, 0},
		{0, full, 0}, {7, full, 0}, {8, full, 1}, {15, full, 1}, {503, full, 62}, {504, full, 63}, {511, full, 63}, {512, full, 64}, {513, full, 0},
		{0, nil, 64}, {512, nil, 64}, {-1, nil, 0}, {513, nil, 0}, {math.MinInt, nil, 0},
		{0, ints(0), 64}, {1, ints(0), 64}, {0, ints(0, 0, 0), 64}, {0, ints(0, 1), 0}, {1, ints(0, 1), 64},
		{0, ints(64), 0}, {1, ints(64), 1}, {63, ints(64), 63}, {64, ints(64), 64}, {65, ints(64), 64},
		{62, ints(63), 62}, {63, ints(63), 64}, {64, ints(63), 64},
		{14, ints(5, 5, 5), 4}, {12, ints(5, 5, 5), 4}, {11, ints(5, 5, 5), 3}, {15, ints(5, 5, 5), 64},
		{20, slices.Repeat(ints(1), 9), 0}, {20, ints(65), 0}, {20, ints(-1), 0}, {20, ints(5, -1), 0}, {20, ints(65, 1), 0}, {-1, ints(-1), 0},
	} {
		if got := impl.LevelFor(c.supply, c.l); got != c.want {
			t.Errorf("LevelFor(%d, %d) = %d", c.supply, c.l, got)
		}
	}
}

func TestLevelForEachSupply(t *testing.T) {
	for _, l := range append(someDemands(), smallLists(4, 0, 4)...) {
		for supply := range 513 {
			if got, want := impl.LevelFor(supply, l), levelByHand(supply, l); got != want {
				t.Errorf("LevelFor(%d, %d) = %d, not %d", supply, l, got, want)
			}
		}
	}
}

func TestShareOut(t *testing.T) {
	l := ints(2, 10, 7, 9)
	full := slices.Repeat(ints(64), 8)
	for _, c := range []struct {
		supply int
		l      []int
		want   []int
	}{
		{0, l, ints(0, 0, 0, 0)}, {1, l, ints(1, 0, 0, 0)}, {3, l, ints(1, 1, 1, 0)}, {4, l, ints(1, 1, 1, 1)}, {8, l, ints(2, 2, 2, 2)},
		// No eighth more for the first one, which is not greater than the level.
		{9, l, ints(2, 3, 2, 2)}, {10, l, ints(2, 3, 3, 2)}, {11, l, ints(2, 3, 3, 3)}, {20, l, ints(2, 6, 6, 6)}, {22, l, ints(2, 7, 7, 6)},
		{23, l, ints(2, 7, 7, 7)}, {24, l, ints(2, 8, 7, 7)}, {25, l, ints(2, 8, 7, 8)}, {26, l, ints(2, 9, 7, 8)},
		{27, l, ints(2, 9, 7, 9)}, {28, l, l}, {29, l, l}, {512, l, l},
		{-1, l, nil}, {513, l, nil}, {math.MaxInt, l, nil}, {math.MinInt, l, nil}, {1<<32 + 20, l, nil}, {-(1 << 32) + 20, l, nil},
		// Demands that are equal: an even supply, one eighth left, and one eighth too few.
		{12, ints(5, 5, 5), ints(4, 4, 4)}, {13, ints(5, 5, 5), ints(5, 4, 4)}, {14, ints(5, 5, 5), ints(5, 5, 4)}, {15, ints(5, 5, 5), ints(5, 5, 5)}, {16, ints(5, 5, 5), ints(5, 5, 5)},
		{1, ints(5, 5, 5), ints(1, 0, 0)}, {2, ints(5, 5, 5), ints(1, 1, 0)}, {3, ints(5, 5, 5), ints(1, 1, 1)},
		{504, full, slices.Repeat(ints(63), 8)}, {505, full, ints(64, 63, 63, 63, 63, 63, 63, 63)}, {511, full, ints(64, 64, 64, 64, 64, 64, 64, 63)}, {512, full, full}, {0, full, make([]int, 8)}, {513, full, nil},
		{7, full, ints(1, 1, 1, 1, 1, 1, 1, 0)}, {8, full, slices.Repeat(ints(1), 8)},
		// Some are equal: what is left goes to the first ones that are greater than the level.
		{19, ints(3, 9, 9, 3, 9), ints(3, 5, 4, 3, 4)}, {20, ints(3, 9, 9, 3, 9), ints(3, 5, 5, 3, 4)}, {21, ints(3, 9, 9, 3, 9), ints(3, 5, 5, 3, 5)}, {14, ints(3, 9, 9, 3, 9), ints(3, 3, 3, 3, 2)}, {16, ints(3, 9, 9, 3, 9), ints(3, 4, 3, 3, 3)},
		{5, ints(0, 5, 0, 5), ints(0, 3, 0, 2)}, {1, ints(0, 0, 5), ints(0, 0, 1)}, {9, ints(5, 0, 0, 5), ints(5, 0, 0, 4)},
		{0, nil, nil}, {20, nil, nil}, {512, nil, nil}, {-1, nil, nil}, {513, nil, nil},
		{0, ints(0), ints(0)}, {5, ints(0), ints(0)}, {5, ints(0, 0), ints(0, 0)},
		{63, ints(64), ints(63)}, {64, ints(64), ints(64)}, {65, ints(64), ints(64)}, {127, ints(64, 64), ints(64, 63)},
		{20, slices.Repeat(ints(1), 9), nil}, {20, ints(65), nil}, {20, ints(-1), nil}, {20, ints(5, -1), nil}, {20, ints(65, 1), nil}, {-1, ints(-1), nil},
	} {
		if got := impl.ShareOut(c.supply, c.l); !slices.Equal(got, c.want) {
			t.Errorf("ShareOut(%d, %d) = %d", c.supply, c.l, got)
		}
	}
}

func TestShareInTurn(t *testing.T) {
	l := ints(2, 10, 7, 9)
	for _, c := range []struct {
		supply int
		l      []int
		want   []int
	}{
		{0, l, ints(0, 0, 0, 0)},
		// The first one lacks, one in the middle, the last one, none.
		{1, l, ints(1, 0, 0, 0)}, {2, l, ints(2, 0, 0, 0)}, {3, l, ints(2, 1, 0, 0)}, {11, l, ints(2, 9, 0, 0)}, {12, l, ints(2, 10, 0, 0)}, {15, l, ints(2, 10, 3, 0)},
		{19, l, ints(2, 10, 7, 0)}, {20, l, ints(2, 10, 7, 1)}, {27, l, ints(2, 10, 7, 8)}, {28, l, l}, {29, l, l}, {512, l, l},
		{-1, l, nil}, {513, l, nil}, {math.MaxInt, l, nil}, {math.MinInt, l, nil}, {1<<32 + 20, l, nil}, {-(1 << 32) + 20, l, nil},
		{13, ints(5, 5, 5), ints(5, 5, 3)}, {5, ints(5, 5, 5), ints(5, 0, 0)}, {5, ints(0, 5, 5), ints(0, 5, 0)}, {6, ints(0, 5, 0, 5), ints(0, 5, 0, 1)},
		{511, slices.Repeat(ints(64), 8), ints(64, 64, 64, 64, 64, 64, 64, 63)}, {512, slices.Repeat(ints(64), 8), slices.Repeat(ints(64), 8)}, {65, slices.Repeat(ints(64), 8), ints(64, 1, 0, 0, 0, 0, 0, 0)},
		{0, nil, nil}, {20, nil, nil}, {512, nil, nil}, {-1, nil, nil}, {513, nil, nil},
		{5, ints(0), ints(0)}, {5, ints(0, 0), ints(0, 0)}, {0, ints(64), ints(0)},
		{20, slices.Repeat(ints(1), 9), nil}, {20, ints(65), nil}, {20, ints(-1), nil}, {20, ints(5, -1), nil}, {20, ints(65, 1), nil}, {-1, ints(-1), nil},
	} {
		if got := impl.ShareInTurn(c.supply, c.l); !slices.Equal(got, c.want) {
			t.Errorf("ShareInTurn(%d, %d) = %d", c.supply, c.l, got)
		}
	}
}

// No water is lost: what is shared and what lacks are all that is demanded, and nothing is kept back while something lacks.
func checkShares(t *testing.T, what string, supply int, l, got, want []int) {
	t.Helper()
	if !slices.Equal(got, want) {
		t.Errorf("%s(%d, %d) = %d, not %d", what, supply, l, got, want)
		return
	}
	total := totalByHand(l)
	if sum := impl.TotalOf(got); sum != min(supply, total) {
		t.Errorf("%s(%d, %d) shares %d", what, supply, l, sum)
	}
	if lack := impl.LackOf(l, got); lack != max(total-supply, 0) {
		t.Errorf("%s(%d, %d) leaves a lack of %d", what, supply, l, lack)
	}
}

func TestWaterIsSharedAndNoneIsLost(t *testing.T) {
	for _, l := range append(someDemands(), smallLists(4, 0, 4)...) {
		for supply := range 513 {
			shares := impl.ShareOut(supply, l)
			checkShares(t, "ShareOut", supply, l, shares, sharedByHand(supply, l))
			if !impl.IsFair(supply, l, shares) {
				t.Errorf("ShareOut(%d, %d) = %d is not fair", supply, l, shares)
			}
			inTurn := impl.ShareInTurn(supply, l)
			checkShares(t, "ShareInTurn", supply, l, inTurn, inTurnByHand(supply, l))
			if got, want := impl.IsFair(supply, l, inTurn), fairByHand(supply, l, inTurn); got != want {
				t.Errorf("IsFair(%d, %d, %d) is %t", supply, l, inTurn, got)
			}
		}
	}
}

func TestSharesOfNoSupply(t *testing.T) {
	for _, supply := range noSupplies() {
		for _, l := range someDemands() {
			level, shares, inTurn := impl.LevelFor(supply, l), impl.ShareOut(supply, l), impl.ShareInTurn(supply, l)
			if level != 0 || len(shares) != 0 || len(inTurn) != 0 {
				t.Errorf("a supply of %d for %d gives %d, %d, %d", supply, l, level, shares, inTurn)
			}
			for _, s := range [][]int{l, make([]int, len(l)), nil, sharedByHand(20, l)} {
				if impl.IsFair(supply, l, s) {
					t.Errorf("IsFair(%d, %d, %d) is true", supply, l, s)
				}
			}
		}
	}
}

func TestSharesOfNoDemands(t *testing.T) {
	for _, l := range noDemands() {
		for _, supply := range append(noSupplies(), 0, 1, 20, 64, 511, 512) {
			level, shares, inTurn := impl.LevelFor(supply, l), impl.ShareOut(supply, l), impl.ShareInTurn(supply, l)
			if level != 0 || len(shares) != 0 || len(inTurn) != 0 {
				t.Errorf("a supply of %d for %d gives %d, %d, %d", supply, l, level, shares, inTurn)
			}
			for _, s := range [][]int{l, make([]int, len(l)), nil} {
				if impl.IsFair(supply, l, s) {
					t.Errorf("IsFair(%d, %d, %d) is true", supply, l, s)
				}
			}
		}
		for _, s := range [][]int{l, make([]int, len(l)), slices.Repeat(ints(1), len(l)), nil} {
			if got := impl.LackOf(l, s); got != 0 {
				t.Errorf("LackOf(%d, %d) = %d", l, s, got)
			}
		}
	}
}

func TestIsFair(t *testing.T) {
	l := ints(2, 10, 7, 9)
	full := slices.Repeat(ints(64), 8)
	for _, c := range []struct {
		supply int
		l, s   []int
		want   bool
	}{
		{22, l, ints(2, 7, 7, 6), true}, {22, l, ints(2, 7, 6, 7), true}, {22, l, ints(2, 6, 7, 7), true},
		// One eighth too uneven, in each direction.
		{22, l, ints(2, 8, 6, 6), false}, {22, l, ints(2, 6, 6, 8), false}, {22, l, ints(1, 7, 7, 7), false}, {22, l, ints(2, 8, 7, 5), false},
		// The sum is one too small, or one too great.
		{22, l, ints(2, 7, 6, 6), false}, {22, l, ints(2, 7, 7, 7), false}, {21, l, ints(2, 7, 7, 6), false}, {23, l, ints(2, 7, 7, 6), false},
		// A share that is its demand may be as far below the others as it is.
		{25, l, ints(2, 8, 7, 8), true}, {26, l, ints(2, 9, 7, 8), true}, {26, l, ints(2, 8, 7, 9), true}, {26, l, ints(2, 10, 7, 7), false}, {26, l, ints(2, 9, 6, 9), false}, {26, l, ints(1, 9, 7, 9), false},
		{27, l, ints(2, 9, 7, 9), true}, {27, l, ints(2, 10, 7, 8), false}, {28, l, l, true}, {29, l, l, true}, {512, l, l, true}, {28, l, ints(2, 9, 7, 9), false}, {29, l, ints(2, 10, 7, 8), false}, {27, l, l, false}, {0, l, l, false},
		{0, l, ints(0, 0, 0, 0), true}, {1, l, ints(0, 0, 0, 1), true}, {1, l, ints(0, 0, 0, 0), false}, {2, l, ints(0, 0, 0, 2), false}, {2, l, ints(2, 0, 0, 0), false}, {0, l, ints(0, 0, 0, 1), false},
		// A share above its demand, or below 0.
		{23, l, ints(3, 7, 7, 6), false}, {28, l, ints(3, 9, 7, 9), false}, {28, l, ints(2, 10, 8, 8), false}, {28, l, ints(2, 9, 7, 10), false}, {0, l, ints(-1, 1, 0, 0), false}, {0, l, ints(0, 0, 1, -1), false}, {0, l, ints(-1, 0, 0, 0), false},
		// Another length than that of the demands.
		{22, l, ints(2, 7, 7), false}, {22, l, ints(2, 7, 7, 6, 0), false}, {0, l, nil, false}, {0, nil, ints(0), false}, {28, l, ints(2, 10, 7, 9, 0), false}, {19, l, ints(2, 10, 7), false},
		{0, nil, nil, true}, {5, nil, nil, true}, {512, nil, nil, true}, {0, nil, ints(), true}, {-1, nil, nil, false}, {513, nil, nil, false},
		{0, ints(0), ints(0), true}, {512, ints(0), ints(0), true}, {0, ints(0), ints(1), false},
		{13, ints(5, 5, 5), ints(4, 5, 4), true}, {13, ints(5, 5, 5), ints(5, 5, 3), false}, {12, ints(5, 5, 5), ints(4, 4, 4), true}, {12, ints(5, 5, 5), ints(5, 4, 3), false},
		{511, full, ints(64, 64, 64, 63, 64, 64, 64, 64), true}, {512, full, full, true}, {512, full, ints(64, 64, 64, 63, 64, 64, 64, 64), false}, {510, full, ints(64, 62, 64, 64, 64, 64, 64, 64), false}, {513, full, full, false}, {-1, full, make([]int, 8), false},
		// Sums and differences that wrap around.
		{0, ints(5, 5), ints(math.MinInt, math.MinInt), false}, {3, ints(5, 5, 5), ints(math.MaxInt, math.MaxInt, 5), false}, {5, ints(5, 5), ints(math.MinInt, math.MinInt+5), false}, {5, ints(5), ints(math.MinInt + 5), false}, {0, ints(5, 5), ints(math.MaxInt, -math.MaxInt), false},
		{5, ints(64, 64), ints(1<<32+2, 3), false}, {5, ints(64, 64), ints(-(1<<32)+2, 3), false},
		{5, ints(5, 65), ints(3, 2), false}, {5, ints(5, -1), ints(5, -1), false}, {5, slices.Repeat(ints(1), 9), ints(1, 1, 1, 1, 1, 0, 0, 0, 0), false},
	} {
		if got := impl.IsFair(c.supply, c.l, c.s); got != c.want {
			t.Errorf("IsFair(%d, %d, %d) is %t", c.supply, c.l, c.s, got)
		}
	}
}

// Of all fair shares, those of ShareOut give most to the first ones: they are the greatest ones in the order of lists.
func TestIsFairOfAllShares(t *testing.T) {
	shares := smallLists(4, -1, 4)
	for _, l := range smallLists(3, 0, 3) {
		for supply := range 12 {
			var greatest []int
			found := 0
			for _, s := range shares {
				want := fairByHand(supply, l, s)
				if got := impl.IsFair(supply, l, s); got != want {
					t.Errorf("IsFair(%d, %d, %d) is %t", supply, l, s, got)
				}
				if want && (found == 0 || slices.Compare(s, greatest) > 0) {
					greatest = s
				}
				if want {
					found++
				}
			}
			if got := impl.ShareOut(supply, l); found == 0 || !slices.Equal(got, greatest) {
				t.Errorf("ShareOut(%d, %d) = %d, but of %d fair shares %d are the greatest", supply, l, got, found, greatest)
			}
		}
	}
}

// From fair shares, one eighth is moved from one to another, taken away or added.
func TestIsFairOfChangedShares(t *testing.T) {
	for _, l := range someDemands() {
		for supply := range 513 {
			fair := sharedByHand(supply, l)
			for i := range l {
				for k := range l {
					for _, by := range [][2]int{{-1, 1}, {-1, 0}, {0, 1}, {-2, 2}} {
						s := slices.Clone(fair)
						s[i] += by[0]
						s[k] += by[1]
						if got, want := impl.IsFair(supply, l, s), fairByHand(supply, l, s); got != want {
							t.Errorf("IsFair(%d, %d, %d) is %t", supply, l, s, got)
						}
					}
				}
			}
		}
	}
}

func TestLackOf(t *testing.T) {
	l := ints(2, 10, 7, 9)
	full := slices.Repeat(ints(64), 8)
	for _, c := range []struct {
		l, s []int
		want int
	}{
		{l, l, 0}, {l, ints(0, 0, 0, 0), 28}, {l, ints(2, 7, 7, 6), 6}, {l, ints(2, 10, 3, 0), 13}, {l, ints(1, 10, 7, 9), 1}, {l, ints(2, 10, 7, 8), 1}, {l, ints(0, 10, 0, 9), 9},
		{l, ints(3, 10, 7, 9), 0}, {l, ints(3, 0, 0, 0), 0}, {l, ints(0, 0, 0, 10), 0}, {l, ints(2, 0, 8, 0), 0}, {l, ints(-1, 0, 0, 0), 0}, {l, ints(0, 0, 0, -1), 0}, {l, ints(2, -1, 7, 9), 0},
		{l, ints(2, 7, 7), 0}, {l, ints(2, 7, 7, 6, 0), 0}, {l, nil, 0}, {nil, ints(0), 0}, {nil, nil, 0}, {ints(0), ints(0), 0}, {ints(0), nil, 0}, {ints(5), ints(), 0}, {ints(5), ints(0), 5}, {ints(5), ints(5), 0},
		{full, make([]int, 8), 512}, {full, full, 0}, {full, slices.Repeat(ints(63), 8), 8}, {full, make([]int, 7), 0}, {full, make([]int, 9), 0},
		{slices.Repeat(ints(1), 9), make([]int, 9), 0}, {ints(65), ints(5), 0}, {ints(65), ints(65), 0}, {ints(-1), ints(-1), 0}, {ints(5, -1), ints(0, 0), 0}, {ints(5, 65), ints(0, 0), 0},
		{ints(5, 5), ints(math.MinInt, math.MinInt), 0}, {ints(5, 5), ints(math.MaxInt, -math.MaxInt), 0}, {ints(5, 5), ints(math.MinInt, 3), 0}, {ints(5, 5), ints(1<<32, 3), 0}, {ints(5, 5), ints(3, -(1<<32)+3), 0},
	} {
		if got := impl.LackOf(c.l, c.s); got != c.want {
			t.Errorf("LackOf(%d, %d) = %d", c.l, c.s, got)
		}
	}
}

func TestLackOfAllShares(t *testing.T) {
	shares := smallLists(4, -1, 4)
	for _, l := range smallLists(3, 0, 3) {
		for _, s := range shares {
			want := 0
			if sharesByHand(l, s) {
				want = totalByHand(l) - totalByHand(s)
			}
			if got := impl.LackOf(l, s); got != want {
				t.Errorf("LackOf(%d, %d) = %d, not %d", l, s, got, want)
			}
		}
	}
}

func shareResults(l []int) map[string][]int {
	return map[string][]int{
		"CutAt 0": impl.CutAt(l, 0), "CutAt 5": impl.CutAt(l, 5), "CutAt 64": impl.CutAt(l, 64), "CutAt 65": impl.CutAt(l, 65),
		"ShareOut of 0": impl.ShareOut(0, l), "ShareOut of 13": impl.ShareOut(13, l), "ShareOut of 512": impl.ShareOut(512, l),
		"ShareInTurn of 0": impl.ShareInTurn(0, l), "ShareInTurn of 13": impl.ShareInTurn(13, l), "ShareInTurn of 512": impl.ShareInTurn(512, l),
	}
}

func TestSharesShareNoMemory(t *testing.T) {
	for _, l := range append(someDemands(), noDemands()...) {
		checkSharesNothing(t, l, -77, 99, shareResults)
	}
}

func TestSharesAreNotChanged(t *testing.T) {
	for _, l := range append(someDemands(), noDemands()...) {
		for _, s := range append(someDemands(), l) {
			demands, wholeDemands := sparing(l, -77)
			shares, wholeShares := sparing(s, -77)
			before, beforeShares := slices.Clone(wholeDemands), slices.Clone(wholeShares)
			impl.IsFair(20, demands, shares)
			impl.IsFair(512, demands, shares)
			impl.LackOf(demands, shares)
			impl.IsDemands(demands)
			impl.TotalOf(demands)
			impl.LevelFor(13, demands)
			if !slices.Equal(wholeDemands, before) || !slices.Equal(wholeShares, beforeShares) {
				t.Errorf("the arguments %d and %d are changed", before, beforeShares)
			}
		}
	}
}
