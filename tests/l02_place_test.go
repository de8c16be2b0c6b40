package tests

import (
	"fmt"
	"math"
	"slices"
	"strings"
	"testing"

	"loop.example/g03017/impl"
)

func at(x, y int) impl.Place {
	return impl.Place{X: x, Y: y}
}

func boxFrom(lowX, lowY, highX, highY int) impl.Box {
	return impl.Box{Low: at(lowX, lowY), High: at(highX, highY)}
}

func somePlaces() []impl.Place {
	return []impl.Place{
		at(0, 0), at(1, 0), at(0, 1), at(-1, 0), at(0, -1), at(12, -16), at(-7, 5), at(3, 3), at(-3, -3),
		at(4096, 4096), at(-4096, 4096), at(4096, -4096), at(-4096, -4096), at(4096, 0), at(0, -4096), at(4095, -4096), at(-4095, 1), at(2048, 2049),
	}
}

// noPlaces has pairs of which the X, the Y or both are no measures.
func noPlaces() []impl.Place {
	l := []impl.Place{at(4097, 4097), at(math.MinInt, math.MaxInt), at(1<<32, 1<<32)}
	for _, x := range beyondMeasures() {
		l = append(l, at(x, 0), at(0, x), at(x, 4096), at(-4096, x))
	}
	return l
}

func someTurns() []int {
	return []int{0, 1, 2, 3, 4, 5, 6, 7, 8, 101, 1 << 32, 1<<32 + 1, 1<<62 + 2, math.MaxInt - 1, math.MaxInt, -1, -2, -3, -4, -5, -6, -7, -8, -101, -(1 << 32), math.MinInt, math.MinInt + 1, math.MinInt + 2, math.MinInt + 3}
}

// quarters counts the quarter turns of n, 0 to 3, without the bits of n.
func quarters(n int) int {
	r := n % 4
	if r < 0 {
		r += 4
	}
	return r
}

func turnedByHand(p impl.Place, n int) impl.Place {
	for range quarters(n) {
		p = at(-p.Y, p.X)
	}
	return p
}

func isMeasureByHand(x int) bool {
	return x >= -4096 && x <= 4096
}

// validOr returns what a function tells of a sum: p and true, or the zero value and false if p is no place.
func validOr(p impl.Place) (impl.Place, bool) {
	if !isMeasureByHand(p.X) || !isMeasureByHand(p.Y) {
		return impl.Place{}, false
	}
	return p, true
}

func TestIsPlace(t *testing.T) {
	checkReport(t, "IsPlace", impl.IsPlace, somePlaces(), noPlaces())
}

func TestIsHeading(t *testing.T) {
	checkReport(t, "IsHeading", impl.IsHeading, []int{0, 1, 2, 3}, noHeadings())
}

func noHeadings() []int {
	return []int{4, 5, -1, -2, -4, 100, 256, 1 << 32, 1<<32 + 1, math.MaxInt, math.MinInt, math.MinInt + 1}
}

func TestTurnHeading(t *testing.T) {
	for _, c := range []struct{ h, n, want int }{
		{0, 0, 0}, {3, 0, 3}, {0, 1, 1}, {3, 1, 0}, {2, 3, 1}, {1, 4, 1}, {1, 5, 2}, {0, -1, 3}, {1, -1, 0}, {0, -5, 3}, {2, -3, 3}, {3, -4, 3},
		{0, math.MaxInt, 3}, {3, math.MaxInt, 2}, {0, math.MinInt, 0}, {3, math.MinInt, 3}, {1, math.MinInt + 1, 2},
	} {
		if got := impl.TurnHeading(c.h, c.n); got != c.want {
			t.Errorf("TurnHeading(%d, %d) = %d", c.h, c.n, got)
		}
	}
	for _, h := range noHeadings() {
		for _, n := range someTurns() {
			if got := impl.TurnHeading(h, n); got != 0 {
				t.Errorf("TurnHeading(%d, %d) = %d", h, n, got)
			}
		}
	}
}

func TestTurnPlace(t *testing.T) {
	for _, c := range []struct {
		p    impl.Place
		n    int
		want impl.Place
	}{
		{at(12, -16), 0, at(12, -16)},
		{at(12, -16), 1, at(16, 12)},
		{at(12, -16), 2, at(-12, 16)},
		{at(12, -16), 3, at(-16, -12)},
		{at(12, -16), 4, at(12, -16)},
		{at(12, -16), -1, at(-16, -12)},
		{at(12, -16), -5, at(-16, -12)},
		{at(12, -16), math.MaxInt, at(-16, -12)},
		{at(12, -16), math.MinInt, at(12, -16)},
		{at(4096, -4095), 1, at(4095, 4096)},
		{at(0, 0), 3, at(0, 0)},
	} {
		if got := impl.TurnPlace(c.p, c.n); got != c.want {
			t.Errorf("TurnPlace(%v, %d) = %v", c.p, c.n, got)
		}
	}
	for _, p := range noPlaces() {
		for _, n := range someTurns() {
			if got := impl.TurnPlace(p, n); got != at(0, 0) {
				t.Errorf("TurnPlace(%v, %d) = %v", p, n, got)
			}
		}
	}
}

func TestTurnPlaceOfEachMeasure(t *testing.T) {
	for x := -4096; x <= 4096; x++ {
		for n := -2; n <= 4; n++ {
			p := at(x, 4096-x/3)
			if _, ok := validOr(p); !ok {
				p.Y = x
			}
			if got, want := impl.TurnPlace(p, n), turnedByHand(p, n); got != want {
				t.Errorf("TurnPlace(%v, %d) = %v, not %v", p, n, got, want)
			}
		}
	}
}

func TestTurnsAddUp(t *testing.T) {
	center := at(100, -50)
	for _, m := range someTurns() {
		for _, n := range someTurns() {
			sum := quarters(m) + quarters(n)
			for _, p := range somePlaces() {
				if got, want := impl.TurnPlace(impl.TurnPlace(p, m), n), impl.TurnPlace(p, sum); got != want {
					t.Errorf("%v turned by %d and by %d is %v, not %v", p, m, n, got, want)
				}
			}
			for h := range 4 {
				if got, want := impl.TurnHeading(impl.TurnHeading(h, m), n), impl.TurnHeading(h, sum); got != want {
					t.Errorf("%d turned by %d and by %d is %d, not %d", h, m, n, got, want)
				}
			}
			b := boxFrom(-7, 5, 30, 6)
			if got, want := impl.TurnBox(impl.TurnBox(b, m), n), impl.TurnBox(b, sum); got != want {
				t.Errorf("%v turned by %d and by %d is %v, not %v", b, m, n, got, want)
			}
			once, _ := impl.TurnAbout(at(7, 9), center, m)
			got, ok := impl.TurnAbout(once, center, n)
			if want, _ := impl.TurnAbout(at(7, 9), center, sum); got != want || !ok {
				t.Errorf("turned about %v by %d and by %d: %v, %t, not %v", center, m, n, got, ok, want)
			}
		}
	}
}

func TestFourTurnsAreNone(t *testing.T) {
	for _, n := range []int{0, 4, -4, 8, -8, 400, -400, 1 << 40, math.MaxInt - 3, math.MinInt} {
		for _, p := range somePlaces() {
			if got := impl.TurnPlace(p, n); got != p {
				t.Errorf("TurnPlace(%v, %d) = %v", p, n, got)
			}
			if got, ok := impl.TurnAbout(p, at(-5, 3), n); got != p || !ok {
				t.Errorf("TurnAbout(%v, _, %d) = %v, %t", p, n, got, ok)
			}
			if b := boxFrom(-4096, -4096, p.X, p.Y); impl.TurnBox(b, n) != b {
				t.Errorf("TurnBox(%v, %d) = %v", b, n, impl.TurnBox(b, n))
			}
		}
		for h := range 4 {
			if got := impl.TurnHeading(h, n); got != h {
				t.Errorf("TurnHeading(%d, %d) = %d", h, n, got)
			}
		}
	}
}

func TestTurnAbout(t *testing.T) {
	for _, c := range []struct {
		p, center impl.Place
		n         int
		want      impl.Place
		ok        bool
	}{
		{at(12, -16), at(10, -16), 2, at(8, -16), true},
		{at(12, -16), at(10, -16), 1, at(10, -14), true},
		{at(12, -16), at(10, -16), -1, at(10, -18), true},
		{at(12, -16), at(12, -16), 3, at(12, -16), true},
		{at(1, 2), at(0, 0), 1, at(-2, 1), true},
		{at(4096, 4096), at(4096, 0), 1, at(0, 0), true},
		{at(4096, 0), at(4096, 4096), -1, at(0, 4096), true},
		{at(4096, 4096), at(4096, 0), -1, at(0, 0), false},
		{at(0, 0), at(2048, 0), 2, at(4096, 0), true},
		{at(-1, 0), at(2048, 0), 2, at(0, 0), false},
		{at(0, 0), at(0, -2048), 2, at(0, -4096), true},
		{at(0, 1), at(0, -2048), 2, at(0, 0), false},
		{at(-4096, -4096), at(4096, 4096), 2, at(0, 0), false},
		{at(-4096, -4096), at(4096, 4096), 4, at(-4096, -4096), true},
		{at(4097, 0), at(4097, 0), 4, at(0, 0), false},
		{at(4097, 0), at(0, 0), 0, at(0, 0), false},
		{at(0, 0), at(0, -4097), 0, at(0, 0), false},
	} {
		if got, ok := impl.TurnAbout(c.p, c.center, c.n); got != c.want || ok != c.ok {
			t.Errorf("TurnAbout(%v, %v, %d) = %v, %t", c.p, c.center, c.n, got, ok)
		}
	}
}

func TestTurnAboutOfAll(t *testing.T) {
	for _, p := range somePlaces() {
		for _, c := range somePlaces() {
			for _, n := range someTurns() {
				d := turnedByHand(at(p.X-c.X, p.Y-c.Y), n)
				want, wantOk := validOr(at(c.X+d.X, c.Y+d.Y))
				if got, ok := impl.TurnAbout(p, c, n); got != want || ok != wantOk {
					t.Errorf("TurnAbout(%v, %v, %d) = %v, %t, not %v, %t", p, c, n, got, ok, want, wantOk)
				}
			}
		}
	}
}

func TestSumsOfNoPlaces(t *testing.T) {
	for _, p := range noPlaces() {
		for _, q := range append(somePlaces(), at(-p.X, -p.Y), p) {
			for _, pair := range [][2]impl.Place{{p, q}, {q, p}} {
				if got, ok := impl.AddPlaces(pair[0], pair[1]); got != at(0, 0) || ok {
					t.Errorf("AddPlaces(%v, %v) = %v, %t", pair[0], pair[1], got, ok)
				}
				for n := -1; n <= 2; n++ {
					if got, ok := impl.TurnAbout(pair[0], pair[1], n); got != at(0, 0) || ok {
						t.Errorf("TurnAbout(%v, %v, %d) = %v, %t", pair[0], pair[1], n, got, ok)
					}
				}
			}
		}
		for h := range 4 {
			for _, x := range []int{0, 1, -1, 4096, -4096} {
				if got, ok := impl.StepFrom(p, h, x); got != at(0, 0) || ok {
					t.Errorf("StepFrom(%v, %d, %d) = %v, %t", p, h, x, got, ok)
				}
			}
		}
	}
}

func TestAddPlaces(t *testing.T) {
	for _, c := range []struct {
		p, q, want impl.Place
		ok         bool
	}{
		{at(1, 2), at(30, 40), at(31, 42), true},
		{at(1, 2), at(-1, -2), at(0, 0), true},
		{at(4095, -4095), at(1, -1), at(4096, -4096), true},
		{at(4096, 0), at(1, 0), at(0, 0), false},
		{at(0, -4096), at(5, -1), at(0, 0), false},
		{at(-4096, 3), at(-1, 3), at(0, 0), false},
		{at(3, 4096), at(3, 1), at(0, 0), false},
		{at(4096, 4096), at(-4096, -4096), at(0, 0), true},
	} {
		if got, ok := impl.AddPlaces(c.p, c.q); got != c.want || ok != c.ok {
			t.Errorf("AddPlaces(%v, %v) = %v, %t", c.p, c.q, got, ok)
		}
	}
	for _, p := range somePlaces() {
		for _, q := range somePlaces() {
			want, wantOk := validOr(at(p.X+q.X, p.Y+q.Y))
			if got, ok := impl.AddPlaces(p, q); got != want || ok != wantOk {
				t.Errorf("AddPlaces(%v, %v) = %v, %t", p, q, got, ok)
			}
		}
	}
}

func TestStepFrom(t *testing.T) {
	for _, c := range []struct {
		p    impl.Place
		h, x int
		want impl.Place
		ok   bool
	}{
		{at(12, -16), 0, 5, at(17, -16), true},
		{at(12, -16), 1, 5, at(12, -11), true},
		{at(12, -16), 2, 5, at(7, -16), true},
		{at(12, -16), 3, 5, at(12, -21), true},
		{at(12, -16), 0, -5, at(7, -16), true},
		{at(12, -16), 1, -5, at(12, -21), true},
		{at(12, -16), 2, -5, at(17, -16), true},
		{at(12, -16), 3, -5, at(12, -11), true},
		{at(12, -16), 3, 0, at(12, -16), true},
		{at(4095, 0), 0, 1, at(4096, 0), true},
		{at(4096, 0), 0, 1, at(0, 0), false},
		{at(4096, 0), 2, -1, at(0, 0), false},
		{at(0, -4096), 3, 1, at(0, 0), false},
		{at(0, -4096), 1, -1, at(0, 0), false},
		{at(-4096, 0), 0, 4096, at(0, 0), true},
		{at(0, 0), 2, 4096, at(-4096, 0), true},
		{at(0, 0), 1, -4096, at(0, -4096), true},
		{at(-4096, 0), 0, 4097, at(0, 0), false},
		{at(4096, 0), 0, -4097, at(0, 0), false},
	} {
		if got, ok := impl.StepFrom(c.p, c.h, c.x); got != c.want || ok != c.ok {
			t.Errorf("StepFrom(%v, %d, %d) = %v, %t", c.p, c.h, c.x, got, ok)
		}
	}
}

func TestStepFromRejects(t *testing.T) {
	for _, h := range noHeadings() {
		for _, x := range []int{0, 1, -1, 4096, 4097} {
			if got, ok := impl.StepFrom(at(1, 1), h, x); got != at(0, 0) || ok {
				t.Errorf("StepFrom(_, %d, %d) = %v, %t", h, x, got, ok)
			}
		}
	}
	for _, x := range beyondMeasures() {
		for h := -1; h <= 4; h++ {
			if got, ok := impl.StepFrom(at(1, 1), h, x); got != at(0, 0) || ok {
				t.Errorf("StepFrom(_, %d, %d) = %v, %t", h, x, got, ok)
			}
		}
	}
}

// A step is turned with its heading.
func TestStepsAreTurned(t *testing.T) {
	for h := range 4 {
		for x := -4096; x <= 4096; x += 31 {
			step, ok := impl.StepFrom(at(0, 0), h, x)
			if want := turnedByHand(at(x, 0), h); step != want || !ok {
				t.Errorf("StepFrom(0, %d, %d) = %v, %t", h, x, step, ok)
			}
			next, _ := impl.StepFrom(at(0, 0), impl.TurnHeading(h, 1), x)
			if want := impl.TurnPlace(step, 1); next != want {
				t.Errorf("a step of %d in the heading after %d is %v, not %v", x, h, next, want)
			}
		}
	}
}

func TestComparePlaces(t *testing.T) {
	for _, c := range []struct {
		p, q impl.Place
		want int
	}{
		{at(0, 0), at(0, 0), 0},
		{at(1, 5), at(2, 0), -1},
		{at(2, 0), at(1, 5), 1},
		{at(1, 5), at(1, 6), -1},
		{at(1, 6), at(1, 5), 1},
		{at(-1, 0), at(0, -9), -1},
		{at(0, -9), at(0, 9), -1},
		{at(4097, 0), at(4097, 0), 0},
		{at(4097, 0), at(4096, 0), 1},
		{at(1<<24, 0), at(1<<24+1, 0), -1},
		{at(0, 1<<24+1), at(0, 1<<24), 1},
		{at(1<<61, 0), at(0, 0), 1},
		{at(1<<32, 1), at(0, 2), 1},
		{at(math.MinInt, 0), at(math.MaxInt, 0), -1},
		{at(math.MaxInt, 0), at(math.MinInt, 0), 1},
		{at(math.MinInt, 0), at(1, 0), -1},
		{at(5, math.MaxInt), at(5, -2), 1},
		{at(5, math.MinInt), at(5, 2), -1},
		{at(math.MaxInt, math.MinInt), at(math.MaxInt, math.MinInt), 0},
		{at(math.MaxInt, math.MaxInt-1), at(math.MaxInt, math.MaxInt), -1},
	} {
		if got := impl.ComparePlaces(c.p, c.q); got != c.want {
			t.Errorf("ComparePlaces(%v, %v) = %d", c.p, c.q, got)
		}
	}
}

func TestSortedPlaces(t *testing.T) {
	for _, c := range []struct{ l, want []impl.Place }{
		{nil, nil},
		{[]impl.Place{}, nil},
		{[]impl.Place{at(1, 2)}, []impl.Place{at(1, 2)}},
		{[]impl.Place{at(1, 2), at(1, 2)}, []impl.Place{at(1, 2)}},
		{[]impl.Place{at(2, 1), at(1, 2), at(2, 1), at(1, 1), at(1, 2), at(2, 1)}, []impl.Place{at(1, 1), at(1, 2), at(2, 1)}},
		{[]impl.Place{at(0, 0), at(-1, 9), at(0, -1)}, []impl.Place{at(-1, 9), at(0, -1), at(0, 0)}},
		{[]impl.Place{at(4097, 0), at(0, 0), at(4097, 0), at(-4097, 1)}, []impl.Place{at(-4097, 1), at(0, 0), at(4097, 0)}},
		{
			[]impl.Place{at(math.MaxInt, 0), at(1<<24+1, 0), at(math.MinInt, 1), at(1<<24, 0), at(math.MinInt, 0), at(1<<24+1, 0)},
			[]impl.Place{at(math.MinInt, 0), at(math.MinInt, 1), at(1<<24, 0), at(1<<24+1, 0), at(math.MaxInt, 0)},
		},
	} {
		before := slices.Clone(c.l)
		if got := impl.SortedPlaces(c.l); !slices.Equal(got, c.want) {
			t.Errorf("SortedPlaces(%v) = %v", c.l, got)
		}
		if !slices.Equal(c.l, before) {
			t.Errorf("SortedPlaces has changed its argument: %v", c.l)
		}
	}
}

func TestSortedPlacesOfALongList(t *testing.T) {
	var l, want []impl.Place
	for x := -20; x <= 20; x++ {
		for y := -20; y <= 20; y++ {
			want = append(want, at(x*300, y*300))
		}
	}
	for i := range 3 * len(want) {
		l = append(l, want[i*577%len(want)])
	}
	if got := impl.SortedPlaces(l); !slices.Equal(got, want) {
		t.Errorf("SortedPlaces of %d places has %d: %v", len(l), len(got), got)
	}
}

func TestSortedPlacesGivesANewList(t *testing.T) {
	whole := []impl.Place{at(1, 1), at(2, 2), at(2, 2), at(3, 3), at(9, 9)}
	before := slices.Clone(whole)
	got := impl.SortedPlaces(whole[:4])
	for i := range got {
		got[i] = at(7, 7)
	}
	_ = append(got, at(8, 8))
	if !slices.Equal(whole, before) {
		t.Errorf("the result of SortedPlaces shares memory with its argument: %v", whole)
	}
}

// noBoxes has a place that is not valid or a Low that is greater, each at any of its four numbers.
func noBoxes() []impl.Box {
	l := []impl.Box{boxFrom(1, 0, 0, 0), boxFrom(0, 1, 0, 0), boxFrom(1, 1, 0, 0), boxFrom(4096, 0, -4096, 0), boxFrom(4097, 4097, 4097, 4097), boxFrom(math.MinInt, math.MinInt, math.MaxInt, math.MaxInt)}
	for _, x := range beyondMeasures() {
		l = append(l, boxFrom(x, 0, 4096, 0), boxFrom(0, x, 0, 4096), boxFrom(-4096, 0, x, 0), boxFrom(0, -4096, 0, x))
	}
	return l
}

func TestIsBox(t *testing.T) {
	boxes := []impl.Box{{}, boxFrom(1, 1, 1, 1), boxFrom(0, 0, 0, 1), boxFrom(0, 0, 1, 0), boxFrom(-5, -6, 7, 8), boxFrom(-4096, -4096, 4096, 4096), boxFrom(4096, 4096, 4096, 4096), boxFrom(-4096, 4096, -4096, 4096)}
	checkReport(t, "IsBox", impl.IsBox, boxes, noBoxes())
}

func TestInBox(t *testing.T) {
	b := boxFrom(-2, 1, 3, 4)
	for x := -4; x <= 5; x++ {
		for y := -1; y <= 6; y++ {
			want := x >= -2 && x <= 3 && y >= 1 && y <= 4
			if got := impl.InBox(b, at(x, y)); got != want {
				t.Errorf("InBox(%v, %d, %d) is %t", b, x, y, got)
			}
		}
	}
	if one := boxFrom(5, 6, 5, 6); !impl.InBox(one, at(5, 6)) || impl.InBox(one, at(5, 7)) || impl.InBox(one, at(4, 6)) {
		t.Error("InBox of a box of one place")
	}
	all := boxFrom(-4096, -4096, 4096, 4096)
	for _, p := range somePlaces() {
		if !impl.InBox(all, p) {
			t.Errorf("InBox(%v, %v) is false", all, p)
		}
	}
	for _, p := range noPlaces() {
		if impl.InBox(all, p) {
			t.Errorf("InBox(%v, %v) is true", all, p)
		}
	}
}

func TestInBoxOfNoBox(t *testing.T) {
	for _, b := range noBoxes() {
		for _, p := range []impl.Place{at(0, 0), b.Low, b.High, at(4096, 0), at(-4096, 0)} {
			if impl.InBox(b, p) {
				t.Errorf("InBox(%v, %v) is true", b, p)
			}
		}
	}
}

func TestBoxOf(t *testing.T) {
	for _, c := range []struct {
		l    []impl.Place
		want impl.Box
		ok   bool
	}{
		{nil, impl.Box{}, false},
		{[]impl.Place{}, impl.Box{}, false},
		{[]impl.Place{at(0, 0)}, impl.Box{}, true},
		{[]impl.Place{at(5, -6)}, boxFrom(5, -6, 5, -6), true},
		{[]impl.Place{at(5, -6), at(5, -6)}, boxFrom(5, -6, 5, -6), true},
		{[]impl.Place{at(3, 1), at(-1, 4), at(0, 0)}, boxFrom(-1, 0, 3, 4), true},
		{[]impl.Place{at(1, 1), at(2, 5), at(9, 2), at(2, 5)}, boxFrom(1, 1, 9, 5), true},
		{[]impl.Place{at(-9, -2), at(-1, -7)}, boxFrom(-9, -7, -1, -2), true},
		{[]impl.Place{at(4096, -4096), at(-4096, 4096)}, boxFrom(-4096, -4096, 4096, 4096), true},
		{[]impl.Place{at(4097, 0)}, impl.Box{}, false},
		{[]impl.Place{at(0, 0), at(1, 1), at(0, -4097)}, impl.Box{}, false},
	} {
		before := slices.Clone(c.l)
		if got, ok := impl.BoxOf(c.l); got != c.want || ok != c.ok {
			t.Errorf("BoxOf(%v) = %v, %t", c.l, got, ok)
		}
		if !slices.Equal(c.l, before) {
			t.Errorf("BoxOf has changed its argument: %v", c.l)
		}
	}
	for _, p := range noPlaces() {
		for _, l := range [][]impl.Place{{p}, {p, at(0, 0)}, {at(0, 0), p}, {at(0, 0), p, at(1, 1)}} {
			if got, ok := impl.BoxOf(l); got != (impl.Box{}) || ok {
				t.Errorf("BoxOf(%v) = %v, %t", l, got, ok)
			}
		}
	}
}

// A box is the least one if each of its sides has one of the places.
func TestBoxOfIsTheLeastOne(t *testing.T) {
	all := somePlaces()
	for i := range all {
		for j := i; j < len(all); j++ {
			l := all[i : j+1]
			var xs, ys []int
			for _, p := range l {
				xs, ys = append(xs, p.X), append(ys, p.Y)
			}
			want := boxFrom(slices.Min(xs), slices.Min(ys), slices.Max(xs), slices.Max(ys))
			if got, ok := impl.BoxOf(l); got != want || !ok {
				t.Errorf("BoxOf(%v) = %v, %t", l, got, ok)
			}
		}
	}
}

func TestTurnBox(t *testing.T) {
	for _, c := range []struct {
		b    impl.Box
		n    int
		want impl.Box
	}{
		{boxFrom(-1, 0, 3, 4), 0, boxFrom(-1, 0, 3, 4)},
		{boxFrom(-1, 0, 3, 4), 1, boxFrom(-4, -1, 0, 3)},
		{boxFrom(-1, 0, 3, 4), 2, boxFrom(-3, -4, 1, 0)},
		{boxFrom(-1, 0, 3, 4), 3, boxFrom(0, -3, 4, 1)},
		{boxFrom(-1, 0, 3, 4), -1, boxFrom(0, -3, 4, 1)},
		{boxFrom(-1, 0, 3, 4), -2, boxFrom(-3, -4, 1, 0)},
		{boxFrom(-1, 0, 3, 4), -7, boxFrom(-4, -1, 0, 3)},
		{boxFrom(-1, 0, 3, 4), math.MaxInt, boxFrom(0, -3, 4, 1)},
		{boxFrom(-1, 0, 3, 4), math.MinInt, boxFrom(-1, 0, 3, 4)},
		{boxFrom(5, 6, 5, 6), 1, boxFrom(-6, 5, -6, 5)},
		{boxFrom(5, 6, 5, 6), -1, boxFrom(6, -5, 6, -5)},
		{boxFrom(0, 0, 0, 0), 1, boxFrom(0, 0, 0, 0)},
		{boxFrom(-4096, 0, 4096, 1), 1, boxFrom(-1, -4096, 0, 4096)},
	} {
		if got := impl.TurnBox(c.b, c.n); got != c.want {
			t.Errorf("TurnBox(%v, %d) = %v", c.b, c.n, got)
		}
	}
	for _, b := range noBoxes() {
		for _, n := range someTurns() {
			if got := impl.TurnBox(b, n); got != (impl.Box{}) {
				t.Errorf("TurnBox(%v, %d) = %v", b, n, got)
			}
		}
	}
}

func TestTurnBoxHasTheTurnedPlaces(t *testing.T) {
	b := boxFrom(-3, 2, 4, 5)
	for _, n := range someTurns() {
		c := impl.TurnBox(b, n)
		for x := -10; x <= 10; x++ {
			for y := -10; y <= 10; y++ {
				if got, want := impl.InBox(c, turnedByHand(at(x, y), n)), impl.InBox(b, at(x, y)); got != want {
					t.Errorf("%d, %d, turned by %d, is in %v: %t, not %t", x, y, n, c, got, want)
				}
			}
		}
	}
}

func TestFormatPlace(t *testing.T) {
	for p, want := range map[impl.Place]string{
		at(0, 0): "0+0i", at(12, -16): "1.5-2i", at(-8, 2): "-1+0.25i", at(8, 0): "1+0i", at(0, 8): "0+1i", at(0, -8): "0-1i", at(-1, -1): "-0.125-0.125i",
		at(4096, 4096): "512+512i", at(-4096, -4096): "-512-512i", at(-4095, 4095): "-511.875+511.875i", at(80, 800): "10+100i",
	} {
		if got := impl.FormatPlace(p); got != want {
			t.Errorf("FormatPlace(%v) = %q", p, got)
		}
	}
	for _, p := range noPlaces() {
		if got := impl.FormatPlace(p); got != "" {
			t.Errorf("FormatPlace(%v) = %q", p, got)
		}
	}
}

func TestParsePlaceReadsWhatIsWritten(t *testing.T) {
	places := somePlaces()
	for x := -4096; x <= 4096; x += 7 {
		places = append(places, at(x, -x), at(x, 5), at(-3, x), at(0, x), at(x, 0), at(x, x))
	}
	for _, p := range places {
		plus := "+"
		if p.Y < 0 {
			plus = ""
		}
		s := fmt.Sprint(decimalOf(p.X), plus, decimalOf(p.Y), "i")
		if got := impl.FormatPlace(p); got != s {
			t.Errorf("FormatPlace(%v) = %q, not %q", p, got, s)
		}
		if got, ok := impl.ParsePlace(s); got != p || !ok {
			t.Errorf("ParsePlace(%q) = %v, %t", s, got, ok)
		}
	}
}

func TestParsePlaceRejects(t *testing.T) {
	for _, s := range []string{
		"", " ", "i", "+", "-", "+i", "-i", "0", "1.5", "-1", "0i", "1i", "-1i", "+1i", "0+0", "1-2", "1+i", "1-i", "-+i", "+0+0i", "-0+0i", "0-0i", "-0-0i", "0+-0i", "0++0i", "0+-1i", "0--1i", "0-+1i", "1-+2i", "-+1i",
		"1.50+0i", "1.5+0.0i", "1.5+0.50i", "01+0i", "0+01i", "0-01i", "00+0i", "0+00i", "1.+0i", ".5+0i", "0+.5i", "0-.5i", "1.3+0i", "0+1.3i", "0.0625+0i",
		" 0+0i", "0+0i ", "0 +0i", "0+ 0i", "0+0 i", "0+0i\n", "\x000+0i", "0+0i\x00", "(0+0i)", "0+0ii", "0+0ij", "0+0j", "0+0I", "0+0*i", "i0+0", "0+i0", "i+0i", "0i+0i", "0+0i+0i", "1+2+3i", "1-2-3i", "1-2+3i", "-1-2", "0,0i", "0;0", "0+0i0",
		"512.125+0i", "0+512.125i", "0-512.125i", "-513+0i", "513+0i", "0+513i", "0-513i", "4096+0i", "0+4096i", "99999999999999999999+0i", "0+99999999999999999999i",
		"1e0+0i", "1e+0i", "0+1e0i", "1e+1+0i", "0+1e+1i", "0+1e-1i", "0x1+0i", "0x1p-1+0i", "0+0x1p+1i", "1_0+0i", "inf+0i", "0+infi", "0-infi", "Inf+Infi", "nan+0i", "0+nani", "NaN+NaNi", "infinity+0i", "0-infinityi", "0-Inf",
		"½+0i", "٣+0i", "0−1i", "\xff+0i", "0+\xffi", strings.Repeat("+", 400), strings.Repeat("0", 400) + "+0i", "0+" + strings.Repeat("0", 400) + "i",
	} {
		if p, ok := impl.ParsePlace(s); p != at(0, 0) || ok {
			t.Errorf("ParsePlace(%q) = %v, %t", s, p, ok)
		}
	}
}
