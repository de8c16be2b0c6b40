package tests

import (
	"fmt"
	"math"
	"slices"
	"strings"
	"testing"

	"loop.example/g03017/impl"
)

func TestLimitsOfMeasures(t *testing.T) {
	if impl.MaxMeasure != 4096 || impl.MaxName != 8 || impl.MaxNumber != 999 {
		t.Error(impl.MaxMeasure, impl.MaxName, impl.MaxNumber)
	}
}

func TestFormatNumber(t *testing.T) {
	for n, want := range map[int]string{
		0: "0", 7: "7", 10: "10", 999: "999", 1000: "1000", -1: "-1", -40: "-40",
		math.MaxInt: "9223372036854775807",
		math.MinInt: "-9223372036854775808",
	} {
		if got := impl.FormatNumber(n); got != want {
			t.Errorf("FormatNumber(%d) = %q", n, got)
		}
	}
}

func TestParseNumberReadsWhatIsWritten(t *testing.T) {
	for n := -2000; n <= 2000; n++ {
		want, wantOk := n, true
		if n < 0 || n > impl.MaxNumber {
			want, wantOk = 0, false
		}
		if got, ok := impl.ParseNumber(impl.FormatNumber(n)); got != want || ok != wantOk {
			t.Errorf("ParseNumber of %d = %d, %t", n, got, ok)
		}
	}
}

func TestParseNumberRejects(t *testing.T) {
	for _, s := range []string{
		"", " ", "00", "01", "007", "-0", "+0", "+5", "-1", "-999", "1000", "1_0", "0x1", "1e2", "5.0", "5.", " 5", "5 ", "5\n", "5\x00",
		"a", "5a", "٣", "9223372036854775807", "9223372036854775808", "18446744073709551617", strings.Repeat("9", 400), strings.Repeat("0", 400),
	} {
		if n, ok := impl.ParseNumber(s); n != 0 || ok {
			t.Errorf("ParseNumber(%q) = %d, %t", s, n, ok)
		}
	}
}

// checkReport asks a function that reports true for each of yes, and false for each of no.
func checkReport[T any](t *testing.T, what string, is func(T) bool, yes []T, no []T) {
	t.Helper()
	for _, x := range yes {
		if !is(x) {
			t.Errorf("%s(%#v) is false", what, x)
		}
	}
	for _, x := range no {
		if is(x) {
			t.Errorf("%s(%#v) is true", what, x)
		}
	}
}

func TestIsName(t *testing.T) {
	names := []string{"a", "z", "a0", "z9", "pump1", "abcdefgh", "a1234567", "zzzzzzzz"}
	noNames := []string{
		"", "0", "9a", "A", "aB", "a b", " a", "a ", "a-b", "a_b", "_a", "a\x00", "a\n", "abcdefghi", "é", "aé", "a\xff", "a`", "a{", "a/", "a:", "`", "{",
	}
	checkReport(t, "IsName", impl.IsName, names, noNames)
}

func TestIsNameOfEachByte(t *testing.T) {
	for c := range 256 {
		letter := strings.IndexByte("abcdefghijklmnopqrstuvwxyz", byte(c)) >= 0
		digit := strings.IndexByte("0123456789", byte(c)) >= 0
		if s := string([]byte{byte(c)}); impl.IsName(s) != letter {
			t.Errorf("IsName(%q) is %t", s, !letter)
		}
		if s := string([]byte{'a', byte(c), 'b'}); impl.IsName(s) != (letter || digit) {
			t.Errorf("IsName(%q) is %t", s, !letter && !digit)
		}
	}
}

func TestSplitAt(t *testing.T) {
	for _, c := range []struct {
		s, sep string
		want   []string
	}{
		{"a;b;c", ";", []string{"a", "b", "c"}},
		{"abc", ";", []string{"abc"}},
		{"", ";", []string{""}},
		{";", ";", []string{"", ""}},
		{";a;;b;", ";", []string{"", "a", "", "b", ""}},
		{"a; b; c", "; ", []string{"a", "b", "c"}},
		{"aaa", "aa", []string{"", "a"}},
		{"aaaa", "aa", []string{"", "", ""}},
		{"xabababy", "aba", []string{"x", "baby"}},
		{"ababa", "aba", []string{"", "ba"}},
		{"ab", "ab", []string{"", ""}},
		{"ab", "abc", []string{"ab"}},
		{"", "", []string{""}},
		{"abc", "", []string{"abc"}},
		{"é", "\xa9", []string{"\xc3", ""}},
		{"é\xff", "", []string{"é\xff"}},
		{"a\x00b", "\x00", []string{"a", "b"}},
	} {
		got := impl.SplitAt(c.s, c.sep)
		if !slices.Equal(got, c.want) {
			t.Errorf("SplitAt(%q, %q) = %q", c.s, c.sep, got)
		}
		if joined := impl.JoinWith(got, c.sep); joined != c.s {
			t.Errorf("SplitAt(%q, %q) is joined to %q", c.s, c.sep, joined)
		}
	}
}

func TestSplitAtGivesNewLists(t *testing.T) {
	for _, sep := range []string{"", ";"} {
		first := impl.SplitAt("a;b", sep)
		want := slices.Clone(first)
		second := impl.SplitAt("a;b", sep)
		for i := range second {
			second[i] = "x"
		}
		if !slices.Equal(first, want) {
			t.Errorf("two results of SplitAt with %q share memory: %q", sep, first)
		}
	}
}

func TestJoinWith(t *testing.T) {
	for _, c := range []struct {
		l    []string
		sep  string
		want string
	}{
		{nil, ";", ""},
		{[]string{}, ";", ""},
		{[]string{""}, ";", ""},
		{[]string{"a"}, ";", "a"},
		{[]string{"a", "b", "c"}, "; ", "a; b; c"},
		{[]string{"a", "b"}, "", "ab"},
		{[]string{"", "", ""}, ";", ";;"},
		{[]string{";", ";"}, ";", ";;;"},
		{[]string{"\xff", "\x00"}, "é", "\xffé\x00"},
	} {
		if got := impl.JoinWith(c.l, c.sep); got != c.want {
			t.Errorf("JoinWith(%q, %q) = %q", c.l, c.sep, got)
		}
	}
}

func TestJoinWithChangesNothing(t *testing.T) {
	whole := []string{"a", "b", "c", "d"}
	if got := impl.JoinWith(whole[:2], "-"); got != "a-b" {
		t.Errorf("JoinWith = %q", got)
	}
	if !slices.Equal(whole, []string{"a", "b", "c", "d"}) {
		t.Errorf("JoinWith has changed its argument: %q", whole)
	}
}

func TestIsMeasure(t *testing.T) {
	checkReport(t, "IsMeasure", impl.IsMeasure, []int{0, 1, -1, 4095, -4095, 4096, -4096}, beyondMeasures())
}

// beyondMeasures has no measures; some of them would be, if they were narrowed or multiplied by 8.
func beyondMeasures() []int {
	return []int{4097, -4097, 5000, 1 << 24, 1<<24 + 1, 1 << 32, 1<<32 + 1, -(1 << 32), 1 << 61, 1<<61 + 1, math.MaxInt, math.MinInt, math.MinInt + 1}
}

func TestSumMeasures(t *testing.T) {
	for _, c := range []struct {
		l    []int
		want int
		ok   bool
	}{
		{nil, 0, true},
		{[]int{}, 0, true},
		{[]int{0}, 0, true},
		{[]int{20}, 20, true},
		{[]int{1, 2, 3}, 6, true},
		{[]int{-1, -2, -3}, -6, true},
		{[]int{5, -5}, 0, true},
		{[]int{4096}, 4096, true},
		{[]int{-4096}, -4096, true},
		{[]int{4095, 1}, 4096, true},
		{[]int{-4095, -1}, -4096, true},
		{[]int{4096, 1}, 0, false},
		{[]int{-4096, -1}, 0, false},
		{[]int{4096, 4096}, 0, false},
		{[]int{4096, 4096, -4096}, 4096, true},
		{[]int{-4096, -4096, 4096}, -4096, true},
		{[]int{-4096, -4096, -4096, 4096, 4096}, -4096, true},
		{[]int{4096, 4096, 4096, -4096, -4096, -4096}, 0, true},
		{[]int{4097}, 0, false},
		{[]int{-4097}, 0, false},
		{[]int{4097, -1}, 0, false},
		{[]int{1, 4097, -4097}, 0, false},
		{[]int{-1, 4096, 4096, -4095, 4097}, 0, false},
	} {
		if got, ok := impl.SumMeasures(c.l); got != c.want || ok != c.ok {
			t.Errorf("SumMeasures(%d) = %d, %t", c.l, got, ok)
		}
	}
}

func TestSumMeasuresRejectsWhatIsNoMeasure(t *testing.T) {
	for _, x := range beyondMeasures() {
		for _, l := range [][]int{{x}, {x, 0}, {0, x}, {x, -x}, {x, x}, {1, x, 1}} {
			if got, ok := impl.SumMeasures(l); got != 0 || ok {
				t.Errorf("SumMeasures(%d) = %d, %t", l, got, ok)
			}
		}
	}
}

// checkSum compares with the sum of Go's int, for lists whose sums it holds.
func checkSum(t *testing.T, what string, l []int) {
	t.Helper()
	sum := 0
	for _, x := range l {
		sum += x
	}
	want, wantOk := sum, sum >= -4096 && sum <= 4096
	if !wantOk {
		want = 0
	}
	before := slices.Clone(l)
	if got, ok := impl.SumMeasures(l); got != want || ok != wantOk {
		t.Errorf("SumMeasures of %s = %d, %t, not %d, %t", what, got, ok, want, wantOk)
	}
	if !slices.Equal(l, before) {
		t.Errorf("SumMeasures has changed its argument: %s", what)
	}
}

// A float32 does not hold each number of eighths beyond 1<<24: the sums of some of these lists' measures are beyond it.
func TestSumMeasuresOfLongLists(t *testing.T) {
	const half = 1 << 14
	for _, edge := range []int{0, 1, -1, 7, -7, 4095, -4095, 4096, -4096} {
		for _, high := range []int{4096, 4095, -4096, -4095} {
			l := slices.Repeat([]int{high}, half)
			l = append(l, edge)
			checkSum(t, fmt.Sprint("only ", high, " and then ", edge), l)
			l = append(l, slices.Repeat([]int{-high}, half)...)
			checkSum(t, fmt.Sprint(high, " and ", -high, " around ", edge), l)
			checkSum(t, fmt.Sprint(high, " and ", -high, " and one more"), append(l, high))
		}
	}
}

func TestSumMeasuresOfPairsAndTriples(t *testing.T) {
	some := []int{-4096, -4095, -2049, -2048, -1, 0, 1, 2048, 2049, 4095, 4096}
	for _, a := range some {
		for _, b := range some {
			checkSum(t, fmt.Sprint(a, b), []int{a, b})
			for _, c := range some {
				checkSum(t, fmt.Sprint(a, b, c), []int{a, b, c})
			}
		}
	}
}

func TestTimesMeasure(t *testing.T) {
	for _, c := range []struct {
		x, n, want int
		ok         bool
	}{
		{20, 3, 60, true},
		{20, -3, -60, true},
		{-20, -3, 60, true},
		{20, 0, 0, true},
		{-20, 0, 0, true},
		{2, 2048, 4096, true},
		{2, 2049, 0, false},
		{2, -2048, -4096, true},
		{2, -2049, 0, false},
		{1, 4096, 4096, true},
		{1, -4096, -4096, true},
		{-1, 4096, -4096, true},
		{1, 4097, 0, false},
		{1, -4097, 0, false},
		{4096, 1, 4096, true},
		{4096, -1, -4096, true},
		{-4096, -1, 4096, true},
		{4096, 2, 0, false},
		{4096, 4096, 0, false},
		{4095, 4095, 0, false},
		{-4096, 4096, 0, false},
		{4097, 0, 0, false},
		{4097, 1, 0, false},
		{-4097, 1, 0, false},
		{0, math.MaxInt, 0, true},
		{0, math.MinInt, 0, true},
	} {
		if got, ok := impl.TimesMeasure(c.x, c.n); got != c.want || ok != c.ok {
			t.Errorf("TimesMeasure(%d, %d) = %d, %t", c.x, c.n, got, ok)
		}
	}
}

func TestTimesMeasureOfAll(t *testing.T) {
	for x := -4100; x <= 4100; x++ {
		for _, n := range []int{-4097, -4096, -4095, -101, -3, -2, -1, 0, 1, 2, 3, 101, 4095, 4096, 4097} {
			want, wantOk := x*n, true
			if x < -4096 || x > 4096 || want < -4096 || want > 4096 {
				want, wantOk = 0, false
			}
			if got, ok := impl.TimesMeasure(x, n); got != want || ok != wantOk {
				t.Errorf("TimesMeasure(%d, %d) = %d, %t", x, n, got, ok)
			}
		}
	}
}

// The products of Go's int would wrap around to 0 or to a small one, or the float32 of n would be a lesser n.
func TestTimesMeasureDoesNotWrapAround(t *testing.T) {
	for _, x := range []int{1, -1, 2, -2, 3, 8, 16, 4096, -4096} {
		for _, n := range []int{1 << 24, 1<<24 + 1, 1 << 32, 1<<32 + 1, 1 << 52, 1 << 60, 1 << 61, 1 << 62, 1<<62 + 1, math.MaxInt, math.MinInt, math.MinInt + 1} {
			if got, ok := impl.TimesMeasure(x, n); got != 0 || ok {
				t.Errorf("TimesMeasure(%d, %d) = %d, %t", x, n, got, ok)
			}
		}
	}
	for _, x := range beyondMeasures() {
		for _, n := range []int{0, 1, -1, 2, 8, 1 << 32, math.MinInt, math.MaxInt} {
			if got, ok := impl.TimesMeasure(x, n); got != 0 || ok {
				t.Errorf("TimesMeasure(%d, %d) = %d, %t", x, n, got, ok)
			}
		}
	}
}

func TestRampAt(t *testing.T) {
	for _, c := range []struct{ a, b, i, n, want int }{
		{0, 10, 1, 4, 2},
		{0, 10, 2, 4, 5},
		{0, 10, 3, 4, 7},
		{0, 10, 4, 4, 10},
		{0, 10, 5, 4, 10},
		{0, 10, 0, 4, 0},
		{0, 10, -1, 4, 0},
		{0, -10, 1, 4, -3},
		{0, -10, 2, 4, -5},
		{0, -10, 3, 4, -8},
		{10, 0, 1, 4, 7},
		{10, 0, 3, 4, 2},
		{-1, 0, 1, 2, -1},
		{0, -1, 1, 999, -1},
		{0, 1, 998, 999, 0},
		{7, 7, 1, 3, 7},
		{-4096, 4096, 1, 2, 0},
		{4096, -4096, 1, 999, 4087},
		{-4096, 4096, 998, 999, 4087},
		{-4096, 4096, 1, 999, -4088},
	} {
		if got := impl.RampAt(c.a, c.b, c.i, c.n); got != c.want {
			t.Errorf("RampAt(%d, %d, %d, %d) = %d", c.a, c.b, c.i, c.n, got)
		}
	}
}

func TestRampAtItsEdges(t *testing.T) {
	for _, c := range []struct{ a, b, i, n, want int }{
		{3, 10, 0, 0, 10},
		{3, 10, 1, 0, 10},
		{3, 10, -1, 0, 3},
		{3, 10, 0, -1, 10},
		{3, 10, -1, -1, 10},
		{3, 10, -2, -1, 3},
		{3, 10, 5, -5, 10},
		{3, 10, 999, 999, 10},
		{3, 10, 1000, 999, 10},
		{3, 10, 998, 999, 9},
		{3, 10, 999, 1000, 3},
		{3, 10, 1000, 1000, 10},
		{3, 10, 500, 1000, 3},
		{3, 10, 1001, 1000, 10},
		{3, 10, 0, 1000, 3},
		{3, 10, math.MinInt, math.MinInt, 10},
		{3, 10, math.MinInt, 4, 3},
		{3, 10, math.MaxInt, 4, 10},
		{3, 10, math.MinInt, math.MaxInt, 3},
		{3, 10, math.MaxInt, math.MaxInt, 10},
		{3, 10, math.MaxInt - 1, math.MaxInt, 3},
		{3, 10, 1, math.MinInt, 10},
		{3, 10, 1, 1, 10},
	} {
		if got := impl.RampAt(c.a, c.b, c.i, c.n); got != c.want {
			t.Errorf("RampAt(%d, %d, %d, %d) = %d", c.a, c.b, c.i, c.n, got)
		}
	}
}

func TestRampAtRejectsWhatIsNoMeasure(t *testing.T) {
	for _, x := range beyondMeasures() {
		for _, i := range []int{-1, 0, 1, 4, 5} {
			for _, n := range []int{-1, 0, 4, 1000} {
				if got := impl.RampAt(x, 10, i, n); got != 0 {
					t.Errorf("RampAt(%d, 10, %d, %d) = %d", x, i, n, got)
				}
				if got := impl.RampAt(10, x, i, n); got != 0 {
					t.Errorf("RampAt(10, %d, %d, %d) = %d", x, i, n, got)
				}
			}
		}
	}
}

// floorOf is the greatest integer that is not above p divided by n.
func floorOf(p int, n int) int {
	q := p / n
	if p%n < 0 {
		q--
	}
	return q
}

func TestRampAtIsExact(t *testing.T) {
	ends := [][2]int{{-4096, 4096}, {4096, -4096}, {-4095, 4096}, {4096, -4095}, {0, 4096}, {0, -4096}, {-4096, 4091}, {1, 998}, {4093, -3001}, {0, 1}, {0, -1}, {5, 5}}
	for _, e := range ends {
		for n := 1; n <= impl.MaxNumber; n++ {
			for i := 1; i < n; i++ {
				if got, want := impl.RampAt(e[0], e[1], i, n), e[0]+floorOf(i*(e[1]-e[0]), n); got != want {
					t.Fatalf("RampAt(%d, %d, %d, %d) = %d, not %d", e[0], e[1], i, n, got, want)
				}
			}
		}
	}
}

func TestFormatMeasure(t *testing.T) {
	for x, want := range map[int]string{
		0: "0", 8: "1", -8: "-1", 80: "10", 800: "100", 20: "2.5", -25: "-3.125",
		1: "0.125", 2: "0.25", 3: "0.375", 4: "0.5", 5: "0.625", 6: "0.75", 7: "0.875",
		-1: "-0.125", -4: "-0.5", 81: "10.125", 4095: "511.875", 4096: "512", -4095: "-511.875", -4096: "-512",
	} {
		if got := impl.FormatMeasure(x); got != want {
			t.Errorf("FormatMeasure(%d) = %q", x, got)
		}
	}
	for _, x := range beyondMeasures() {
		if got := impl.FormatMeasure(x); got != "" {
			t.Errorf("FormatMeasure(%d) = %q", x, got)
		}
	}
}

// decimalOf writes a measure from its eighths by whole numbers only.
func decimalOf(x int) string {
	sign := ""
	if x < 0 {
		sign, x = "-", -x
	}
	s := fmt.Sprintf("%s%d.%03d", sign, x/8, x%8*125)
	return strings.TrimRight(strings.TrimRight(s, "0"), ".")
}

func TestParseMeasureReadsWhatIsWritten(t *testing.T) {
	for x := -4096; x <= 4096; x++ {
		s := impl.FormatMeasure(x)
		if s != decimalOf(x) {
			t.Errorf("FormatMeasure(%d) = %q", x, s)
		}
		if got, ok := impl.ParseMeasure(s); got != x || !ok {
			t.Errorf("ParseMeasure(%q) = %d, %t", s, got, ok)
		}
	}
}

func TestParseMeasureRejectsOtherWritings(t *testing.T) {
	for x := -4096; x <= 4096; x++ {
		s := decimalOf(x)
		for _, other := range []string{"+" + s, "0" + s, " " + s, s + " ", s + "0000", s + ".", s + ".0", s + "e0", s + "\x00", "--" + s, s + "f"} {
			if got, ok := impl.ParseMeasure(other); (got != 0 || ok) && !isWritten(other) {
				t.Errorf("ParseMeasure(%q) = %d, %t", other, got, ok)
			}
		}
	}
}

// isWritten tells whether some measure is written so (a whole one with noughts behind it can be).
func isWritten(s string) bool {
	for x := -4096; x <= 4096; x += 8 {
		if decimalOf(x) == s {
			return true
		}
	}
	return false
}

func TestParseMeasureRejects(t *testing.T) {
	for _, s := range []string{
		"", " ", "-", "+", ".", "-.", "-0", "+0", "-0.0", "0.0", "00", "01", "-01", "1.", ".5", "-.5", "0.50", "1.50", "1.0", "2.500", "00.5",
		"1.3", "0.1", "0.1250", "0.12", "0.13", "0.124", "0.126", "0.0625", "0.12500001", "0.125000000000000000001", "1,5", "1.2.5", "1 5", "1.5-",
		"512.125", "-512.125", "513", "-513", "4096", "512.0", "512.00000001", "511.9", "511.9999999999", "-512.00000001", "9999999999999999999999999999999999999999", "1e400", "-1e400", "4611686018427387904",
		"1e0", "1E1", "5e-1", "0x1", "0x1p0", "0x1p-1", "1_0", "inf", "Inf", "-inf", "+Inf", "infinity", "-Infinity", "nan", "NaN", "-nan",
		"two", "1a", "a1", "½", "٣", "1\n", "\n1", "1\x00", strings.Repeat("1", 400), strings.Repeat("0", 400), "0." + strings.Repeat("0", 400) + "1", "0.5" + strings.Repeat("0", 400),
	} {
		if x, ok := impl.ParseMeasure(s); x != 0 || ok {
			t.Errorf("ParseMeasure(%q) = %d, %t", s, x, ok)
		}
	}
}
