package impl

import (
	"math"
	"strconv"
	"strings"
)

const (
	MaxMeasure = 4096
	MaxName    = 8
	MaxNumber  = 999
)

const (
	eighthsInWhole = 8
	maxWholes      = MaxMeasure / eighthsInWhole
	spanWholes     = 2 * maxWholes
)

// splitSum is a sum of measures in two parts, spans of spanWholes and a rest
// from -maxWholes to maxWholes: a single float32 would round the sums that a
// long list passes through, beyond 1<<24 eighths.
type splitSum struct {
	spans int
	rest  float32
}

func (s splitSum) plus(m float32) splitSum {
	s.rest += m
	if s.rest > maxWholes {
		s.rest -= spanWholes
		s.spans++
	}
	if s.rest < -maxWholes {
		s.rest += spanWholes
		s.spans--
	}
	return s
}

func (s splitSum) told() (int, bool) {
	if s.spans < -1 || s.spans > 1 {
		return 0, false
	}
	return toldMeasure(s.rest + float32(s.spans*spanWholes))
}

// wholesOf is exact for the eighths of a measure.
func wholesOf(x int) float32 {
	return float32(x) / eighthsInWhole
}

// toldMeasure returns 0 and false for the floats beyond the measures, NaN too.
func toldMeasure(m float32) (int, bool) {
	if m >= -maxWholes && m <= maxWholes {
		return int(m * eighthsInWhole), true
	}
	return 0, false
}

func FormatNumber(n int) string {
	return strconv.Itoa(n)
}

func ParseNumber(s string) (int, bool) {
	n, err := strconv.Atoi(s)
	if err != nil || n < 0 || n > MaxNumber || FormatNumber(n) != s {
		return 0, false
	}
	return n, true
}

func isLetter(c byte) bool {
	return c >= 'a' && c <= 'z'
}

func isDigit(c byte) bool {
	return c >= '0' && c <= '9'
}

func IsName(s string) bool {
	if len(s) < 1 || len(s) > MaxName || !isLetter(s[0]) {
		return false
	}
	for i := range len(s) {
		if !isLetter(s[i]) && !isDigit(s[i]) {
			return false
		}
	}
	return true
}

func SplitAt(s string, sep string) []string {
	if sep == "" {
		// strings.Split would divide s into its characters.
		return []string{s}
	}
	return strings.Split(s, sep)
}

func JoinWith(l []string, sep string) string {
	return strings.Join(l, sep)
}

func IsMeasure(x int) bool {
	return x >= -MaxMeasure && x <= MaxMeasure
}

func SumMeasures(l []int) (int, bool) {
	var sum splitSum
	for _, x := range l {
		if !IsMeasure(x) {
			return 0, false
		}
		sum = sum.plus(wholesOf(x))
	}
	return sum.told()
}

func TimesMeasure(x int, n int) (int, bool) {
	if !IsMeasure(x) {
		return 0, false
	}
	if x == 0 {
		return 0, true
	}
	// Up to these limits a float32 holds n and the product exactly.
	if n < -MaxMeasure || n > MaxMeasure {
		return 0, false
	}
	return toldMeasure(wholesOf(x) * float32(n))
}

func RampAt(a int, b int, i int, n int) int {
	switch {
	case !IsMeasure(a) || !IsMeasure(b):
		return 0
	case i >= n:
		return b
	case i <= 0 || n > MaxNumber:
		return a
	}
	return a + rampRise(wholesOf(b)-wholesOf(a), float32(i), float32(n))
}

// rampRise returns the eighths, rounded down, of i times rise divided by n, for
// i below n and n up to MaxNumber. The product is exact. The quotient is rounded,
// but not up to the next eighth: an exact one that is no eighth is at least 1/999
// of one below it, and half the distance between two floats is less than that.
func rampRise(rise float32, i float32, n float32) int {
	return int(math.Floor(float64(rise * i / n * eighthsInWhole)))
}

func FormatMeasure(x int) string {
	if !IsMeasure(x) {
		return ""
	}
	return strconv.FormatFloat(float64(wholesOf(x)), 'f', -1, 32)
}

func ParseMeasure(s string) (int, bool) {
	m, err := strconv.ParseFloat(s, 32)
	if err != nil {
		return 0, false
	}
	x, ok := toldMeasure(float32(m))
	if !ok || FormatMeasure(x) != s {
		return 0, false
	}
	return x, true
}
