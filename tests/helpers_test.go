package tests

import (
	"fmt"
	"slices"
	"testing"
)

// listsOf has each list of up to size elements of the pool.
func listsOf[T any](size int, pool ...T) [][]T {
	lists := [][]T{{}}
	longest := lists
	for range size {
		var longer [][]T
		for _, l := range longest {
			for _, x := range pool {
				longer = append(longer, append(slices.Clone(l), x))
			}
		}
		lists = append(lists, longer...)
		longest = longer
	}
	return lists
}

// checkList takes what was called as a format, which is filled in only if the result is another one.
func checkList[T comparable](t *testing.T, got []T, ok bool, want []T, wantOk bool, what string, args ...any) {
	t.Helper()
	if !slices.Equal(got, want) || ok != wantOk {
		t.Errorf("%s = %v, %t, not %v, %t", fmt.Sprintf(what, args...), got, ok, want, wantOk)
	}
}

// sparing has the elements of a list, with room for more behind them, in which there are others; and both together.
func sparing[T any](l []T, other T) ([]T, []T) {
	whole := append(slices.Clone(l), slices.Repeat([]T{other}, 150)...)
	return whole[:len(l)], whole
}

// spoil writes to each element of a result, and to its spare capacity.
func spoil[T any](l []T, spoilt T) {
	l = l[:cap(l)]
	for i := range l {
		l[i] = spoilt
	}
}

// checkSharesNothing looks at all results for one argument. The two elements are others than those of the list, and than each other.
func checkSharesNothing[T comparable](t *testing.T, l []T, other, spoilt T, resultsOf func([]T) map[string][]T) {
	t.Helper()
	part, whole := sparing(l, other)
	before := slices.Clone(whole)
	results, again := resultsOf(part), resultsOf(part)
	for _, got := range results {
		spoil(got, spoilt)
	}
	if !slices.Equal(whole, before) {
		t.Errorf("the argument %v is changed", l)
	}
	for what, want := range resultsOf(part) {
		if !slices.Equal(again[what], want) {
			t.Errorf("%s of %v shares memory with another result", what, l)
		}
	}
}

// changedTexts has the starts and the ends of a text, and the text with one byte more, or another one.
func changedTexts(s string) []string {
	var texts []string
	for i := range len(s) + 1 {
		texts = append(texts, s[:i], s[i:])
		for c := range 256 {
			texts = append(texts, s[:i]+string([]byte{byte(c)})+s[i:])
			if i < len(s) {
				texts = append(texts, s[:i]+string([]byte{byte(c)})+s[i+1:])
			}
		}
	}
	return texts
}
