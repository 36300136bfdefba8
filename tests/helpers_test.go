package tests

import (
	"math/rand"
	"slices"
	"testing"
)

// marker fills spare capacity, so that a write behind a list shows.
const marker = -77777

// guard returns a copy of a list with spare capacity behind it, and a function that tells whether
// the copy and its spare capacity are still as they were.
func guard(list []int64) ([]int64, func() bool) {
	whole := append(slices.Clone(list), marker, marker, marker)
	before := slices.Clone(whole)
	return whole[:len(list)], func() bool { return slices.Equal(whole, before) }
}

// guardAll does what guard does for a list of lists.
func guardAll(lists [][]int64) ([][]int64, func() bool) {
	var whole [][]int64
	var checks []func() bool
	for _, list := range append(slices.Clone(lists), []int64{marker}, []int64{marker}) {
		copied, same := guard(list)
		whole = append(whole, copied)
		checks = append(checks, same)
	}
	before := cloneLists(whole)
	return whole[:len(lists)], func() bool {
		for _, same := range checks {
			if !same() {
				return false
			}
		}
		return equalLists(whole, before)
	}
}

// scribble overwrites a list and its spare capacity.
func scribble(list []int64) {
	list = list[:cap(list)]
	for i := range list {
		list[i] = marker
	}
}

// equalLists reports whether two lists of lists are equal.
func equalLists(a [][]int64, b [][]int64) bool {
	return slices.EqualFunc(a, b, slices.Equal[[]int64])
}

// cloneLists returns a copy of a list of lists.
func cloneLists(lists [][]int64) [][]int64 {
	var copied [][]int64
	for _, list := range lists {
		copied = append(copied, slices.Clone(list))
	}
	return copied
}

// expectList fails the test if a list or a code is not the wanted one. Beside an error the wanted
// list is nil.
func expectList(t *testing.T, what string, got []int64, code int64, want []int64, wantCode int64) {
	t.Helper()
	if !slices.Equal(got, want) || code != wantCode {
		t.Errorf("%s = %v, %d; want %v, %d", what, got, code, want, wantCode)
	}
}

// expectLists does what expectList does for a list of lists.
func expectLists(t *testing.T, what string, got [][]int64, code int64, want [][]int64, wantCode int64) {
	t.Helper()
	if !equalLists(got, want) || code != wantCode {
		t.Errorf("%s = %v, %d; want %v, %d", what, got, code, want, wantCode)
	}
}

// expect fails the test if a value or a code is not the wanted one.
func expect[T comparable](t *testing.T, what string, got T, code int64, want T, wantCode int64) {
	t.Helper()
	if got != want || code != wantCode {
		t.Errorf("%s = %v, %d; want %v, %d", what, got, code, want, wantCode)
	}
}

// identity returns the identity of n points.
func identity(n int) []int64 {
	p := make([]int64, n)
	for i := range p {
		p[i] = int64(i)
	}
	return p
}

// withCycles returns a permutation whose cycles have the given numbers of points, and which leads
// each point of a cycle to the next greater one.
func withCycles(lengths ...int) []int64 {
	var p []int64
	for _, length := range lengths {
		start := len(p)
		for i := range length {
			p = append(p, int64(start+(i+1)%length))
		}
	}
	return p
}

// allPermutations returns the permutations of n points in lexicographic order.
func allPermutations(n int) [][]int64 {
	all := [][]int64{{}}
	for range n {
		var longer [][]int64
		for _, beginning := range all {
			for point := range int64(n) {
				if !slices.Contains(beginning, point) {
					longer = append(longer, append(slices.Clone(beginning), point))
				}
			}
		}
		all = longer
	}
	return all
}

// shuffled returns a permutation of n points that depends on the seed only.
func shuffled(n int, seed int64) []int64 {
	p := identity(n)
	random := rand.New(rand.NewSource(seed))
	random.Shuffle(n, func(i, k int) { p[i], p[k] = p[k], p[i] })
	return p
}
