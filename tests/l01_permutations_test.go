package tests

import (
	"math"
	"slices"
	"strconv"
	"testing"

	"loop.example/g01108/impl"
)

// brokenPermutations are lists that are not permutations.
func brokenPermutations() [][]int64 {
	return [][]int64{
		{1},
		{-1},
		{0, 0},
		{1, 1},
		{0, 2},
		{1, 2},
		{0, 1, 1},
		{2, 1, 2},
		{0, -1, 1},
		{math.MaxInt64, 0},
		{0, math.MinInt64},
		{1 << 32, 1},
		append(identity(399), 398),
		append(identity(399), 400),
		identity(401),
		identity(5000),
	}
}

// samplePermutations are all permutations of few points and some of many.
func samplePermutations() [][]int64 {
	var list [][]int64
	for n := range 6 {
		list = append(list, allPermutations(n)...)
	}
	for seed, n := range []int{6, 7, 10, 31, 100, 399, 400} {
		list = append(list, identity(n), shuffled(n, int64(seed)))
	}
	return append(list, withCycles(400), withCycles(slices.Repeat([]int{2}, 200)...))
}

// doBoth returns the permutation that does p then q.
func doBoth(p []int64, q []int64) []int64 {
	var done []int64
	for i := range p {
		done = append(done, q[p[i]])
	}
	return done
}

// undo returns the inverse of p, found by search.
func undo(p []int64) []int64 {
	var back []int64
	for point := range p {
		back = append(back, int64(slices.Index(p, int64(point))))
	}
	return back
}

// doTimes returns the permutation that does p k times, with k not negative.
func doTimes(p []int64, k int64) []int64 {
	done := identity(len(p))
	for ; k > 0; k /= 2 {
		if k%2 == 1 {
			done = doBoth(done, p)
		}
		p = doBoth(p, p)
	}
	return done
}

// lengthsOf returns the numbers of points of all cycles of p in ascending order: of the points that
// return after exactly n steps, every n are one cycle.
func lengthsOf(p []int64) []int64 {
	counts := make([]int, len(p)+1)
	for start := range p {
		steps := 1
		for point := p[start]; point != int64(start); point = p[point] {
			steps++
		}
		counts[steps]++
	}
	var lengths []int64
	for length, count := range counts {
		if length > 0 {
			lengths = append(lengths, slices.Repeat([]int64{int64(length)}, count/length)...)
		}
	}
	return lengths
}

func TestCodesAndLimitsOfPermutations(t *testing.T) {
	codes := []int64{impl.ErrNone, impl.ErrInvalid, impl.ErrRange, impl.ErrLimit, impl.ErrNotFound, impl.ErrState, impl.ErrSyntax}
	if !slices.Equal(codes, []int64{0, 1, 2, 3, 4, 5, 6}) {
		t.Errorf("the codes are %v", codes)
	}
	limits := []int64{impl.MaxPoints, impl.MaxGenerators, impl.MaxElements, impl.MaxWord, impl.MaxOrder}
	if !slices.Equal(limits, []int64{400, 16, 1000, 64, 1000000000000000}) {
		t.Errorf("the limits are %v", limits)
	}
}

func TestIsPermutation(t *testing.T) {
	for _, p := range samplePermutations() {
		if !impl.IsPermutation(p) {
			t.Errorf("%v is a permutation", p)
		}
	}
	for _, p := range brokenPermutations() {
		if impl.IsPermutation(p) {
			t.Errorf("%v is no permutation", p)
		}
	}
	if !impl.IsPermutation(nil) || !impl.IsPermutation([]int64{}) {
		t.Errorf("the list without points is a permutation")
	}
}

func TestIsPermutationOfAllShortLists(t *testing.T) {
	permutations := 0
	for code := range int64(6 * 6 * 6 * 6) {
		list := []int64{code%6 - 1, code/6%6 - 1, code/36%6 - 1, code/216 - 1}
		got := impl.IsPermutation(list)
		if got != slices.Equal(slices.Sorted(slices.Values(list)), identity(4)) {
			t.Errorf("IsPermutation(%v) = %v", list, got)
		}
		if got {
			permutations++
		}
	}
	if permutations != 24 {
		t.Errorf("%d permutations of 4 points", permutations)
	}
}

func TestThenPermutation(t *testing.T) {
	got, code := impl.ThenPermutation([]int64{1, 2, 0}, []int64{1, 0, 2})
	expectList(t, "the example", got, code, []int64{0, 2, 1}, impl.ErrNone)
	got, code = impl.ThenPermutation([]int64{1, 0, 2}, []int64{1, 2, 0})
	expectList(t, "the example in the other order", got, code, []int64{2, 1, 0}, impl.ErrNone)
	for _, p := range allPermutations(4) {
		for _, q := range allPermutations(4) {
			got, code := impl.ThenPermutation(p, q)
			expectList(t, "then", got, code, doBoth(p, q), impl.ErrNone)
		}
	}
	p, q := shuffled(400, 1), shuffled(400, 2)
	got, code = impl.ThenPermutation(p, q)
	expectList(t, "400 points", got, code, doBoth(p, q), impl.ErrNone)
	got, code = impl.ThenPermutation(nil, []int64{})
	expectList(t, "no points", got, code, nil, impl.ErrNone)
}

// pairFunctions are the functions of two permutations.
func pairFunctions() map[string]func([]int64, []int64) ([]int64, int64) {
	return map[string]func([]int64, []int64) ([]int64, int64){
		"ThenPermutation":      impl.ThenPermutation,
		"ConjugatePermutation": impl.ConjugatePermutation,
	}
}

func TestPairsThatAreNotPermutationsOfEquallyManyPoints(t *testing.T) {
	for name, function := range pairFunctions() {
		for _, p := range brokenPermutations() {
			got, code := function(p, identity(len(p)))
			expectList(t, name+" with a bad first list", got, code, nil, impl.ErrInvalid)
			got, code = function(identity(len(p)), p)
			expectList(t, name+" with a bad second list", got, code, nil, impl.ErrInvalid)
			got, code = function(p, p)
			expectList(t, name+" with two bad lists", got, code, nil, impl.ErrInvalid)
		}
		for _, sizes := range [][2]int{{0, 1}, {1, 0}, {1, 2}, {2, 1}, {399, 400}, {400, 399}, {400, 401}, {401, 401}} {
			got, code := function(identity(sizes[0]), identity(sizes[1]))
			expectList(t, name+" with other numbers of points", got, code, nil, impl.ErrInvalid)
		}
	}
}

func TestInversePermutation(t *testing.T) {
	got, code := impl.InversePermutation([]int64{1, 2, 0})
	expectList(t, "the inverse of a cycle", got, code, []int64{2, 0, 1}, impl.ErrNone)
	for _, p := range samplePermutations() {
		got, code := impl.InversePermutation(p)
		expectList(t, "the inverse", got, code, undo(p), impl.ErrNone)
		for _, pair := range [][2][]int64{{p, got}, {got, p}} {
			both, code := impl.ThenPermutation(pair[0], pair[1])
			expectList(t, "a permutation and its inverse", both, code, identity(len(p)), impl.ErrNone)
		}
	}
	for _, p := range brokenPermutations() {
		got, code := impl.InversePermutation(p)
		expectList(t, "the inverse of no permutation", got, code, nil, impl.ErrInvalid)
	}
}

func TestPowerPermutation(t *testing.T) {
	exponents := []int64{0, 1, 2, 3, 4, 5, 6, 7, 30, 59, 60, 61, 999, 123456789, 999999999, 1000000000}
	for _, p := range samplePermutations() {
		for _, k := range exponents {
			got, code := impl.PowerPermutation(p, k)
			expectList(t, "the power "+strconv.FormatInt(k, 10), got, code, doTimes(p, k), impl.ErrNone)
			got, code = impl.PowerPermutation(p, -k)
			expectList(t, "the power "+strconv.FormatInt(-k, 10), got, code, doTimes(undo(p), k), impl.ErrNone)
		}
	}
	got, code := impl.PowerPermutation(withCycles(7), 1000000000)
	expectList(t, "the greatest power", got, code, []int64{6, 0, 1, 2, 3, 4, 5}, impl.ErrNone)
	got, code = impl.PowerPermutation(withCycles(7), -1000000000)
	expectList(t, "the least power", got, code, []int64{1, 2, 3, 4, 5, 6, 0}, impl.ErrNone)
}

func TestPowerPermutationErrors(t *testing.T) {
	for _, k := range []int64{1000000001, -1000000001, math.MaxInt64, math.MinInt64, 1 << 32, -1 << 32} {
		for _, p := range [][]int64{nil, {0}, {1, 2, 0}, identity(400)} {
			got, code := impl.PowerPermutation(p, k)
			expectList(t, "an exponent out of range", got, code, nil, impl.ErrRange)
		}
		for _, p := range brokenPermutations() {
			got, code := impl.PowerPermutation(p, k)
			expectList(t, "no permutation, exponent out of range", got, code, nil, impl.ErrInvalid)
		}
	}
	for _, p := range brokenPermutations() {
		got, code := impl.PowerPermutation(p, 0)
		expectList(t, "no permutation", got, code, nil, impl.ErrInvalid)
	}
}

func TestPermutationOrder(t *testing.T) {
	got, code := impl.PermutationOrder([]int64{1, 0, 3, 4, 2})
	expect(t, "the example", got, code, 6, impl.ErrNone)
	for n := range 7 {
		for _, p := range allPermutations(n) {
			want := int64(1)
			for q := p; !slices.Equal(q, identity(n)); q = doBoth(q, p) {
				want++
			}
			got, code := impl.PermutationOrder(p)
			expect(t, "the order", got, code, want, impl.ErrNone)
		}
	}
	got, code = impl.PermutationOrder(nil)
	expect(t, "no points", got, code, 1, impl.ErrNone)
	got, code = impl.PermutationOrder(identity(400))
	expect(t, "the identity of 400 points", got, code, 1, impl.ErrNone)
	got, code = impl.PermutationOrder(withCycles(400))
	expect(t, "a cycle of 400 points", got, code, 400, impl.ErrNone)
	got, code = impl.PermutationOrder(withCycles(4, 6, 6, 9, 10, 1))
	expect(t, "cycles with common divisors", got, code, 180, impl.ErrNone)
	for _, p := range brokenPermutations() {
		got, code := impl.PermutationOrder(p)
		expect(t, "no permutation", got, code, 0, impl.ErrInvalid)
	}
}

// The orders nearest to MaxOrder that permutations of at most 400 points have are those of the
// first two cases. The last ones exceed an int64.
func TestPermutationOrderAtItsLimit(t *testing.T) {
	cases := []struct {
		lengths []int
		order   int64
		code    int64
	}{
		{[]int{127, 67, 53, 41, 23, 19, 17, 13, 7, 5, 16}, 999999971537840, impl.ErrNone},
		{[]int{83, 71, 53, 43, 29, 19, 13, 11, 7, 5, 27}, 0, impl.ErrLimit},
		{[]int{16, 5, 7, 13, 17, 19, 23, 41, 53, 67, 127, 2, 4, 1}, 999999971537840, impl.ErrNone},
		{[]int{2, 3, 5, 7, 11, 13, 17, 19, 23, 29, 31, 37, 41, 43, 47}, 0, impl.ErrLimit},
		{[]int{2, 3, 5, 7, 11, 13, 17, 19, 23, 29, 31, 37, 41, 43, 47, 53}, 0, impl.ErrLimit},
		{[]int{53, 47, 43, 41, 37, 31, 29, 23, 19, 17, 13, 11, 7, 5, 3, 2}, 0, impl.ErrLimit},
	}
	for _, c := range cases {
		got, code := impl.PermutationOrder(withCycles(c.lengths...))
		expect(t, "the order near the limit", got, code, c.order, c.code)
	}
}

func TestOrdersAreLeastExponents(t *testing.T) {
	for _, p := range [][]int64{withCycles(3, 4, 5, 7), withCycles(8, 125), withCycles(2, 2, 1, 6), withCycles(1, 1, 1)} {
		order, code := impl.PermutationOrder(p)
		if code != impl.ErrNone {
			t.Fatalf("code %d", code)
		}
		for k := int64(1); k <= order; k++ {
			power, code := impl.PowerPermutation(p, k)
			if code != impl.ErrNone || slices.Equal(power, identity(len(p))) != (k == order) {
				t.Errorf("order %d, but the power %d is %v", order, k, power)
			}
		}
	}
}

func TestCycleLengths(t *testing.T) {
	got, code := impl.CycleLengths([]int64{1, 0, 3, 4, 2, 5})
	expectList(t, "cycles of 2, 3 and 1", got, code, []int64{1, 2, 3}, impl.ErrNone)
	got, code = impl.CycleLengths(withCycles(5, 1, 4, 1, 5))
	expectList(t, "equal cycles", got, code, []int64{1, 1, 4, 5, 5}, impl.ErrNone)
	got, code = impl.CycleLengths(nil)
	expectList(t, "no points", got, code, nil, impl.ErrNone)
	got, code = impl.CycleLengths(withCycles(400))
	expectList(t, "one cycle", got, code, []int64{400}, impl.ErrNone)
	for _, p := range samplePermutations() {
		got, code := impl.CycleLengths(p)
		expectList(t, "the lengths", got, code, lengthsOf(p), impl.ErrNone)
	}
	for _, p := range brokenPermutations() {
		got, code := impl.CycleLengths(p)
		expectList(t, "no permutation", got, code, nil, impl.ErrInvalid)
	}
}

func TestConjugatePermutation(t *testing.T) {
	got, code := impl.ConjugatePermutation([]int64{1, 0, 2}, []int64{1, 2, 0})
	expectList(t, "a transposition", got, code, []int64{0, 2, 1}, impl.ErrNone)
	for _, p := range allPermutations(4) {
		for _, q := range allPermutations(4) {
			got, code := impl.ConjugatePermutation(p, q)
			expectList(t, "a conjugate", got, code, doBoth(doBoth(undo(q), p), q), impl.ErrNone)
		}
	}
	p, q := shuffled(400, 3), shuffled(400, 4)
	got, code = impl.ConjugatePermutation(p, q)
	expectList(t, "400 points", got, code, doBoth(doBoth(undo(q), p), q), impl.ErrNone)
	got, code = impl.ConjugatePermutation(nil, nil)
	expectList(t, "no points", got, code, nil, impl.ErrNone)
}

func TestIsFreeInvolution(t *testing.T) {
	for _, p := range samplePermutations() {
		want := slices.Equal(doBoth(p, p), identity(len(p)))
		for i := range p {
			want = want && p[i] != int64(i)
		}
		if impl.IsFreeInvolution(p) != want {
			t.Errorf("IsFreeInvolution(%v) = %v", p, !want)
		}
	}
	for _, p := range brokenPermutations() {
		if impl.IsFreeInvolution(p) {
			t.Errorf("%v is no permutation", p)
		}
	}
	if !impl.IsFreeInvolution(nil) {
		t.Errorf("without points no point is led to itself")
	}
	for _, p := range [][]int64{withCycles(2, 1), withCycles(2, 2, 3), withCycles(4), withCycles(2, 4), append(withCycles(2), 3, 3)} {
		if impl.IsFreeInvolution(p) {
			t.Errorf("%v is no free involution", p)
		}
	}
	if pairs := withCycles(slices.Repeat([]int{2}, 201)...); impl.IsFreeInvolution(pairs) {
		t.Errorf("402 points are no permutation")
	}
}
