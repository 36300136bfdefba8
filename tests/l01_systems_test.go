package tests

import (
	"math"
	"slices"
	"strconv"
	"testing"

	"loop.example/g01108/impl"
)

// badSystem is a list that is not a system on so many points.
type badSystem struct {
	points int64
	list   [][]int64
}

// badSystems are lists with numbers of points of which they are no systems.
func badSystems() []badSystem {
	bad := []badSystem{
		{-1, nil},
		{-1, [][]int64{{}}},
		{401, nil},
		{401, [][]int64{identity(401)}},
		{math.MaxInt64, nil},
		{math.MinInt64, nil},
		{1 << 32, [][]int64{{}}},
		{0, [][]int64{{0}}},
		{2, [][]int64{{}}},
		{2, [][]int64{{1, 0, 2}}},
		{3, [][]int64{{1, 0, 2}, {1, 0}}},
		{400, [][]int64{identity(399)}},
		{399, [][]int64{identity(400)}},
		{0, slices.Repeat([][]int64{{}}, 17)},
		{3, slices.Repeat([][]int64{{1, 2, 0}}, 17)},
		{3, slices.Repeat([][]int64{{1, 2, 0}}, 1000)},
	}
	for _, p := range brokenPermutations() {
		n := len(p)
		bad = append(bad, badSystem{int64(n), [][]int64{p}}, badSystem{int64(n), [][]int64{identity(n), identity(n), p}})
	}
	return bad
}

// goodSystem is a system on so many points.
type goodSystem struct {
	points int64
	list   [][]int64
}

// goodSystems are systems of many kinds, the greatest among them.
func goodSystems() []goodSystem {
	good := []goodSystem{
		{0, nil},
		{0, slices.Repeat([][]int64{{}}, 16)},
		{1, nil},
		{1, [][]int64{{0}}},
		{5, nil},
		{4, [][]int64{{1, 0, 2, 3}}},
		{4, [][]int64{{0, 3, 2, 1}, {2, 1, 0, 3}}},
		{6, [][]int64{{5, 1, 2, 3, 4, 0}, {0, 2, 1, 3, 4, 5}, {0, 1, 2, 4, 3, 5}}},
		{400, nil},
		{400, [][]int64{identity(400)}},
		{400, [][]int64{withCycles(400)}},
		{400, [][]int64{withCycles(slices.Repeat([]int{8}, 50)...), doTimes(withCycles(400), 50)}},
		{16, slices.Repeat([][]int64{withCycles(3, 1, 5, 7)}, 16)},
	}
	for n := range 5 {
		for _, p := range allPermutations(n) {
			good = append(good, goodSystem{int64(n), [][]int64{p}})
		}
	}
	for seed := range int64(40) {
		p := withCycles(1, 2, 1, 3, 2, 4, 1, 1)
		q := shuffled(15, seed)
		q = doBoth(doBoth(undo(q), withCycles(2, 2, 1, 1, 1, 1, 1, 1, 1, 1, 1, 1, 1)), q)
		good = append(good, goodSystem{15, [][]int64{p, q}})
	}
	return good
}

// orbitsByMerging returns the numbers of the orbits of the points: each permutation merges a point
// with its image, until nothing changes.
func orbitsByMerging(n int64, list [][]int64) []int64 {
	least := identity(int(n))
	for changed := true; changed; {
		changed = false
		for _, p := range list {
			for i, k := range p {
				if low := min(least[i], least[k]); least[i] != least[k] {
					least[i], least[k], changed = low, low, true
				}
			}
		}
	}
	starts := slices.Compact(slices.Sorted(slices.Values(least)))
	var labels []int64
	for _, point := range least {
		labels = append(labels, int64(slices.Index(starts, point)))
	}
	return labels
}

func TestOrbitLabels(t *testing.T) {
	got, code := impl.OrbitLabels(4, [][]int64{{1, 0, 2, 3}})
	expectList(t, "the example", got, code, []int64{0, 0, 1, 2}, impl.ErrNone)
	got, code = impl.OrbitLabels(6, [][]int64{{5, 1, 2, 3, 4, 0}, {0, 2, 1, 3, 4, 5}})
	expectList(t, "orbits that interleave", got, code, []int64{0, 1, 1, 2, 3, 0}, impl.ErrNone)
	got, code = impl.OrbitLabels(5, nil)
	expectList(t, "no permutations", got, code, identity(5), impl.ErrNone)
	got, code = impl.OrbitLabels(0, nil)
	expectList(t, "no points", got, code, nil, impl.ErrNone)
	got, code = impl.OrbitLabels(400, [][]int64{withCycles(400)})
	expectList(t, "one orbit", got, code, make([]int64, 400), impl.ErrNone)
	for _, s := range goodSystems() {
		got, code := impl.OrbitLabels(s.points, s.list)
		expectList(t, "the labels", got, code, orbitsByMerging(s.points, s.list), impl.ErrNone)
	}
	for _, s := range badSystems() {
		got, code := impl.OrbitLabels(s.points, s.list)
		expectList(t, "no system", got, code, nil, impl.ErrInvalid)
	}
}

func TestOrbitOf(t *testing.T) {
	got, code := impl.OrbitOf(4, [][]int64{{1, 0, 2, 3}}, 1)
	expectList(t, "a pair", got, code, []int64{0, 1}, impl.ErrNone)
	got, code = impl.OrbitOf(4, [][]int64{{1, 0, 2, 3}}, 3)
	expectList(t, "a fixed point", got, code, []int64{3}, impl.ErrNone)
	got, code = impl.OrbitOf(5, [][]int64{{3, 1, 2, 4, 0}}, 4)
	expectList(t, "a cycle", got, code, []int64{0, 3, 4}, impl.ErrNone)
	for _, s := range goodSystems() {
		labels := orbitsByMerging(s.points, s.list)
		for point := range s.points {
			var want []int64
			for other, label := range labels {
				if label == labels[point] {
					want = append(want, int64(other))
				}
			}
			got, code := impl.OrbitOf(s.points, s.list, point)
			expectList(t, "the orbit", got, code, want, impl.ErrNone)
		}
	}
}

func TestOrbitOfErrors(t *testing.T) {
	for _, s := range goodSystems() {
		for _, point := range []int64{-1, s.points, s.points + 1, math.MinInt64, math.MaxInt64} {
			got, code := impl.OrbitOf(s.points, s.list, point)
			expectList(t, "no point", got, code, nil, impl.ErrRange)
		}
	}
	for _, s := range badSystems() {
		for _, point := range []int64{0, -1, s.points} {
			got, code := impl.OrbitOf(s.points, s.list, point)
			expectList(t, "no system", got, code, nil, impl.ErrInvalid)
		}
	}
}

func TestApplyWord(t *testing.T) {
	list := [][]int64{{1, 2, 0}, {1, 0, 2}}
	cases := []struct {
		word  []int64
		point int64
		want  int64
	}{
		{[]int64{0, 1, 0}, 0, 1},
		{[]int64{0, 1}, 0, 0},
		{[]int64{1, 0}, 0, 2},
		{[]int64{0, 1}, 1, 2},
		{[]int64{0}, 2, 0},
		{nil, 2, 2},
		{slices.Repeat([]int64{0}, 64), 0, 1},
		{slices.Repeat([]int64{0, 1}, 32), 1, 1},
		{slices.Repeat([]int64{1, 1, 0, 0}, 16), 0, 2},
	}
	for _, c := range cases {
		got, code := impl.ApplyWord(3, list, c.word, c.point)
		expect(t, "ApplyWord", got, code, c.want, impl.ErrNone)
	}
	got, code := impl.ApplyWord(5, nil, nil, 4)
	expect(t, "no permutations", got, code, 4, impl.ErrNone)
	generators := [][]int64{}
	for seed := range int64(16) {
		generators = append(generators, shuffled(400, seed))
	}
	want := int64(399)
	for _, p := range generators {
		want = p[want]
	}
	got, code = impl.ApplyWord(400, generators, identity(16), 399)
	expect(t, "the greatest system", got, code, want, impl.ErrNone)
}

func TestApplyWordIsDoingThePermutations(t *testing.T) {
	list := [][]int64{shuffled(40, 1), shuffled(40, 2), shuffled(40, 3)}
	word := []int64{2, 0, 0, 1, 2, 1, 1, 0, 2}
	product := identity(40)
	for _, index := range word {
		next, code := impl.ThenPermutation(product, list[index])
		if code != impl.ErrNone {
			t.Fatalf("code %d", code)
		}
		product = next
	}
	for point := range int64(40) {
		got, code := impl.ApplyWord(40, list, word, point)
		expect(t, "a word", got, code, product[point], impl.ErrNone)
	}
}

func TestApplyWordErrors(t *testing.T) {
	list := [][]int64{{1, 2, 0}, {1, 0, 2}}
	words := [][]int64{
		{2},
		{-1},
		{0, 1, 2},
		{math.MaxInt64},
		{math.MinInt64},
		{1 << 32},
		make([]int64, 65),
		make([]int64, 1000),
		append(make([]int64, 63), 2),
		append(make([]int64, 64), 2),
	}
	for _, word := range words {
		got, code := impl.ApplyWord(3, list, word, 0)
		expect(t, "no word", got, code, 0, impl.ErrRange)
	}
	for _, point := range []int64{-1, 3, 4, math.MaxInt64, math.MinInt64} {
		got, code := impl.ApplyWord(3, list, nil, point)
		expect(t, "no point", got, code, 0, impl.ErrRange)
		got, code = impl.ApplyWord(3, list, []int64{0, 2}, point)
		expect(t, "neither a point nor a word", got, code, 0, impl.ErrRange)
	}
	got, code := impl.ApplyWord(3, nil, []int64{0}, 1)
	expect(t, "a word of no permutations", got, code, 0, impl.ErrRange)
	got, code = impl.ApplyWord(0, nil, nil, 0)
	expect(t, "no points", got, code, 0, impl.ErrRange)
	for _, s := range badSystems() {
		for _, word := range words {
			got, code := impl.ApplyWord(s.points, s.list, word, -1)
			expect(t, "no system, point or word", got, code, 0, impl.ErrInvalid)
		}
		got, code := impl.ApplyWord(s.points, s.list, nil, 0)
		expect(t, "no system", got, code, 0, impl.ErrInvalid)
	}
}

// elementsByClosing returns the permutations of the group in lexicographic order, or nil if there
// are more than 1000: products with the generators are added until none is new.
func elementsByClosing(n int64, list [][]int64) [][]int64 {
	elements := [][]int64{identity(int(n))}
	for i := 0; i < len(elements) && len(elements) <= 1000; i++ {
		for _, p := range list {
			product := doBoth(elements[i], p)
			isProduct := func(element []int64) bool { return slices.Equal(element, product) }
			if !slices.ContainsFunc(elements, isProduct) {
				elements = append(elements, product)
			}
		}
	}
	if len(elements) > 1000 {
		return nil
	}
	slices.SortFunc(elements, slices.Compare[[]int64])
	return elements
}

func TestGroupElements(t *testing.T) {
	got, code := impl.GroupElements(3, [][]int64{{1, 2, 0}})
	expectLists(t, "the example", got, code, [][]int64{{0, 1, 2}, {1, 2, 0}, {2, 0, 1}}, impl.ErrNone)
	got, code = impl.GroupElements(0, nil)
	expectLists(t, "no points", got, code, [][]int64{{}}, impl.ErrNone)
	got, code = impl.GroupElements(0, [][]int64{{}, {}})
	expectLists(t, "permutations of no points", got, code, [][]int64{{}}, impl.ErrNone)
	got, code = impl.GroupElements(400, nil)
	expectLists(t, "no permutations", got, code, [][]int64{identity(400)}, impl.ErrNone)
	got, code = impl.GroupElements(3, [][]int64{identity(3)})
	expectLists(t, "the identity", got, code, [][]int64{identity(3)}, impl.ErrNone)
	far := slices.Concat(identity(400)[256:], identity(256)[144:], identity(144))
	got, code = impl.GroupElements(400, [][]int64{far})
	expectLists(t, "points that differ by 256", got, code, [][]int64{identity(400), far}, impl.ErrNone)
	for n := 2; n < 7; n++ {
		exchange := append([]int64{1, 0}, identity(n)[2:]...)
		got, code := impl.GroupElements(int64(n), [][]int64{withCycles(n), exchange})
		expectLists(t, "all permutations", got, code, allPermutations(n), impl.ErrNone)
	}
	for _, s := range goodSystems() {
		want, wantCode := elementsByClosing(s.points, s.list), int64(impl.ErrNone)
		if want == nil {
			wantCode = impl.ErrLimit
		}
		got, code := impl.GroupElements(s.points, s.list)
		expectLists(t, "a group", got, code, want, wantCode)
	}
	for _, s := range badSystems() {
		got, code := impl.GroupElements(s.points, s.list)
		expectLists(t, "no system", got, code, nil, impl.ErrInvalid)
	}
}

// separately returns permutations of n points, each with one cycle of the given length, no two of
// which move the same point.
func separately(n int, length int, count int) [][]int64 {
	var list [][]int64
	for i := range count {
		before, after := slices.Repeat([]int{1}, i*length), slices.Repeat([]int{1}, n-(i+1)*length)
		list = append(list, withCycles(slices.Concat(before, []int{length}, after)...))
	}
	return list
}

func TestGroupElementsAtItsLimit(t *testing.T) {
	cases := []struct {
		name  string
		list  [][]int64
		count int
		code  int64
	}{
		{"999 elements", [][]int64{withCycles(27, 37)}, 999, impl.ErrNone},
		{"1000 elements of one permutation", [][]int64{withCycles(8, 125)}, 1000, impl.ErrNone},
		{"1000 elements of three permutations of 400 points", separately(400, 10, 3), 1000, impl.ErrNone},
		{"1001 elements", [][]int64{withCycles(7, 11, 13)}, 0, impl.ErrLimit},
		{"2000 elements of 400 points", [][]int64{withCycles(8, 125, 250, 16, 1)}, 0, impl.ErrLimit},
		{"512 elements", separately(400, 2, 9), 512, impl.ErrNone},
		{"1024 elements", separately(400, 2, 10), 0, impl.ErrLimit},
		{"65536 elements", separately(32, 2, 16), 0, impl.ErrLimit},
		{"5040 elements", [][]int64{withCycles(7), withCycles(2, 1, 1, 1, 1, 1)}, 0, impl.ErrLimit},
		{"all permutations of 400 points", append(separately(400, 2, 1), withCycles(400)), 0, impl.ErrLimit},
	}
	for _, c := range cases {
		got, code := impl.GroupElements(int64(len(c.list[0])), c.list)
		if code != c.code || len(got) != c.count {
			t.Errorf("%s: %d elements, code %d", c.name, len(got), code)
		}
		if !slices.IsSortedFunc(got, slices.Compare[[]int64]) {
			t.Errorf("%s: the elements are not in lexicographic order", c.name)
		}
		if len(slices.CompactFunc(cloneLists(got), slices.Equal[[]int64])) != c.count {
			t.Errorf("%s: an element stands twice", c.name)
		}
	}
}

func TestOrbitsAreThoseOfTheGroup(t *testing.T) {
	groups := 0
	for _, s := range goodSystems() {
		elements, code := impl.GroupElements(s.points, s.list)
		if code != impl.ErrNone {
			continue
		}
		groups++
		labels, code := impl.OrbitLabels(s.points, s.list)
		if code != impl.ErrNone {
			t.Fatalf("code %d", code)
		}
		for point := range s.points {
			var images []int64
			for _, p := range elements {
				images = append(images, p[point])
			}
			slices.Sort(images)
			orbit, code := impl.OrbitOf(s.points, s.list, point)
			expectList(t, "the images of the point "+strconv.FormatInt(point, 10), orbit, code, slices.Compact(images), impl.ErrNone)
			for _, image := range orbit {
				if labels[image] != labels[point] {
					t.Errorf("the points %d and %d of one orbit have the labels %v", point, image, labels)
				}
			}
		}
	}
	if groups < 50 {
		t.Errorf("only %d groups were small enough", groups)
	}
}
