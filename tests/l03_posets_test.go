package tests

import (
	"math"
	"slices"
	"testing"

	"loop.example/g01108/impl"
)

// expectPoset fails the test if a poset or a code is not the wanted one. Beside an error the wanted
// poset is the zero value.
func expectPoset(t *testing.T, what string, got impl.Poset, code int64, want impl.Poset, wantCode int64) {
	t.Helper()
	if got.Rank != want.Rank || !slices.Equal(got.Ranks, want.Ranks) || !equalLists(got.Below, want.Below) || code != wantCode {
		t.Errorf("%s = %v, %d; want %v, %d", what, got, code, want, wantCode)
	}
}

// expectIsPoset fails the test if IsPoset does not tell what the definition says.
func expectIsPoset(t *testing.T, p impl.Poset) {
	t.Helper()
	if got, want := impl.IsPoset(p), isPoset(p); got != want {
		t.Errorf("IsPoset(%v) = %v", p, got)
	}
}

// subsets returns the strictly increasing lists of the numbers 0..n - 1.
func subsets(n int64) [][]int64 {
	lists := [][]int64{{}}
	for number := range n {
		for _, list := range slices.Clone(lists) {
			lists = append(lists, append(slices.Clone(list), number))
		}
	}
	return lists
}

// choices calls a function with each list of lists that has, at each index, one of the lists that are
// given for this index. The function must not keep the list.
func choices(options [][][]int64, use func(lists [][]int64)) {
	chosen := make([][]int64, len(options))
	var choose func(index int)
	choose = func(index int) {
		if index == len(options) {
			use(chosen)
			return
		}
		for _, list := range options[index] {
			chosen[index] = list
			choose(index + 1)
		}
	}
	choose(0)
}

// shortPosets calls a function with all posets with the given ranks, and with all that would be ones
// if their lists below had all that they must have.
func shortPosets(rank int64, ranks []int64, use func(p impl.Poset)) {
	var options [][][]int64
	for _, upper := range ranks {
		lower, _ := slices.BinarySearch(ranks, upper)
		options = append(options, subsets(int64(lower)))
	}
	choices(options, func(below [][]int64) { use(impl.Poset{Rank: rank, Ranks: ranks, Below: below}) })
}

func TestLimitOfPosets(t *testing.T) {
	if impl.MaxFaces != 500 {
		t.Errorf("the limit is %d", impl.MaxFaces)
	}
}

func TestIsPoset(t *testing.T) {
	for _, p := range slices.Concat(smallPosets(), bigPosets(), polytopes()) {
		if !impl.IsPoset(p) || !isPoset(p) {
			t.Errorf("%v is a poset", p)
		}
	}
	for what, p := range brokenPosets() {
		if impl.IsPoset(p) || isPoset(p) {
			t.Errorf("%s: %v is no poset", what, p)
		}
	}
}

func TestIsPosetOfAllShortLists(t *testing.T) {
	for n := range 4 {
		for rank := range int64(4) {
			for _, ranks := range allWords(4, n) {
				options := slices.Repeat([][][]int64{subsets(int64(n))}, n)
				choices(options, func(below [][]int64) { expectIsPoset(t, impl.Poset{Rank: rank, Ranks: ranks, Below: below}) })
			}
		}
		for length := range 4 {
			for _, list := range allWords(n+1, length) {
				below := append(make([][]int64, n), list)
				expectIsPoset(t, impl.Poset{Rank: 2, Ranks: append(make([]int64, n), 1), Below: below})
				expectIsPoset(t, impl.Poset{Rank: 2, Ranks: make([]int64, n+1), Below: below})
			}
		}
	}
	for _, ranks := range [][]int64{{0, 1, 2, 3}, {0, 0, 1, 2, 2}, {0, 1, 2, 3, 4}, {0, 1, 1, 2, 4}} {
		shortPosets(5, ranks, func(p impl.Poset) { expectIsPoset(t, p) })
	}
}

func TestIsPosetOfOneChange(t *testing.T) {
	for _, p := range []impl.Poset{facesOf(triangle), facesOf(simplex(3)), facesOf(cubes(4)), spindle(2), stacked(points(2), points(1), points(3))} {
		n := int64(len(p.Ranks))
		for _, number := range []int64{-1, 0, 1, 2, 3, 5, 6, n - 1, n, math.MaxInt64, math.MinInt64} {
			expectIsPoset(t, impl.Poset{Rank: number, Ranks: p.Ranks, Below: p.Below})
			for e := range n {
				ranks := slices.Clone(p.Ranks)
				ranks[e] = number
				expectIsPoset(t, impl.Poset{Rank: p.Rank, Ranks: ranks, Below: p.Below})
				below := cloneLists(p.Below)
				below[e] = append(below[e], number)
				expectIsPoset(t, impl.Poset{Rank: p.Rank, Ranks: p.Ranks, Below: below})
				for k := range p.Below[e] {
					below := cloneLists(p.Below)
					below[e][k] = number
					expectIsPoset(t, impl.Poset{Rank: p.Rank, Ranks: p.Ranks, Below: below})
				}
			}
		}
		for e := range p.Below {
			for k := range p.Below[e] {
				below := cloneLists(p.Below)
				below[e] = slices.Delete(below[e], k, k+1)
				expectIsPoset(t, impl.Poset{Rank: p.Rank, Ranks: p.Ranks, Below: below})
			}
		}
		expectIsPoset(t, impl.Poset{Rank: p.Rank, Ranks: p.Ranks[1:], Below: p.Below})
		expectIsPoset(t, impl.Poset{Rank: p.Rank, Ranks: p.Ranks, Below: p.Below[:n-1]})
		expectIsPoset(t, impl.Poset{Rank: p.Rank, Ranks: p.Ranks, Below: append(cloneLists(p.Below), nil)})
	}
}

func TestFacePoset(t *testing.T) {
	cases := []struct {
		m    impl.Maniplex
		want impl.Poset
	}{
		{edge, impl.Poset{Rank: 1, Ranks: []int64{0, 0}, Below: [][]int64{{}, {}}}},
		{triangle, impl.Poset{Rank: 2, Ranks: []int64{0, 0, 0, 1, 1, 1}, Below: [][]int64{{}, {}, {}, {0, 1}, {1, 2}, {0, 2}}}},
		{cell, impl.Poset{Rank: 3, Ranks: []int64{0, 0, 1, 1, 2, 2}, Below: [][]int64{{}, {}, {0, 1}, {0, 1}, {0, 1, 2, 3}, {0, 1, 2, 3}}}},
		{plane, impl.Poset{Rank: 3, Ranks: []int64{0, 1, 2}, Below: [][]int64{{}, {0}, {0, 1}}}},
		{polygon(1), impl.Poset{Rank: 2, Ranks: []int64{0, 1}, Below: [][]int64{{}, {0}}}},
		{cubes(5), stacked(points(2), points(2), points(2), points(2), points(2))},
		{halfTurned(), stacked(points(2), points(2), points(2), points(2))},
		{diagonal(), stacked(points(2), points(4), points(2))},
		{beside(edge, plane), stacked(points(2), points(1), points(1), points(1))},
	}
	for _, c := range cases {
		got, code := impl.FacePoset(c.m)
		expectPoset(t, "FacePoset", got, code, c.want, impl.ErrNone)
	}
	for _, m := range slices.Concat(sampleManiplexes(), polytopalManiplexes()) {
		got, code := impl.FacePoset(m)
		expectPoset(t, "FacePoset", got, code, facesOf(m), impl.ErrNone)
		if !isPoset(got) {
			t.Errorf("the face poset of %v is %v", m, got)
		}
	}
	for what, m := range brokenManiplexes() {
		got, code := impl.FacePoset(m)
		expectPoset(t, what, got, code, impl.Poset{}, impl.ErrInvalid)
	}
}

// A maniplex within its limits has no more than MaxFaces faces: in rank 3 a vertex or a face has at
// least 2 flags and an edge 4, and in greater ranks each face has at least 4.
func TestFacePosetsAreWithinTheLimit(t *testing.T) {
	most := 0
	for _, m := range append(sampleManiplexes(), polygon(200), beside(cubes(3), polygon(25)), beside(polygon(50), edge), beside(polygon(25), cubes(3))) {
		got, code := impl.FacePoset(m)
		if code != impl.ErrNone || len(got.Ranks) > 500 {
			t.Errorf("the face poset has %d elements, code %d", len(got.Ranks), code)
		}
		for i := range m.Moves {
			labels := labelsWithout(m.Moves, i)
			sizes := make([]int64, len(labels))
			for _, label := range labels {
				sizes[label]++
			}
			least := slices.Min(sizes[:slices.Max(labels)+1])
			if least < 2 && len(m.Moves) > 1 || least < 4 && len(m.Moves) > 2 && (i == 1 || len(m.Moves) > 3) {
				t.Errorf("a face of rank %d of %v has %d flags", i, m, least)
			}
		}
		most = max(most, len(got.Ranks))
	}
	if most != 400 {
		t.Errorf("the greatest face poset has %d elements", most)
	}
}

func TestFacesAreTheElementsOfTheFacePoset(t *testing.T) {
	for _, m := range smallManiplexes() {
		p, code := impl.FacePoset(m)
		if code != impl.ErrNone {
			t.Fatalf("code %d", code)
		}
		counts, code := impl.FaceCounts(m)
		elements, elementsCode := impl.ElementCounts(p)
		expectList(t, "FaceCounts", counts, code, elements, elementsCode)
		chains := make([][]int64, len(m.Moves[0]))
		first := int64(0)
		for i := range m.Moves {
			labels, code := impl.FaceLabels(m, int64(i))
			if code != impl.ErrNone {
				t.Fatalf("code %d", code)
			}
			for flag, label := range labels {
				chains[flag] = append(chains[flag], first+label)
			}
			first += counts[i]
		}
		for e := range int64(len(p.Ranks)) {
			for d := range e {
				both := slices.ContainsFunc(chains, func(chain []int64) bool { return slices.Contains(chain, d) && slices.Contains(chain, e) })
				if isAt(p, d, e) != both {
					t.Errorf("the faces %d and %d of %v have a flag: %v", d, e, m, both)
				}
			}
		}
	}
}

func TestElementCounts(t *testing.T) {
	cases := []struct {
		p    impl.Poset
		want []int64
	}{
		{impl.Poset{Rank: 1}, []int64{0}},
		{impl.Poset{Rank: 5}, []int64{0, 0, 0, 0, 0}},
		{points(1), []int64{1}},
		{points(401), []int64{401}},
		{points(500), []int64{500}},
		{facesOf(triangle), []int64{3, 3}},
		{facesOf(simplex(4)), []int64{5, 10, 10, 5}},
		{posetOf(5, []int64{1, 1, 4}, func(int64, int64) bool { return true }), []int64{0, 2, 0, 0, 1}},
		{stacked(points(100), points(100), points(100), points(100), points(100)), []int64{100, 100, 100, 100, 100}},
	}
	for _, c := range cases {
		got, code := impl.ElementCounts(c.p)
		expectList(t, "ElementCounts", got, code, c.want, impl.ErrNone)
	}
	for _, p := range slices.Concat(smallPosets(), bigPosets()) {
		want := make([]int64, p.Rank)
		for i := range want {
			want[i] = int64(len(slices.DeleteFunc(slices.Clone(p.Ranks), func(rank int64) bool { return rank != int64(i) })))
		}
		got, code := impl.ElementCounts(p)
		expectList(t, "ElementCounts", got, code, want, impl.ErrNone)
	}
	for what, p := range brokenPosets() {
		got, code := impl.ElementCounts(p)
		expectList(t, what, got, code, nil, impl.ErrInvalid)
	}
}

func TestOppositePoset(t *testing.T) {
	cases := []struct{ p, want impl.Poset }{
		{impl.Poset{Rank: 4}, impl.Poset{Rank: 4}},
		{points(1), points(1)},
		{points(3), points(3)},
		{posetOf(3, []int64{0, 1, 1}, func(int64, int64) bool { return true }), posetOf(3, []int64{1, 1, 2}, func(int64, int64) bool { return true })},
		{facesOf(triangle), impl.Poset{Rank: 2, Ranks: []int64{0, 0, 0, 1, 1, 1}, Below: [][]int64{{}, {}, {}, {0, 1}, {1, 2}, {0, 2}}}},
		{impl.Poset{Rank: 2, Ranks: []int64{0, 0, 1}, Below: [][]int64{{}, {}, {0}}}, impl.Poset{Rank: 2, Ranks: []int64{0, 1, 1}, Below: [][]int64{{}, {}, {0}}}},
		{stacked(points(1), points(2), points(3)), stacked(points(3), points(2), points(1))},
		{stacked(points(100), points(401-1)), stacked(points(400), points(100))},
	}
	for _, c := range cases {
		got, code := impl.OppositePoset(c.p)
		expectPoset(t, "OppositePoset", got, code, c.want, impl.ErrNone)
	}
	for _, p := range slices.Concat(smallPosets(), bigPosets(), polytopes()) {
		got, code := impl.OppositePoset(p)
		expectPoset(t, "OppositePoset", got, code, upsideDown(p), impl.ErrNone)
		if !isPoset(got) {
			t.Errorf("the opposite of %v is %v", p, got)
		}
		got, code = impl.OppositePoset(got)
		expectPoset(t, "the opposite of the opposite", got, code, p, impl.ErrNone)
	}
	for what, p := range brokenPosets() {
		got, code := impl.OppositePoset(p)
		expectPoset(t, what, got, code, impl.Poset{}, impl.ErrInvalid)
	}
}

// haveGreatest reports whether of any two elements those that are below or equal to both, if there
// are any, have a greatest one, where a function tells what is below what.
func haveGreatest(n int64, isBelow func(d int64, e int64) bool) bool {
	atMost := func(d int64, e int64) bool { return d == e || isBelow(d, e) }
	for a := range n {
		for b := range n {
			var common []int64
			for e := range n {
				if atMost(e, a) && atMost(e, b) {
					common = append(common, e)
				}
			}
			greatest := func(g int64) bool {
				return !slices.ContainsFunc(common, func(e int64) bool { return !atMost(e, g) })
			}
			if len(common) > 0 && !slices.ContainsFunc(common, greatest) {
				return false
			}
		}
	}
	return true
}

// isLattice reports whether p is a lattice, as the definition of IsLattice says it.
func isLattice(p impl.Poset) bool {
	n := int64(len(p.Ranks))
	below := func(d int64, e int64) bool { return isAt(p, d, e) }
	above := func(d int64, e int64) bool { return isAt(p, e, d) }
	return haveGreatest(n, below) && haveGreatest(n, above)
}

func TestIsLattice(t *testing.T) {
	one, two := points(1), points(2)
	cases := []struct {
		p    impl.Poset
		want bool
	}{
		{impl.Poset{Rank: 3}, true},
		{one, true},
		{points(500), true},
		{facesOf(triangle), true},
		{stacked(two, two), false},
		{stacked(two, one), true},
		{stacked(one, two), true},
		{stacked(two, one, two), true},
		{stacked(one, two, two, one), false},
		{stacked(one, two, one, two, one), true},
		{facesOf(polygon(200)), true},
		{facesOf(polygon(201)), true},
		{facesOf(polygon(250)), true},
		{facesOf(simplex(4)), true},
		{facesOf(grid(5, 10, false)), true},
		{facesOf(grid(3, 3, false)), true},
		{facesOf(grid(2, 5, false)), false},
		{stacked(points(250), points(250)), false},
		{spindle(4), false},
		// The three lower ones of two elements have one of rank 1 that is not above all of them.
		{posetOf(3, []int64{0, 0, 1, 2, 2}, func(d, e int64) bool { return e != 2 || d == 0 }), false},
		{posetOf(3, []int64{0, 0, 1, 2, 2}, func(d, e int64) bool { return true }), true},
		// What is wrong is only above, or only below.
		{posetOf(3, []int64{0, 0, 1, 2, 2}, func(d, e int64) bool { return e != 3 || d != 1 }), true},
		{posetOf(3, []int64{0, 0, 1, 1, 2}, func(d, e int64) bool { return e != 3 || d == 0 }), true},
		{posetOf(3, []int64{0, 0, 1, 2}, func(d, e int64) bool { return e == 3 || d == 0 }), true},
		{posetOf(2, []int64{0, 0, 1, 1}, func(d, e int64) bool { return d == 0 }), true},
	}
	for i, c := range cases {
		got, code := impl.IsLattice(c.p)
		if want := isLattice(c.p); len(c.p.Ranks) < 100 && want != c.want {
			t.Errorf("the case %d is a lattice: %v", i, want)
		}
		expect(t, "IsLattice", got, code, c.want, impl.ErrNone)
	}
	answers := map[bool]int{}
	for _, p := range smallPosets() {
		want := isLattice(p)
		answers[want]++
		got, code := impl.IsLattice(p)
		expect(t, "IsLattice", got, code, want, impl.ErrNone)
	}
	if answers[true] < 50 || answers[false] < 50 {
		t.Errorf("the samples are too much alike: %v", answers)
	}
	for what, p := range brokenPosets() {
		got, code := impl.IsLattice(p)
		expect(t, what, got, code, false, impl.ErrInvalid)
	}
}
