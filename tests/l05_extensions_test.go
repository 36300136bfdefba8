package tests

import (
	"slices"
	"testing"

	"loop.example/g01108/impl"
)

// flagsInPairs returns a maniplex with twice as many flags: each of its moves but the one with a given
// index does what the next move of m does, and that one exchanges both flags of each pair.
func flagsInPairs(m impl.Maniplex, within int) impl.Maniplex {
	moves := make([][]int64, len(m.Moves)+1)
	for i := range moves {
		for flag := range int64(2 * len(m.Moves[0])) {
			pair, place := flag/2, flag%2
			switch {
			case i == within:
				place = 1 - place
			case i < within:
				pair = m.Moves[i][pair]
			default:
				pair = m.Moves[i-1][pair]
			}
			moves[i] = append(moves[i], 2*pair+place)
		}
	}
	return impl.Maniplex{Moves: moves}
}

// extensions returns the wanted results of ExtendManiplex and ExtendInside, and the code of both.
func extensions(m impl.Maniplex) (impl.Maniplex, impl.Maniplex, int64) {
	switch {
	case len(m.Moves) == 5:
		return impl.Maniplex{}, impl.Maniplex{}, impl.ErrState
	case len(m.Moves[0]) > 200:
		return impl.Maniplex{}, impl.Maniplex{}, impl.ErrLimit
	}
	return flagsInPairs(m, len(m.Moves)), flagsInPairs(m, 0), impl.ErrNone
}

func TestExtensionsExamples(t *testing.T) {
	got, code := impl.ExtendManiplex(edge)
	expectManiplex(t, "the edge", got, code, impl.Maniplex{Moves: [][]int64{{2, 3, 0, 1}, {1, 0, 3, 2}}}, impl.ErrNone)
	got, code = impl.ExtendInside(edge)
	expectManiplex(t, "inside the edge", got, code, impl.Maniplex{Moves: [][]int64{{1, 0, 3, 2}, {2, 3, 0, 1}}}, impl.ErrNone)
	got, code = impl.ExtendManiplex(polygon(1))
	expectManiplex(t, "a 1-gon", got, code, impl.Maniplex{Moves: [][]int64{{2, 3, 0, 1}, {2, 3, 0, 1}, {1, 0, 3, 2}}}, impl.ErrNone)
	got, code = impl.ExtendInside(polygon(1))
	expectManiplex(t, "inside a 1-gon", got, code, impl.Maniplex{Moves: [][]int64{{1, 0, 3, 2}, {2, 3, 0, 1}, {2, 3, 0, 1}}}, impl.ErrNone)
	got, code = impl.ExtendManiplex(triangle)
	expectFaces(t, "the triangle", got, code, 3, 3, 2)
	got, code = impl.ExtendInside(triangle)
	expectFaces(t, "inside the triangle", got, code, 2, 3, 3)
	got, code = impl.ExtendManiplex(simplex(4))
	expectFaces(t, "the simplex of rank 4", got, code, 5, 10, 10, 5, 2)
	got, code = impl.ExtendInside(simplex(4))
	expectFaces(t, "inside the simplex of rank 4", got, code, 2, 5, 10, 10, 5)
}

func TestExtensions(t *testing.T) {
	codes := map[int64]int{}
	for _, m := range append(operationSamples(), greatManiplexes()...) {
		last, first, wantCode := extensions(m)
		codes[wantCode]++
		got, code := impl.ExtendManiplex(m)
		expectManiplex(t, "ExtendManiplex", got, code, last, wantCode)
		got, code = impl.ExtendInside(m)
		expectManiplex(t, "ExtendInside", got, code, first, wantCode)
		if wantCode != impl.ErrNone {
			continue
		}
		if !isManiplex(last) || !isManiplex(first) {
			t.Errorf("the extensions of %v are %v and %v", m, last, first)
		}
		counts, _ := impl.FaceCounts(m)
		expectFaces(t, "the extension", last, impl.ErrNone, append(slices.Clone(counts), 2)...)
		expectFaces(t, "the inner extension", first, impl.ErrNone, append([]int64{2}, counts...)...)
	}
	if len(codes) != 3 {
		t.Errorf("the samples show too little: %v", codes)
	}
}

func TestExtensionsAtTheirLimits(t *testing.T) {
	cases := []struct {
		what string
		m    impl.Maniplex
		want int64
	}{
		{"rank 4", cubes(4), impl.ErrNone},
		{"rank 4 and 120 flags", simplex(4), impl.ErrNone},
		{"rank 5", cubes(5), impl.ErrState},
		{"rank 5 and 4 flags", shifts(4, 1, 1, 2, 2, 3), impl.ErrState},
		{"rank 5 and 240 flags", beside(edge, simplex(4)), impl.ErrState},
		{"rank 5 and 400 flags", beside(cubes(3), polygon(25)), impl.ErrState},
		{"198 flags", polygon(99), impl.ErrNone},
		{"200 flags", polygon(100), impl.ErrNone},
		{"200 flags and rank 3", beside(edge, polygon(50)), impl.ErrNone},
		{"200 flags and rank 4", beside(beside(edge, edge), polygon(25)), impl.ErrNone},
		{"202 flags", polygon(101), impl.ErrLimit},
		{"204 flags and rank 3", beside(edge, polygon(51)), impl.ErrLimit},
		{"208 flags and rank 4", beside(beside(edge, edge), polygon(26)), impl.ErrLimit},
		{"400 flags", polygon(200), impl.ErrLimit},
		{"400 flags and rank 3", grid(5, 10, false), impl.ErrLimit},
		{"400 flags and rank 4", beside(polygon(10), polygon(10)), impl.ErrLimit},
	}
	for _, c := range cases {
		last, first, wantCode := extensions(c.m)
		if !isManiplex(c.m) || wantCode != c.want {
			t.Errorf("%s: the reference is wrong", c.what)
		}
		got, code := impl.ExtendManiplex(c.m)
		expectManiplex(t, c.what, got, code, last, c.want)
		got, code = impl.ExtendInside(c.m)
		expectManiplex(t, c.what, got, code, first, c.want)
	}
}

// stepsBack returns for each flag how many times the moves have to be done one after the other until
// they lead it to itself.
func stepsBack(m impl.Maniplex) []int64 {
	var lengths []int64
	all := identity(len(m.Moves))
	for start := range int64(len(m.Moves[0])) {
		length := int64(1)
		for flag := run(m, start, all); flag != start; flag = run(m, flag, all) {
			length++
		}
		lengths = append(lengths, length)
	}
	return lengths
}

func TestPetrieLengths(t *testing.T) {
	cases := []struct {
		m    impl.Maniplex
		want int64
	}{
		{edge, 2}, {polygon(1), 1}, {polygon(2), 2}, {triangle, 3}, {polygon(200), 200}, {cell, 2}, {plane, 1}, {cubes(4), 2}, {cubes(5), 2}, {hemicube(), 3},
		{simplex(3), 4}, {simplex(4), 5}, {prism(4), 6}, {octahedron(), 6}, {icosahedron(), 10}, {beside(edge, simplex(4)), 10}, {grid(1, 1, false), 2},
	}
	for _, c := range cases {
		got, code := impl.PetrieLengths(c.m)
		expectList(t, "lengths that are all equal", got, code, slices.Repeat([]int64{c.want}, len(c.m.Moves[0])), impl.ErrNone)
	}
	kinds := map[bool]int{}
	for _, m := range append(operationSamples(), greatManiplexes()...) {
		want := stepsBack(m)
		got, code := impl.PetrieLengths(m)
		expectList(t, "PetrieLengths", got, code, want, impl.ErrNone)
		kinds[slices.Min(want) < slices.Max(want)]++
	}
	if kinds[true] < 50 || kinds[false] < 50 {
		t.Errorf("the samples show too little: %v", kinds)
	}
}

func TestPetrieLengthsThatDiffer(t *testing.T) {
	two := impl.Maniplex{Moves: [][]int64{{1, 0, 3, 2, 5, 4, 7, 6}, {3, 6, 4, 0, 2, 7, 1, 5}, {2, 3, 0, 1, 6, 7, 4, 5}}}
	got, code := impl.PetrieLengths(two)
	expectList(t, "two lengths", got, code, []int64{3, 1, 1, 3, 3, 3, 3, 3}, impl.ErrNone)
	three := impl.Maniplex{Moves: [][]int64{{1, 0, 3, 2, 5, 4, 7, 6, 9, 8, 11, 10}, {8, 2, 1, 5, 9, 3, 11, 10, 0, 4, 7, 6}, {2, 3, 0, 1, 6, 7, 4, 5, 10, 11, 8, 9}}}
	got, code = impl.PetrieLengths(three)
	expectList(t, "three lengths", got, code, []int64{1, 3, 3, 1, 3, 2, 2, 3, 2, 3, 3, 2}, impl.ErrNone)
}
