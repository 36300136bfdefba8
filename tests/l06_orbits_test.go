package tests

import (
	"math"
	"slices"
	"testing"

	"loop.example/g01108/impl"
)

// loop is the sphere with one edge that has one vertex at both ends, and two faces.
var loop = impl.Maniplex{Moves: [][]int64{{1, 0, 3, 2}, {1, 0, 3, 2}, {2, 3, 0, 1}}}

func TestFlagOrbitsExamples(t *testing.T) {
	cases := []struct {
		what string
		m    impl.Maniplex
		want []int64
	}{
		{"the edge", edge, []int64{0, 0}},
		{"the triangle", triangle, []int64{0, 0, 0, 0, 0, 0}},
		{"a loop", loop, []int64{0, 0, 0, 0}},
		{"a path", path, []int64{0, 1, 0, 1, 0, 1, 0, 1}},
		{"a path from another flag", withFlagAt(path, 1), []int64{0, 1, 1, 0, 1, 0, 1, 0}},
		{"a chiral torus", turning(5, 2), slices.Repeat([]int64{0, 1}, 20)},
		{"no symmetries", scattered(100, 3), identity(400)},
		{"a polygon with 200 sides", polygon(200), make([]int64, 400)},
	}
	for _, c := range cases {
		got, code := impl.FlagOrbits(c.m)
		expectList(t, c.what, got, code, c.want, impl.ErrNone)
	}
}

func TestFlagOrbits(t *testing.T) {
	for _, s := range symmetrics() {
		got, code := impl.FlagOrbits(s.Maniplex)
		expectList(t, "FlagOrbits", got, code, s.orbits, impl.ErrNone)
	}
}

func TestFaceOrbitsExamples(t *testing.T) {
	cases := []struct {
		what string
		m    impl.Maniplex
		i    int64
		want []int64
	}{
		{"the ends of an edge", edge, 0, []int64{0, 0}},
		{"the corners of a triangle", triangle, 0, []int64{0, 0, 0}},
		{"the sides of a triangle", triangle, 1, []int64{0, 0, 0}},
		{"the vertex of a loop", loop, 0, []int64{0}},
		{"the edge of a loop", loop, 1, []int64{0}},
		{"the faces of a loop", loop, 2, []int64{0, 0}},
		{"the vertices of a path", path, 0, []int64{0, 1, 0}},
		{"the edges of a path", path, 1, []int64{0, 0}},
		{"the face of a path", path, 2, []int64{0}},
		{"the vertices of a prism", prism(3), 0, make([]int64, 6)},
		{"the corners of a polygon with 200 sides", polygon(200), 0, make([]int64, 200)},
		{"the base of a pyramid and its sides", pyramid(4), 2, []int64{0, 1, 1, 1, 1}},
		{"the corners of the base of a pyramid and its top", pyramid(4), 0, []int64{0, 0, 0, 0, 1}},
		{"the top of a pyramid and the corners of its base", withFlagAt(pyramid(4), 12), 0, []int64{0, 1, 1, 1, 1}},
		{"the facets of rank 5", cubes(5), 4, []int64{0, 0}},
	}
	for _, c := range cases {
		got, code := impl.FaceOrbits(c.m, c.i)
		expectList(t, c.what, got, code, c.want, impl.ErrNone)
		one, code := impl.IsTransitiveOn(c.m, c.i)
		expect(t, c.what, one, code, slices.Max(c.want) == 0, impl.ErrNone)
	}
	squares, code := impl.FaceOrbits(prism(5), 2)
	slices.Sort(squares)
	if code != impl.ErrNone || !slices.Equal(squares, []int64{0, 0, 0, 0, 0, 1, 1}) && !slices.Equal(squares, []int64{0, 0, 1, 1, 1, 1, 1}) {
		t.Errorf("the faces of a prism over a pentagon have the orbits %v, %d", squares, code)
	}
}

func TestFaceOrbits(t *testing.T) {
	several := map[[2]int]int{}
	mixed := 0
	for _, s := range symmetrics() {
		for i := range s.Moves {
			want := s.faceOrbitsByMerging(i)
			got, code := impl.FaceOrbits(s.Maniplex, int64(i))
			expectList(t, "FaceOrbits", got, code, want, impl.ErrNone)
			one, code := impl.IsTransitiveOn(s.Maniplex, int64(i))
			expect(t, "IsTransitiveOn", one, code, slices.Max(want) == 0, impl.ErrNone)
			if slices.Max(want) > 0 {
				several[[2]int{len(s.Moves), i}]++
			}
			if !slices.IsSorted(want) {
				mixed++
			}
		}
	}
	// In the ranks 3, 4 and 5 the faces of each rank may be in several orbits.
	if len(several) != 12 || mixed < 50 {
		t.Errorf("the samples show too little: %v, %d", several, mixed)
	}
}

func TestFacesWithFlagsOfSeveralOrbitsAreInOneOrbit(t *testing.T) {
	// The faces of a chiral torus are in one orbit, and their flags are not.
	for _, m := range chiralManiplexes() {
		for i := range int64(len(m.Moves)) {
			got, code := impl.IsTransitiveOn(m, i)
			expect(t, "a chiral maniplex", got, code, true, impl.ErrNone)
		}
	}
}

// noRanks returns numbers that are no ranks of a maniplex.
func noRanks(m impl.Maniplex) []int64 {
	n := int64(len(m.Moves))
	return []int64{-1, n, n + 1, 1 << 32, math.MinInt64, math.MaxInt64}
}

func TestFaceOrbitsErrors(t *testing.T) {
	for _, m := range []impl.Maniplex{edge, triangle, cell, path, simplex(4), cubes(5), polygon(200), scattered(100, 3)} {
		for _, i := range noRanks(m) {
			got, code := impl.FaceOrbits(m, i)
			expectList(t, "no rank", got, code, nil, impl.ErrRange)
			one, code := impl.IsTransitiveOn(m, i)
			expect(t, "no rank", one, code, false, impl.ErrRange)
		}
	}
}

func TestSymmetryTypeExamples(t *testing.T) {
	cases := []struct {
		what string
		m    impl.Maniplex
		want [][]int64
	}{
		{"the edge", edge, [][]int64{{0}}},
		{"the triangle", triangle, [][]int64{{0}, {0}}},
		{"the cell", cell, [][]int64{{0}, {0}, {0}}},
		{"rank 5", cubes(5), [][]int64{{0}, {0}, {0}, {0}, {0}}},
		{"a path", path, [][]int64{{1, 0}, {0, 1}, {0, 1}}},
		{"a chiral torus", turning(5, 2), [][]int64{{1, 0}, {1, 0}, {1, 0}}},
		{"an oblong torus", grid(2, 3, false), [][]int64{{0, 1}, {1, 0}, {0, 1}}},
		{"a chiral torus, extended", beside(turning(5, 2), edge), [][]int64{{1, 0}, {1, 0}, {1, 0}, {0, 1}}},
		{"no symmetries", scattered(100, 3), scattered(100, 3).Moves},
	}
	for _, c := range cases {
		got, code := impl.SymmetryType(c.m)
		expectLists(t, c.what, got, code, c.want, impl.ErrNone)
	}
}

func TestSymmetryType(t *testing.T) {
	for _, s := range symmetrics() {
		got, code := impl.SymmetryType(s.Maniplex)
		expectLists(t, "SymmetryType", got, code, s.symmetryType(), impl.ErrNone)
		for i, move := range s.Moves {
			for flag, image := range move {
				if len(got) <= i || got[i][s.orbits[flag]] != s.orbits[image] {
					t.Fatalf("the move %d from the flag %d of %v: the symmetry type is %v", i, flag, s.Maniplex, got)
				}
			}
		}
	}
}

func TestStabilizerOfExamples(t *testing.T) {
	cases := []struct {
		what    string
		m       impl.Maniplex
		i, face int64
		want    [][]int64
	}{
		{"the first end of an edge", edge, 0, 0, [][]int64{{0, 1}}},
		{"the other end of an edge", edge, 0, 1, [][]int64{{0, 1}}},
		{"the first corner of a triangle", triangle, 0, 0, [][]int64{{0, 1, 2, 3, 4, 5}, {5, 4, 3, 2, 1, 0}}},
		{"the next corner of a triangle", triangle, 0, 1, [][]int64{{0, 1, 2, 3, 4, 5}, {3, 2, 1, 0, 5, 4}}},
		{"the last side of a triangle", triangle, 1, 2, [][]int64{{0, 1, 2, 3, 4, 5}, {3, 2, 1, 0, 5, 4}}},
		{"the vertex of a loop", loop, 0, 0, [][]int64{{0, 1, 2, 3}, {1, 0, 3, 2}, {2, 3, 0, 1}, {3, 2, 1, 0}}},
		{"a face of a loop", loop, 2, 1, [][]int64{{0, 1, 2, 3}, {1, 0, 3, 2}}},
		{"an end of a path", path, 0, 2, [][]int64{{0, 1, 2, 3, 4, 5, 6, 7}, {2, 3, 0, 1, 6, 7, 4, 5}}},
		{"an edge without symmetries", scattered(100, 3), 1, 99, [][]int64{identity(400)}},
	}
	for _, c := range cases {
		got, code := impl.StabilizerOf(c.m, c.i, c.face)
		expectLists(t, c.what, got, code, c.want, impl.ErrNone)
	}
	sizes := []struct {
		what    string
		m       impl.Maniplex
		i, face int64
		want    int
	}{
		{"a vertex of a cube", prism(4), 0, 7, 6},
		{"an edge of a cube", prism(4), 1, 11, 4},
		{"a face of a cube", prism(4), 2, 5, 8},
		{"a vertex of an icosahedron", icosahedron(), 0, 11, 10},
		{"a vertex of a simplex of rank 4", simplex(4), 0, 4, 24},
		{"a facet of a simplex of rank 4", simplex(4), 3, 4, 24},
		{"the base of a pyramid", pyramid(5), 2, 0, 10},
		{"a side of a pyramid", pyramid(5), 2, 5, 2},
		{"the top of a pyramid", pyramid(5), 0, 5, 10},
		{"a vertex of a chiral torus", turning(50, 7), 0, 49, 4},
		{"a vertex of a polygon with 200 sides", polygon(200), 0, 199, 2},
	}
	for _, c := range sizes {
		got, code := impl.StabilizerOf(c.m, c.i, c.face)
		expect(t, c.what, len(got), code, c.want, impl.ErrNone)
	}
}

// someFaces returns all faces with the given labels of the flags, or some of them if there are many.
func someFaces(labels []int64) []int64 {
	var faces []int64
	count := slices.Max(labels) + 1
	for face := int64(0); face < count; face += 1 + count/20 {
		faces = append(faces, face)
	}
	return append(faces, count-1)
}

func TestStabilizerOf(t *testing.T) {
	kinds := map[string]int{}
	for _, s := range symmetrics() {
		for i := range s.Moves {
			labels := labelsWithout(s.Moves, i)
			for _, face := range someFaces(labels) {
				var want [][]int64
				for _, automorphism := range s.automorphisms {
					if faceImages(labels, automorphism)[face] == face {
						want = append(want, automorphism)
					}
				}
				got, code := impl.StabilizerOf(s.Maniplex, int64(i), face)
				expectLists(t, "StabilizerOf", got, code, want, impl.ErrNone)
				switch len(want) {
				case 1:
					kinds["the identity alone"]++
				case len(s.automorphisms):
					kinds["all"]++
				default:
					kinds["some"]++
				}
			}
		}
	}
	if kinds["the identity alone"] < 100 || kinds["some"] < 100 || kinds["all"] < 100 {
		t.Errorf("the samples show too little: %v", kinds)
	}
}

func TestStabilizerOfErrors(t *testing.T) {
	for _, m := range []impl.Maniplex{edge, triangle, cell, path, simplex(4), cubes(5), polygon(200), scattered(100, 3)} {
		for i := range m.Moves {
			faces := slices.Max(labelsWithout(m.Moves, i)) + 1
			for _, face := range []int64{-1, faces, faces + 1, 1 << 32, math.MinInt64, math.MaxInt64} {
				got, code := impl.StabilizerOf(m, int64(i), face)
				expectLists(t, "no face", got, code, nil, impl.ErrRange)
			}
		}
		for _, i := range noRanks(m) {
			for _, face := range []int64{0, 1, -1, 500} {
				got, code := impl.StabilizerOf(m, i, face)
				expectLists(t, "no rank", got, code, nil, impl.ErrRange)
			}
		}
	}
}
