package tests

import (
	"math"
	"slices"
	"testing"

	"loop.example/g01108/impl"
)

// onTriangle is the covering from the hexagon to the triangle of the document's functions.
var onTriangle = []int64{0, 1, 2, 3, 4, 5, 0, 1, 2, 3, 4, 5}

// twisted is a covering of maps with three flags in each fibre that no automorphism exchanges.
func twisted(t *testing.T) coveringSample {
	t.Helper()
	for _, c := range irregularCoverings() {
		if c.sizeOfFibres() == 3 && len(c.deckMoves) == 1 {
			return c
		}
	}
	t.Fatal("there is no such sample")
	return coveringSample{}
}

func TestFibreOfExamples(t *testing.T) {
	for flag, want := range [][]int64{{0, 6}, {1, 7}, {2, 8}, {3, 9}, {4, 10}, {5, 11}} {
		got, code := impl.FibreOf(hexagon, triangle, onTriangle, int64(flag))
		expectList(t, "the hexagon and the triangle", got, code, want, impl.ErrNone)
	}
	got, code := impl.FibreOf(triangle, oneGon, []int64{1, 0, 1, 0, 1, 0}, 0)
	expectList(t, "the triangle and a 1-gon", got, code, []int64{1, 3, 5}, impl.ErrNone)
	got, code = impl.FibreOf(edge, edge, []int64{1, 0}, 0)
	expectList(t, "the edge", got, code, []int64{1}, impl.ErrNone)
	got, code = impl.FibreOf(cell, plane, []int64{0, 1, 2, 3, 3, 2, 1, 0}, 3)
	expectList(t, "the cell and the plane", got, code, []int64{3, 4}, impl.ErrNone)
	got, code = impl.FibreOf(polygon(200), polygon(200), identity(400), 399)
	expectList(t, "the last flag of 400", got, code, []int64{399}, impl.ErrNone)
	got, code = impl.FibreOf(polygon(200), oneGon, slices.Repeat([]int64{0, 1}, 200), 1)
	expect(t, "half of 400 flags", len(got), code, 200, impl.ErrNone)
}

func TestFibreOf(t *testing.T) {
	for _, c := range coveringSamples() {
		for flag := range int64(len(c.k.Moves[0])) {
			got, code := impl.FibreOf(c.m, c.k, c.list, flag)
			expectList(t, "FibreOf", got, code, flagsOver(c.list, flag), impl.ErrNone)
		}
	}
}

func TestFibreOfErrors(t *testing.T) {
	for _, flag := range []int64{-1, 6, 7, 11, 12, math.MinInt64, math.MaxInt64, 1 << 32} {
		got, code := impl.FibreOf(hexagon, triangle, onTriangle, flag)
		expectList(t, "no flag of the triangle", got, code, nil, impl.ErrRange)
	}
	for i, c := range coveringSamples() {
		if i%20 == 0 {
			for _, flag := range append(noFlags(c.k), int64(len(c.k.Moves[0]))) {
				got, code := impl.FibreOf(c.m, c.k, c.list, flag)
				expectList(t, "no flag", got, code, nil, impl.ErrRange)
			}
		}
	}
}

func TestDeckMovesExamples(t *testing.T) {
	for _, c := range []struct {
		what string
		m    impl.Maniplex
		k    impl.Maniplex
		list []int64
		want [][]int64
	}{
		{"the hexagon and the triangle", hexagon, triangle, onTriangle, [][]int64{identity(12), halfTurn}},
		{"the triangle and a 1-gon", triangle, oneGon, []int64{1, 0, 1, 0, 1, 0}, [][]int64{identity(6), {2, 3, 4, 5, 0, 1}, {4, 5, 0, 1, 2, 3}}},
		{"the triangle and itself", triangle, triangle, []int64{3, 2, 1, 0, 5, 4}, [][]int64{identity(6)}},
		{"the edge and itself", edge, edge, []int64{1, 0}, [][]int64{{0, 1}}},
		{"the cell and the plane", cell, plane, []int64{0, 1, 2, 3, 3, 2, 1, 0}, [][]int64{identity(8), {7, 6, 5, 4, 3, 2, 1, 0}}},
		{"the cube and half of it", prism(4), hemicube(), coveringsByRunning(prism(4), hemicube())[5], [][]int64{identity(48), opposites(prism(4))}},
	} {
		got, code := impl.DeckMoves(c.m, c.k, c.list)
		expectLists(t, c.what, got, code, c.want, impl.ErrNone)
		normal, code := impl.IsNormalCovering(c.m, c.k, c.list)
		expect(t, c.what, normal, code, true, impl.ErrNone)
	}
	c := twisted(t)
	got, code := impl.DeckMoves(c.m, c.k, c.list)
	expectLists(t, "three flags in a fibre", got, code, [][]int64{identity(len(c.list))}, impl.ErrNone)
	normal, code := impl.IsNormalCovering(c.m, c.k, c.list)
	expect(t, "three flags in a fibre", normal, code, false, impl.ErrNone)
}

func TestDeckMoves(t *testing.T) {
	numbers := map[string]int{}
	for _, c := range coveringSamples() {
		switch n := len(c.deckMoves); {
		case c.sizeOfFibres() == 1:
			numbers["one flag"]++
		case n == c.sizeOfFibres():
			numbers["all flags"]++
		case n > 1:
			numbers["some flags"]++
		default:
			numbers["the identity alone"]++
		}
		got, code := impl.DeckMoves(c.m, c.k, c.list)
		expectLists(t, "DeckMoves", got, code, c.deckMoves, impl.ErrNone)
		normal, code := impl.IsNormalCovering(c.m, c.k, c.list)
		expect(t, "IsNormalCovering", normal, code, c.isNormal(), impl.ErrNone)
	}
	for _, kind := range []string{"one flag", "all flags", "some flags", "the identity alone"} {
		if numbers[kind] < 20 {
			t.Errorf("the samples show too little: %v", numbers)
		}
	}
}

func TestDeckMovesOfAllCoverings(t *testing.T) {
	for i, c := range coveringSamples() {
		if i%12 > 0 {
			continue
		}
		automorphisms := isomorphismsByRunning(c.m, c.m)
		for _, list := range coveringsByRunning(c.m, c.k) {
			got, code := impl.DeckMoves(c.m, c.k, list)
			expectLists(t, "DeckMoves", got, code, deckMovesByTrying(automorphisms, list), impl.ErrNone)
			normal, code := impl.IsNormalCovering(c.m, c.k, list)
			expect(t, "IsNormalCovering", normal, code, len(got) == c.sizeOfFibres(), impl.ErrNone)
		}
	}
}

// faceMapByLabels returns for each face of rank i of m the face of k that its flags get, which have to agree.
func faceMapByLabels(c coveringSample, i int) []int64 {
	labels, covered := labelsWithout(c.m.Moves, i), labelsWithout(c.k.Moves, i)
	images := slices.Repeat([]int64{-1}, int(slices.Max(labels)+1))
	for flag, face := range labels {
		image := covered[c.list[flag]]
		if images[face] >= 0 && images[face] != image {
			panic("the flags of a face get several faces")
		}
		images[face] = image
	}
	return images
}

func TestFaceMapExamples(t *testing.T) {
	for i, want := range [][]int64{{0, 1, 2, 0, 1, 2}, {0, 1, 2, 0, 1, 2}} {
		got, code := impl.FaceMap(hexagon, triangle, onTriangle, int64(i))
		expectList(t, "the hexagon and the triangle", got, code, want, impl.ErrNone)
	}
	got, code := impl.FaceMap(triangle, triangle, []int64{2, 3, 4, 5, 0, 1}, 0)
	expectList(t, "a turn of the triangle", got, code, []int64{1, 2, 0}, impl.ErrNone)
	got, code = impl.FaceMap(triangle, triangle, []int64{1, 0, 5, 4, 3, 2}, 0)
	expectList(t, "the corners of a mirrored triangle", got, code, []int64{1, 0, 2}, impl.ErrNone)
	got, code = impl.FaceMap(triangle, triangle, []int64{1, 0, 5, 4, 3, 2}, 1)
	expectList(t, "the sides of a mirrored triangle", got, code, []int64{0, 2, 1}, impl.ErrNone)
	got, code = impl.FaceMap(triangle, oneGon, []int64{0, 1, 0, 1, 0, 1}, 1)
	expectList(t, "the triangle and a 1-gon", got, code, []int64{0, 0, 0}, impl.ErrNone)
	got, code = impl.FaceMap(edge, edge, []int64{1, 0}, 0)
	expectList(t, "the edge", got, code, []int64{1, 0}, impl.ErrNone)
	for i := range int64(3) {
		got, code = impl.FaceMap(cell, plane, []int64{0, 1, 2, 3, 3, 2, 1, 0}, i)
		expectList(t, "the cell and the plane", got, code, []int64{0, 0}, impl.ErrNone)
	}
	got, code = impl.FaceMap(cubes(5), cubes(5), cubes(5).Moves[4], 4)
	expectList(t, "rank 5", got, code, []int64{1, 0}, impl.ErrNone)
}

func TestFaceMap(t *testing.T) {
	for _, c := range coveringSamples() {
		for i := range c.m.Moves {
			got, code := impl.FaceMap(c.m, c.k, c.list, int64(i))
			expectList(t, "FaceMap", got, code, faceMapByLabels(c, i), impl.ErrNone)
		}
	}
}

func TestFaceMapErrors(t *testing.T) {
	for i, c := range coveringSamples() {
		if i%10 == 0 {
			for _, rank := range noRanks(c.m) {
				got, code := impl.FaceMap(c.m, c.k, c.list, rank)
				expectList(t, "no rank", got, code, nil, impl.ErrRange)
			}
		}
	}
	for _, rank := range []int64{-1, 2, 3, 5, math.MinInt64, math.MaxInt64, 1 << 32} {
		got, code := impl.FaceMap(hexagon, triangle, onTriangle, rank)
		expectList(t, "no rank of the hexagon", got, code, nil, impl.ErrRange)
	}
}
