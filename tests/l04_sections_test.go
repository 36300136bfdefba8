package tests

import (
	"math"
	"slices"
	"testing"

	"loop.example/g01108/impl"
)

// The forms from any flag of polygons with two, three and four sides, and of the cell.
var (
	biangleForm  = impl.Maniplex{Moves: [][]int64{{1, 0, 3, 2}, {2, 3, 0, 1}}}
	triangleForm = impl.Maniplex{Moves: [][]int64{{1, 0, 4, 5, 2, 3}, {2, 3, 0, 1, 5, 4}}}
	squareForm   = impl.Maniplex{Moves: [][]int64{{1, 0, 4, 5, 2, 3, 7, 6}, {2, 3, 0, 1, 6, 7, 4, 5}}}
	cellForm     = impl.Maniplex{Moves: [][]int64{{1, 0, 4, 5, 2, 3, 7, 6}, {2, 4, 0, 6, 1, 7, 3, 5}, {3, 5, 6, 0, 7, 1, 2, 4}}}
)

func TestSectionSamples(t *testing.T) {
	for i, m := range sectionSamples() {
		if !isManiplex(m) {
			t.Errorf("the sample %d, %v, is no maniplex", i, m)
		}
	}
}

func TestSectionAtExamples(t *testing.T) {
	onegon := polygon(1)
	cases := []struct {
		m          impl.Maniplex
		flag, i, k int64
		want       impl.Maniplex
	}{
		{cell, 0, 1, 1, edge},
		{cell, 7, 0, 0, edge},
		{cell, 5, 2, 2, edge},
		{cell, 0, 0, 1, biangleForm},
		{cell, 6, 1, 2, biangleForm},
		{cell, 3, 0, 2, cellForm},
		{edge, 0, 0, 0, edge},
		{edge, 1, 0, 0, edge},
		{triangle, 0, 0, 1, triangleForm},
		{triangle, 5, 0, 1, triangleForm},
		{triangle, 5, 1, 1, edge},
		{onegon, 1, 0, 1, onegon},
		{onegon, 1, 0, 0, edge},
		{plane, 2, 0, 1, biangleForm},
		{plane, 2, 0, 2, impl.Maniplex{Moves: [][]int64{{1, 0, 3, 2}, {2, 3, 0, 1}, {3, 2, 1, 0}}}},
		{path, 0, 1, 2, onegon},
		{path, 1, 1, 2, biangleForm},
		{path, 6, 1, 2, onegon},
		{path, 6, 0, 1, squareForm},
		{simplex(4), 119, 0, 1, triangleForm},
		{simplex(4), 60, 2, 3, triangleForm},
		{simplex(4), 60, 1, 2, triangleForm},
		{cubes(5), 31, 2, 3, biangleForm},
		{cubes(5), 31, 0, 1, biangleForm},
		{cubes(5), 31, 4, 4, edge},
		{beside(polygon(4), polygon(3)), 47, 0, 1, squareForm},
		{beside(polygon(4), polygon(3)), 47, 2, 3, triangleForm},
		{beside(polygon(4), polygon(3)), 47, 1, 2, biangleForm},
	}
	for _, c := range cases {
		got, code := impl.SectionAt(c.m, c.flag, c.i, c.k)
		expectManiplex(t, "SectionAt", got, code, c.want, impl.ErrNone)
	}
}

func TestSectionAt(t *testing.T) {
	for _, m := range sectionSamples() {
		for _, ranks := range rankPairs(m) {
			for flag := range int64(len(m.Moves[0])) {
				got, code := impl.SectionAt(m, flag, ranks[0], ranks[1])
				expectManiplex(t, "SectionAt", got, code, sectionByRestricting(m, flag, ranks[0], ranks[1]), impl.ErrNone)
			}
		}
	}
	for _, m := range greatManiplexes() {
		for _, ranks := range rankPairs(m) {
			for _, flag := range []int64{0, 7, int64(len(m.Moves[0]) - 1)} {
				got, code := impl.SectionAt(m, flag, ranks[0], ranks[1])
				expectManiplex(t, "SectionAt", got, code, sectionByRestricting(m, flag, ranks[0], ranks[1]), impl.ErrNone)
			}
		}
	}
}

func TestSectionOfAllRanksIsTheFormFromTheFlag(t *testing.T) {
	for _, m := range append(sectionSamples(), greatManiplexes()...) {
		flag := int64(len(m.Moves[0])) / 3
		want, wantCode := impl.FormFrom(m, flag)
		got, code := impl.SectionAt(m, flag, 0, int64(len(m.Moves)-1))
		expectManiplex(t, "all ranks", got, code, want, wantCode)
		if !impl.IsManiplex(got) {
			t.Errorf("the section %v is no maniplex", got)
		}
	}
}

func TestSectionAtErrors(t *testing.T) {
	for _, m := range []impl.Maniplex{edge, triangle, cell, simplex(4), cubes(5), polygon(200)} {
		for _, ranks := range rankPairs(m) {
			for _, flag := range noFlags(m) {
				got, code := impl.SectionAt(m, flag, ranks[0], ranks[1])
				expectManiplex(t, "no flag", got, code, impl.Maniplex{}, impl.ErrRange)
			}
		}
		for _, ranks := range noRankPairs(m) {
			for _, flag := range append(noFlags(m), 0, 1) {
				got, code := impl.SectionAt(m, flag, ranks[0], ranks[1])
				expectManiplex(t, "no ranks in order", got, code, impl.Maniplex{}, impl.ErrRange)
			}
		}
	}
	for what, m := range brokenManiplexes() {
		for _, flag := range []int64{0, -1, 500} {
			for _, ranks := range [][2]int64{{0, 0}, {0, 1}, {1, 0}, {-1, 0}, {0, 9}, {math.MinInt64, math.MaxInt64}} {
				got, code := impl.SectionAt(m, flag, ranks[0], ranks[1])
				expectManiplex(t, what, got, code, impl.Maniplex{}, impl.ErrInvalid)
			}
		}
	}
}

func TestFacetsAndVertexFigures(t *testing.T) {
	got, code := impl.FacetAt(cell, 5)
	expectManiplex(t, "the facet of the cell", got, code, biangleForm, impl.ErrNone)
	got, code = impl.FacetAt(triangle, 5)
	expectManiplex(t, "the facet of the triangle", got, code, edge, impl.ErrNone)
	got, code = impl.VertexFigureAt(triangle, 0)
	expectManiplex(t, "the vertex figure of the triangle", got, code, edge, impl.ErrNone)
	got, code = impl.FacetAt(beside(polygon(4), edge), 9)
	expectManiplex(t, "the facet of two squares", got, code, squareForm, impl.ErrNone)
	got, code = impl.VertexFigureAt(beside(polygon(4), edge), 9)
	expectManiplex(t, "the vertex figure of two squares", got, code, biangleForm, impl.ErrNone)
	for _, m := range append(sectionSamples(), greatManiplexes()...) {
		n := int64(len(m.Moves))
		if n == 1 {
			continue
		}
		for flag := int64(0); flag < int64(len(m.Moves[0])); flag += 1 + int64(len(m.Moves[0])/60) {
			got, code := impl.FacetAt(m, flag)
			expectManiplex(t, "FacetAt", got, code, sectionByRestricting(m, flag, 0, n-2), impl.ErrNone)
			got, code = impl.VertexFigureAt(m, flag)
			expectManiplex(t, "VertexFigureAt", got, code, sectionByRestricting(m, flag, 1, n-1), impl.ErrNone)
		}
	}
}

func TestFacetsAndVertexFiguresErrors(t *testing.T) {
	functions := []func(impl.Maniplex, int64) (impl.Maniplex, int64){impl.FacetAt, impl.VertexFigureAt}
	for _, function := range functions {
		for _, flag := range []int64{0, 1} {
			got, code := function(edge, flag)
			expectManiplex(t, "rank 1", got, code, impl.Maniplex{}, impl.ErrState)
		}
		for _, m := range []impl.Maniplex{edge, triangle, cell, cubes(5), polygon(200)} {
			for _, flag := range noFlags(m) {
				got, code := function(m, flag)
				expectManiplex(t, "no flag", got, code, impl.Maniplex{}, impl.ErrRange)
			}
		}
		for what, m := range brokenManiplexes() {
			for _, flag := range []int64{0, -1, 500} {
				got, code := function(m, flag)
				expectManiplex(t, what, got, code, impl.Maniplex{}, impl.ErrInvalid)
			}
		}
	}
}

func TestFacesAndCofacesExamples(t *testing.T) {
	square := beside(polygon(4), edge)
	cases := []struct {
		m             impl.Maniplex
		i, face       int64
		want          impl.Maniplex
		wantCode      int64
		coface        impl.Maniplex
		wantCofaceToo int64
	}{
		{edge, 0, 0, impl.Maniplex{}, impl.ErrState, impl.Maniplex{}, impl.ErrState},
		{edge, 0, 1, impl.Maniplex{}, impl.ErrState, impl.Maniplex{}, impl.ErrState},
		{triangle, 0, 2, impl.Maniplex{}, impl.ErrState, edge, impl.ErrNone},
		{triangle, 1, 2, edge, impl.ErrNone, impl.Maniplex{}, impl.ErrState},
		{cell, 0, 1, impl.Maniplex{}, impl.ErrState, biangleForm, impl.ErrNone},
		{cell, 1, 0, edge, impl.ErrNone, edge, impl.ErrNone},
		{cell, 2, 1, biangleForm, impl.ErrNone, impl.Maniplex{}, impl.ErrState},
		{square, 2, 1, squareForm, impl.ErrNone, impl.Maniplex{}, impl.ErrState},
		{square, 0, 3, impl.Maniplex{}, impl.ErrState, biangleForm, impl.ErrNone},
		{simplex(3), 1, 5, edge, impl.ErrNone, edge, impl.ErrNone},
		{simplex(4), 1, 9, edge, impl.ErrNone, triangleForm, impl.ErrNone},
		{simplex(4), 2, 9, triangleForm, impl.ErrNone, edge, impl.ErrNone},
		{cubes(5), 2, 1, biangleForm, impl.ErrNone, biangleForm, impl.ErrNone},
		{cubes(5), 3, 1, cellForm, impl.ErrNone, edge, impl.ErrNone},
		{cubes(5), 1, 1, edge, impl.ErrNone, cellForm, impl.ErrNone},
	}
	for _, c := range cases {
		got, code := impl.FaceAsManiplex(c.m, c.i, c.face)
		expectManiplex(t, "FaceAsManiplex", got, code, c.want, c.wantCode)
		got, code = impl.CofaceAsManiplex(c.m, c.i, c.face)
		expectManiplex(t, "CofaceAsManiplex", got, code, c.coface, c.wantCofaceToo)
	}
}

func TestFacesAndCofaces(t *testing.T) {
	places := map[string]int{}
	for _, m := range append(sectionSamples(), greatManiplexes()...) {
		n := int64(len(m.Moves))
		for i := range n {
			labels := labelsWithout(m.Moves, int(i))
			for face := range slices.Max(labels) + 1 {
				least, last := int64(slices.Index(labels, face)), int64(len(labels)-1)
				for labels[last] != face {
					last--
				}
				want, wantCode := impl.Maniplex{}, int64(impl.ErrState)
				if i > 0 {
					want, wantCode = sectionByRestricting(m, least, 0, i-1), impl.ErrNone
					places[placeOf(want, sectionByRestricting(m, last, 0, i-1))]++
				}
				got, code := impl.FaceAsManiplex(m, i, face)
				expectManiplex(t, "FaceAsManiplex", got, code, want, wantCode)
				want, wantCode = impl.Maniplex{}, impl.ErrState
				if i < n-1 {
					want, wantCode = sectionByRestricting(m, least, i+1, n-1), impl.ErrNone
					places["co"+placeOf(want, sectionByRestricting(m, last, i+1, n-1))]++
				}
				got, code = impl.CofaceAsManiplex(m, i, face)
				expectManiplex(t, "CofaceAsManiplex", got, code, want, wantCode)
			}
		}
	}
	if len(places) != 4 || places["face of one flag"] < 20 || places["coface of one flag"] < 20 {
		t.Errorf("the samples do not show at which flag a face is taken: %v", places)
	}
}

// placeOf tells whether two forms of one face are equal.
func placeOf(a impl.Maniplex, b impl.Maniplex) string {
	if compareMoves(a, b) == 0 {
		return "face of all flags"
	}
	return "face of one flag"
}

func TestFacesAndCofacesErrors(t *testing.T) {
	functions := []func(impl.Maniplex, int64, int64) (impl.Maniplex, int64){impl.FaceAsManiplex, impl.CofaceAsManiplex}
	for _, function := range functions {
		for _, m := range []impl.Maniplex{edge, triangle, cell, plane, simplex(4), cubes(5), polygon(200)} {
			n := int64(len(m.Moves))
			for i := range n {
				faces := slices.Max(labelsWithout(m.Moves, int(i))) + 1
				for _, face := range []int64{-1, faces, faces + 1, 1 << 32, math.MinInt64, math.MaxInt64} {
					got, code := function(m, i, face)
					expectManiplex(t, "no face", got, code, impl.Maniplex{}, impl.ErrRange)
				}
			}
			for _, i := range []int64{-1, n, n + 1, 1 << 32, math.MinInt64, math.MaxInt64} {
				for _, face := range []int64{0, 1, -1, 500} {
					got, code := function(m, i, face)
					expectManiplex(t, "no rank", got, code, impl.Maniplex{}, impl.ErrRange)
				}
			}
		}
		for what, m := range brokenManiplexes() {
			for _, i := range []int64{0, 1, -1, 5} {
				for _, face := range []int64{0, -1, 500} {
					got, code := function(m, i, face)
					expectManiplex(t, what, got, code, impl.Maniplex{}, impl.ErrInvalid)
				}
			}
		}
	}
}

// shifted returns a word with each move increased by i.
func shifted(word []int64, i int64) []int64 {
	var other []int64
	for _, move := range word {
		other = append(other, move+i)
	}
	return other
}

// expectSectionsOf fails the test if a section of the section at a flag from i to k is not the section
// of m at the flag to which the same moves lead.
func expectSectionsOf(t *testing.T, m impl.Maniplex, flag int64, i int64, k int64) {
	t.Helper()
	section, code := impl.SectionAt(m, flag, i, k)
	if code != impl.ErrNone {
		t.Fatalf("the section of %v at %d from %d to %d: code %d", m, flag, i, k, code)
	}
	for inner := range int64(len(section.Moves[0])) {
		word, code := impl.FirstWord(section, 0, inner)
		if code != impl.ErrNone {
			t.Fatalf("no word leads to the flag %d of %v: code %d", inner, section, code)
		}
		outer := run(m, flag, shifted(word, i))
		for _, ranks := range rankPairs(section) {
			want, wantCode := impl.SectionAt(m, outer, i+ranks[0], i+ranks[1])
			got, code := impl.SectionAt(section, inner, ranks[0], ranks[1])
			expectManiplex(t, "the section of a section", got, code, want, wantCode)
		}
	}
}

func TestSectionsOfSectionsAreSections(t *testing.T) {
	for _, m := range sectionSamples() {
		flags := int64(len(m.Moves[0]))
		for _, ranks := range rankPairs(m) {
			for flag := int64(0); flag < flags; flag += 1 + flags/4 {
				expectSectionsOf(t, m, flag, ranks[0], ranks[1])
			}
		}
	}
	m := beside(cubes(3), polygon(25))
	expectSectionsOf(t, m, 399, 1, 4)
	expectSectionsOf(t, m, 200, 0, 3)
}

func TestPolygonsOfSectionsArePolygons(t *testing.T) {
	for _, m := range append(sectionSamples(), greatManiplexes()...) {
		whole, _ := impl.TypeOf(m)
		for _, ranks := range rankPairs(m) {
			kinds := make([][]int64, ranks[1]-ranks[0])
			for flag := range int64(len(m.Moves[0])) {
				section, _ := impl.SectionAt(m, flag, ranks[0], ranks[1])
				sizes, code := impl.TypeOf(section)
				if code != impl.ErrNone || len(sizes) != len(kinds) {
					t.Fatalf("the type of the section at %d of %v is %v, %d", flag, m, sizes, code)
				}
				for i := range kinds {
					kinds[i] = append(kinds[i], sizes[i]...)
				}
			}
			for i := range kinds {
				slices.Sort(kinds[i])
				kinds[i] = slices.Compact(kinds[i])
			}
			expectLists(t, "the types of all sections", kinds, impl.ErrNone, whole[ranks[0]:ranks[1]], impl.ErrNone)
		}
	}
}
