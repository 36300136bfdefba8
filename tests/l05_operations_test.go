package tests

import (
	"math"
	"slices"
	"testing"

	"loop.example/g01108/impl"
)

// expectFaces fails the test if a code is not ErrNone or a maniplex has not the wanted numbers of
// faces.
func expectFaces(t *testing.T, what string, m impl.Maniplex, code int64, want ...int64) {
	t.Helper()
	counts, countsCode := impl.FaceCounts(m)
	if code != impl.ErrNone || countsCode != impl.ErrNone || !slices.Equal(counts, want) {
		t.Errorf("%s: code %d, numbers of faces %v, %d; want %v", what, code, counts, countsCode, want)
	}
}

func TestDualOf(t *testing.T) {
	got, code := impl.DualOf(edge)
	expectManiplex(t, "the edge", got, code, edge, impl.ErrNone)
	got, code = impl.DualOf(triangle)
	expectManiplex(t, "the triangle", got, code, triangleForm, impl.ErrNone)
	got, code = impl.DualOf(cell)
	expectManiplex(t, "the cell", got, code, cellForm, impl.ErrNone)
	got, code = impl.DualOf(prism(4))
	expectFaces(t, "the cube", got, code, 6, 12, 8)
	got, code = impl.DualOf(icosahedron())
	expectFaces(t, "the icosahedron", got, code, 20, 30, 12)
	got, code = impl.DualOf(beside(edge, simplex(4)))
	expectFaces(t, "rank 5", got, code, 5, 10, 10, 5, 2)
	for _, m := range append(operationSamples(), greatManiplexes()...) {
		got, code := impl.DualOf(m)
		want := replacedByRunning(m, dualTable[len(m.Moves)])
		expectManiplex(t, "DualOf", got, code, want, impl.ErrNone)
		counts, _ := impl.FaceCounts(m)
		slices.Reverse(counts)
		expectFaces(t, "the dual", got, code, counts...)
		sizes, sizesCode := impl.TypeOf(m)
		slices.Reverse(sizes)
		dualSizes, code := impl.TypeOf(got)
		expectLists(t, "the type of the dual", dualSizes, code, sizes, sizesCode)
	}
}

func TestPetrieOf(t *testing.T) {
	got, code := impl.PetrieOf(cell)
	expectFaces(t, "the cell", got, code, 2, 2, 2)
	expectManiplex(t, "the cell", got, code, formByNumbering(shifts(8, 5, 2, 4), 0), impl.ErrNone)
	got, code = impl.PetrieOf(plane)
	expectManiplex(t, "the plane", got, code, impl.Maniplex{Moves: [][]int64{{1, 0, 3, 2}, {1, 0, 3, 2}, {2, 3, 0, 1}}}, impl.ErrNone)
	got, code = impl.PetrieOf(simplex(3))
	expectFaces(t, "the tetrahedron", got, code, 4, 6, 3)
	if code != impl.ErrNone || !sameLeastForm(got, hemicube()) {
		t.Errorf("the Petrie dual of the tetrahedron is %v", got)
	}
	got, code = impl.PetrieOf(icosahedron())
	expectFaces(t, "the icosahedron", got, code, 12, 30, 6)
	got, code = impl.PetrieOf(prism(4))
	expectFaces(t, "the cube", got, code, 8, 12, 4)
	got, code = impl.PetrieOf(simplex(4))
	expectFaces(t, "rank 4", got, code, 5, 10, 10, 1)
	kinds := map[string]int{}
	for _, m := range append(operationSamples(), greatManiplexes()...) {
		want, wantCode := impl.Maniplex{}, int64(impl.ErrState)
		if words := petrieTable[len(m.Moves)]; len(words) > 0 {
			want, wantCode = replaced(m, words)
			kinds[kindOfReplacing(m, want)]++
			if len(m.Moves) == 5 {
				kinds["rank 5: "+kindOfReplacing(m, want)]++
			}
		}
		got, code := impl.PetrieOf(m)
		expectManiplex(t, "PetrieOf", got, code, want, wantCode)
	}
	if len(kinds) != 4 || kinds["no maniplex"] != kinds["rank 5: no maniplex"] || kinds["rank 5: all flags"] < 8 {
		t.Errorf("the samples show too little: %v", kinds)
	}
}

func TestPetrieOfThatIsNoManiplex(t *testing.T) {
	for i, m := range withoutPetrieDual() {
		fixed := make(map[bool]int)
		for flag := range int64(len(m.Moves[0])) {
			fixed[run(m, flag, []int64{0, 2, 4}) == flag]++
		}
		if fixed[true] == 0 || !isManiplex(m) {
			t.Errorf("the sample %d should have no Petrie dual: %v", i, m)
		}
		got, code := impl.PetrieOf(m)
		expectManiplex(t, "no Petrie dual", got, code, impl.Maniplex{}, impl.ErrState)
		self, code := impl.IsSelfPetrie(m)
		expect(t, "no Petrie dual", self, code, false, impl.ErrState)
	}
	if run(turned(), 0, []int64{0, 2, 4}) != 0 || run(withFlagAt(turned(), 4), 0, []int64{0, 2, 4}) == 0 {
		t.Errorf("the flag 0 is led back to itself in both samples, or in none")
	}
}

func TestFacesOfPetrieDualsHavePetrieLengths(t *testing.T) {
	for _, m := range append(operationSamples(), greatManiplexes()...) {
		if len(m.Moves) != 3 {
			continue
		}
		petrie, code := impl.PetrieOf(m)
		if code != impl.ErrNone {
			t.Fatalf("PetrieOf of %v: code %d", m, code)
		}
		lengths, code := impl.PetrieLengths(m)
		slices.Sort(lengths)
		sizes, sizesCode := impl.TypeOf(petrie)
		expectList(t, "the lengths", slices.Compact(lengths), code, sizes[0], sizesCode)
	}
}

func TestOppositeOf(t *testing.T) {
	got, code := impl.OppositeOf(cell)
	expectManiplex(t, "the cell", got, code, formByNumbering(shifts(8, 1, 2, 5), 0), impl.ErrNone)
	got, code = impl.OppositeOf(plane)
	expectManiplex(t, "the plane", got, code, impl.Maniplex{Moves: [][]int64{{1, 0, 3, 2}, {2, 3, 0, 1}, {2, 3, 0, 1}}}, impl.ErrNone)
	got, code = impl.OppositeOf(simplex(3))
	expectFaces(t, "the tetrahedron", got, code, 3, 6, 4)
	got, code = impl.OppositeOf(octahedron())
	expectFaces(t, "the octahedron", got, code, 4, 12, 8)
	got, code = impl.OppositeOf(icosahedron())
	expectFaces(t, "the icosahedron", got, code, 6, 30, 20)
	for _, m := range append(operationSamples(), greatManiplexes()...) {
		want, wantCode := impl.Maniplex{}, int64(impl.ErrState)
		if len(m.Moves) == 3 {
			want, wantCode = replacedByRunning(m, oppositeTable), impl.ErrNone
		}
		got, code := impl.OppositeOf(m)
		expectManiplex(t, "OppositeOf", got, code, want, wantCode)
	}
}

func TestHoleOfExamples(t *testing.T) {
	got, code := impl.HoleOf(cell, 1)
	expectManiplex(t, "the cell", got, code, cellForm, impl.ErrNone)
	got, code = impl.HoleOf(cell, 2)
	expectManiplex(t, "the hole 2 of the cell", got, code, impl.Maniplex{Moves: [][]int64{{1, 0, 3, 2}, {2, 3, 0, 1}, {2, 3, 0, 1}}}, impl.ErrNone)
	got, code = impl.HoleOf(icosahedron(), 2)
	expectFaces(t, "the great dodecahedron", got, code, 12, 30, 12)
	got, code = impl.HoleOf(octahedron(), 2)
	expectFaces(t, "one equator of the octahedron", got, code, 4, 4, 2)
	got, code = impl.HoleOf(grid(4, 4, false), 2)
	expectFaces(t, "one line of a grid", got, code, 4, 4, 2)
	got, code = impl.HoleOf(prism(4), 2)
	expectFaces(t, "the hole 2 of the cube", got, code, 8, 12, 6)
	whole, wholeCode := impl.FormFrom(prism(4), 0)
	got, code = impl.HoleOf(prism(4), 4)
	expectManiplex(t, "three steps more than one", got, code, whole, wholeCode)
	got, code = impl.HoleOf(prism(4), 20)
	want, wantCode := impl.HoleOf(prism(4), 2)
	expectManiplex(t, "eighteen steps more than two", got, code, want, wantCode)
}

func TestHoleOf(t *testing.T) {
	kinds := map[string]int{}
	for _, m := range append(operationSamples(), pyramid(19), pyramid(20), pyramid(21), pyramid(25)) {
		if len(m.Moves) != 3 {
			continue
		}
		for k := 1; k <= 20; k++ {
			want := replacedByRunning(m, holeTable(k))
			kinds[kindOfReplacing(m, want)]++
			got, code := impl.HoleOf(m, int64(k))
			expectManiplex(t, "HoleOf", got, code, want, impl.ErrNone)
		}
	}
	for _, m := range greatManiplexes() {
		for _, k := range []int{1, 2, 20} {
			want, wantCode := impl.Maniplex{}, int64(impl.ErrState)
			if len(m.Moves) == 3 {
				want, wantCode = replaced(m, holeTable(k))
			}
			got, code := impl.HoleOf(m, int64(k))
			expectManiplex(t, "HoleOf", got, code, want, wantCode)
		}
	}
	if kinds["all flags"] < 100 || kinds["fewer flags"] < 100 {
		t.Errorf("the samples show too little: %v", kinds)
	}
}

func TestHolesThatDoNotExist(t *testing.T) {
	for _, m := range []impl.Maniplex{edge, triangle, cell, simplex(4), cubes(5), grid(5, 10, false)} {
		for _, k := range []int64{0, -1, 21, 22, 1 << 32, 1<<32 + 1, math.MinInt64, math.MaxInt64} {
			got, code := impl.HoleOf(m, k)
			expectManiplex(t, "no number of a hole", got, code, impl.Maniplex{}, impl.ErrRange)
		}
	}
}

func TestHalfOfExamples(t *testing.T) {
	got, code := impl.HalfOf(prism(4))
	if code != impl.ErrNone || !sameLeastForm(got, simplex(3)) {
		t.Errorf("the half of the cube is %v, %d", got, code)
	}
	got, code = impl.HalfOf(hemicube())
	if code != impl.ErrNone || !sameLeastForm(got, simplex(3)) {
		t.Errorf("the half of the hemicube is %v, %d", got, code)
	}
	got, code = impl.HalfOf(grid(4, 4, false))
	expectFaces(t, "the half of a torus", got, code, 8, 16, 8)
	got, code = impl.HalfOf(grid(1, 1, false))
	expectFaces(t, "the half of a torus with one vertex", got, code, 1, 2, 1)
	got, code = impl.HalfOf(beside(polygon(4), edge))
	expectManiplex(t, "the half of two squares", got, code, cellForm, impl.ErrNone)
	none := []impl.Maniplex{cell, plane, simplex(3), octahedron(), pyramid(4), prism(3), prism(5)}
	for _, p := range []int{1, 2, 3, 5, 6, 8, 100} {
		none = append(none, beside(polygon(p), edge))
	}
	for flag := range int64(36) {
		none = append(none, withFlagAt(prism(3), flag))
	}
	for _, m := range none {
		got, code := impl.HalfOf(m)
		expectManiplex(t, "faces that are not all squares", got, code, impl.Maniplex{}, impl.ErrState)
	}
}

func TestHalfOf(t *testing.T) {
	kinds := map[string]int{}
	var squares []impl.Maniplex
	for i, m := range append(squareMaps(), grid(2, 2, true), grid(1, 3, true), grid(2, 2, false), grid(2, 4, false), grid(4, 2, false), grid(4, 1, false)) {
		squares = append(squares, m, renumber(m, shuffled(len(m.Moves[0]), int64(i))))
	}
	for _, m := range slices.Concat(operationSamples(), greatManiplexes(), squares) {
		want, wantCode := impl.Maniplex{}, int64(impl.ErrState)
		if len(m.Moves) == 3 {
			want, wantCode = replaced(m, halfTable)
			kinds[kindOfReplacing(m, want)]++
		}
		got, code := impl.HalfOf(m)
		expectManiplex(t, "HalfOf", got, code, want, wantCode)
	}
	if len(kinds) != 3 || kinds["all flags"] < 20 || kinds["fewer flags"] < 20 || kinds["no maniplex"] < 20 {
		t.Errorf("the samples show too little: %v", kinds)
	}
}

// operationsOfOne are the functions of chapter 5 that make a maniplex of a maniplex alone.
func operationsOfOne() map[string]func(impl.Maniplex) (impl.Maniplex, int64) {
	return map[string]func(impl.Maniplex) (impl.Maniplex, int64){
		"DualOf": impl.DualOf, "PetrieOf": impl.PetrieOf, "OppositeOf": impl.OppositeOf, "HalfOf": impl.HalfOf,
		"ExtendManiplex": impl.ExtendManiplex, "ExtendInside": impl.ExtendInside,
	}
}

func TestOperationsOnRanksThatTheyAreNotFor(t *testing.T) {
	two := []impl.Maniplex{edge, triangle, polygon(1), polygon(4), polygon(200)}
	more := []impl.Maniplex{simplex(4), cubes(4), cubes(5), beside(polygon(4), polygon(4)), beside(cubes(3), polygon(25))}
	for _, m := range append(two, more...) {
		for _, name := range []string{"OppositeOf", "HalfOf", "PetrieOf"} {
			if name == "PetrieOf" && len(m.Moves) > 2 {
				continue
			}
			got, code := operationsOfOne()[name](m)
			expectManiplex(t, name, got, code, impl.Maniplex{}, impl.ErrState)
		}
		for _, k := range []int64{1, 2, 20} {
			got, code := impl.HoleOf(m, k)
			expectManiplex(t, "HoleOf", got, code, impl.Maniplex{}, impl.ErrState)
		}
	}
	for _, m := range two {
		self, code := impl.IsSelfPetrie(m)
		expect(t, "IsSelfPetrie", self, code, false, impl.ErrState)
	}
}

func TestOperationsOnWhatIsNoManiplex(t *testing.T) {
	for what, m := range brokenManiplexes() {
		for name, operation := range operationsOfOne() {
			got, code := operation(m)
			expectManiplex(t, name+" of "+what, got, code, impl.Maniplex{}, impl.ErrInvalid)
		}
		for _, k := range []int64{0, 1, 20, 21, -1, math.MaxInt64} {
			got, code := impl.HoleOf(m, k)
			expectManiplex(t, what, got, code, impl.Maniplex{}, impl.ErrInvalid)
		}
		for _, function := range []func(impl.Maniplex) (bool, int64){impl.IsSelfDual, impl.IsSelfPetrie} {
			self, code := function(m)
			expect(t, what, self, code, false, impl.ErrInvalid)
		}
		lengths, code := impl.PetrieLengths(m)
		expectList(t, what, lengths, code, nil, impl.ErrInvalid)
	}
}

func TestIsSelfDualExamples(t *testing.T) {
	self := []impl.Maniplex{edge, triangle, polygon(1), polygon(200), cell, plane, simplex(3), simplex(4), cubes(5), pyramid(4), pyramid(5), grid(3, 3, false), grid(3, 3, true), grid(1, 2, false), beside(polygon(3), polygon(3)), shifts(4, 1, 1, 2, 3, 3)}
	for i, m := range self {
		got, code := impl.IsSelfDual(m)
		expect(t, "IsSelfDual", got, code, true, impl.ErrNone)
		got, code = impl.IsSelfDual(renumber(m, shuffled(len(m.Moves[0]), int64(i))))
		expect(t, "IsSelfDual", got, code, true, impl.ErrNone)
	}
	other := []impl.Maniplex{prism(3), prism(4), octahedron(), icosahedron(), hemicube(), path, beside(polygon(3), polygon(4)), beside(edge, plane), beside(edge, simplex(4)), grid(3, 4, true), shifts(4, 1, 1, 2), shifts(4, 1, 1, 2, 2, 3)}
	for i, m := range other {
		got, code := impl.IsSelfDual(m)
		expect(t, "IsSelfDual", got, code, false, impl.ErrNone)
		got, code = impl.IsSelfDual(renumber(m, shuffled(len(m.Moves[0]), int64(i))))
		expect(t, "IsSelfDual", got, code, false, impl.ErrNone)
	}
}

func TestIsSelfPetrieExamples(t *testing.T) {
	self := []impl.Maniplex{cell, cubes(4), cubes(5), scattered(2, 2), scattered(2, 11)}
	for i, m := range self {
		got, code := impl.IsSelfPetrie(m)
		expect(t, "IsSelfPetrie", got, code, true, impl.ErrNone)
		got, code = impl.IsSelfPetrie(renumber(m, shuffled(len(m.Moves[0]), int64(i))))
		expect(t, "IsSelfPetrie", got, code, true, impl.ErrNone)
	}
	other := []impl.Maniplex{plane, simplex(3), simplex(4), prism(4), octahedron(), hemicube(), pyramid(4), scattered(3, 57), scattered(4, 17)}
	for i, m := range other {
		got, code := impl.IsSelfPetrie(m)
		expect(t, "IsSelfPetrie", got, code, false, impl.ErrNone)
		got, code = impl.IsSelfPetrie(renumber(m, shuffled(len(m.Moves[0]), int64(i))))
		expect(t, "IsSelfPetrie", got, code, false, impl.ErrNone)
	}
}

// kindOfSelf tells how m and what an operation makes of it are alike.
func kindOfSelf(m impl.Maniplex, other impl.Maniplex, same bool) string {
	counts, _ := impl.FaceCounts(m)
	otherCounts, _ := impl.FaceCounts(other)
	sizes, _ := impl.TypeOf(m)
	otherSizes, _ := impl.TypeOf(other)
	switch {
	case same && compareMoves(formByNumbering(m, 0), other) == 0:
		return "one form from the flag 0"
	case same:
		return "one least form alone"
	case slices.Equal(counts, otherCounts) && equalLists(sizes, otherSizes):
		return "one type and the same numbers of faces alone"
	}
	return "nothing in common"
}

func TestIsSelfDualAndIsSelfPetrie(t *testing.T) {
	kinds := map[string]map[string]int{"dual": {}, "Petrie dual": {}}
	samples := slices.Clone(operationSamples())
	for seed := range int64(200) {
		samples = append(samples, scattered(4, seed))
	}
	for _, m := range samples {
		dual := replacedByRunning(m, dualTable[len(m.Moves)])
		same := sameLeastForm(m, dual)
		kinds["dual"][kindOfSelf(m, dual, same)]++
		got, code := impl.IsSelfDual(m)
		expect(t, "IsSelfDual", got, code, same, impl.ErrNone)
		if len(m.Moves) < 3 {
			continue
		}
		if petrie, code := replaced(m, petrieTable[len(m.Moves)]); code == impl.ErrNone {
			same := sameLeastForm(m, petrie)
			kinds["Petrie dual"][kindOfSelf(m, petrie, same)]++
			got, code := impl.IsSelfPetrie(m)
			expect(t, "IsSelfPetrie", got, code, same, impl.ErrNone)
		}
	}
	for what, seen := range kinds {
		if len(seen) != 4 || slices.Contains([]int{seen["one least form alone"], seen["one type and the same numbers of faces alone"]}, 0) {
			t.Errorf("the samples show too little of the %s: %v", what, seen)
		}
	}
}
