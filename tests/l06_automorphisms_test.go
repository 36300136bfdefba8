package tests

import (
	"slices"
	"testing"

	"loop.example/g01108/impl"
)

func TestSymmetricSamples(t *testing.T) {
	kinds := map[int]map[string]int{1: {}, 2: {}, 3: {}, 4: {}, 5: {}}
	for i, s := range symmetrics() {
		if !isManiplex(s.Maniplex) {
			t.Errorf("the sample %d, %v, is no maniplex", i, s.Maniplex)
		}
		kinds[len(s.Moves)][s.kind()]++
	}
	wanted := []string{"regular", "chiral", "two orbits alone", "more orbits", "one automorphism alone"}
	for rank := 1; rank <= 5; rank++ {
		for _, kind := range wanted {
			// A maniplex of rank 1 or 2 is the edge or a polygon, and these are regular.
			if exists := rank > 2 || kind == "regular"; exists != (kinds[rank][kind] > 0) {
				t.Errorf("the samples of rank %d are %v", rank, kinds[rank])
			}
		}
	}
}

// known is a maniplex with what is known of its symmetries.
type known struct {
	what          string
	m             impl.Maniplex
	automorphisms int64
	orbits        int64
	chiral        bool
}

// knownSymmetries are maniplexes whose symmetries are well known.
func knownSymmetries() []known {
	handed := chiralManiplexes()
	return []known{
		{"the edge", edge, 2, 1, false},
		{"a 1-gon", polygon(1), 2, 1, false},
		{"a 2-gon", polygon(2), 4, 1, false},
		{"the triangle", triangle, 6, 1, false},
		{"a polygon with 200 sides", polygon(200), 400, 1, false},
		{"the cell", cell, 8, 1, false},
		{"the plane with one edge", plane, 4, 1, false},
		{"rank 4 and 4 flags", shifts(4, 1, 1, 2, 2), 4, 1, false},
		{"rank 5 and 4 flags", shifts(4, 1, 1, 2, 2, 3), 4, 1, false},
		{"the tetrahedron", simplex(3), 24, 1, false},
		{"the simplex of rank 4", simplex(4), 120, 1, false},
		{"rank 5 and only 2-gons", cubes(5), 32, 1, false},
		{"rank 5 and 400 flags", beside(cubes(3), polygon(25)), 400, 1, false},
		{"half a cube", hemicube(), 24, 1, false},
		{"the cube", prism(4), 48, 1, false},
		{"the octahedron", octahedron(), 48, 1, false},
		{"the icosahedron", icosahedron(), 120, 1, false},
		{"a square torus", grid(3, 3, false), 72, 1, false},
		{"a triangle beside a square", beside(polygon(3), polygon(4)), 48, 1, false},
		{"an oblong torus", grid(2, 3, false), 24, 2, false},
		{"an oblong torus of 50 squares", grid(5, 10, false), 200, 2, false},
		{"a torus of rhombs", turning(8, 3), 32, 2, false},
		{"a path", path, 4, 2, false},
		{"a chiral torus", handed[0], 20, 2, true},
		{"the other hand of a chiral torus", handed[1], 20, 2, true},
		{"a chiral torus of 50 squares", handed[4], 200, 2, true},
		{"rank 4, chiral, 12 flags", handed[5], 6, 2, true},
		{"rank 4, chiral, a polytope", handed[7], 120, 2, true},
		{"rank 5, chiral, 16 flags", handed[8], 8, 2, true},
		{"rank 5, chiral, 240 flags", handed[9], 120, 2, true},
		{"a chiral torus, extended", beside(turning(5, 2), edge), 40, 2, false},
		{"a chiral torus, extended inside", beside(edge, turning(5, 2)), 40, 2, false},
		{"a prism over a triangle", prism(3), 12, 3, false},
		{"a prism over a pentagon", prism(5), 20, 3, false},
		{"a pyramid over a square", pyramid(4), 8, 4, false},
		{"a pyramid over a pentagon", pyramid(5), 10, 4, false},
		{"a skew torus", turning(7, 2), 14, 4, false},
		{"a map with similar forms", similar, 1, 20, false},
		{"no symmetries", scattered(100, 3), 1, 400, false},
	}
}

func TestKnownSymmetries(t *testing.T) {
	for _, k := range knownSymmetries() {
		if k.automorphisms*k.orbits != int64(len(k.m.Moves[0])) {
			t.Errorf("%s: the numbers are wrong", k.what)
		}
		count, code := impl.CountAutomorphisms(k.m)
		expect(t, k.what+": CountAutomorphisms", count, code, k.automorphisms, impl.ErrNone)
		regular, code := impl.IsRegular(k.m)
		expect(t, k.what+": IsRegular", regular, code, k.orbits == 1, impl.ErrNone)
		chiral, code := impl.IsChiral(k.m)
		expect(t, k.what+": IsChiral", chiral, code, k.chiral, impl.ErrNone)
		orbits, code := impl.FlagOrbits(k.m)
		expect(t, k.what+": the greatest of FlagOrbits", slices.Max(append(orbits, -1)), code, k.orbits-1, impl.ErrNone)
	}
	counts, code := impl.FaceCounts(chiralManiplexes()[7])
	expectList(t, "a chiral polytope", counts, code, []int64{5, 20, 15, 6}, impl.ErrNone)
	polytopal, code := impl.IsPolytopal(chiralManiplexes()[7])
	expect(t, "a chiral polytope", polytopal, code, true, impl.ErrNone)
}

func TestAutomorphismsOfExamples(t *testing.T) {
	six := [][]int64{{0, 1, 2, 3, 4, 5}, {1, 0, 5, 4, 3, 2}, {2, 3, 4, 5, 0, 1}, {3, 2, 1, 0, 5, 4}, {4, 5, 0, 1, 2, 3}, {5, 4, 3, 2, 1, 0}}
	got, code := impl.AutomorphismsOf(triangle)
	expectLists(t, "the triangle", got, code, six, impl.ErrNone)
	for flag, want := range six {
		got, code := impl.AutomorphismTo(triangle, int64(flag))
		expectList(t, "the triangle", got, code, want, impl.ErrNone)
	}
	got, code = impl.AutomorphismsOf(edge)
	expectLists(t, "the edge", got, code, [][]int64{{0, 1}, {1, 0}}, impl.ErrNone)
	got, code = impl.AutomorphismsOf(polygon(1))
	expectLists(t, "a 1-gon", got, code, [][]int64{{0, 1}, {1, 0}}, impl.ErrNone)
	got, code = impl.AutomorphismsOf(path)
	expectLists(t, "a path", got, code, [][]int64{{0, 1, 2, 3, 4, 5, 6, 7}, {2, 3, 0, 1, 6, 7, 4, 5}, {4, 5, 6, 7, 0, 1, 2, 3}, {6, 7, 4, 5, 2, 3, 0, 1}}, impl.ErrNone)
	got, code = impl.AutomorphismsOf(scattered(100, 3))
	expectLists(t, "no symmetries", got, code, [][]int64{identity(400)}, impl.ErrNone)
}

func TestAutomorphisms(t *testing.T) {
	for _, s := range symmetrics() {
		got, code := impl.AutomorphismsOf(s.Maniplex)
		expectLists(t, "AutomorphismsOf", got, code, s.automorphisms, impl.ErrNone)
		count, code := impl.CountAutomorphisms(s.Maniplex)
		expect(t, "CountAutomorphisms", count, code, int64(len(s.automorphisms)), impl.ErrNone)
		want, wantCode := make([][]int64, len(s.orbits)), slices.Repeat([]int64{impl.ErrNotFound}, len(s.orbits))
		for _, automorphism := range s.automorphisms {
			want[automorphism[0]], wantCode[automorphism[0]] = automorphism, impl.ErrNone
		}
		for flag := range want {
			got, code := impl.AutomorphismTo(s.Maniplex, int64(flag))
			expectList(t, "AutomorphismTo", got, code, want[flag], wantCode[flag])
		}
	}
}

func TestAutomorphismToErrors(t *testing.T) {
	for _, m := range []impl.Maniplex{edge, triangle, cell, cubes(5), scattered(100, 3), turning(50, 7), polygon(200)} {
		for _, flag := range noFlags(m) {
			got, code := impl.AutomorphismTo(m, flag)
			expectList(t, "no flag", got, code, nil, impl.ErrRange)
		}
		got, code := impl.AutomorphismTo(m, 0)
		expectList(t, "the flag 0", got, code, identity(len(m.Moves[0])), impl.ErrNone)
	}
	got, code := impl.AutomorphismTo(edge, 1)
	expectList(t, "the last flag", got, code, []int64{1, 0}, impl.ErrNone)
	got, code = impl.AutomorphismTo(polygon(200), 399)
	expectList(t, "the last flag of 400", got, code, isomorphismsByRunning(polygon(200), polygon(200))[399], impl.ErrNone)
	got, code = impl.AutomorphismTo(scattered(100, 3), 399)
	expectList(t, "the last flag of 400 that are all different", got, code, nil, impl.ErrNotFound)
}

func TestIsRegularAndIsChiral(t *testing.T) {
	for _, s := range symmetrics() {
		regular, code := impl.IsRegular(s.Maniplex)
		expect(t, "IsRegular", regular, code, s.kind() == "regular", impl.ErrNone)
		chiral, code := impl.IsChiral(s.Maniplex)
		expect(t, "IsChiral", chiral, code, s.kind() == "chiral", impl.ErrNone)
	}
}

// exchanging returns the moves that lead the flags of two orbits to those of the other one.
func exchanging(s symmetric) []int {
	var moves []int
	for i, move := range s.Moves {
		if s.orbits[move[0]] != s.orbits[0] {
			moves = append(moves, i)
		}
	}
	return moves
}

func TestTwoOrbitsAloneAreNotChiral(t *testing.T) {
	found := map[string]bool{}
	for _, s := range symmetrics() {
		if s.count() == 2 {
			moves := exchanging(s)
			name := ""
			for _, i := range moves {
				name += string(rune('0' + i))
			}
			found[name] = true
			chiral, code := impl.IsChiral(s.Maniplex)
			expect(t, "two orbits that are exchanged by "+name, chiral, code, len(moves) == len(s.Moves), impl.ErrNone)
		}
	}
	// With all moves but the first one, all but the last one, and all but one in the middle.
	for _, name := range []string{"123", "012", "02", "1", "0123", "01234", "12", "01"} {
		if !found[name] {
			t.Errorf("no sample has two orbits that are exchanged by %s: %v", name, found)
		}
	}
}

func TestStandardAutomorphismsExamples(t *testing.T) {
	got, code := impl.StandardAutomorphisms(triangle)
	expectLists(t, "the triangle", got, code, [][]int64{{1, 0, 5, 4, 3, 2}, {5, 4, 3, 2, 1, 0}}, impl.ErrNone)
	got, code = impl.StandardAutomorphisms(edge)
	expectLists(t, "the edge", got, code, [][]int64{{1, 0}}, impl.ErrNone)
	got, code = impl.StandardAutomorphisms(polygon(1))
	expectLists(t, "a 1-gon", got, code, [][]int64{{1, 0}, {1, 0}}, impl.ErrNone)
	// Where the moves commute, they are automorphisms.
	for _, m := range []impl.Maniplex{cell, plane, cubes(5), shifts(4, 1, 1, 2, 2, 3)} {
		got, code = impl.StandardAutomorphisms(m)
		expectLists(t, "moves that commute", got, code, m.Moves, impl.ErrNone)
	}
}

func TestStandardAutomorphisms(t *testing.T) {
	codes := map[int64]int{}
	for _, s := range symmetrics() {
		var want [][]int64
		wantCode := int64(impl.ErrState)
		if s.kind() == "regular" {
			wantCode = impl.ErrNone
			for _, move := range s.Moves {
				want = append(want, s.automorphisms[move[0]])
			}
		}
		codes[wantCode]++
		got, code := impl.StandardAutomorphisms(s.Maniplex)
		expectLists(t, "StandardAutomorphisms", got, code, want, wantCode)
	}
	if codes[impl.ErrNone] < 50 || codes[impl.ErrState] < 50 {
		t.Errorf("the samples show too little: %v", codes)
	}
}

func TestStandardAutomorphismsOfWhatIsNotRegular(t *testing.T) {
	// Some of these have the automorphism that is asked for, but not for all moves.
	for _, k := range knownSymmetries() {
		if k.orbits > 1 {
			got, code := impl.StandardAutomorphisms(k.m)
			expectLists(t, k.what, got, code, nil, impl.ErrState)
		}
	}
}

func TestSymmetriesOfWhatIsNoManiplex(t *testing.T) {
	for what, m := range brokenManiplexes() {
		for _, flag := range []int64{0, 1, -1, 400} {
			got, code := impl.AutomorphismTo(m, flag)
			expectList(t, what, got, code, nil, impl.ErrInvalid)
		}
		for _, function := range []func(impl.Maniplex) ([][]int64, int64){impl.AutomorphismsOf, impl.SymmetryType, impl.StandardAutomorphisms} {
			got, code := function(m)
			expectLists(t, what, got, code, nil, impl.ErrInvalid)
		}
		for _, function := range []func(impl.Maniplex) (bool, int64){impl.IsRegular, impl.IsChiral} {
			got, code := function(m)
			expect(t, what, got, code, false, impl.ErrInvalid)
		}
		count, code := impl.CountAutomorphisms(m)
		expect(t, what, count, code, 0, impl.ErrInvalid)
		orbits, code := impl.FlagOrbits(m)
		expectList(t, what, orbits, code, nil, impl.ErrInvalid)
		for _, i := range []int64{0, 1, -1, 5} {
			orbits, code := impl.FaceOrbits(m, i)
			expectList(t, what, orbits, code, nil, impl.ErrInvalid)
			one, code := impl.IsTransitiveOn(m, i)
			expect(t, what, one, code, false, impl.ErrInvalid)
			for _, face := range []int64{0, -1, 400} {
				got, code := impl.StabilizerOf(m, i, face)
				expectLists(t, what, got, code, nil, impl.ErrInvalid)
			}
		}
	}
}
