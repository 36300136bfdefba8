package tests

import (
	"testing"

	"loop.example/g01108/impl"
)

// doubled returns the maniplex with the flags 2f and 2f + 1 for each flag f of m, in which each move leads
// from an even flag to an odd one.
func doubled(m impl.Maniplex) impl.Maniplex {
	var moves [][]int64
	for _, move := range m.Moves {
		both := make([]int64, 2*len(move))
		for flag, image := range move {
			for c := range int64(2) {
				both[2*int64(flag)+c] = 2*image + 1 - c
			}
		}
		moves = append(moves, both)
	}
	return impl.Maniplex{Moves: moves}
}

// halves returns the list that gives the flags 2f and 2f + 1 the flag f.
func halves(flags int) []int64 {
	var list []int64
	for flag := range 2 * flags {
		list = append(list, int64(flag/2))
	}
	return list
}

// unorientable are samples that are not orientable and have at most 200 flags.
func unorientable(t *testing.T) []impl.Maniplex {
	t.Helper()
	var list []impl.Maniplex
	ranks := map[int]int{}
	for _, s := range append(symmetricSamples(), oneSided()...) {
		if !isManiplex(s) {
			t.Errorf("%v is no maniplex", s)
		}
		if len(s.Moves[0]) <= 200 && coloursByTrying(s) == nil {
			list = append(list, s)
			ranks[len(s.Moves)]++
		}
	}
	if ranks[3] < 50 || ranks[4] < 10 || ranks[5] < 5 {
		t.Errorf("the samples show too little: %v", ranks)
	}
	return list
}

// oneSided are maniplexes that are not orientable, of the ranks 3, 4 and 5, some of which have as many flags
// as one with a double cover may have.
func oneSided() []impl.Maniplex {
	samples := []impl.Maniplex{plane, hemicube(), grid(5, 5, true), grid(1, 25, true), beside(hemicube(), edge), beside(edge, hemicube()), beside(plane, edge), beside(edge, beside(plane, edge)), beside(hemicube(), beside(edge, edge)), beside(plane, polygon(25)), beside(polygon(25), plane), scattered(50, 3)}
	for i, m := range samples {
		samples = append(samples, renumber(m, shuffled(len(m.Moves[0]), int64(i))))
	}
	return samples
}

func TestDoubleCoverExamples(t *testing.T) {
	got, code := impl.DoubleCover(plane)
	expectManiplex(t, "the plane", got, code, impl.Maniplex{Moves: [][]int64{{3, 2, 1, 0, 7, 6, 5, 4}, {5, 4, 7, 6, 1, 0, 3, 2}, {7, 6, 5, 4, 3, 2, 1, 0}}}, impl.ErrNone)
	counts, code := impl.FaceCounts(got)
	expectList(t, "the plane", counts, code, []int64{2, 2, 2}, impl.ErrNone)
	same, code := impl.AreIsomorphic(got, cell)
	expect(t, "the plane and the cell", same, code, true, impl.ErrNone)
	for _, c := range []struct {
		what  string
		m     impl.Maniplex
		cover impl.Maniplex
	}{
		{"half of the cube", hemicube(), prism(4)},
		{"half of the octahedron", flipped(hemicube()), octahedron()},
		{"half of the icosahedron", quotientByMerging(icosahedron(), [][]int64{opposites(icosahedron())}), icosahedron()},
		{"the plane extended", beside(plane, edge), cubes(4)},
	} {
		got, code := impl.DoubleCover(c.m)
		expectManiplex(t, c.what, got, code, doubled(c.m), impl.ErrNone)
		if same, _ := impl.AreIsomorphic(got, c.cover); !same {
			t.Errorf("%s: the double cover %v is not the one that is known", c.what, got)
		}
	}
}

func TestDoubleCover(t *testing.T) {
	for _, m := range unorientable(t) {
		got, code := impl.DoubleCover(m)
		expectManiplex(t, "DoubleCover", got, code, doubled(m), impl.ErrNone)
	}
}

func TestDoubleCoversAreOrientableCovers(t *testing.T) {
	for _, m := range unorientable(t) {
		flags := len(m.Moves[0])
		double, code := impl.DoubleCover(m)
		if code != impl.ErrNone || !isManiplex(double) || !impl.IsManiplex(double) || len(double.Moves[0]) != 2*flags {
			t.Fatalf("the double cover of %v is %v, %d", m, double, code)
		}
		orientable, code := impl.IsOrientable(double)
		expect(t, "the double cover", orientable, code, true, impl.ErrNone)
		ok, code := impl.IsCovering(double, m, halves(flags))
		expect(t, "the covering", ok, code, true, impl.ErrNone)
		normal, code := impl.IsNormalCovering(double, m, halves(flags))
		expect(t, "the covering", normal, code, true, impl.ErrNone)
		for flag := range int64(flags) {
			fibre, code := impl.FibreOf(double, m, halves(flags), flag)
			expectList(t, "a fibre", fibre, code, []int64{2 * flag, 2*flag + 1}, impl.ErrNone)
		}
		moves, code := impl.DeckMoves(double, m, halves(flags))
		var exchange []int64
		for flag := range int64(2 * flags) {
			exchange = append(exchange, flag^1)
		}
		expectLists(t, "the deck moves", moves, code, [][]int64{identity(2 * flags), exchange}, impl.ErrNone)
		again, code := impl.QuotientBy(double, [][]int64{exchange})
		expectManiplex(t, "the quotient of the double cover", again, code, m, impl.ErrNone)
		none, code := impl.DoubleCover(double)
		expectManiplex(t, "the double cover of an orientable one", none, code, impl.Maniplex{}, impl.ErrState)
	}
}

func TestWhatCoversOneSidedManiplexesAndIsOrientableCoversTheirDoubles(t *testing.T) {
	found := map[bool]int{}
	for i, c := range coveringSamples() {
		if len(c.k.Moves[0]) > 100 || i%2 > 0 {
			continue
		}
		double, code := impl.DoubleCover(c.k)
		if code != impl.ErrNone {
			expect(t, "an orientable maniplex", coloursByTrying(c.k) != nil, code, true, impl.ErrState)
			continue
		}
		orientable, _ := impl.IsOrientable(c.m)
		found[orientable]++
		count, code := impl.CountCoverings(c.m, double)
		expect(t, "the double cover is covered", count > 0, code, orientable, impl.ErrNone)
	}
	if found[true] < 20 || found[false] < 20 {
		t.Errorf("the samples show too little: %v", found)
	}
}

func TestDoubleCoversOfOrientableManiplexes(t *testing.T) {
	codes := map[int64]int{}
	for _, m := range append(symmetricSamples(), edge, oneGon, triangle, cell, polygon(200), cubes(5), turning(50, 7)) {
		want := int64(impl.ErrState)
		if coloursByTrying(m) == nil {
			want = impl.ErrLimit
			if len(m.Moves[0]) <= 200 {
				want = impl.ErrNone
			}
		}
		codes[want]++
		if want != impl.ErrNone {
			got, code := impl.DoubleCover(m)
			expectManiplex(t, "no double cover", got, code, impl.Maniplex{}, want)
		}
	}
	if codes[impl.ErrState] < 50 || codes[impl.ErrLimit] < 2 {
		t.Errorf("the samples show too little: %v", codes)
	}
}

func TestDoubleCoversAtTheLimit(t *testing.T) {
	for _, c := range []struct {
		m     impl.Maniplex
		flags int
		code  int64
	}{
		{grid(5, 5, true), 200, impl.ErrNone},
		{scattered(50, 3), 200, impl.ErrNone},
		{beside(plane, polygon(25)), 200, impl.ErrNone},
		{scattered(51, 3), 204, impl.ErrLimit},
		{grid(2, 13, true), 208, impl.ErrLimit},
		{beside(plane, polygon(26)), 208, impl.ErrLimit},
		{grid(10, 5, true), 400, impl.ErrLimit},
		{scattered(100, 3), 400, impl.ErrLimit},
		{grid(5, 5, false), 200, impl.ErrState},
		{grid(5, 10, false), 400, impl.ErrState},
		{polygon(200), 400, impl.ErrState},
		{polygon(101), 202, impl.ErrState},
	} {
		if len(c.m.Moves[0]) != c.flags || !isManiplex(c.m) || (coloursByTrying(c.m) == nil) == (c.code == impl.ErrState) {
			t.Errorf("%v is no maniplex with %d flags for the code %d", c.m, c.flags, c.code)
		}
		want := impl.Maniplex{}
		if c.code == impl.ErrNone {
			want = doubled(c.m)
		}
		got, code := impl.DoubleCover(c.m)
		expectManiplex(t, "the limit", got, code, want, c.code)
	}
}

func TestDoubleCoversOfWhatIsNoManiplex(t *testing.T) {
	for what, m := range brokenManiplexes() {
		got, code := impl.DoubleCover(m)
		expectManiplex(t, what, got, code, impl.Maniplex{}, impl.ErrInvalid)
	}
}
