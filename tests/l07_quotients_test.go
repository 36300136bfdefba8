package tests

import (
	"slices"
	"testing"

	"loop.example/g01108/impl"
)

// hexagon is the one of the document's example, and halfTurn the automorphism that leads its flags around
// halfway.
var (
	hexagon  = polygon(6)
	halfTurn = []int64{6, 7, 8, 9, 10, 11, 0, 1, 2, 3, 4, 5}
)

// oneGon is the polygon with one side.
var oneGon = impl.Maniplex{Moves: [][]int64{{1, 0}, {1, 0}}}

func TestQuotientByExamples(t *testing.T) {
	given, code := impl.ParseManiplex("1,0,3,2,5,4,7,6,9,8,11,10/11,2,1,4,3,6,5,8,7,10,9,0")
	expectManiplex(t, "the hexagon", hexagon, impl.ErrNone, given, code)
	mirrored, turn := []int64{1, 0, 5, 4, 3, 2}, []int64{2, 3, 4, 5, 0, 1}
	cases := []struct {
		what string
		m    impl.Maniplex
		list [][]int64
		want impl.Maniplex
		code int64
	}{
		{"half a turn of the hexagon", hexagon, [][]int64{halfTurn}, triangle, impl.ErrNone},
		{"a sixth of a turn of the hexagon", hexagon, [][]int64{doBoth(hexagon.Moves[0], hexagon.Moves[1])}, impl.Maniplex{}, impl.ErrRange},
		{"no automorphism of the triangle", triangle, nil, triangle, impl.ErrNone},
		{"an empty list", triangle, [][]int64{}, triangle, impl.ErrNone},
		{"the identity", triangle, [][]int64{identity(6)}, triangle, impl.ErrNone},
		{"the identity twice", triangle, [][]int64{identity(6), identity(6)}, triangle, impl.ErrNone},
		{"a turn of the triangle", triangle, [][]int64{turn}, oneGon, impl.ErrNone},
		{"a turn of the triangle and back", triangle, [][]int64{turn, undo(turn)}, oneGon, impl.ErrNone},
		{"one turn twice", triangle, [][]int64{turn, turn}, oneGon, impl.ErrNone},
		{"a triangle mirrored", triangle, [][]int64{mirrored}, impl.Maniplex{}, impl.ErrState},
		{"a triangle mirrored at a corner", triangle, [][]int64{{5, 4, 3, 2, 1, 0}}, impl.Maniplex{}, impl.ErrState},
		{"all of the triangle", triangle, [][]int64{turn, mirrored}, impl.Maniplex{}, impl.ErrState},
		{"all of the triangle in the other order", triangle, [][]int64{mirrored, turn}, impl.Maniplex{}, impl.ErrState},
		{"no automorphism of the edge", edge, nil, edge, impl.ErrNone},
		{"both ends of the edge", edge, [][]int64{{1, 0}}, impl.Maniplex{}, impl.ErrState},
		{"a 1-gon", oneGon, [][]int64{{0, 1}}, oneGon, impl.ErrNone},
		{"all of a 1-gon", oneGon, [][]int64{{1, 0}}, impl.Maniplex{}, impl.ErrState},
		{"the moves 0 and 1 of the cell", cell, [][]int64{{3, 2, 1, 0, 7, 6, 5, 4}}, impl.Maniplex{Moves: [][]int64{{1, 0, 3, 2}, {1, 0, 3, 2}, {2, 3, 0, 1}}}, impl.ErrNone},
		{"the moves 1 and 2 of the cell", cell, [][]int64{{6, 7, 4, 5, 2, 3, 0, 1}}, impl.Maniplex{Moves: [][]int64{{1, 0, 3, 2}, {2, 3, 0, 1}, {2, 3, 0, 1}}}, impl.ErrNone},
		{"the moves 0 and 2 of the cell", cell, [][]int64{{5, 4, 7, 6, 1, 0, 3, 2}}, impl.Maniplex{}, impl.ErrState},
		{"all moves of the cell", cell, [][]int64{{7, 6, 5, 4, 3, 2, 1, 0}}, plane, impl.ErrNone},
		{"the move 1 of the cell", cell, [][]int64{{2, 3, 0, 1, 6, 7, 4, 5}}, impl.Maniplex{}, impl.ErrState},
	}
	for _, c := range cases {
		got, code := impl.QuotientBy(c.m, c.list)
		expectManiplex(t, c.what, got, code, c.want, c.code)
	}
}

// opposites returns the first automorphism but for the identity that commutes with all automorphisms: it
// leads each vertex of a cube or an icosahedron to the opposite one.
func opposites(m impl.Maniplex) []int64 {
	automorphisms := isomorphismsByRunning(m, m)
	for _, p := range automorphisms[1:] {
		commutes := func(q []int64) bool { return slices.Equal(doBoth(p, q), doBoth(q, p)) }
		if !slices.ContainsFunc(automorphisms, func(q []int64) bool { return !commutes(q) }) {
			return p
		}
	}
	return nil
}

func TestQuotientsOfSolidsByOpposites(t *testing.T) {
	for _, c := range []struct {
		what   string
		m      impl.Maniplex
		counts []int64
	}{
		{"the cube", prism(4), []int64{4, 6, 3}},
		{"the octahedron", octahedron(), []int64{3, 6, 4}},
		{"the icosahedron", icosahedron(), []int64{6, 15, 10}},
		{"the dodecahedron", flipped(icosahedron()), []int64{10, 15, 6}},
	} {
		got, code := impl.QuotientBy(c.m, [][]int64{opposites(c.m)})
		if code != impl.ErrNone {
			t.Fatalf("%s: code %d", c.what, code)
		}
		counts, code := impl.FaceCounts(got)
		expectList(t, c.what, counts, code, c.counts, impl.ErrNone)
		orientable, code := impl.IsOrientable(got)
		expect(t, c.what, orientable, code, false, impl.ErrNone)
	}
	got, code := impl.QuotientBy(prism(4), [][]int64{opposites(prism(4))})
	same, sameCode := impl.AreIsomorphic(got, hemicube())
	if !same || code != impl.ErrNone || sameCode != impl.ErrNone {
		t.Errorf("half of the cube is %v, %d", got, code)
	}
}

// closed returns the bits of all numbers that arise from some of the given ones.
func closed(bits ...int64) []int64 {
	numbers := []int64{0}
	for _, changed := range bits {
		for _, number := range numbers {
			if other := number ^ changed; !slices.Contains(numbers, other) {
				numbers = append(numbers, other)
			}
		}
	}
	return numbers
}

// isQuotientOfBits reports whether the quotient of cubes of a rank by changes of bits is a maniplex: none of
// the changes may be that of one move, or that of two moves whose ranks differ by at least 2.
func isQuotientOfBits(rank int, changes []int64) bool {
	for i := range rank {
		for k := range rank {
			one, both := int64(1)<<i, int64(1)<<i|int64(1)<<k
			if slices.Contains(changes, one) || k >= i+2 && slices.Contains(changes, both) {
				return false
			}
		}
	}
	return true
}

func TestQuotientsByChangesOfBits(t *testing.T) {
	for rank := 1; rank <= 5; rank++ {
		flags := int64(1) << rank
		var bits []int64
		for i := range rank {
			bits = append(bits, int64(1)<<i)
		}
		m := shifts(flags, bits...)
		found := map[int64]int{}
		for first := range flags {
			for second := range flags {
				changes := closed(first, second)
				list := shifts(flags, first, second).Moves
				got, code := impl.QuotientBy(m, list)
				want, wantCode := quotientByMerging(m, list), int64(impl.ErrNone)
				if len(want.Moves[0]) != int(flags)/len(changes) {
					t.Fatalf("rank %d by %d and %d: %v is not the quotient", rank, first, second, want)
				}
				if !isQuotientOfBits(rank, changes) {
					want, wantCode = impl.Maniplex{}, impl.ErrState
				}
				expectManiplex(t, "changes of bits", got, code, want, wantCode)
				found[code]++
			}
		}
		if found[impl.ErrState] == 0 || rank >= 3 && found[impl.ErrNone] < 8 {
			t.Errorf("rank %d shows too little: %v", rank, found)
		}
	}
}

// faultOf tells why a quotient is not a maniplex.
func faultOf(k impl.Maniplex) string {
	for i, move := range k.Moves {
		for orbit, image := range move {
			if image == int64(orbit) {
				return "a move keeps an orbit"
			}
			for _, other := range k.Moves[min(i+2, len(k.Moves)):] {
				if other[orbit] == image {
					return "two moves lead an orbit to one"
				}
			}
		}
	}
	return "none"
}

func TestQuotientBy(t *testing.T) {
	faults := map[string]int{}
	for i, s := range symmetrics() {
		for _, list := range someAutomorphisms(s.automorphisms, int64(i)) {
			want, wantCode := quotientByMerging(s.Maniplex, list), int64(impl.ErrNone)
			fault := faultOf(want)
			if (fault == "none") != isManiplex(want) {
				t.Fatalf("the quotient %v has another fault than %s", want, fault)
			}
			if fault != "none" {
				want, wantCode = impl.Maniplex{}, impl.ErrState
			}
			faults[fault]++
			got, code := impl.QuotientBy(s.Maniplex, list)
			expectManiplex(t, "QuotientBy", got, code, want, wantCode)
		}
	}
	for _, fault := range []string{"none", "a move keeps an orbit", "two moves lead an orbit to one"} {
		if faults[fault] < 50 {
			t.Errorf("the samples show too little: %v", faults)
		}
	}
}

func TestQuotientsByAllAutomorphismsOfOneManiplex(t *testing.T) {
	for _, m := range []impl.Maniplex{triangle, hexagon, cell, path, hemicube(), prism(3), cubes(4), shifts(8, 1, 3, 4), grid(2, 3, false), turning(5, 2), beside(edge, plane)} {
		automorphisms := isomorphismsByRunning(m, m)
		for _, first := range automorphisms {
			for _, second := range automorphisms {
				want, wantCode := quotientByMerging(m, [][]int64{first, second}), int64(impl.ErrNone)
				if !isManiplex(want) {
					want, wantCode = impl.Maniplex{}, impl.ErrState
				}
				got, code := impl.QuotientBy(m, [][]int64{first, second})
				expectManiplex(t, "two automorphisms", got, code, want, wantCode)
			}
		}
	}
}

// repeated returns a list with so many times one element.
func repeated(p []int64, times int) [][]int64 {
	var list [][]int64
	for range times {
		list = append(list, slices.Clone(p))
	}
	return list
}

func TestQuotientsByManyAutomorphisms(t *testing.T) {
	for _, m := range []impl.Maniplex{edge, triangle, hexagon, cell, cubes(5), polygon(200), scattered(100, 3)} {
		flags := len(m.Moves[0])
		got, code := impl.QuotientBy(m, repeated(identity(flags), 16))
		expectManiplex(t, "16 times the identity", got, code, m, impl.ErrNone)
		for _, times := range []int{17, 18, 400} {
			got, code = impl.QuotientBy(m, repeated(identity(flags), times))
			expectManiplex(t, "more than 16 times the identity", got, code, impl.Maniplex{}, impl.ErrRange)
		}
	}
	all := isomorphismsByRunning(cubes(5), cubes(5))
	got, code := impl.QuotientBy(cubes(5), all[:16])
	expectManiplex(t, "16 automorphisms", got, code, impl.Maniplex{}, impl.ErrState)
	got, code = impl.QuotientBy(cubes(5), all[:17])
	expectManiplex(t, "17 automorphisms", got, code, impl.Maniplex{}, impl.ErrRange)
	// The last one of 16 automorphisms counts as much as the first one.
	got, code = impl.QuotientBy(hexagon, append(repeated(identity(12), 15), halfTurn))
	expectManiplex(t, "half a turn at the end", got, code, triangle, impl.ErrNone)
	got, code = impl.QuotientBy(hexagon, append([][]int64{halfTurn}, repeated(identity(12), 15)...))
	expectManiplex(t, "half a turn at the beginning", got, code, triangle, impl.ErrNone)
	got, code = impl.QuotientBy(hexagon, append(repeated(identity(12), 16), halfTurn))
	expectManiplex(t, "half a turn as the last one of 17", got, code, impl.Maniplex{}, impl.ErrRange)
}

func TestQuotientByWhatIsNoAutomorphism(t *testing.T) {
	lists := append(brokenPermutations(), []int64{}, nil, []int64{0}, []int64{1, 0}, identity(11), identity(13), identity(400), identity(401), hexagon.Moves[0], hexagon.Moves[1],
		slices.Repeat([]int64{0}, 12), slices.Repeat([]int64{0, 1}, 6), append(identity(11), 12), append(identity(11), -1), append(identity(11), 10), append(identity(11), 1<<32+11), append([]int64{-1}, identity(12)[1:]...),
		halfTurn[:11], append(slices.Clone(halfTurn), 12), append(slices.Clone(halfTurn), 0), []int64{6, 7, 8, 9, 10, 11, 0, 1, 2, 3, 5, 4})
	mirrored := []int64{1, 0, 11, 10, 9, 8, 7, 6, 5, 4, 3, 2}
	for _, p := range lists {
		for _, list := range [][][]int64{{p}, {p, p}, {identity(12), p}, {p, identity(12)}, {halfTurn, p, halfTurn}, {mirrored, p}, {p, mirrored}, append(repeated(identity(12), 15), p)} {
			got, code := impl.QuotientBy(hexagon, list)
			expectManiplex(t, "no automorphism", got, code, impl.Maniplex{}, impl.ErrRange)
		}
	}
	got, code := impl.QuotientBy(hexagon, [][]int64{mirrored})
	expectManiplex(t, "an automorphism", got, code, impl.Maniplex{}, impl.ErrState)
	for what, m := range map[string]impl.Maniplex{"the edge": edge, "the cell": cell, "400 flags": polygon(200)} {
		for _, p := range append(brokenPermutations(), identity(12), halfTurn) {
			got, code := impl.QuotientBy(m, [][]int64{p})
			expectManiplex(t, what, got, code, impl.Maniplex{}, impl.ErrRange)
		}
	}
}

func TestQuotientByAllPermutationsOfAFewFlags(t *testing.T) {
	permutations := allPermutations(8)
	spoilt := map[string]int{}
	for _, m := range []impl.Maniplex{cell, path, beside(edge, polygon(2)), shifts(8, 1, 3, 4), polygon(4), shifts(8, 1, 2, 3, 4), shifts(8, 1, 1, 2, 2, 4)} {
		for _, p := range permutations {
			name := ""
			for i, move := range m.Moves {
				if !slices.Equal(doBoth(move, p), doBoth(p, move)) {
					name += string(rune('0' + i))
				}
			}
			want, wantCode := impl.Maniplex{}, int64(impl.ErrRange)
			if name == "" {
				want, wantCode = quotientByMerging(m, [][]int64{p}), impl.ErrNone
				if !isManiplex(want) {
					want, wantCode = impl.Maniplex{}, impl.ErrState
				}
			}
			spoilt[name]++
			got, code := impl.QuotientBy(m, [][]int64{p})
			expectManiplex(t, "a permutation", got, code, want, wantCode)
		}
	}
	// Some permutations commute with all moves but the first one, or one in the middle, or the last one.
	for _, name := range []string{"", "0", "1", "2", "3", "4", "01", "12", "02"} {
		if spoilt[name] == 0 {
			t.Errorf("the permutations show too little: %v", spoilt)
		}
	}
}

func TestQuotientByAutomorphismsWithOneFault(t *testing.T) {
	for i, s := range symmetrics() {
		flags := int64(len(s.orbits))
		for n, automorphism := range s.automorphisms[:min(3, len(s.automorphisms))] {
			for _, place := range []int64{0, int64(i+n) % flags, flags - 1} {
				wrong := slices.Clone(automorphism)
				other := (place + 1) % flags
				wrong[place], wrong[other] = wrong[other], wrong[place]
				if goesWithMoves(s.Maniplex, s.Maniplex, wrong) {
					continue
				}
				got, code := impl.QuotientBy(s.Maniplex, [][]int64{wrong})
				expectManiplex(t, "two images exchanged", got, code, impl.Maniplex{}, impl.ErrRange)
				wrong = slices.Clone(automorphism)
				wrong[place] = wrong[other]
				got, code = impl.QuotientBy(s.Maniplex, [][]int64{wrong})
				expectManiplex(t, "an image given twice", got, code, impl.Maniplex{}, impl.ErrRange)
			}
		}
	}
}

func TestQuotientsOfWhatIsNoManiplex(t *testing.T) {
	for what, m := range brokenManiplexes() {
		for _, list := range [][][]int64{nil, {identity(2)}, {identity(6)}, {{1, 0}}, {nil}, {{0, 0}}, {{-1}}, repeated(identity(2), 17)} {
			got, code := impl.QuotientBy(m, list)
			expectManiplex(t, what, got, code, impl.Maniplex{}, impl.ErrInvalid)
		}
		forms, code := impl.QuotientForms(m)
		expectForms(t, what, forms, code, nil, impl.ErrInvalid)
	}
}
