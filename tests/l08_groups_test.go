package tests

import (
	"slices"
	"testing"

	"loop.example/g01108/impl"
)

// expectGroup fails the test if MonodromyOrder or RegularCover does not agree with the permutations of the
// monodromy group, of which none are given if there are more than 1000.
func expectGroup(t *testing.T, what string, s grouped) {
	t.Helper()
	size, sizeCode := int64(len(s.group)), int64(impl.ErrNone)
	if size == 0 {
		sizeCode = impl.ErrLimit
	}
	got, code := impl.MonodromyOrder(s.Maniplex)
	expect(t, what+": MonodromyOrder", got, code, size, sizeCode)
	cover, coverCode := impl.Maniplex{}, int64(impl.ErrLimit)
	if size > 0 && size <= 400 {
		cover, coverCode = coverByClosing(s.Maniplex, s.group), impl.ErrNone
	}
	gotCover, code := impl.RegularCover(s.Maniplex)
	expectManiplex(t, what+": RegularCover", gotCover, code, cover, coverCode)
}

func TestMonodromyOrderExamples(t *testing.T) {
	for _, c := range []struct {
		what  string
		m     impl.Maniplex
		order int64
		code  int64
	}{
		{"the edge", edge, 2, impl.ErrNone},
		{"a 1-gon", oneGon, 2, impl.ErrNone},
		{"the triangle", triangle, 6, impl.ErrNone},
		{"a 200-gon", polygon(200), 400, impl.ErrNone},
		{"the plane", plane, 4, impl.ErrNone},
		{"the cell", cell, 8, impl.ErrNone},
		{"a tetrahedron", simplex(3), 24, impl.ErrNone},
		{"an icosahedron", icosahedron(), 120, impl.ErrNone},
		{"half of a cube", hemicube(), 24, impl.ErrNone},
		{"a simplex of rank 4", simplex(4), 120, impl.ErrNone},
		{"cubes of rank 5", cubes(5), 32, impl.ErrNone},
		{"four flags of rank 5", shifts(4, 1, 1, 2, 2, 3), 4, impl.ErrNone},
		{"400 flags of rank 5", beside(cubes(3), polygon(25)), 400, impl.ErrNone},
		{"a torus with two vertices", grid(1, 2, false), 32, impl.ErrNone},
		{"a torus with six vertices", grid(2, 3, false), 288, impl.ErrNone},
		{"a torus with seven vertices", grid(1, 7, false), 392, impl.ErrNone},
		{"a torus with eight vertices", grid(1, 8, false), 512, impl.ErrNone},
		{"a torus with eleven vertices", grid(1, 11, false), 968, impl.ErrNone},
		{"a torus with twelve vertices", grid(1, 12, false), 0, impl.ErrLimit},
		{"a chiral torus with five vertices", turning(5, 2), 200, impl.ErrNone},
		{"a chiral torus with ten vertices", turning(10, 3), 400, impl.ErrNone},
		{"a chiral torus with thirteen vertices", turning(13, 5), 0, impl.ErrLimit},
		{"exactly 1000 permutations", shared(10, 25, 5), 1000, impl.ErrNone},
		{"exactly 1000 permutations of rank 5", beside(edge, shared(5, 25, 5)), 1000, impl.ErrNone},
		{"1008 permutations", shared(12, 21, 3), 0, impl.ErrLimit},
		{"exactly 400 permutations", shared(5, 20, 5), 400, impl.ErrNone},
		{"exactly 400 permutations of rank 5", beside(edge, shared(5, 10, 5)), 400, impl.ErrNone},
		{"432 permutations", shared(6, 18, 3), 432, impl.ErrNone},
		{"a path", path, 16, impl.ErrNone},
		{"two tetrahedra turned", turned(), 96, impl.ErrNone},
		{"very many permutations of 400 flags", scattered(100, 3), 0, impl.ErrLimit},
		{"very many permutations of 20 flags", similar, 0, impl.ErrLimit},
	} {
		got, code := impl.MonodromyOrder(c.m)
		expect(t, c.what, got, code, c.order, c.code)
		cover, coverCode := impl.RegularCover(c.m)
		if c.code == impl.ErrNone && c.order <= 400 {
			expect(t, c.what, len(slices.Concat(cover.Moves...)), coverCode, int(c.order)*len(c.m.Moves), impl.ErrNone)
		} else {
			expectManiplex(t, c.what, cover, coverCode, impl.Maniplex{}, impl.ErrLimit)
		}
	}
}

func TestRegularCoverExamples(t *testing.T) {
	// The flags of the cover of a regular maniplex are told by what they give the flag 0.
	for _, m := range []impl.Maniplex{edge, oneGon, triangle, digon, polygon(200), plane, cell, simplex(3), simplex(4), hemicube(), cubes(5), shifts(4, 1, 1, 2, 2, 3), renumber(simplex(3), shuffled(24, 3)), renumber(polygon(200), shuffled(400, 4)), beside(cubes(3), polygon(25))} {
		got, code := impl.RegularCover(m)
		expectManiplex(t, "a regular maniplex", got, code, m, impl.ErrNone)
	}
	// The three moves of this torus generate a group of 32 permutations of its 16 flags, which the moves of a
	// torus with four vertices do, too.
	got, code := impl.RegularCover(grid(1, 2, false))
	form, formCode := impl.FormFrom(got, 0)
	expectManiplex(t, "a torus with two vertices", form, code, formByNumbering(grid(2, 2, false), 0), formCode)
	got, code = impl.RegularCover(turning(5, 2))
	form, formCode = impl.FormFrom(got, 0)
	expectManiplex(t, "a chiral torus", form, code, formByNumbering(grid(5, 5, false), 0), formCode)
}

func TestGroupsOfSamples(t *testing.T) {
	for _, s := range groupedSamples() {
		expectGroup(t, "a sample", s)
	}
}

func TestGroupsOfAllManiplexesWithFewFlags(t *testing.T) {
	sizes := map[int]int{}
	for rank := 1; rank <= 5; rank++ {
		for _, flags := range []int{2, 4, 6, 8} {
			if flags > 6 && rank != 3 || flags > 4 && rank > 3 {
				continue
			}
			for i, m := range allManiplexes(rank, flags) {
				if flags == 8 && i%40 > 0 {
					continue
				}
				s := grouped{m, elementsByClosing(int64(flags), m.Moves)}
				expectGroup(t, "few flags", s)
				sizes[len(s.group)/flags]++
			}
		}
	}
	if len(sizes) < 3 {
		t.Errorf("the groups show too little: %v", sizes)
	}
}

func TestGroupsAreAsGreatAsRegularManiplexes(t *testing.T) {
	found := map[bool]int{}
	for _, s := range groupedSamples() {
		regular, code := impl.IsRegular(s.Maniplex)
		order, orderCode := impl.MonodromyOrder(s.Maniplex)
		if code != impl.ErrNone || orderCode != impl.ErrNone && orderCode != impl.ErrLimit {
			t.Fatalf("%v has the codes %d and %d", s.Maniplex, code, orderCode)
		}
		if same := orderCode == impl.ErrNone && order == int64(len(s.Moves[0])); same != regular {
			t.Errorf("%v is regular: %v; its group has %d permutations", s.Maniplex, regular, order)
		}
		found[regular]++
	}
	if found[true] < 40 || found[false] < 40 {
		t.Errorf("the samples show too little: %v", found)
	}
}

func TestRegularCoversAreRegularCovers(t *testing.T) {
	found := map[bool]int{}
	for _, s := range groupedSamples() {
		cover, code := impl.RegularCover(s.Maniplex)
		if code == impl.ErrLimit {
			continue
		}
		order, orderCode := impl.MonodromyOrder(s.Maniplex)
		if code != impl.ErrNone || orderCode != impl.ErrNone || !impl.IsManiplex(cover) || !isManiplex(cover) || int64(len(cover.Moves[0])) != order {
			t.Fatalf("the regular cover of %v is %v, with the codes %d and %d", s.Maniplex, cover, code, orderCode)
		}
		regular, code := impl.IsRegular(cover)
		expect(t, "a regular cover", regular, code, true, impl.ErrNone)
		// Each permutation of the group gives each flag another one, and this is a covering.
		for _, flag := range []int64{0, int64(len(s.Moves[0]) / 2), int64(len(s.Moves[0]) - 1)} {
			ok, code := impl.IsCovering(cover, s.Maniplex, column(s.group, int(flag)))
			expect(t, "what permutations give a flag", ok, code, true, impl.ErrNone)
		}
		covered, code := impl.AreCovered(cover, s.Maniplex)
		expect(t, "a regular cover", covered, code, true, impl.ErrNone)
		regular, _ = impl.IsRegular(s.Maniplex)
		covered, code = impl.AreCovered(s.Maniplex, cover)
		expect(t, "the way back", covered, code, regular, impl.ErrNone)
		again, code := impl.RegularCover(cover)
		expectManiplex(t, "the regular cover of a regular cover", again, code, cover, impl.ErrNone)
		found[regular]++
	}
	if found[true] < 40 || found[false] < 40 {
		t.Errorf("the samples show too little: %v", found)
	}
}

func TestRegularCoversGiveWordsTheSamePeriods(t *testing.T) {
	changed := 0
	for i, s := range groupedSamples() {
		cover, code := impl.RegularCover(s.Maniplex)
		if code == impl.ErrLimit || len(cover.Moves[0]) > 200 && i%4 > 0 {
			continue
		}
		for _, word := range someWords(s.Maniplex, int64(900+i), 20) {
			want, wantCode := impl.WordPeriod(s.Maniplex, word)
			got, code := impl.WordPeriod(cover, word)
			expect(t, "the period on a regular cover", got, code, want, wantCode)
			nothing, nothingCode := impl.DoesNothing(s.Maniplex, word)
			onCover, code := impl.DoesNothing(cover, word)
			expect(t, "nothing on a regular cover", onCover, code, nothing, nothingCode)
			if len(cover.Moves[0]) > len(s.Moves[0]) && nothing {
				changed++
			}
		}
		for _, pair := range [][2]impl.Maniplex{{cover, s.Maniplex}, {s.Maniplex, cover}} {
			word, code := impl.FirstNothing(pair[0], pair[1], 12)
			expectList(t, "a word for one of both alone", word, code, nil, impl.ErrNotFound)
		}
	}
	if changed < 100 {
		t.Errorf("only %d words do nothing", changed)
	}
}

func TestRegularCoversAreMixesAtAllFlags(t *testing.T) {
	found := 0
	for _, s := range groupedSamples() {
		cover, code := impl.RegularCover(s.Maniplex)
		if code == impl.ErrLimit || len(s.Moves[0]) > 100 {
			continue
		}
		mix, mixCode := s.Maniplex, int64(impl.ErrNone)
		for flag := range int64(len(s.Moves[0])) {
			if mix, mixCode = impl.MixAt(mix, 0, s.Maniplex, flag); mixCode != impl.ErrNone {
				t.Fatalf("the mix of %v at all flags up to %d: code %d", s.Maniplex, flag, mixCode)
			}
		}
		// The flag 0 of the cover is the identity.
		form, formCode := impl.FormFrom(cover, 0)
		expectManiplex(t, "the mix at all flags", mix, mixCode, form, formCode)
		if len(cover.Moves[0]) > len(s.Moves[0]) {
			found++
		}
	}
	if found < 30 {
		t.Errorf("the samples show too little: %d", found)
	}
}

func TestGroupsDoNotDependOnTheNumbersOfTheFlags(t *testing.T) {
	for i, s := range groupedSamples() {
		if i%4 > 0 {
			continue
		}
		other := renumber(s.Maniplex, shuffled(len(s.Moves[0]), int64(i)))
		want, wantCode := impl.MonodromyOrder(s.Maniplex)
		got, code := impl.MonodromyOrder(other)
		expect(t, "other numbers", got, code, want, wantCode)
		cover, coverCode := impl.RegularCover(s.Maniplex)
		otherCover, code := impl.RegularCover(other)
		if coverCode == impl.ErrLimit {
			expectManiplex(t, "other numbers", otherCover, code, impl.Maniplex{}, impl.ErrLimit)
			continue
		}
		same, sameCode := impl.AreIsomorphic(cover, otherCover)
		expect(t, "the covers", same, code, true, sameCode)
	}
}

func TestGroupsOfWhatIsNoManiplex(t *testing.T) {
	for what, m := range brokenManiplexes() {
		order, code := impl.MonodromyOrder(m)
		expect(t, what, order, code, 0, impl.ErrInvalid)
		cover, code := impl.RegularCover(m)
		expectManiplex(t, what, cover, code, impl.Maniplex{}, impl.ErrInvalid)
	}
}
