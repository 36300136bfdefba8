package tests

import (
	"slices"
	"testing"

	"loop.example/g01108/impl"
)

// generatorsOf returns some elements of a group from which all of them arise, each of which is not among those
// that arise from the ones before it.
func generatorsOf(t *testing.T, n int, group [][]int64) [][]int64 {
	t.Helper()
	var generators, reached [][]int64
	for _, element := range group {
		if slices.ContainsFunc(reached, func(p []int64) bool { return slices.Equal(p, element) }) {
			continue
		}
		generators = append(generators, element)
		elements, code := impl.GroupElements(int64(n), generators)
		if code != impl.ErrNone {
			t.Fatalf("GroupElements of %v: code %d", generators, code)
		}
		reached = elements
	}
	return generators
}

// coveringOn returns the orbits of a list of automorphisms as a covering onto the quotient, and fails the test
// if they are none. It returns nothing if the quotient is not a maniplex.
func coveringOn(t *testing.T, m impl.Maniplex, list [][]int64) (impl.Maniplex, []int64) {
	t.Helper()
	k, code := impl.QuotientBy(m, list)
	if code == impl.ErrState {
		return impl.Maniplex{}, nil
	}
	orbits, orbitsCode := impl.OrbitLabels(int64(len(m.Moves[0])), list)
	ok, coveringCode := impl.IsCovering(m, k, orbits)
	if !ok || code != impl.ErrNone || orbitsCode != impl.ErrNone || coveringCode != impl.ErrNone {
		t.Fatalf("%v does not cover its quotient by %v: codes %d, %d and %d", m, list, code, orbitsCode, coveringCode)
	}
	return k, orbits
}

func TestManiplexesCoverTheirQuotientsNormally(t *testing.T) {
	quotients := 0
	for i, s := range symmetrics() {
		if len(s.Moves[0]) > 120 && i%4 > 0 {
			continue
		}
		for _, list := range someAutomorphisms(s.automorphisms, int64(1000+i)) {
			k, orbits := coveringOn(t, s.Maniplex, list)
			if orbits == nil {
				continue
			}
			quotients++
			normal, code := impl.IsNormalCovering(s.Maniplex, k, orbits)
			expect(t, "a quotient", normal, code, true, impl.ErrNone)
			// The deck moves are all that arises from the list.
			want, wantCode := impl.GroupElements(int64(len(orbits)), list)
			moves, code := impl.DeckMoves(s.Maniplex, k, orbits)
			expectLists(t, "the deck moves", moves, code, want, wantCode)
			for flag := range int64(len(k.Moves[0])) {
				fibre, code := impl.FibreOf(s.Maniplex, k, orbits, flag)
				if code != impl.ErrNone || len(fibre) != len(moves) {
					t.Fatalf("the fibre of the flag %d of a quotient of %v is %v, %d", flag, s.Maniplex, fibre, code)
				}
				orbit, code := impl.OrbitOf(int64(len(orbits)), list, fibre[0])
				expectList(t, "a fibre", fibre, impl.ErrNone, orbit, code)
			}
			if _, code := impl.CoveringOf(s.Maniplex, k); code != impl.ErrNone {
				t.Errorf("no covering from %v to its quotient %v is found", s.Maniplex, k)
			}
		}
	}
	if quotients < 1000 {
		t.Errorf("only %d quotients were looked at", quotients)
	}
}

func TestQuotientsByDeckMovesAreWhatIsCovered(t *testing.T) {
	found := map[bool]int{}
	for _, c := range coveringSamples() {
		moves, code := impl.DeckMoves(c.m, c.k, c.list)
		if code != impl.ErrNone {
			t.Fatalf("DeckMoves of %v: code %d", c.list, code)
		}
		quotient, code := impl.QuotientBy(c.m, generatorsOf(t, len(c.list), moves))
		if code != impl.ErrNone {
			t.Fatalf("the quotient of %v by the deck moves of %v: code %d", c.m, c.list, code)
		}
		normal, code := impl.IsNormalCovering(c.m, c.k, c.list)
		same, sameCode := impl.AreIsomorphic(quotient, c.k)
		if same != normal || code != impl.ErrNone || sameCode != impl.ErrNone {
			t.Errorf("%v is normal: %v; its quotient by the deck moves is what is covered: %v", c.list, normal, same)
		}
		found[normal]++
		// If the covering is not normal, then the quotient lies between both.
		_, code = impl.CoveringOf(quotient, c.k)
		expect(t, "the quotient by the deck moves covers", len(quotient.Moves[0]), code, len(c.list)/len(moves), impl.ErrNone)
	}
	if found[true] < 500 || found[false] < 200 {
		t.Errorf("the samples show too little: %v", found)
	}
}

func TestDeckMovesAreAutomorphismsThatKeepWhatFlagsGet(t *testing.T) {
	for _, c := range coveringSamples() {
		moves, code := impl.DeckMoves(c.m, c.k, c.list)
		if code != impl.ErrNone || len(moves) == 0 {
			t.Fatalf("DeckMoves of %v: code %d", c.list, code)
		}
		for i, p := range moves {
			if !isIsomorphism(c.m, c.m, p) || !slices.Equal(doBoth(p, c.list), c.list) {
				t.Errorf("%v is no deck move of %v", p, c.list)
			}
			if i > 0 && moves[i-1][0] >= p[0] {
				t.Errorf("%v is in front of %v", moves[i-1], p)
			}
		}
		if c.sizeOfFibres()%len(moves) != 0 {
			t.Errorf("%d deck moves go with %d flags in a fibre", len(moves), c.sizeOfFibres())
		}
		group, code := impl.GroupElements(int64(len(c.list)), generatorsOf(t, len(c.list), moves))
		expectLists(t, "the deck moves are a group", group, code, moves, impl.ErrNone)
	}
}

func TestFibresAreOfEqualSize(t *testing.T) {
	for i, c := range coveringSamples() {
		if i%3 > 0 {
			continue
		}
		for first := range int64(min(4, len(c.k.Moves[0]))) {
			k := withFlagAt(c.k, first)
			list, code := impl.CoveringOf(c.m, k)
			if code != impl.ErrNone {
				t.Fatalf("%v does not cover %v: code %d", c.m, k, code)
			}
			var all []int64
			for flag := range int64(len(k.Moves[0])) {
				fibre, code := impl.FibreOf(c.m, k, list, flag)
				expect(t, "the size of a fibre", len(fibre), code, c.sizeOfFibres(), impl.ErrNone)
				all = append(all, fibre...)
			}
			expectList(t, "all fibres", slices.Sorted(slices.Values(all)), code, identity(len(c.list)), impl.ErrNone)
		}
	}
}

func TestCoveringsOfManiplexesByThemselvesAreAutomorphisms(t *testing.T) {
	for i, s := range symmetrics() {
		expectCoverings(t, "itself", s.Maniplex, s.Maniplex, s.automorphisms)
		p := shuffled(len(s.orbits), int64(11*i))
		other := renumber(s.Maniplex, p)
		count, code := impl.CountCoverings(s.Maniplex, other)
		expect(t, "an isomorphic one", count, code, int64(len(s.automorphisms)), impl.ErrNone)
		want, wantCode := impl.IsomorphismOf(s.Maniplex, other)
		got, code := impl.CoveringOf(s.Maniplex, other)
		expectList(t, "an isomorphic one", got, code, want, wantCode)
		ok, code := impl.IsCovering(s.Maniplex, other, p)
		expect(t, "the numbers", ok, code, true, impl.ErrNone)
		moves, code := impl.DeckMoves(s.Maniplex, other, p)
		expectLists(t, "the deck moves of an isomorphism", moves, code, [][]int64{identity(len(p))}, impl.ErrNone)
	}
}

func TestRegularManiplexesCoverInAsManyWaysAsThereAreFlags(t *testing.T) {
	found := 0
	for _, c := range coveringSamples() {
		regular, _ := impl.IsRegular(c.m)
		onRegular, _ := impl.IsRegular(c.k)
		count, code := impl.CountCoverings(c.m, c.k)
		if code != impl.ErrNone || (regular || onRegular) && count != int64(len(c.k.Moves[0])) {
			t.Errorf("%v covers %v in %d ways", c.m, c.k, count)
		}
		if regular != onRegular {
			found++
		}
	}
	if found < 100 {
		t.Errorf("the samples show too little: %d", found)
	}
}

func TestCoveringsDoneOneAfterTheOther(t *testing.T) {
	found := 0
	for i, c := range coveringSamples() {
		if i%3 > 0 {
			continue
		}
		automorphisms := isomorphismsByRunning(c.k, c.k)
		for _, list := range someAutomorphisms(automorphisms, int64(i))[3:6] {
			below, orbits := coveringOn(t, c.k, list)
			if orbits == nil {
				continue
			}
			both := doBoth(c.list, orbits)
			ok, code := impl.IsCovering(c.m, below, both)
			expect(t, "a covering after a covering", ok, code, true, impl.ErrNone)
			for rank := range int64(len(c.m.Moves)) {
				upper, _ := impl.FaceMap(c.m, c.k, c.list, rank)
				lower, code := impl.FaceMap(c.k, below, orbits, rank)
				if code != impl.ErrNone {
					t.Fatalf("FaceMap of %v: code %d", orbits, code)
				}
				got, code := impl.FaceMap(c.m, below, both, rank)
				expectList(t, "faces of faces", got, code, doBoth(upper, lower), impl.ErrNone)
			}
			if len(below.Moves[0]) < len(c.k.Moves[0]) {
				found++
			}
		}
	}
	if found < 50 {
		t.Errorf("the samples show too little: %d", found)
	}
}

func TestFaceMapsAgreeWithTheNumbersOfFaces(t *testing.T) {
	for _, c := range coveringSamples() {
		for i := range int64(len(c.m.Moves)) {
			labels, _ := impl.FaceLabels(c.m, i)
			covered, _ := impl.FaceLabels(c.k, i)
			faces, code := impl.FaceMap(c.m, c.k, c.list, i)
			if code != impl.ErrNone || len(faces) != int(slices.Max(labels)+1) {
				t.Fatalf("FaceMap of %v at %d is %v, %d", c.list, i, faces, code)
			}
			for flag, face := range labels {
				if faces[face] != covered[c.list[flag]] {
					t.Fatalf("the face %d of rank %d of %v got %d", face, i, c.m, faces[face])
				}
			}
			// All faces are got, because all flags are.
			got := slices.Compact(slices.Sorted(slices.Values(faces)))
			expectList(t, "the faces that are got", got, code, identity(int(slices.Max(covered)+1)), impl.ErrNone)
		}
	}
}

func TestQuotientsDoNotDependOnHowTheAutomorphismsAreListed(t *testing.T) {
	for i, s := range symmetrics() {
		if i%3 > 0 {
			continue
		}
		for _, list := range someAutomorphisms(s.automorphisms, int64(2000+i)) {
			want, wantCode := impl.QuotientBy(s.Maniplex, list)
			backwards := cloneLists(list)
			slices.Reverse(backwards)
			got, code := impl.QuotientBy(s.Maniplex, backwards)
			expectManiplex(t, "in the other order", got, code, want, wantCode)
			if len(list) <= 8 {
				got, code = impl.QuotientBy(s.Maniplex, slices.Concat(list, backwards))
				expectManiplex(t, "each one twice", got, code, want, wantCode)
			}
			group, code := impl.GroupElements(int64(len(s.orbits)), list)
			if code == impl.ErrNone {
				got, code = impl.QuotientBy(s.Maniplex, generatorsOf(t, len(s.orbits), group))
				expectManiplex(t, "other generators", got, code, want, wantCode)
			}
		}
	}
}

func TestCoveringsDoNotDependOnTheNumbersOfTheFlags(t *testing.T) {
	for i, c := range coveringSamples() {
		if i%2 > 0 {
			continue
		}
		other := c.renumbered(int64(3000 + i))
		want, wantCode := impl.CountCoverings(c.m, c.k)
		count, code := impl.CountCoverings(other.m, other.k)
		expect(t, "CountCoverings", count, code, want, wantCode)
		ok, code := impl.IsCovering(other.m, other.k, other.list)
		expect(t, "IsCovering", ok, code, true, impl.ErrNone)
		normal, normalCode := impl.IsNormalCovering(c.m, c.k, c.list)
		ok, code = impl.IsNormalCovering(other.m, other.k, other.list)
		expect(t, "IsNormalCovering", ok, code, normal, normalCode)
		moves, code := impl.DeckMoves(other.m, other.k, other.list)
		expectLists(t, "DeckMoves", moves, code, other.deckMoves, impl.ErrNone)
	}
}
