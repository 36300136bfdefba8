package tests

import (
	"slices"
	"testing"

	"loop.example/g01108/impl"
)

// automorphismsOf returns the automorphisms of m that the program finds, and fails the test if there is an
// error.
func automorphismsOf(t *testing.T, m impl.Maniplex) [][]int64 {
	t.Helper()
	list, code := impl.AutomorphismsOf(m)
	if code != impl.ErrNone {
		t.Fatalf("AutomorphismsOf of %v: code %d", m, code)
	}
	return list
}

func TestAutomorphismsArePermutationsThatCommuteWithTheMoves(t *testing.T) {
	for _, m := range symmetricSamples() {
		for _, automorphism := range automorphismsOf(t, m) {
			if !impl.IsPermutation(automorphism) || len(automorphism) != len(m.Moves[0]) {
				t.Fatalf("%v is no permutation of the flags of %v", automorphism, m)
			}
			for i, move := range m.Moves {
				first, firstCode := impl.ThenPermutation(move, automorphism)
				last, code := impl.ThenPermutation(automorphism, move)
				expectList(t, "an automorphism and a move", first, firstCode, last, code)
				if code != impl.ErrNone {
					t.Fatalf("%v after the move %d of %v: code %d", automorphism, i, m, code)
				}
			}
		}
	}
}

func TestAutomorphismsAreAGroup(t *testing.T) {
	products := 0
	for _, m := range symmetricSamples() {
		list := automorphismsOf(t, m)
		byFirst := map[int64][]int64{}
		for _, automorphism := range list {
			byFirst[automorphism[0]] = automorphism
		}
		expectList(t, "the first one", list[0], impl.ErrNone, identity(len(m.Moves[0])), impl.ErrNone)
		step := 1 + len(list)/60
		for i := 0; i < len(list); i += step {
			back, code := impl.InversePermutation(list[i])
			expectList(t, "an inverse", back, code, byFirst[back[0]], impl.ErrNone)
			for k := 0; k < len(list); k += step {
				product, code := impl.ThenPermutation(list[i], list[k])
				expectList(t, "a product", product, code, byFirst[product[0]], impl.ErrNone)
				products++
			}
		}
	}
	if products < 50000 {
		t.Errorf("only %d products were looked at", products)
	}
}

func TestGeneratedGroupsAreThoseOfTheAutomorphisms(t *testing.T) {
	for _, m := range []impl.Maniplex{edge, triangle, cell, path, simplex(3), simplex(4), hemicube(), octahedron(), icosahedron(), polygon(200), cubes(5), turning(2, 1)} {
		list := automorphismsOf(t, m)
		generators, code := impl.StandardAutomorphisms(m)
		if code == impl.ErrState {
			generators = list
		}
		group, code := impl.GroupElements(int64(len(m.Moves[0])), generators)
		// No two automorphisms give the flag 0 the same flag, so this is the lexicographic order, too.
		expectLists(t, "the group", group, code, list, impl.ErrNone)
	}
}

func TestAutomorphismsAreToldByWhatTheFlag0Gets(t *testing.T) {
	for _, m := range symmetricSamples() {
		list := automorphismsOf(t, m)
		orbits, _ := impl.FlagOrbits(m)
		count, code := impl.CountAutomorphisms(m)
		expect(t, "CountAutomorphisms", count, code, int64(len(list)), impl.ErrNone)
		next := 0
		for flag, orbit := range orbits {
			got, code := impl.AutomorphismTo(m, int64(flag))
			if orbit != 0 {
				expectList(t, "a flag of another orbit", got, code, nil, impl.ErrNotFound)
				continue
			}
			if next >= len(list) {
				t.Fatalf("more than %d flags of %v are in the orbit of the flag 0", next, m)
			}
			expectList(t, "a flag of the orbit of the flag 0", got, code, list[next], impl.ErrNone)
			expect(t, "what the flag 0 gets", got[0], code, int64(flag), impl.ErrNone)
			next++
		}
		if next != len(list) {
			t.Errorf("%d flags of %v are in the orbit of the flag 0, and there are %d automorphisms", next, m, len(list))
		}
	}
}

func TestAutomorphismsTimesOrbitsAreFlags(t *testing.T) {
	for _, m := range symmetricSamples() {
		count, code := impl.CountAutomorphisms(m)
		orbits, otherCode := impl.FlagOrbits(m)
		kinds := int64(len(slices.Compact(slices.Sorted(slices.Values(orbits)))))
		if product := count * kinds; product != int64(len(m.Moves[0])) || code != impl.ErrNone || otherCode != impl.ErrNone {
			t.Errorf("%d automorphisms times %d orbits are not all flags of %v", count, kinds, m)
		}
		regular, code := impl.IsRegular(m)
		expect(t, "IsRegular", regular, code, kinds == 1, impl.ErrNone)
	}
}

func TestOrbitsAreThoseOfTheAutomorphisms(t *testing.T) {
	for _, m := range symmetricSamples() {
		list := automorphismsOf(t, m)
		orbits, code := impl.FlagOrbits(m)
		expectList(t, "FlagOrbits", orbits, code, orbitsByMerging(int64(len(m.Moves[0])), list), impl.ErrNone)
		for i := range m.Moves {
			labels, code := impl.FaceLabels(m, int64(i))
			if code != impl.ErrNone {
				t.Fatalf("FaceLabels of %v: code %d", m, code)
			}
			var images [][]int64
			for _, automorphism := range list {
				images = append(images, faceImages(labels, automorphism))
			}
			faces, code := impl.FaceOrbits(m, int64(i))
			expectList(t, "FaceOrbits", faces, code, orbitsByMerging(int64(len(faces)), images), impl.ErrNone)
		}
	}
}

func TestStabilizersTimesOrbitsAreAutomorphisms(t *testing.T) {
	for _, m := range symmetricSamples() {
		count, _ := impl.CountAutomorphisms(m)
		for i := range m.Moves {
			labels := labelsWithout(m.Moves, i)
			orbits, code := impl.FaceOrbits(m, int64(i))
			if code != impl.ErrNone {
				t.Fatalf("FaceOrbits of %v: code %d", m, code)
			}
			sizes := map[int64]int64{}
			for _, orbit := range orbits {
				sizes[orbit]++
			}
			for _, face := range someFaces(labels) {
				stabilizer, code := impl.StabilizerOf(m, int64(i), face)
				expect(t, "the automorphisms", int64(len(stabilizer))*sizes[orbits[face]], code, count, impl.ErrNone)
			}
		}
	}
}

// expectFormsTellIsomorphic fails the test if AreIsomorphic or IsomorphismOf of m and k does not agree with
// their least forms, and returns whether these are equal.
func expectFormsTellIsomorphic(t *testing.T, what string, m impl.Maniplex, k impl.Maniplex) bool {
	t.Helper()
	least, code := impl.LeastForm(m)
	other, otherCode := impl.LeastForm(k)
	if code != impl.ErrNone || otherCode != impl.ErrNone {
		t.Fatalf("%s: the codes of the least forms are %d and %d", what, code, otherCode)
	}
	want := compareMoves(least, other) == 0
	got, code := impl.AreIsomorphic(m, k)
	expect(t, what, got, code, want, impl.ErrNone)
	list, code := impl.IsomorphismOf(m, k)
	if (code == impl.ErrNone) != want || want && !isIsomorphism(m, k, list) {
		t.Errorf("%s: IsomorphismOf of %v and %v is %v, %d", what, m, k, list, code)
	}
	return want
}

func TestManiplexesAreIsomorphicIfTheirLeastFormsAreEqual(t *testing.T) {
	kinds := map[string]map[bool]int{}
	for name := range operationsOfOne() {
		kinds[name] = map[bool]int{}
	}
	for i, m := range symmetricSamples() {
		if len(m.Moves[0]) > 120 && i%5 > 0 {
			continue
		}
		if p := shuffled(len(m.Moves[0]), int64(3*i)); !expectFormsTellIsomorphic(t, "renumbered", m, renumber(m, p)) {
			t.Errorf("%v renumbered by %v has another least form", m, p)
		}
		for name, operation := range operationsOfOne() {
			if other, code := operation(m); code == impl.ErrNone {
				kinds[name][expectFormsTellIsomorphic(t, name, m, other)]++
			}
		}
	}
	for _, name := range []string{"DualOf", "PetrieOf", "OppositeOf"} {
		if kinds[name][true] < 10 || kinds[name][false] < 10 {
			t.Errorf("the samples show too little: %v", kinds)
		}
	}
}

func TestFewManiplexesAreIsomorphicIfTheirLeastFormsAreEqual(t *testing.T) {
	samples := squareMaps()
	for edges := 1; edges <= 3; edges++ {
		for seed := range int64(30) {
			samples = append(samples, scattered(edges, 900+seed))
		}
	}
	for _, rank := range []int{3, 4, 5} {
		samples = append(samples, allManiplexes(rank, 4)...)
	}
	found := map[bool]int{}
	for i, m := range samples {
		for _, k := range samples[i%3:] {
			if len(m.Moves[0]) == len(k.Moves[0]) {
				found[expectFormsTellIsomorphic(t, "a pair", m, k)]++
			}
		}
	}
	if found[true] < 100 || found[false] < 1000 {
		t.Errorf("the samples show too little: %v", found)
	}
}

// expectPlaces fails the test if renumbering the flags by p does not lead the orbits of flags or of faces
// to orbits.
func expectPlaces(t *testing.T, what string, first []int64, last []int64, p []int64) {
	t.Helper()
	places := map[int64]int64{}
	for flag, orbit := range first {
		place, ok := places[orbit]
		if !ok {
			place = last[p[flag]]
			places[orbit] = place
		}
		if place != last[p[flag]] {
			t.Fatalf("%s: the orbits %v became %v by %v", what, first, last, p)
		}
	}
	if len(places) != int(slices.Max(last)+1) {
		t.Fatalf("%s: the %d orbits became %v", what, len(places), last)
	}
}

// orbitsOfFaces returns for each flag the orbit of its face of rank i.
func orbitsOfFaces(t *testing.T, m impl.Maniplex, i int64) []int64 {
	t.Helper()
	labels, code := impl.FaceLabels(m, i)
	orbits, otherCode := impl.FaceOrbits(m, i)
	if code != impl.ErrNone || otherCode != impl.ErrNone {
		t.Fatalf("the faces of rank %d of %v: codes %d and %d", i, m, code, otherCode)
	}
	var list []int64
	for _, face := range labels {
		list = append(list, orbits[face])
	}
	return list
}

func TestSymmetriesDoNotDependOnTheNumbersOfTheFlags(t *testing.T) {
	for i, m := range symmetricSamples() {
		p := shuffled(len(m.Moves[0]), int64(5*i))
		other := renumber(m, p)
		want, wantCode := impl.CountAutomorphisms(m)
		count, code := impl.CountAutomorphisms(other)
		expect(t, "CountAutomorphisms", count, code, want, wantCode)
		for _, function := range []func(impl.Maniplex) (bool, int64){impl.IsRegular, impl.IsChiral} {
			want, wantCode := function(m)
			got, code := function(other)
			expect(t, "renumbered", got, code, want, wantCode)
		}
		orbits, _ := impl.FlagOrbits(m)
		places, _ := impl.FlagOrbits(other)
		expectPlaces(t, "flags", orbits, places, p)
		for rank := range int64(len(m.Moves)) {
			expectPlaces(t, "faces", orbitsOfFaces(t, m, rank), orbitsOfFaces(t, other, rank), p)
		}
		for _, automorphism := range automorphismsOf(t, m)[:min(6, want)] {
			moved := doBoth(doBoth(undo(p), automorphism), p)
			got, code := impl.AutomorphismTo(other, moved[0])
			expectList(t, "a renumbered automorphism", got, code, moved, impl.ErrNone)
		}
	}
}

func TestSymmetriesOfDualsAndExtensions(t *testing.T) {
	for _, m := range symmetricSamples() {
		want, _ := impl.CountAutomorphisms(m)
		dual, _ := impl.DualOf(m)
		count, code := impl.CountAutomorphisms(dual)
		expect(t, "the dual", count, code, want, impl.ErrNone)
		n := len(m.Moves)
		for i := range n {
			orbits, _ := impl.FaceOrbits(m, int64(i))
			others, code := impl.FaceOrbits(dual, int64(n-1-i))
			expect(t, "the orbits of faces of the dual", slices.Max(others), code, slices.Max(orbits), impl.ErrNone)
		}
		chiral, _ := impl.IsChiral(m)
		other, code := impl.IsChiral(dual)
		expect(t, "the dual", other, code, chiral, impl.ErrNone)
		if petrie, code := impl.PetrieOf(m); code == impl.ErrNone {
			count, code := impl.CountAutomorphisms(petrie)
			expect(t, "the Petrie dual", count, code, want, impl.ErrNone)
		}
		if extension, code := impl.ExtendManiplex(m); code == impl.ErrNone {
			count, code := impl.CountAutomorphisms(extension)
			expect(t, "the extension", count, code, 2*want, impl.ErrNone)
			other, code := impl.IsChiral(extension)
			expect(t, "the extension", other, code, false, impl.ErrNone)
		}
	}
}
