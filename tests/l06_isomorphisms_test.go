package tests

import (
	"slices"
	"testing"

	"loop.example/g01108/impl"
)

// expectIsomorphism fails the test if IsomorphismOf or AreIsomorphic of m and k does not agree with all
// isomorphisms from m to k, in ascending order of what they give the flag 0.
func expectIsomorphism(t *testing.T, what string, m impl.Maniplex, k impl.Maniplex, all [][]int64) {
	t.Helper()
	var want []int64
	wantCode := int64(impl.ErrNotFound)
	if len(all) > 0 {
		want, wantCode = all[0], impl.ErrNone
	}
	got, code := impl.IsomorphismOf(m, k)
	expectList(t, what+": IsomorphismOf", got, code, want, wantCode)
	same, code := impl.AreIsomorphic(m, k)
	expect(t, what+": AreIsomorphic", same, code, len(all) > 0, impl.ErrNone)
}

func TestIsomorphismOfExamples(t *testing.T) {
	exchanged := impl.Maniplex{Moves: [][]int64{triangle.Moves[1], triangle.Moves[0]}}
	cases := []struct {
		what string
		m, k impl.Maniplex
		want []int64
	}{
		{"the edge", edge, edge, []int64{0, 1}},
		{"the triangle", triangle, triangle, []int64{0, 1, 2, 3, 4, 5}},
		{"the triangle and its moves exchanged", triangle, exchanged, []int64{0, 5, 4, 3, 2, 1}},
		{"the triangle and its form", triangle, triangleForm, []int64{0, 1, 3, 5, 4, 2}},
		{"the form of the triangle", triangleForm, triangle, []int64{0, 1, 5, 2, 4, 3}},
		{"the cell and its form", cell, cellForm, []int64{0, 1, 2, 4, 3, 5, 6, 7}},
		{"a path", path, path, identity(8)},
	}
	for _, c := range cases {
		if !isIsomorphism(c.m, c.k, c.want) {
			t.Errorf("%s: the wanted list is no isomorphism", c.what)
		}
		got, code := impl.IsomorphismOf(c.m, c.k)
		expectList(t, c.what, got, code, c.want, impl.ErrNone)
	}
}

func TestIsomorphismsThatGiveTheFlag0AnotherFlag(t *testing.T) {
	firsts := map[string]int64{}
	for what, pair := range map[string][2]impl.Maniplex{
		"both hands":                {turning(5, 2), turning(5, 3)},
		"both hands of 50 vertices": {turning(50, 7), turning(50, 43)},
		"a pyramid":                 {pyramid(4), withFlagAt(pyramid(4), 9)},
		"a path":                    {path, withFlagAt(path, 1)},
		"a prism":                   {prism(3), withFlagAt(prism(3), 35)},
		"no symmetries":             {scattered(100, 3), renumber(scattered(100, 3), shuffled(400, 8))},
	} {
		m, k := pair[0], pair[1]
		all := isomorphismsByRunning(m, k)
		if len(all) == 0 || all[0][0] == 0 || len(all) == 1 && what != "no symmetries" {
			t.Errorf("%s: the isomorphisms are %v", what, all)
			continue
		}
		firsts[what] = all[0][0]
		expectIsomorphism(t, what, m, k, all)
		expectIsomorphism(t, what+" back", k, m, isomorphismsByRunning(k, m))
	}
	if firsts["both hands"] != 1 || firsts["both hands of 50 vertices"] != 1 || firsts["no symmetries"] != shuffled(400, 8)[0] {
		t.Errorf("the flag 0 gets the flags %v", firsts)
	}
}

func TestTheIsomorphismToARenumberedManiplex(t *testing.T) {
	kinds := map[string]int{}
	for i, s := range symmetrics() {
		p := shuffled(len(s.orbits), int64(2*i+1))
		// Every isomorphism is an automorphism and then the renumbering.
		var all [][]int64
		for _, automorphism := range s.automorphisms {
			all = append(all, doBoth(automorphism, p))
		}
		slices.SortFunc(all, slices.Compare[[]int64])
		expectIsomorphism(t, "renumbered", s.Maniplex, renumber(s.Maniplex, p), all)
		expectIsomorphism(t, "not renumbered", s.Maniplex, s.Maniplex, [][]int64{identity(len(p))})
		kinds[s.kind()]++
		if all[0][0] != 0 {
			kinds["another flag 0"]++
		}
		if all[0][0] != p[0] {
			kinds["a lesser flag than by the renumbering"]++
		}
	}
	if len(kinds) != 7 || slices.Min([]int{kinds["regular"], kinds["chiral"], kinds["two orbits alone"], kinds["more orbits"], kinds["one automorphism alone"], kinds["another flag 0"], kinds["a lesser flag than by the renumbering"]}) < 25 {
		t.Errorf("the samples show too little: %v", kinds)
	}
}

// alikeIn tells what two maniplexes have in common.
func alikeIn(m impl.Maniplex, k impl.Maniplex) string {
	switch {
	case len(m.Moves) != len(k.Moves) && len(m.Moves[0]) != len(k.Moves[0]):
		return "neither the rank nor the number of flags"
	case len(m.Moves) != len(k.Moves):
		return "the number of flags"
	case len(m.Moves[0]) != len(k.Moves[0]):
		return "the rank"
	case len(isomorphismsByRunning(m, k)) > 0:
		return "all"
	}
	counts, _ := impl.FaceCounts(m)
	otherCounts, _ := impl.FaceCounts(k)
	sizes, _ := impl.TypeOf(m)
	otherSizes, _ := impl.TypeOf(k)
	if slices.Equal(counts, otherCounts) && equalLists(sizes, otherSizes) {
		return "the numbers of faces and the type"
	}
	return "the rank and the number of flags"
}

func TestIsomorphismsOfPairs(t *testing.T) {
	var samples []impl.Maniplex
	for i, s := range symmetrics() {
		if i%4 == 0 && len(s.orbits) <= 96 {
			samples = append(samples, s.Maniplex)
		}
	}
	samples = append(samples, squareMaps()...)
	samples = append(samples, edge, triangle, polygon(6), polygon(12), polygon(200), cubes(3), shifts(4, 1, 2), shifts(4, 1, 1, 2), shifts(4, 1, 1, 2, 2), shifts(4, 1, 1, 2, 2, 3), grid(5, 10, false), grid(5, 10, true))
	kinds := map[string]int{}
	for _, m := range samples {
		for _, k := range samples {
			kinds[alikeIn(m, k)]++
			expectIsomorphism(t, "a pair", m, k, isomorphismsByRunning(m, k))
		}
	}
	for _, kind := range []string{"neither the rank nor the number of flags", "the number of flags", "the rank", "the rank and the number of flags", "the numbers of faces and the type", "all"} {
		if kinds[kind] < 30 {
			t.Errorf("the samples show too little: %v", kinds)
		}
	}
}

func TestCoveringsAreNoIsomorphisms(t *testing.T) {
	pairs := [][2]impl.Maniplex{
		{polygon(6), triangle}, {polygon(200), polygon(100)}, {polygon(2), polygon(1)}, {prism(4), hemicube()}, {cell, plane}, {cubes(5), shifts(4, 1, 1, 2, 2, 3)},
		{grid(3, 6, false), grid(3, 3, false)}, {turning(50, 7), turning(10, 7)}, {turning(50, 7), turning(5, 2)}, {beside(edge, simplex(4)), beside(plane, edge)},
	}
	for _, pair := range pairs {
		if !isManiplex(pair[0]) || !isManiplex(pair[1]) {
			t.Errorf("%v is no pair of maniplexes", pair)
		}
		expectIsomorphism(t, "a covering", pair[0], pair[1], nil)
		expectIsomorphism(t, "what is covered", pair[1], pair[0], nil)
	}
}

func TestManiplexesOfDifferentRanksAreNotIsomorphic(t *testing.T) {
	for _, m := range append(smallManiplexes(), greatManiplexes()...) {
		for less := 1; less < len(m.Moves); less++ {
			// The first moves are those of a maniplex only if they lead to all flags.
			if first := (impl.Maniplex{Moves: m.Moves[:less]}); isManiplex(first) {
				expectIsomorphism(t, "fewer moves", first, m, nil)
				expectIsomorphism(t, "more moves", m, first, nil)
			}
		}
	}
	first := impl.Maniplex{Moves: plane.Moves[:2]}
	if !isManiplex(first) {
		t.Errorf("%v is no maniplex", first)
	}
	expectIsomorphism(t, "two moves and three", first, plane, nil)
	expectIsomorphism(t, "three moves and two", plane, first, nil)
	expectIsomorphism(t, "ranks 1 and 5", edge, cubes(5), nil)
	expectIsomorphism(t, "ranks 5 and 1", cubes(5), edge, nil)
	expectIsomorphism(t, "ranks 1 and 2", edge, polygon(1), nil)
	expectIsomorphism(t, "ranks 2 and 1", polygon(1), edge, nil)
}

// expectIsomorphismsOf fails the test if the isomorphisms from some maniplexes of a list to some others,
// which have so many flags, are not those that are found if all permutations are tried.
func expectIsomorphismsOf(t *testing.T, flags int, list []impl.Maniplex, step int) map[bool]int {
	t.Helper()
	permutations := allPermutations(flags)
	found := map[bool]int{}
	for i := 0; i < len(list); i += step {
		for k := i % 7; k < len(list); k += 1 + step/9 {
			want := isomorphismsByTrying(list[i], list[k], permutations)
			found[len(want) > 0]++
			expectIsomorphism(t, "few flags", list[i], list[k], want)
		}
	}
	return found
}

func TestIsomorphismsOfAllManiplexesWithFewFlags(t *testing.T) {
	for _, c := range []struct{ rank, flags, step int }{{1, 2, 1}, {2, 2, 1}, {2, 4, 1}, {3, 4, 1}, {4, 4, 1}, {5, 4, 1}, {2, 6, 40}} {
		found := expectIsomorphismsOf(t, c.flags, allManiplexes(c.rank, c.flags), c.step)
		if found[true] == 0 || found[false] == 0 && c.rank > 2 {
			t.Errorf("%v shows too little: %v", c, found)
		}
	}
	var maps []impl.Maniplex
	for i, m := range append(squareMaps(), cell, path, beside(edge, polygon(2)), shifts(8, 1, 3, 4)) {
		maps = append(maps, m, renumber(m, shuffled(8, int64(i))))
	}
	if found := expectIsomorphismsOf(t, 8, maps, 1); found[true] < 30 || found[false] < 100 {
		t.Errorf("the maps show too little: %v", found)
	}
}

func TestIsomorphismsOfWhatIsNoManiplex(t *testing.T) {
	good := []impl.Maniplex{edge, triangle, cell, cubes(5), polygon(200)}
	var bad []impl.Maniplex
	for _, m := range brokenManiplexes() {
		bad = append(bad, m)
	}
	var pairs [][2]impl.Maniplex
	for _, b := range bad {
		for _, g := range good {
			pairs = append(pairs, [2]impl.Maniplex{b, g}, [2]impl.Maniplex{g, b})
		}
		for _, other := range bad {
			pairs = append(pairs, [2]impl.Maniplex{b, other})
		}
	}
	for _, pair := range pairs {
		got, code := impl.IsomorphismOf(pair[0], pair[1])
		expectList(t, "no maniplex", got, code, nil, impl.ErrInvalid)
		same, code := impl.AreIsomorphic(pair[0], pair[1])
		expect(t, "no maniplex", same, code, false, impl.ErrInvalid)
	}
}
