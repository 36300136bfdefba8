package tests

import (
	"slices"
	"testing"

	"loop.example/g01108/impl"
)

// expectCoverings fails the test if CoveringOf, CountCoverings or IsCovering of m and k do not agree with the
// wanted coverings.
func expectCoverings(t *testing.T, what string, m impl.Maniplex, k impl.Maniplex, want [][]int64) {
	t.Helper()
	var first []int64
	wantCode := int64(impl.ErrNotFound)
	if len(want) > 0 {
		first, wantCode = want[0], impl.ErrNone
	}
	got, code := impl.CoveringOf(m, k)
	expectList(t, what+": CoveringOf", got, code, first, wantCode)
	count, code := impl.CountCoverings(m, k)
	expect(t, what+": CountCoverings", count, code, int64(len(want)), impl.ErrNone)
	for _, list := range want {
		ok, code := impl.IsCovering(m, k, list)
		expect(t, what+": IsCovering", ok, code, true, impl.ErrNone)
	}
}

func TestCoveringExamples(t *testing.T) {
	sixth := []int64{1, 0, 5, 4, 3, 2, 1, 0, 5, 4, 3, 2}
	six := [][]int64{{0, 1, 2, 3, 4, 5, 0, 1, 2, 3, 4, 5}, sixth, {2, 3, 4, 5, 0, 1, 2, 3, 4, 5, 0, 1}, {3, 2, 1, 0, 5, 4, 3, 2, 1, 0, 5, 4}, {4, 5, 0, 1, 2, 3, 4, 5, 0, 1, 2, 3}, {5, 4, 3, 2, 1, 0, 5, 4, 3, 2, 1, 0}}
	onOneGon := [][]int64{{0, 1, 0, 1, 0, 1}, {1, 0, 1, 0, 1, 0}}
	for _, c := range []struct {
		what string
		m    impl.Maniplex
		k    impl.Maniplex
		want [][]int64
	}{
		{"the hexagon and the triangle", hexagon, triangle, six},
		{"the triangle and the hexagon", triangle, hexagon, nil},
		{"the hexagon and a square", hexagon, polygon(4), nil},
		{"a triangle and a 2-gon", triangle, polygon(2), nil},
		{"a triangle and a 1-gon", triangle, oneGon, onOneGon},
		{"the edge and itself", edge, edge, [][]int64{{0, 1}, {1, 0}}},
		{"a 1-gon and itself", oneGon, oneGon, [][]int64{{0, 1}, {1, 0}}},
		{"the edge and a 1-gon", edge, oneGon, nil},
		{"a 1-gon and the edge", oneGon, edge, nil},
		{"the triangle and the edge", triangle, edge, nil},
		{"the edge and the triangle", edge, triangle, nil},
		{"the cell and the plane", cell, plane, [][]int64{{0, 1, 2, 3, 3, 2, 1, 0}, {1, 0, 3, 2, 2, 3, 0, 1}, {2, 3, 0, 1, 1, 0, 3, 2}, {3, 2, 1, 0, 0, 1, 2, 3}}},
		{"the plane and the cell", plane, cell, nil},
		{"the plane and a sphere with four flags", plane, shifts(4, 1, 1, 2), nil},
		{"the cube and half of it", prism(4), hemicube(), coveringsByRunning(prism(4), hemicube())},
		{"half of the cube and the cube", hemicube(), prism(4), nil},
		{"the cube and the octahedron", prism(4), octahedron(), nil},
		{"no symmetries and itself", scattered(100, 3), scattered(100, 3), [][]int64{identity(400)}},
	} {
		expectCoverings(t, c.what, c.m, c.k, c.want)
	}
	if n := len(coveringsByRunning(prism(4), hemicube())); n != 24 {
		t.Errorf("the cube covers half of it in %d ways", n)
	}
}

func TestCoveringsThatBeginAtAnotherFlag(t *testing.T) {
	// The flag 0 of a map with one automorphism is the only one that gets a given flag.
	for seed := range int64(12) {
		m, list := sheets(similar, 3, seed)
		if list == nil {
			continue
		}
		for flag := range int64(20) {
			p := identity(20)
			p[0], p[flag] = flag, 0
			expectCoverings(t, "a flag alone", m, renumber(similar, p), [][]int64{doBoth(list, p)})
		}
	}
	got, code := impl.CoveringOf(path, withFlagAt(path, 1))
	expectList(t, "a path", got, code, coveringsByRunning(path, withFlagAt(path, 1))[0], impl.ErrNone)
	if len(got) > 0 && got[0] == 0 {
		t.Errorf("the flag 0 got the flag 0")
	}
}

func TestCoveringSamplesAreFound(t *testing.T) {
	counts, least := map[int]int{}, map[bool]int{}
	for _, c := range coveringSamples() {
		want := coveringsByRunning(c.m, c.k)
		counts[len(want)]++
		least[want[0][0] == 0]++
		expectCoverings(t, "a sample", c.m, c.k, want)
		ok, code := impl.IsCovering(c.m, c.k, c.list)
		expect(t, "a sample", ok, code, true, impl.ErrNone)
		// The way back is open only if no flags are lost.
		expectCoverings(t, "the way back", c.k, c.m, coveringsByRunning(c.k, c.m))
	}
	for _, n := range []int{1, 2, 4, 6, 8, 10} {
		if counts[n] == 0 {
			t.Errorf("no sample has %d coverings: %v", n, counts)
		}
	}
	if least[false] < 100 || least[true] < 100 {
		t.Errorf("the least flags show too little: %v", least)
	}
}

func TestCoveringsOfPairs(t *testing.T) {
	samples := smallManiplexes()
	for i, m := range []impl.Maniplex{path, shifts(4, 1, 1, 2), shifts(4, 1, 2, 2), shifts(4, 1, 1, 2, 2), shifts(4, 1, 1, 2, 3), shifts(4, 1, 1, 2, 2, 3), shifts(4, 1, 1, 2, 3, 3), hemicube(), prism(3), prism(4), beside(prism(3), edge), turning(5, 2), grid(4, 4, false)} {
		samples = append(samples, m, renumber(m, shuffled(len(m.Moves[0]), int64(50+i))))
	}
	found := map[bool]int{}
	for i, m := range samples {
		for _, k := range samples[i%2:] {
			want := coveringsByRunning(m, k)
			if len(k.Moves[0]) < len(m.Moves[0]) && len(k.Moves) == len(m.Moves) {
				found[len(want) > 0]++
			}
			if len(k.Moves) == len(m.Moves) || i%4 == 0 {
				expectCoverings(t, "a pair", m, k, want)
			}
		}
	}
	if found[true] < 200 || found[false] < 200 {
		t.Errorf("the pairs show too little: %v", found)
	}
}

func TestCoveringsOfAllManiplexesWithFewFlags(t *testing.T) {
	words := map[[2]int][][]int64{}
	for rank := 1; rank <= 5; rank++ {
		var few []impl.Maniplex
		for _, flags := range []int{2, 4} {
			few = append(few, allManiplexes(rank, flags)...)
		}
		more := slices.Clone(few)
		if rank == 2 {
			few = append(few, triangle, renumber(triangle, shuffled(6, 3)))
			more = append(few, polygon(4), renumber(polygon(4), shuffled(8, 2)))
		}
		if rank == 3 {
			more = append(more, cell, path, shifts(8, 1, 3, 4), renumber(path, shuffled(8, 1)))
			more = append(more, squareMaps()[:6]...)
		}
		for i, m := range more {
			for n, k := range few {
				size := [2]int{len(k.Moves[0]), len(m.Moves[0])}
				// All lists of eight flags take a while, so not all pairs are tried.
				if size[1] == 8 && (size[0] == 6 || (i+n)%4 > 0) || size[0] == 6 && size[1] == 6 && n%2 > 0 {
					continue
				}
				if words[size] == nil {
					words[size] = allWords(size[0], size[1])
				}
				expectCoverings(t, "few flags", m, k, coveringsByTrying(m, k, words[size]))
			}
		}
	}
}

func TestIsCoveringOfAllLists(t *testing.T) {
	for _, c := range []struct{ m, k impl.Maniplex }{{triangle, oneGon}, {polygon(4), oneGon}, {polygon(4), polygon(2)}, {edge, edge}, {cell, plane}, {cell, shifts(4, 1, 1, 2)}, {path, shifts(4, 1, 3, 2)}, {plane, plane}, {polygon(2), polygon(3)}, {shifts(4, 1, 1, 2, 2), shifts(4, 1, 1, 2, 2)}} {
		yes := 0
		for _, list := range allWords(len(c.k.Moves[0]), len(c.m.Moves[0])) {
			want := goesWithMoves(c.m, c.k, list)
			if want {
				yes++
			}
			got, code := impl.IsCovering(c.m, c.k, list)
			expect(t, "a list", got, code, want, impl.ErrNone)
		}
		count, code := impl.CountCoverings(c.m, c.k)
		expect(t, "the number of lists that are coverings", count, code, int64(yes), impl.ErrNone)
	}
}

func TestListsThatAreNoCoverings(t *testing.T) {
	good := []int64{0, 1, 2, 3, 4, 5, 0, 1, 2, 3, 4, 5}
	at := func(place int, flag int64) []int64 {
		list := slices.Clone(good)
		list[place] = flag
		return list
	}
	lists := [][]int64{nil, {}, {0}, good[:11], good[:6], append(slices.Clone(good), 0), slices.Repeat(good, 2), identity(12), identity(6), slices.Repeat([]int64{0}, 12), slices.Repeat([]int64{0, 1}, 6), identity(400), slices.Repeat([]int64{6}, 12)}
	for place := range good {
		for _, flag := range []int64{-1, 6, 7, 400, 1 << 32, -1 << 63, 1<<63 - 1, (good[place] + 1) % 6, (good[place] + 3) % 6, good[place] + 6, good[place] - 6, good[place] + 1<<32, good[place] ^ 1} {
			lists = append(lists, at(place, flag))
		}
	}
	for _, list := range lists {
		expectNoCovering(t, "the hexagon and the triangle", hexagon, triangle, list)
	}
	ok, code := impl.IsCovering(hexagon, triangle, good)
	expect(t, "the covering", ok, code, true, impl.ErrNone)
	for _, pair := range [][2]impl.Maniplex{{triangle, hexagon}, {hexagon, plane}, {edge, hexagon}, {hexagon, edge}, {plane, triangle}, {oneGon, edge}, {edge, oneGon}, {shifts(4, 1, 2, 3), shifts(4, 1, 2)}, {shifts(4, 1, 2), shifts(4, 1, 2, 3)}} {
		for _, list := range [][]int64{good, nil, identity(len(pair[0].Moves[0])), identity(len(pair[1].Moves[0])), slices.Repeat([]int64{0, 1}, len(pair[0].Moves[0])/2)} {
			expectNoCovering(t, "no pair", pair[0], pair[1], list)
		}
	}
}

// expectNoCovering fails the test if the functions that take a covering take a list that is none.
func expectNoCovering(t *testing.T, what string, m impl.Maniplex, k impl.Maniplex, list []int64) {
	t.Helper()
	ok, code := impl.IsCovering(m, k, list)
	expect(t, what+": IsCovering", ok, code, false, impl.ErrNone)
	fibre, code := impl.FibreOf(m, k, list, 0)
	expectList(t, what+": FibreOf", fibre, code, nil, impl.ErrRange)
	moves, code := impl.DeckMoves(m, k, list)
	expectLists(t, what+": DeckMoves", moves, code, nil, impl.ErrRange)
	ok, code = impl.IsNormalCovering(m, k, list)
	expect(t, what+": IsNormalCovering", ok, code, false, impl.ErrRange)
	faces, code := impl.FaceMap(m, k, list, 0)
	expectList(t, what+": FaceMap", faces, code, nil, impl.ErrRange)
}

// oneRankMore returns a maniplex with the first moves of k and one more, or the edge if there is none.
func oneRankMore(k impl.Maniplex) impl.Maniplex {
	more := impl.Maniplex{Moves: append(slices.Clone(k.Moves), k.Moves[len(k.Moves)-1])}
	if !isManiplex(more) {
		return edge
	}
	return more
}

func TestCoveringsWithOneFault(t *testing.T) {
	for i, c := range coveringSamples() {
		flags, images := len(c.list), int64(len(c.k.Moves[0]))
		if flags > 120 && i%4 > 0 {
			continue
		}
		for _, place := range []int{0, i % flags, flags - 1} {
			for _, flag := range []int64{(c.list[place] + 1) % images, (c.list[place] + images - 1) % images, c.list[place] + images, c.list[place] - images, -1, images} {
				wrong := slices.Clone(c.list)
				wrong[place] = flag
				expectNoCovering(t, "a fault at one flag", c.m, c.k, wrong)
			}
		}
		expectNoCovering(t, "a flag too few", c.m, c.k, c.list[:flags-1])
		expectNoCovering(t, "a flag too many", c.m, c.k, append(slices.Clone(c.list), c.list[0]))
		expectNoCovering(t, "no flags", c.m, c.k, nil)
		expectNoCovering(t, "another rank", c.m, oneRankMore(c.k), c.list)
	}
}

// goesWithMove reports whether the flag to which the move i leads a flag of m gets the flag to which this
// move leads what the flag gets.
func goesWithMove(m impl.Maniplex, k impl.Maniplex, i int, list []int64) bool {
	return goesWithMoves(impl.Maniplex{Moves: m.Moves[i : i+1]}, impl.Maniplex{Moves: k.Moves[i : i+1]}, list)
}

func TestListsThatGoWithAllMovesButOne(t *testing.T) {
	found := map[string]int{}
	for _, m := range []impl.Maniplex{cell, path, shifts(8, 1, 2, 3, 4), shifts(8, 1, 1, 2, 2, 4), shifts(8, 4, 1, 1, 2, 2), shifts(8, 4, 2, 2, 1), squareMaps()[3]} {
		for _, k := range allManiplexes(len(m.Moves), 4)[:5] {
			for _, list := range allWords(4, 8) {
				name := ""
				for i := range m.Moves {
					if !goesWithMove(m, k, i, list) {
						name += string(rune('0' + i))
					}
				}
				if len(name) > 1 {
					continue
				}
				found[name]++
				got, code := impl.IsCovering(m, k, list)
				expect(t, "all moves but "+name, got, code, name == "", impl.ErrNone)
			}
		}
	}
	for _, name := range []string{"", "0", "1", "2", "3", "4"} {
		if found[name] == 0 {
			t.Errorf("the lists show too little: %v", found)
		}
	}
}

func TestCoveringsOfDifferentRanks(t *testing.T) {
	for _, m := range append(smallManiplexes(), greatManiplexes()...) {
		for less := 1; less < len(m.Moves); less++ {
			// The first moves are those of a maniplex only if they lead to all flags.
			if first := (impl.Maniplex{Moves: m.Moves[:less]}); isManiplex(first) {
				for _, pair := range [][2]impl.Maniplex{{first, m}, {m, first}} {
					expectCoverings(t, "the first moves", pair[0], pair[1], nil)
					expectNoCovering(t, "the first moves", pair[0], pair[1], identity(len(m.Moves[0])))
				}
			}
		}
	}
	ranks := []impl.Maniplex{edge, oneGon, plane, shifts(4, 1, 1, 2, 2), shifts(4, 1, 1, 2, 2, 3), polygon(200), cubes(5), simplex(4), grid(5, 10, false)}
	for _, m := range ranks {
		for _, k := range ranks {
			if len(m.Moves) != len(k.Moves) {
				expectCoverings(t, "different ranks", m, k, nil)
				expectNoCovering(t, "different ranks", m, k, slices.Repeat([]int64{0, 1}, len(m.Moves[0])/2))
			}
		}
	}
}

func TestCoveringsOfWhatIsNoManiplex(t *testing.T) {
	good := []impl.Maniplex{edge, triangle, cell, cubes(5)}
	bad := []impl.Maniplex{{}}
	for _, m := range brokenManiplexes() {
		bad = append(bad, m)
	}
	var pairs [][2]impl.Maniplex
	for _, b := range bad {
		for _, g := range good {
			pairs = append(pairs, [2]impl.Maniplex{b, g}, [2]impl.Maniplex{g, b})
		}
		for _, other := range bad {
			pairs = append(pairs, [2]impl.Maniplex{b, other})
		}
	}
	for _, pair := range pairs {
		m, k := pair[0], pair[1]
		got, code := impl.CoveringOf(m, k)
		expectList(t, "CoveringOf", got, code, nil, impl.ErrInvalid)
		count, code := impl.CountCoverings(m, k)
		expect(t, "CountCoverings", count, code, 0, impl.ErrInvalid)
		for _, list := range [][]int64{nil, {0, 1}, {1, 0}, {-1}, identity(6), identity(8), identity(400)} {
			ok, code := impl.IsCovering(m, k, list)
			expect(t, "IsCovering", ok, code, false, impl.ErrInvalid)
			moves, code := impl.DeckMoves(m, k, list)
			expectLists(t, "DeckMoves", moves, code, nil, impl.ErrInvalid)
			ok, code = impl.IsNormalCovering(m, k, list)
			expect(t, "IsNormalCovering", ok, code, false, impl.ErrInvalid)
			for _, i := range []int64{0, -1, 1, 400} {
				fibre, code := impl.FibreOf(m, k, list, i)
				expectList(t, "FibreOf", fibre, code, nil, impl.ErrInvalid)
				faces, code := impl.FaceMap(m, k, list, i)
				expectList(t, "FaceMap", faces, code, nil, impl.ErrInvalid)
			}
		}
	}
}
