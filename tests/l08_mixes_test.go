package tests

import (
	"slices"
	"testing"

	"loop.example/g01108/impl"
)

// digon is the edge's extension, a polygon with two corners.
var digon = impl.Maniplex{Moves: [][]int64{{2, 3, 0, 1}, {1, 0, 3, 2}}}

// expectMix fails the test if MixAt and MixPairs of a sample do not agree with the wanted mix and pairs, or code.
func expectMix(t *testing.T, what string, s mixSample, want impl.Maniplex, pairs [][]int64, wantCode int64) {
	t.Helper()
	got, code := impl.MixAt(s.m, s.f, s.k, s.g)
	expectManiplex(t, what+": MixAt", got, code, want, wantCode)
	gotPairs, code := impl.MixPairs(s.m, s.f, s.k, s.g)
	expectLists(t, what+": MixPairs", gotPairs, code, pairs, wantCode)
}

// expectNoMix fails the test if there is not the wanted error in place of a mix.
func expectNoMix(t *testing.T, what string, s mixSample, wantCode int64) {
	t.Helper()
	expectMix(t, what, s, impl.Maniplex{}, nil, wantCode)
}

func TestMixExamples(t *testing.T) {
	extended, code := impl.ExtendManiplex(edge)
	expectManiplex(t, "the edge's extension", extended, code, digon, impl.ErrNone)
	for f := range int64(6) {
		for g := range int64(4) {
			got, code := impl.MixAt(triangle, f, digon, g)
			if code != impl.ErrNone || len(got.Moves) != 2 || len(got.Moves[0]) != 12 {
				t.Errorf("the mix at %d and %d is %v, %d", f, g, got, code)
			}
		}
	}
	// The pairs lie around the hexagon, and get their numbers on both sides of the flag 0 by turns.
	twelve := impl.Maniplex{Moves: [][]int64{{1, 0, 4, 5, 2, 3, 8, 9, 6, 7, 11, 10}, {2, 3, 0, 1, 6, 7, 4, 5, 10, 11, 8, 9}}}
	for _, c := range []struct {
		what  string
		s     mixSample
		want  impl.Maniplex
		pairs [][]int64
	}{
		{"the triangle and the digon", mixSample{triangle, 0, digon, 0}, twelve, [][]int64{{0, 0}, {1, 2}, {5, 1}, {2, 3}, {4, 3}, {3, 1}, {3, 2}, {4, 0}, {2, 0}, {5, 2}, {1, 1}, {0, 3}}},
		{"the triangle at 4 and the digon at 2", mixSample{triangle, 4, digon, 2}, twelve, [][]int64{{4, 2}, {5, 0}, {3, 3}, {0, 1}, {2, 1}, {1, 3}, {1, 0}, {2, 2}, {0, 2}, {3, 0}, {5, 3}, {4, 1}}},
		{"the edge and itself at the same flag", mixSample{edge, 0, edge, 0}, edge, [][]int64{{0, 0}, {1, 1}}},
		{"the edge and itself at the other flag of both", mixSample{edge, 1, edge, 1}, edge, [][]int64{{1, 1}, {0, 0}}},
		{"the edge and itself at different flags", mixSample{edge, 0, edge, 1}, edge, [][]int64{{0, 1}, {1, 0}}},
		{"the edge and itself at different flags in the other order", mixSample{edge, 1, edge, 0}, edge, [][]int64{{1, 0}, {0, 1}}},
		{"1-gons", mixSample{oneGon, 0, oneGon, 1}, oneGon, [][]int64{{0, 1}, {1, 0}}},
		{"a 1-gon and the triangle", mixSample{oneGon, 1, triangle, 0}, impl.Maniplex{Moves: [][]int64{{1, 0, 4, 5, 2, 3}, {2, 3, 0, 1, 5, 4}}}, [][]int64{{1, 0}, {0, 1}, {0, 5}, {1, 2}, {1, 4}, {0, 3}}},
		{"the plane and itself", mixSample{plane, 2, plane, 3}, impl.Maniplex{Moves: [][]int64{{1, 0, 3, 2}, {2, 3, 0, 1}, {3, 2, 1, 0}}}, [][]int64{{2, 3}, {3, 2}, {0, 1}, {1, 0}}},
		{"four flags of rank 5", mixSample{shifts(4, 1, 1, 2, 2, 3), 3, shifts(4, 1, 1, 2, 2, 3), 1}, impl.Maniplex{Moves: [][]int64{{1, 0, 3, 2}, {1, 0, 3, 2}, {2, 3, 0, 1}, {2, 3, 0, 1}, {3, 2, 1, 0}}}, [][]int64{{3, 1}, {2, 0}, {1, 3}, {0, 2}}},
	} {
		expectMix(t, c.what, c.s, c.want, c.pairs, impl.ErrNone)
	}
}

func TestMixOfTheTriangleWithItself(t *testing.T) {
	for f := range int64(6) {
		for g := range int64(6) {
			got, _ := mixSample{triangle, f, triangle, g}.mix(t)
			expectManiplex(t, "the triangle twice", got, impl.ErrNone, formByNumbering(triangle, 0), impl.ErrNone)
		}
	}
}

func TestMixes(t *testing.T) {
	for _, s := range mixSamples() {
		if len(s.m.Moves[0])*len(s.k.Moves[0]) > 3000 {
			continue
		}
		want := mixByRestricting(s.m, s.f, s.k, s.g)
		expectMix(t, "a mix", s, want, pairsByRunning(want, s.m, s.f, s.k, s.g), impl.ErrNone)
	}
}

func TestMixesAtAllFlags(t *testing.T) {
	list := slices.DeleteFunc(mixableManiplexes(), func(m impl.Maniplex) bool { return len(m.Moves[0]) > 12 })
	counts := map[[2]int]map[int]bool{}
	for i, m := range list {
		for n, k := range list {
			if len(m.Moves) != len(k.Moves) {
				continue
			}
			for f := range int64(len(m.Moves[0])) {
				for g := range int64(len(k.Moves[0])) {
					want := mixByRestricting(m, f, k, g)
					expectMix(t, "all flags", mixSample{m, f, k, g}, want, pairsByRunning(want, m, f, k, g), impl.ErrNone)
					if counts[[2]int{i, n}] == nil {
						counts[[2]int{i, n}] = map[int]bool{}
					}
					counts[[2]int{i, n}][len(want.Moves[0])] = true
				}
			}
		}
	}
	several := 0
	for _, sizes := range counts {
		if len(sizes) > 1 {
			several++
		}
	}
	if several < 10 {
		t.Errorf("only %d pairs have mixes of several sizes", several)
	}
}

// commonMultiple returns the least common multiple of two numbers of at least 1.
func commonMultiple(p int, q int) int {
	multiple := p
	for multiple%q != 0 {
		multiple += p
	}
	return multiple
}

func TestMixesOfPolygons(t *testing.T) {
	for p := 1; p <= 21; p++ {
		for q := 1; q <= 21; q++ {
			corners := commonMultiple(p, q)
			if corners > 200 {
				continue
			}
			s := mixSample{polygon(p), int64((3*q + p) % (2 * p)), polygon(q), int64((5*p + 1) % (2 * q))}
			want := formByNumbering(polygon(corners), 0)
			if corners < 60 {
				expectMix(t, "polygons", s, want, pairsByRunning(want, s.m, s.f, s.k, s.g), impl.ErrNone)
				continue
			}
			got, _ := s.mix(t)
			expectManiplex(t, "polygons", got, impl.ErrNone, want, impl.ErrNone)
		}
	}
}

func TestMixesAtDifferentFlags(t *testing.T) {
	sizes := map[int]int{}
	for g := range int64(40) {
		got, code := impl.MixAt(grid(5, 1, false), 0, grid(1, 10, false), 2*g)
		if code != impl.ErrNone {
			t.Fatalf("the mix at the flag %d: code %d", 2*g, code)
		}
		sizes[len(got.Moves[0])]++
	}
	// The edges of both along a row run either across or along each other.
	if len(sizes) != 2 || sizes[400] != 20 || sizes[80] != 20 {
		t.Errorf("the sizes of the mixes of two tori are %v", sizes)
	}
	for f := range int64(8) {
		for g := range int64(8) {
			got, pairs := mixSample{path, f, path, g}.mix(t)
			if same := len(pairs) == 8; same != (f == g || slices.Equal(formByNumbering(path, f).Moves[1], formByNumbering(path, g).Moves[1])) {
				t.Errorf("the mix of a path with itself at %d and %d is %v", f, g, got)
			}
		}
	}
}

func TestMixesWithItselfAndAnIsomorphicOne(t *testing.T) {
	for i, m := range append(mixableManiplexes(), greatManiplexes()...) {
		flags := int64(len(m.Moves[0]))
		p := shuffled(int(flags), int64(i))
		other := renumber(m, p)
		for _, f := range []int64{0, flags / 2, flags - 1} {
			form := formByNumbering(m, f)
			order := column(pairsByRunning(form, m, f, m, f), 0)
			var same, pairs [][]int64
			for _, flag := range order {
				same, pairs = append(same, []int64{flag, flag}), append(pairs, []int64{flag, p[flag]})
			}
			expectMix(t, "itself", mixSample{m, f, m, f}, form, same, impl.ErrNone)
			expectMix(t, "an isomorphic one", mixSample{m, f, other, p[f]}, form, pairs, impl.ErrNone)
		}
	}
}

func TestMixesWithWhatIsCovered(t *testing.T) {
	for i, c := range coveringSamples() {
		if i%6 > 0 {
			continue
		}
		f := int64(i % len(c.list))
		form := formByNumbering(c.m, f)
		order := column(pairsByRunning(form, c.m, f, c.m, f), 0)
		var pairs [][]int64
		for _, flag := range order {
			pairs = append(pairs, []int64{flag, c.list[flag]})
		}
		expectMix(t, "what is covered", mixSample{c.m, f, c.k, c.list[f]}, form, pairs, impl.ErrNone)
	}
}

func TestMixesAtTheLimit(t *testing.T) {
	for _, c := range []struct {
		what  string
		m     impl.Maniplex
		k     impl.Maniplex
		flags int
	}{
		{"a 200-gon", polygon(8), polygon(25), 400},
		{"a 200-gon and itself", polygon(200), polygon(200), 400},
		{"a 200-gon and a part of it", polygon(100), polygon(200), 400},
		{"a 198-gon", polygon(18), polygon(22), 396},
		{"a torus with 50 vertices", grid(5, 1, false), grid(1, 10, false), 400},
		{"rank 4", beside(polygon(5), digon), beside(polygon(2), polygon(10)), 400},
		{"rank 5", beside(cubes(3), polygon(5)), beside(cubes(3), polygon(25)), 400},
		{"no symmetries", scattered(100, 3), scattered(100, 3), 400},
		{"a 201-gon", polygon(3), polygon(67), 402},
		{"a 204-gon", polygon(12), polygon(17), 408},
		{"a torus with 51 vertices", grid(3, 1, false), grid(1, 17, false), 408},
		{"rank 4 and more", beside(polygon(3), polygon(2)), beside(polygon(2), polygon(17)), 816},
		{"rank 5 and more", beside(cubes(3), polygon(2)), beside(cubes(3), polygon(13)), 416},
		{"a 39800-gon", polygon(200), polygon(199), 79600},
		{"a torus with 10 times 9 vertices", grid(10, 1, false), grid(1, 9, false), 720},
		{"many pairs", scattered(100, 3), scattered(100, 4), 160000},
	} {
		if n := countPairs(c.m, 0, c.k, 0); n != c.flags {
			t.Errorf("%s: there are %d pairs", c.what, n)
		}
		for _, s := range []mixSample{{c.m, 0, c.k, 0}, {c.k, 0, c.m, 0}} {
			if c.flags > 400 {
				expectNoMix(t, c.what, s, impl.ErrLimit)
				continue
			}
			got, pairs := s.mix(t)
			if len(pairs) != c.flags || !isManiplex(got) {
				t.Errorf("%s: the mix is %v", c.what, got)
			}
		}
	}
}

func TestMixesAroundTheLimit(t *testing.T) {
	codes := map[int64]int{}
	list := append(mixableManiplexes(), greatManiplexes()...)
	for i, m := range list {
		for n, k := range list {
			if len(m.Moves) != len(k.Moves) || (i+n)%4 > 0 {
				continue
			}
			s := mixSample{m, int64((i + 2*n) % len(m.Moves[0])), k, int64((n + 7*i) % len(k.Moves[0]))}
			flags := countPairs(s.m, s.f, s.k, s.g)
			want := int64(impl.ErrNone)
			if flags > 400 {
				want = impl.ErrLimit
				expectNoMix(t, "too many pairs", s, want)
			} else if _, pairs := s.mix(t); len(pairs) != flags {
				t.Errorf("the mix of %v has %d flags", s, len(pairs))
			}
			codes[want]++
		}
	}
	if codes[impl.ErrNone] < 50 || codes[impl.ErrLimit] < 50 {
		t.Errorf("the pairs show too little: %v", codes)
	}
}

func TestMixesAtFlagsThatDoNotExist(t *testing.T) {
	for _, pair := range [][2]impl.Maniplex{{edge, edge}, {triangle, hexagon}, {hexagon, triangle}, {plane, cell}, {polygon(200), oneGon}, {oneGon, polygon(200)}, {cubes(5), shifts(4, 1, 1, 2, 2, 3)}, {triangle, edge}, {plane, polygon(200)}, {scattered(100, 3), scattered(100, 4)}} {
		m, k := pair[0], pair[1]
		last, lastOfK := int64(len(m.Moves[0])-1), int64(len(k.Moves[0])-1)
		for _, f := range noFlags(m) {
			expectNoMix(t, "no flag of the first one", mixSample{m, f, k, 0}, impl.ErrRange)
			expectNoMix(t, "no flag of the first one", mixSample{m, f, k, lastOfK}, impl.ErrRange)
			for _, g := range noFlags(k) {
				expectNoMix(t, "no flags", mixSample{m, f, k, g}, impl.ErrRange)
			}
		}
		for _, g := range noFlags(k) {
			expectNoMix(t, "no flag of the second one", mixSample{m, 0, k, g}, impl.ErrRange)
			expectNoMix(t, "no flag of the second one", mixSample{m, last, k, g}, impl.ErrRange)
		}
		if len(m.Moves) != len(k.Moves) {
			expectNoMix(t, "the last flags", mixSample{m, last, k, lastOfK}, impl.ErrState)
		} else if n := countPairs(m, last, k, lastOfK); n > 400 {
			expectNoMix(t, "the last flags", mixSample{m, last, k, lastOfK}, impl.ErrLimit)
		} else if _, pairs := (mixSample{m, last, k, lastOfK}).mix(t); len(pairs) != n {
			t.Errorf("the mix at the last flags has %d flags", len(pairs))
		}
	}
}

func TestMixesOfDifferentRanks(t *testing.T) {
	ranks := []impl.Maniplex{edge, oneGon, triangle, polygon(200), plane, cell, grid(5, 10, false), shifts(4, 1, 1, 2, 2), simplex(4), shifts(4, 1, 1, 2, 2, 3), cubes(5), beside(cubes(3), polygon(25))}
	for _, m := range ranks {
		for _, k := range ranks {
			if len(m.Moves) == len(k.Moves) {
				continue
			}
			last, lastOfK := int64(len(m.Moves[0])-1), int64(len(k.Moves[0])-1)
			for _, s := range []mixSample{{m, 0, k, 0}, {m, last, k, 0}, {m, 0, k, lastOfK}, {m, last, k, lastOfK}} {
				expectNoMix(t, "different ranks", s, impl.ErrState)
			}
			expectNoMix(t, "different ranks and no flag", mixSample{m, last + 1, k, 0}, impl.ErrRange)
			expectNoMix(t, "different ranks and no flag", mixSample{m, 0, k, -1}, impl.ErrRange)
		}
	}
}

// brokenPairs are pairs of maniplexes of which the first one, the second one or both are none.
func brokenPairs() [][2]impl.Maniplex {
	bad := []impl.Maniplex{{}}
	for _, m := range brokenManiplexes() {
		bad = append(bad, m)
	}
	var pairs [][2]impl.Maniplex
	for _, b := range bad {
		for _, good := range []impl.Maniplex{edge, triangle, cell, cubes(5), polygon(200)} {
			pairs = append(pairs, [2]impl.Maniplex{b, good}, [2]impl.Maniplex{good, b})
		}
		for _, other := range bad {
			pairs = append(pairs, [2]impl.Maniplex{b, other})
		}
	}
	return pairs
}

func TestMixesOfWhatIsNoManiplex(t *testing.T) {
	for _, pair := range brokenPairs() {
		for _, flags := range [][2]int64{{0, 0}, {1, 0}, {-1, 0}, {0, -1}, {400, 400}, {0, 5}} {
			expectNoMix(t, "no maniplex", mixSample{pair[0], flags[0], pair[1], flags[1]}, impl.ErrInvalid)
		}
	}
}
