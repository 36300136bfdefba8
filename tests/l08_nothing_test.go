package tests

import (
	"fmt"
	"math"
	"slices"
	"testing"

	"loop.example/g01108/impl"
)

// expectNothing fails the test if FirstNothing of m and k with some n is not the wanted word, or does not find
// nothing if there is none.
func expectNothing(t *testing.T, what string, m impl.Maniplex, k impl.Maniplex, n int64, want []int64) {
	t.Helper()
	wantCode := int64(impl.ErrNone)
	if want == nil {
		wantCode = impl.ErrNotFound
	}
	got, code := impl.FirstNothing(m, k, n)
	expectList(t, what, got, code, want, wantCode)
}

// nothingByElements does what nothingByTrying does, but goes on only from words that do something new on m and k.
// It also reports whether it did not have to stop because there are too many.
func nothingByElements(m impl.Maniplex, k impl.Maniplex, n int) ([]int64, bool) {
	both := impl.Maniplex{Moves: union([]impl.Maniplex{m, k})}
	count := len(m.Moves[0])
	known := map[string]bool{}
	for words := [][]int64{{}}; len(words) > 0; words = words[1:] {
		done := doneByRunning(both, words[0])
		name := fmt.Sprint(done)
		if known[name] {
			continue
		}
		known[name] = true
		onM := slices.Equal(done[:count], identity(count))
		if onM && len(words[0]) > 0 {
			return words[0], true
		}
		if len(known) > 2500 {
			return nil, false
		}
		for i := range m.Moves {
			if len(words[0]) < n {
				words = append(words, append(slices.Clone(words[0]), int64(i)))
			}
		}
	}
	return nil, true
}

func TestFirstNothingExamples(t *testing.T) {
	turns := func(times int) []int64 { return slices.Repeat([]int64{0, 1}, times) }
	quadrangle, code := impl.ParseManiplex("1,0,3,2,5,4,7,6/7,2,1,4,3,6,5,0")
	expectManiplex(t, "the quadrangle", quadrangle, code, polygon(4), impl.ErrNone)
	for _, c := range []struct {
		what string
		m    impl.Maniplex
		k    impl.Maniplex
		n    int64
		want []int64
	}{
		{"the document's maniplexes", triangle, quadrangle, 6, turns(3)},
		{"more moves than needed", triangle, quadrangle, 7, turns(3)},
		{"as many moves as there may be", triangle, quadrangle, 12, turns(3)},
		{"one move less than needed", triangle, quadrangle, 5, nil},
		{"the other order", quadrangle, triangle, 8, turns(4)},
		{"the other order and too few moves", quadrangle, triangle, 7, nil},
		{"twelve moves", hexagon, quadrangle, 12, turns(6)},
		{"eleven moves", hexagon, quadrangle, 11, nil},
		{"fourteen moves", polygon(7), quadrangle, 12, nil},
		{"ten moves", polygon(5), polygon(200), 12, turns(5)},
		{"a 1-gon and the triangle", oneGon, triangle, 2, turns(1)},
		{"a 1-gon and one move", oneGon, triangle, 1, nil},
		{"a 1-gon and no moves", oneGon, triangle, 0, nil},
		{"the digon and the hexagon", digon, hexagon, 12, turns(2)},
		{"the triangle and itself", triangle, triangle, 12, nil},
		{"the hexagon and the triangle, which it covers", hexagon, triangle, 12, nil},
		{"the triangle and the hexagon", triangle, hexagon, 12, turns(3)},
		{"the edge and itself", edge, edge, 12, nil},
		{"the plane and the cell", plane, cell, 3, []int64{0, 1, 2}},
		{"the plane and the cell with two moves", plane, cell, 2, nil},
		{"the cell and the plane, which it covers", cell, plane, 12, nil},
		{"the cell and a tetrahedron", cell, simplex(3), 12, []int64{0, 1, 0, 1}},
		{"a tetrahedron and the cell", simplex(3), cell, 12, []int64{0, 1, 0, 1, 0, 1}},
		{"a tetrahedron and a cube", simplex(3), prism(4), 12, []int64{0, 1, 0, 1, 0, 1}},
		{"a cube and a tetrahedron", prism(4), simplex(3), 12, []int64{0, 1, 0, 1, 0, 1, 0, 1}},
		{"a cube and an octahedron", prism(4), octahedron(), 12, []int64{1, 2, 1, 2, 1, 2}},
		{"half of a cube and the cube", hemicube(), prism(4), 12, []int64{0, 1, 0, 1, 2, 1, 0, 1, 2}},
		{"half of an octahedron and the octahedron", flipped(hemicube()), octahedron(), 12, []int64{0, 1, 0, 2, 1, 0, 2, 1, 2}},
		{"half of a cube and the cube with eight moves", hemicube(), prism(4), 8, nil},
		{"the cube and half of it", prism(4), hemicube(), 12, nil},
		{"half of an icosahedron, which needs fifteen moves", quotientByMerging(icosahedron(), [][]int64{opposites(icosahedron())}), icosahedron(), 12, nil},
		{"a torus and a wider one", grid(2, 2, false), grid(4, 4, false), 12, []int64{0, 1, 2, 1, 0, 1, 2, 1}},
		{"four flags of rank 5 and cubes", shifts(4, 1, 1, 2, 2, 3), cubes(5), 12, []int64{0, 1}},
		{"a word of three moves of rank 5", shifts(16, 1, 2, 4, 8, 5), cubes(5), 12, []int64{0, 2, 4}},
		{"cubes of rank 5 and four flags", cubes(5), shifts(4, 1, 1, 2, 2, 3), 12, nil},
		{"a simplex of rank 4 and cubes", simplex(4), cubes(4), 12, []int64{0, 1, 0, 1, 0, 1}},
		{"the last moves of rank 5", beside(cubes(3), polygon(5)), beside(cubes(3), polygon(7)), 12, slices.Repeat([]int64{3, 4}, 5)},
	} {
		expectNothing(t, c.what, c.m, c.k, c.n, c.want)
	}
}

func TestFirstNothing(t *testing.T) {
	lengths, codes := map[int]int{}, map[bool]int{}
	several := 0
	list := mixableManiplexes()
	for i, m := range list {
		for j, k := range list {
			if len(m.Moves) != len(k.Moves) || (i+j)%2 > 0 {
				continue
			}
			n := []int{0, 12, 12, 12, 8, 7}[len(m.Moves)]
			want := nothingByTrying(m, k, n)
			expectNothing(t, "a pair", m, k, int64(n), want)
			lengths[len(want)]++
			codes[want == nil]++
			if length := int64(len(want)); want != nil {
				expectNothing(t, "as many moves as needed", m, k, length, want)
				expectNothing(t, "one more", m, k, min(length+1, 12), want)
				expectNothing(t, "all that may be", m, k, 12, want)
				expectNothing(t, "one less", m, k, length-1, nil)
				// A word backwards does nothing exactly if the word does.
				backwards := slices.Clone(want)
				slices.Reverse(backwards)
				if !slices.Equal(backwards, want) {
					several++
				}
			}
		}
	}
	for _, length := range []int{2, 3, 4, 5, 6, 8, 12} {
		if lengths[length] == 0 {
			t.Errorf("no first word has %d moves: %v", length, lengths)
		}
	}
	if codes[true] < 100 || codes[false] < 100 || several < 100 {
		t.Errorf("the pairs show too little: %v, %d with several words", codes, several)
	}
}

func TestFirstNothingOfAllRanksAndTwelveMoves(t *testing.T) {
	ranks, great := map[int]int{}, 0
	list := mixableManiplexes()
	for i, m := range list {
		for j, k := range list {
			if len(m.Moves) != len(k.Moves) || len(m.Moves) < 3 || len(m.Moves[0])+len(k.Moves[0]) > 130 || (i+2*j)%3 > 0 {
				continue
			}
			want, all := nothingByElements(m, k, 12)
			if !all {
				great++
				continue
			}
			ranks[len(m.Moves)]++
			expectNothing(t, "twelve moves", m, k, 12, want)
		}
	}
	if ranks[3] < 50 || ranks[4] < 20 || ranks[5] < 20 {
		t.Errorf("the pairs show too little: %v, %d with too many elements", ranks, great)
	}
}

func TestFirstNothingIsTheFirstOfAllWords(t *testing.T) {
	for _, pair := range [][2]impl.Maniplex{{triangle, polygon(4)}, {oneGon, hexagon}, {plane, cell}, {cell, simplex(3)}, {path, cell}, {loop, path}, {path, loop}, {simplex(3), prism(3)}, {scattered(2, 7), cell}, {shifts(4, 1, 1, 2, 2), cubes(4)}, {cubes(4), simplex(4)}, {shifts(16, 1, 2, 4, 8, 5), cubes(5)}} {
		m, k := pair[0], pair[1]
		var want []int64
		for length := 0; length <= 6 && want == nil; length++ {
			for _, word := range allWords(len(m.Moves), length) {
				if doesNothing(m, word) && !doesNothing(k, word) {
					want = word
					break
				}
			}
		}
		expectNothing(t, "all words", m, k, 6, want)
		for i := 1; i < len(want); i++ {
			if want[i-1] == want[i] {
				t.Errorf("a move stands twice side by side in %v", want)
			}
		}
	}
}

func TestFirstNothingThatShowsAtAFewFlagsAlone(t *testing.T) {
	found := map[string]int{}
	for seed := range int64(60) {
		m, k := scattered(2+int(seed%5), seed), scattered(3+int(seed%4), 100+seed)
		for _, pair := range [][2]impl.Maniplex{{m, k}, {k, m}, {m, pyramid(4)}, {pyramid(5), k}, {prism(3), k}, {m, prism(5)}} {
			want := nothingByTrying(pair[0], pair[1], 10)
			expectNothing(t, "irregular maps", pair[0], pair[1], 10, want)
			if want == nil {
				continue
			}
			if run(pair[1], 0, want) == 0 {
				found["the flag 0 stays"]++
			}
			if 3*len(moved(pair[1], want)) < 2*len(pair[1].Moves[0]) {
				found["most flags stay"]++
			}
		}
	}
	if found["the flag 0 stays"] < 10 || found["most flags stay"] < 10 {
		t.Errorf("the words show too little: %v", found)
	}
}

func TestFirstNothingErrors(t *testing.T) {
	numbers := []int64{-1, -2, 13, 14, 64, 1 << 32, 1<<32 + 6, math.MinInt64, math.MaxInt64}
	for _, pair := range [][2]impl.Maniplex{{triangle, polygon(4)}, {edge, edge}, {edge, triangle}, {triangle, edge}, {plane, cell}, {cubes(5), shifts(4, 1, 1, 2, 2, 3)}} {
		for _, n := range numbers {
			got, code := impl.FirstNothing(pair[0], pair[1], n)
			expectList(t, "no number of moves", got, code, nil, impl.ErrRange)
		}
	}
	ranks := []impl.Maniplex{edge, oneGon, triangle, polygon(200), plane, grid(5, 10, false), shifts(4, 1, 1, 2, 2), simplex(4), shifts(4, 1, 1, 2, 2, 3), cubes(5)}
	for _, m := range ranks {
		for _, k := range ranks {
			for n := int64(0); n <= 12; n += 3 {
				if len(m.Moves) != len(k.Moves) {
					got, code := impl.FirstNothing(m, k, n)
					expectList(t, "different ranks", got, code, nil, impl.ErrState)
				}
			}
		}
	}
	for _, pair := range brokenPairs() {
		for _, n := range append(numbers[:3], 0, 6, 12) {
			got, code := impl.FirstNothing(pair[0], pair[1], n)
			expectList(t, "no maniplex", got, code, nil, impl.ErrInvalid)
		}
	}
}

func TestFirstNothingOfGreatManiplexes(t *testing.T) {
	great := append(greatManiplexes(), linked(10, 10, 4), linked(10, 10, 7), shared(10, 25, 5), beside(edge, shared(5, 25, 5)))
	for _, m := range great {
		expectNothing(t, "itself", m, m, 12, nil)
		for _, k := range great {
			if len(m.Moves) != len(k.Moves) {
				continue
			}
			got, code := impl.FirstNothing(m, k, 12)
			if code == impl.ErrNotFound {
				expectList(t, "great ones", got, code, nil, impl.ErrNotFound)
				continue
			}
			if code != impl.ErrNone || len(got) > 12 || !doesNothing(m, got) || doesNothing(k, got) {
				t.Errorf("FirstNothing of %v and %v is %v, %d", m, k, got, code)
			}
		}
	}
}
