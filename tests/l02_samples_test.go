package tests

import (
	"math/rand"
	"slices"

	"loop.example/g01108/impl"
)

// The maniplexes of the document's examples.
var (
	edge     = impl.Maniplex{Moves: [][]int64{{1, 0}}}
	triangle = impl.Maniplex{Moves: [][]int64{{1, 0, 3, 2, 5, 4}, {5, 2, 1, 4, 3, 0}}}
	cell     = impl.Maniplex{Moves: [][]int64{{1, 0, 3, 2, 5, 4, 7, 6}, {2, 3, 0, 1, 6, 7, 4, 5}, {4, 5, 6, 7, 0, 1, 2, 3}}}
)

// plane is the map with one vertex, one edge and one face.
var plane = impl.Maniplex{Moves: [][]int64{{1, 0, 3, 2}, {2, 3, 0, 1}, {3, 2, 1, 0}}}

// polygon returns the maniplex of a p-gon.
func polygon(p int) impl.Maniplex {
	moves := make([][]int64, 2)
	for flag := range 2 * p {
		moves[0] = append(moves[0], int64(flag^1))
		moves[1] = append(moves[1], int64((flag+1)^1+2*p-1)%int64(2*p))
	}
	return impl.Maniplex{Moves: moves}
}

// beside returns the maniplex whose flags are pairs of flags of a and b, with the moves of a on the
// first one, and then those of b on the second one.
func beside(a impl.Maniplex, b impl.Maniplex) impl.Maniplex {
	first, second := len(a.Moves[0]), len(b.Moves[0])
	var moves [][]int64
	for _, move := range a.Moves {
		var pairs []int64
		for flag := range first * second {
			pairs = append(pairs, move[flag/second]*int64(second)+int64(flag%second))
		}
		moves = append(moves, pairs)
	}
	for _, move := range b.Moves {
		var pairs []int64
		for flag := range first * second {
			pairs = append(pairs, int64(flag/second*second)+move[flag%second])
		}
		moves = append(moves, pairs)
	}
	return impl.Maniplex{Moves: moves}
}

// simplex returns the simplex of a rank: its flags are the orders of its rank + 1 vertices.
func simplex(rank int) impl.Maniplex {
	orders := allPermutations(rank + 1)
	moves := make([][]int64, rank)
	for _, order := range orders {
		for i := range rank {
			other := slices.Clone(order)
			other[i], other[i+1] = other[i+1], other[i]
			place, _ := slices.BinarySearchFunc(orders, other, slices.Compare[[]int64])
			moves[i] = append(moves[i], int64(place))
		}
	}
	return impl.Maniplex{Moves: moves}
}

// grid returns the map of squares with a times b vertices in which opposite sides of the grid are
// glued; if it is twisted, then one pair of them is glued after a reflection of the other one. A
// flag is a vertex, one of four directions, and the left or right side.
func grid(a int, b int, twisted bool) impl.Maniplex {
	number := func(x int, y int, direction int, side int) int64 {
		if twisted && (x < 0 || x >= a) {
			y, direction, side = b-1-y, 4-direction, 1-side
		}
		x, y = (x+a)%a, (y+b)%b
		return int64(((x*b+y)*4+(direction+4)%4)*2 + side)
	}
	stepX, stepY := []int{1, 0, -1, 0}, []int{0, 1, 0, -1}
	moves := make([][]int64, 3)
	for flag := range a * b * 8 {
		x, y, direction, side := flag/8/b, flag/8%b, flag/2%4, flag%2
		moves[0] = append(moves[0], number(x+stepX[direction], y+stepY[direction], direction+2, 1-side))
		moves[1] = append(moves[1], number(x, y, direction+1-2*side, 1-side))
		moves[2] = append(moves[2], number(x, y, direction, 1-side))
	}
	return impl.Maniplex{Moves: moves}
}

// scattered returns a maniplex of rank 3 with so many edges that depends on the seed only.
func scattered(edges int, seed int64) impl.Maniplex {
	random := rand.New(rand.NewSource(seed))
	for {
		moves := make([][]int64, 3)
		for flag := range int64(4 * edges) {
			moves[0] = append(moves[0], flag^1)
			moves[2] = append(moves[2], flag^2)
		}
		moves[1] = make([]int64, 4*edges)
		for order := random.Perm(4 * edges); len(order) > 0; order = order[2:] {
			moves[1][order[0]], moves[1][order[1]] = int64(order[1]), int64(order[0])
		}
		if slices.Max(labelsWithout(moves)) == 0 {
			return impl.Maniplex{Moves: moves}
		}
	}
}

// labelsWithout returns the numbers of the orbits of some moves, but for those with the indices
// that are left out.
func labelsWithout(moves [][]int64, left ...int) []int64 {
	var some [][]int64
	for i, move := range moves {
		if !slices.Contains(left, i) {
			some = append(some, move)
		}
	}
	return orbitsByMerging(int64(len(moves[0])), some)
}

// renumber returns the maniplex in which the flag i has become the flag p[i].
func renumber(m impl.Maniplex, p []int64) impl.Maniplex {
	var moves [][]int64
	for _, move := range m.Moves {
		moves = append(moves, doBoth(doBoth(undo(p), move), p))
	}
	return impl.Maniplex{Moves: moves}
}

// cubes returns the maniplex of a rank with 2 to that power flags, all of whose polygons are 2-gons.
func cubes(rank int) impl.Maniplex {
	m := edge
	for range rank - 1 {
		m = beside(m, edge)
	}
	return m
}

// smallManiplexes are maniplexes of many kinds with at most 64 flags.
func smallManiplexes() []impl.Maniplex {
	small := []impl.Maniplex{edge, triangle, cell, plane, simplex(3), beside(edge, plane), beside(plane, edge), beside(plane, polygon(1)), beside(polygon(3), polygon(4)), beside(scattered(2, 7), edge)}
	for i := range 4 {
		small = append(small, grid(1+i%2, 1+i, i < 2), grid(1+i%2, 1+i, i >= 2))
	}
	for p := 1; p <= 12; p++ {
		small = append(small, polygon(p))
	}
	for rank := 1; rank <= 5; rank++ {
		small = append(small, cubes(rank))
	}
	for edges := 1; edges <= 6; edges++ {
		for seed := range int64(4) {
			small = append(small, scattered(edges, seed))
		}
	}
	for i, m := range small {
		small = append(small, renumber(m, shuffled(len(m.Moves[0]), int64(i))))
	}
	return small
}

// greatManiplexes are maniplexes with as many flags as there may be, or nearly so.
func greatManiplexes() []impl.Maniplex {
	return []impl.Maniplex{polygon(200), polygon(199), grid(5, 10, false), grid(10, 5, true), scattered(100, 3), simplex(4), beside(simplex(3), polygon(8)), beside(cubes(3), polygon(25))}
}

// sampleManiplexes are the small and the great ones.
func sampleManiplexes() []impl.Maniplex {
	return append(smallManiplexes(), greatManiplexes()...)
}

// isManiplex reports whether m is a maniplex, as the definition says it.
func isManiplex(m impl.Maniplex) bool {
	moves := m.Moves
	if len(moves) < 1 || len(moves) > 5 || len(moves[0]) < 2 || len(moves[0]) > 400 {
		return false
	}
	for _, move := range moves {
		if len(move) != len(moves[0]) {
			return false
		}
		for flag, image := range move {
			if image < 0 || image >= int64(len(move)) || image == int64(flag) || move[image] != int64(flag) {
				return false
			}
		}
	}
	for i, first := range moves {
		for k, second := range moves {
			for flag := range first {
				if k >= i+2 && (first[second[flag]] != second[first[flag]] || first[flag] == second[flag]) {
					return false
				}
			}
		}
	}
	return slices.Max(labelsWithout(moves)) == 0
}

// brokenManiplexes are lists of moves that are no maniplexes, by what is wrong with them.
func brokenManiplexes() map[string]impl.Maniplex {
	lists := map[string][][]int64{
		"no move":                              nil,
		"an empty move":                        {{}},
		"empty moves":                          {{}, {}, {}},
		"one flag":                             {{0}},
		"one flag and two moves":               {{0}, {0}},
		"a flag that does not move":            {{0, 1}},
		"a second move that moves nothing":     {{1, 0}, {0, 1}},
		"a flag that does not exist":           {{1, 2}},
		"a negative flag":                      {{1, -1}},
		"a flag that is far away":              {{1, 1 << 32}},
		"a flag that stands twice":             {{1, 0, 3, 2}, {1, 2, 1, 0}},
		"three flags":                          {{1, 0, 2}},
		"three flags in a cycle":               {{1, 2, 0}, {1, 2, 0}},
		"four flags in a cycle":                {{1, 0, 3, 2}, {1, 2, 3, 0}},
		"two parts":                            {{1, 0, 3, 2}},
		"two parts of rank 2":                  {{1, 0, 3, 2}, {1, 0, 3, 2}},
		"a longer second move":                 {{1, 0}, {1, 0, 3, 2}},
		"a shorter second move":                {{1, 0, 3, 2}, {1, 0}},
		"a second move without flags":          {{1, 0}, {}},
		"a first move without flags":           {{}, {1, 0}},
		"the moves 0 and 2 lead alike":         {{1, 0}, {1, 0}, {1, 0}},
		"the moves 0 and 2 lead once alike":    {{1, 0, 3, 2, 5, 4}, {2, 5, 0, 4, 3, 1}, {1, 0, 4, 5, 2, 3}},
		"the moves 0 and 2 do not commute":     {{1, 0, 3, 2, 5, 4}, {1, 0, 3, 2, 5, 4}, {5, 2, 1, 4, 3, 0}},
		"the moves 0 and 3 do not commute":     {{1, 0, 3, 2, 5, 4, 7, 6}, {2, 3, 0, 1, 6, 7, 4, 5}, {4, 5, 6, 7, 0, 1, 2, 3}, {2, 3, 0, 1, 7, 6, 5, 4}},
		"the moves 0 and 3 lead alike":         {{1, 0, 3, 2, 5, 4, 7, 6}, {2, 3, 0, 1, 6, 7, 4, 5}, {4, 5, 6, 7, 0, 1, 2, 3}, {1, 0, 3, 2, 5, 4, 7, 6}},
		"the moves 1 and 3 lead alike":         {{1, 0, 3, 2, 5, 4, 7, 6}, {2, 3, 0, 1, 6, 7, 4, 5}, {4, 5, 6, 7, 0, 1, 2, 3}, {2, 3, 0, 1, 6, 7, 4, 5}},
		"rank 6":                               cubes(6).Moves,
		"rank 6 and the sizes of polygons":     slices.Repeat([][]int64{{1, 0}}, 6),
		"402 flags":                            polygon(201).Moves,
		"408 flags and rank 3":                 beside(edge, polygon(102)).Moves,
		"401 flags":                            {make([]int64, 401)},
		"a hole in the greatest of maniplexes": append(slices.Clone(beside(cubes(3), polygon(25)).Moves[:4]), identity(400)),
	}
	broken := map[string]impl.Maniplex{}
	for what, moves := range lists {
		broken[what] = impl.Maniplex{Moves: moves}
	}
	for what, m := range map[string]impl.Maniplex{"the triangle": triangle, "the cell": cell, "a grid": grid(2, 2, true)} {
		moves := cloneLists(m.Moves)
		moves[1][0], moves[1][1] = moves[1][1], moves[1][0]
		broken[what+" with two images exchanged"] = impl.Maniplex{Moves: moves}
	}
	return broken
}
