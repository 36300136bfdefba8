package tests

import (
	"math"
	"math/rand"
	"slices"

	"loop.example/g01108/impl"
)

// path is the sphere with one face around a path of two edges.
var path = impl.Maniplex{Moves: [][]int64{{1, 0, 3, 2, 5, 4, 7, 6}, {2, 5, 0, 7, 6, 1, 4, 3}, {2, 3, 0, 1, 6, 7, 4, 5}}}

// flipped returns the maniplex with the moves of m in the opposite order.
func flipped(m impl.Maniplex) impl.Maniplex {
	moves := cloneLists(m.Moves)
	slices.Reverse(moves)
	return impl.Maniplex{Moves: moves}
}

// prism returns the map of a prism over a p-gon, with p of at least 3.
func prism(p int64) impl.Maniplex {
	ranks := slices.Concat(make([]int64, 2*p), slices.Repeat([]int64{1}, int(3*p)), slices.Repeat([]int64{2}, int(p+2)))
	// The vertices of both bases come first; then come the sides of both bases, the upright edges, the
	// bases and the squares.
	sides, uprights, bases, squares := 2*p, 4*p, 5*p, 5*p+2
	solid := posetOf(3, ranks, func(d int64, e int64) bool {
		switch {
		case e < uprights: // a side of a base has two of its corners
			base, side := (e-sides)/p, (e-sides)%p
			return d == base*p+side || d == base*p+(side+1)%p
		case e < bases: // an upright edge has a corner of each base
			return d%p == e-uprights
		case e < squares: // a base has its sides
			return d >= sides && (d-sides)/p == e-bases
		}
		side := e - squares
		return d >= sides && (d-sides)%p == side || d == uprights+(side+1)%p
	})
	m, _ := impl.ManiplexOf(solid)
	return m
}

// squareMaps returns all maps that have one face, a square whose flags have the same numbers in all of
// them.
func squareMaps() []impl.Maniplex {
	var maps []impl.Maniplex
	for _, move := range freeInvolutions(8) {
		m := impl.Maniplex{Moves: append(cloneLists(polygon(4).Moves), move)}
		if isManiplex(m) {
			maps = append(maps, m)
		}
	}
	return maps
}

// union returns the moves of all given maniplexes, which have one rank, on their flags one after the
// other.
func union(parts []impl.Maniplex) [][]int64 {
	moves := make([][]int64, len(parts[0].Moves))
	for _, part := range parts {
		first := int64(len(moves[0]))
		for i, move := range part.Moves {
			for _, image := range move {
				moves[i] = append(moves[i], first+image)
			}
		}
	}
	return moves
}

// glued returns a maniplex of rank 4 whose facets are the given maps: their faces are glued in pairs
// that have equally many sides and depend on the seed. It returns nothing if it finds no pairs.
func glued(seed int64, facets ...impl.Maniplex) impl.Maniplex {
	random := rand.New(rand.NewSource(seed))
	moves := union(facets)
	for range 100 {
		m := impl.Maniplex{Moves: append(cloneLists(moves), pairedFaces(random, moves))}
		if isManiplex(m) {
			return m
		}
	}
	return impl.Maniplex{}
}

// pairedFaces returns a move that leads the flags of each face to those of another one with equally
// many sides, if the numbers of faces allow it.
func pairedFaces(random *rand.Rand, moves [][]int64) []int64 {
	paired := make([]int64, len(moves[0]))
	labels := labelsWithout(moves, 2)
	waiting := map[int]int64{}
	for _, face := range random.Perm(int(slices.Max(labels) + 1)) {
		var flags []int64
		for flag, label := range labels {
			if label == int64(face) {
				flags = append(flags, int64(flag))
			}
		}
		flag := flags[random.Intn(len(flags))]
		other, ok := waiting[len(flags)]
		if !ok {
			waiting[len(flags)] = flag
			continue
		}
		delete(waiting, len(flags))
		for step := range flags {
			paired[flag], paired[other] = other, flag
			flag, other = moves[step%2][flag], moves[step%2][other]
		}
	}
	return paired
}

// layered returns the maniplex of rank 4 with two facets, which have equal moves 0 and 1, and each of
// whose faces is glued to the one with the same numbers of flags.
func layered(a impl.Maniplex, b impl.Maniplex) impl.Maniplex {
	flags := int64(len(a.Moves[0]))
	moves := append(union([]impl.Maniplex{a, b}), nil)
	for flag := range 2 * flags {
		moves[3] = append(moves[3], (flag+flags)%(2*flags))
	}
	return impl.Maniplex{Moves: moves}
}

// alike returns a maniplex of rank 4 with two facets, a torus and a bottle of one square each.
func alike() impl.Maniplex {
	return glued(1, grid(1, 1, false), grid(1, 1, true))
}

// capped returns a maniplex of rank 4 with one cube and, at each of its squares, one map of a square.
func capped() impl.Maniplex {
	squares := squareMaps()
	return glued(1, prism(4), squares[0], squares[1], squares[2], squares[3], squares[4], squares[5])
}

// sectionSamples are maniplexes whose sections are of many kinds.
func sectionSamples() []impl.Maniplex {
	samples := []impl.Maniplex{prism(3), prism(4), prism(5), alike(), capped(), glued(2, prism(3), prism(3)), glued(3, plane, plane), glued(4, cell, plane, plane)}
	samples = append(samples, beside(scattered(3, 2), edge), beside(edge, scattered(3, 1)), beside(prism(3), edge), beside(edge, beside(prism(3), edge)))
	samples = append(samples, beside(alike(), edge), beside(edge, alike()), halfTurned())
	squares := squareMaps()
	for seed := range int64(6) {
		samples = append(samples, glued(seed, squares[seed], squares[seed+6], grid(1, 2, false), grid(1, 2, seed%2 == 0)))
	}
	for _, m := range samples {
		samples = append(samples, flipped(m))
	}
	for i, m := range samples {
		samples = append(samples, renumber(m, shuffled(len(m.Moves[0]), int64(i))))
	}
	return append(samples, smallManiplexes()...)
}

// sectionByRestricting returns the section at a flag from i to k: the flags of its orbit keep their
// order, until all of them are numbered from the flag.
func sectionByRestricting(m impl.Maniplex, flag int64, i int64, k int64) impl.Maniplex {
	moves := m.Moves[i : k+1]
	labels := orbitsByMerging(int64(len(m.Moves[0])), moves)
	places := map[int64]int64{}
	for f, label := range labels {
		if label == labels[flag] {
			places[int64(f)] = int64(len(places))
		}
	}
	restricted := make([][]int64, len(moves))
	for j, move := range moves {
		restricted[j] = make([]int64, len(places))
		for f, place := range places {
			restricted[j][place] = places[move[f]]
		}
	}
	return formByNumbering(impl.Maniplex{Moves: restricted}, places[flag])
}

// rankPairs returns all i <= k that are ranks of m.
func rankPairs(m impl.Maniplex) [][2]int64 {
	var pairs [][2]int64
	for k := range int64(len(m.Moves)) {
		for i := range k + 1 {
			pairs = append(pairs, [2]int64{i, k})
		}
	}
	return pairs
}

// noRankPairs returns i and k that are not ranks of m in order.
func noRankPairs(m impl.Maniplex) [][2]int64 {
	n := int64(len(m.Moves))
	pairs := [][2]int64{
		{-1, 0}, {-1, n - 1}, {-1, -1}, {0, n}, {n - 1, n}, {n, n}, {n, 0}, {n, n - 1}, {0, -1}, {-1, n}, {1 << 32, 1 << 32}, {0, 1 << 32},
		{math.MinInt64, 0}, {math.MinInt64, math.MaxInt64}, {math.MinInt64, math.MinInt64}, {0, math.MaxInt64}, {math.MaxInt64, math.MaxInt64}, {math.MaxInt64, math.MinInt64},
	}
	for i := range n {
		for k := range i {
			pairs = append(pairs, [2]int64{i, k})
		}
	}
	return pairs
}
