package tests

import (
	"slices"
	"sync"

	"loop.example/g01108/impl"
)

// surface returns the map with the given polygons as faces, each of which is the list of its corners;
// exactly two of the polygons have each side.
func surface(polygons ...[]int64) impl.Maniplex {
	moves := make([][]int64, 3)
	waiting := map[[2]int64]int64{}
	moves[2] = make([]int64, 2*len(slices.Concat(polygons...)))
	for _, corners := range polygons {
		first, sides := int64(len(moves[0])), int64(len(corners))
		for corner := range sides {
			next, last := (corner+1)%sides, (corner+sides-1)%sides
			moves[0] = append(moves[0], first+2*next+1, first+2*last)
			moves[1] = append(moves[1], first+2*corner+1, first+2*corner)
			for turn, other := range []int64{next, last} {
				flag, side := first+2*corner+int64(turn), [2]int64{corners[corner], corners[other]}
				if before, ok := waiting[side]; ok {
					moves[2][flag], moves[2][before] = before, flag
				}
				waiting[side] = flag
			}
		}
	}
	return impl.Maniplex{Moves: moves}
}

// icosahedron returns the map of an icosahedron.
func icosahedron() impl.Maniplex {
	return surface(
		[]int64{0, 1, 2}, []int64{0, 2, 3}, []int64{0, 3, 4}, []int64{0, 4, 5}, []int64{0, 5, 1},
		[]int64{1, 2, 6}, []int64{2, 3, 7}, []int64{3, 4, 8}, []int64{4, 5, 9}, []int64{5, 1, 10},
		[]int64{2, 6, 7}, []int64{3, 7, 8}, []int64{4, 8, 9}, []int64{5, 9, 10}, []int64{1, 10, 6},
		[]int64{11, 6, 7}, []int64{11, 7, 8}, []int64{11, 8, 9}, []int64{11, 9, 10}, []int64{11, 10, 6})
}

// octahedron returns the map of an octahedron.
func octahedron() impl.Maniplex {
	return surface(
		[]int64{0, 1, 2}, []int64{0, 2, 3}, []int64{0, 3, 4}, []int64{0, 4, 1},
		[]int64{5, 1, 2}, []int64{5, 2, 3}, []int64{5, 3, 4}, []int64{5, 4, 1})
}

// hemicube returns the map of half a cube in the plane, with four vertices.
func hemicube() impl.Maniplex {
	return surface([]int64{0, 1, 2, 3}, []int64{0, 1, 3, 2}, []int64{0, 2, 1, 3})
}

// pyramid returns the map of a pyramid over a p-gon.
func pyramid(p int64) impl.Maniplex {
	polygons := [][]int64{identity(int(p))}
	for side := range p {
		polygons = append(polygons, []int64{side, (side + 1) % p, p})
	}
	return surface(polygons...)
}

// shifts returns the maniplex with so many flags whose moves change bits of the numbers of the flags.
func shifts(flags int64, bits ...int64) impl.Maniplex {
	var moves [][]int64
	for _, changed := range bits {
		var move []int64
		for flag := range flags {
			move = append(move, flag^changed)
		}
		moves = append(moves, move)
	}
	return impl.Maniplex{Moves: moves}
}

// turned returns the maniplex of rank 5 of two tetrahedra whose move 4 is half a turn of both of them:
// it leads some of the flags, the flag 0 among them, where the moves 0 and 2 lead them together.
func turned() impl.Maniplex {
	m := beside(simplex(3), edge)
	orders := allPermutations(4)
	var turn []int64
	for flag := range m.Moves[0] {
		var order []int64
		for _, vertex := range orders[flag/2] {
			order = append(order, vertex^1)
		}
		place, _ := slices.BinarySearchFunc(orders, order, slices.Compare[[]int64])
		turn = append(turn, int64(2*place+flag%2))
	}
	return impl.Maniplex{Moves: append(m.Moves, turn)}
}

// withFlagAt returns m with the numbers of the flag 0 and of another one exchanged.
func withFlagAt(m impl.Maniplex, flag int64) impl.Maniplex {
	p := identity(len(m.Moves[0]))
	p[0], p[flag] = flag, 0
	return renumber(m, p)
}

// withoutPetrieDual returns maniplexes of rank 5 that have no Petrie dual, because the moves 0, 2 and 4
// lead some flags, all or a few of them, back to themselves.
func withoutPetrieDual() []impl.Maniplex {
	none := []impl.Maniplex{shifts(4, 1, 1, 2, 2, 3), shifts(4, 1, 1, 2, 3, 3), shifts(16, 1, 2, 4, 8, 5), turned(), withFlagAt(turned(), 4)}
	for i, m := range none {
		none = append(none, renumber(m, shuffled(len(m.Moves[0]), int64(i))))
	}
	return none
}

// operationSamples are maniplexes of all ranks, with at most 240 flags.
var operationSamples = sync.OnceValue(func() []impl.Maniplex {
	samples := []impl.Maniplex{icosahedron(), octahedron(), hemicube(), pyramid(4), pyramid(5), path, halfTurned(), diagonal(), beside(edge, simplex(4))}
	samples = append(samples, shifts(8, 1, 2, 4, 3, 7), shifts(8, 1, 3, 2, 4, 5))
	for seed := range int64(30) {
		samples = append(samples, scattered(2+int(seed%3), seed))
	}
	for i, m := range samples {
		samples = append(samples, renumber(m, shuffled(len(m.Moves[0]), int64(i))))
	}
	return slices.Concat(samples, withoutPetrieDual(), sectionSamples())
})

// replacedByRunning returns the orbit of the flag 0 of the permutations that words do, with its flags
// numbered from the flag 0.
func replacedByRunning(m impl.Maniplex, words [][]int64) impl.Maniplex {
	var moves [][]int64
	for _, word := range words {
		var move []int64
		for flag := range int64(len(m.Moves[0])) {
			move = append(move, run(m, flag, word))
		}
		moves = append(moves, move)
	}
	return sectionByRestricting(impl.Maniplex{Moves: moves}, 0, 0, int64(len(moves)-1))
}

// replaced returns what replacing the moves of m by words leads to, and the code.
func replaced(m impl.Maniplex, words [][]int64) (impl.Maniplex, int64) {
	if result := replacedByRunning(m, words); isManiplex(result) {
		return result, impl.ErrNone
	}
	return impl.Maniplex{}, impl.ErrState
}

// dualTable and petrieTable are the words of the dual and of the Petrie dual, by the rank; there are no
// words where there is no Petrie dual.
var (
	dualTable = [][][]int64{nil, {{0}}, {{1}, {0}}, {{2}, {1}, {0}}, {{3}, {2}, {1}, {0}}, {{4}, {3}, {2}, {1}, {0}}}

	petrieTable = [][][]int64{nil, nil, nil, {{0, 2}, {1}, {2}}, {{0}, {1, 3}, {2}, {3}}, {{0}, {1}, {2, 4}, {3}, {4}}}
)

// The words of the opposite and of the half.
var (
	oppositeTable = [][]int64{{0}, {1}, {0, 2}}
	halfTable     = [][]int64{{0, 1, 0}, {2}, {1}}
)

// holeTable returns the words of the hole k: the one in the middle has the moves 1 and 2 by turns.
func holeTable(k int) [][]int64 {
	var middle []int64
	for i := range 2*k - 1 {
		middle = append(middle, int64(1+i%2))
	}
	return [][]int64{{0}, middle, {2}}
}

// sameLeastForm reports whether two maniplexes have one least form.
func sameLeastForm(a impl.Maniplex, b impl.Maniplex) bool {
	return compareMoves(leastFormBySorting(a), leastFormBySorting(b)) == 0
}
