package tests

import (
	"math/rand"
	"slices"
	"sync"

	"loop.example/g01108/impl"
)

// turning returns the map of squares on a torus with the vertices 0..n - 1: from each vertex, edges lead
// to the vertices with 1 and u more, and with 1 and u less, modulo n, in this order around it. A quarter
// of a turn is an automorphism if n divides u * u + 1.
func turning(n int64, u int64) impl.Maniplex {
	steps := []int64{1, u, n - 1, n - u}
	number := func(vertex int64, direction int64, side int64) int64 {
		return (vertex%n*4+(direction+4)%4)*2 + side
	}
	moves := make([][]int64, 3)
	for flag := range 8 * n {
		vertex, direction, side := flag/8, flag/2%4, flag%2
		moves[0] = append(moves[0], number(vertex+steps[direction], direction+2, 1-side))
		moves[1] = append(moves[1], number(vertex, direction+1-2*side, 1-side))
		moves[2] = append(moves[2], number(vertex, direction, 1-side))
	}
	return impl.Maniplex{Moves: moves}
}

// rotary returns the maniplex with two flags for each permutation g of the group of a list: the last move
// exchanges both, and the move i leads the first one of g to the second one of the permutation that does
// the element i of the list and then g. To do something after all permutations is an automorphism.
func rotary(list ...[]int64) impl.Maniplex {
	group := elementsByClosing(int64(len(list[0])), list)
	moves := make([][]int64, len(list)+1)
	for i := range moves {
		moves[i] = make([]int64, 2*len(group))
		for place, element := range group {
			if i < len(list) {
				product := doBoth(list[i], element)
				place, _ = slices.BinarySearchFunc(group, product, slices.Compare[[]int64])
			}
			first, _ := slices.BinarySearchFunc(group, element, slices.Compare[[]int64])
			moves[i][2*first], moves[i][2*place+1] = int64(2*place+1), int64(2*first)
		}
	}
	return impl.Maniplex{Moves: moves}
}

// chiralManiplexes are chiral maniplexes of the ranks 3, 4 and 5; the one with 5 vertices of rank 4 is a
// polytope whose facets are chiral maps on tori.
func chiralManiplexes() []impl.Maniplex {
	return []impl.Maniplex{
		turning(5, 2), turning(5, 3), turning(10, 3), turning(13, 5), turning(50, 7),
		rotary([]int64{0, 2, 1}, []int64{1, 0, 2}, []int64{1, 2, 0}),
		rotary([]int64{0, 1, 3, 2}, []int64{2, 3, 0, 1}, []int64{2, 3, 1, 0}),
		rotary([]int64{0, 2, 1, 4, 3}, []int64{0, 1, 3, 2, 4}, []int64{1, 2, 0, 3, 4}),
		rotary([]int64{0, 1, 3, 2}, []int64{2, 3, 0, 1}, []int64{1, 0, 2, 3}, []int64{2, 3, 1, 0}),
		rotary([]int64{0, 1, 2, 4, 3}, []int64{0, 1, 3, 2, 4}, []int64{0, 2, 1, 3, 4}, []int64{1, 0, 3, 4, 2}),
	}
}

// linked returns a maniplex of rank 5 that depends on the seed: its moves 0, 1, 3 and 4 are those of an
// a-gon beside a b-gon, and its move 2 exchanges pairs of the sets of four flags to which the moves 0 and 4
// lead, or both ends of a set that is left.
func linked(a int, b int, seed int64) impl.Maniplex {
	random := rand.New(rand.NewSource(seed))
	m := impl.Maniplex{Moves: slices.Insert(beside(polygon(a), polygon(b)).Moves, 2, make([]int64, 4*a*b))}
	words := [][]int64{nil, {0}, {4}, {0, 4}}
	labels := labelsWithout(m.Moves, 1, 2, 3)
	start := func(set int) int64 {
		return run(m, int64(slices.Index(labels, int64(set))), words[random.Intn(4)])
	}
	for order := random.Perm(a * b); len(order) > 0; order = order[min(2, len(order)):] {
		flag := start(order[0])
		other := run(m, flag, words[3])
		if len(order) > 1 {
			other = start(order[1])
		}
		for _, word := range words {
			from, to := run(m, flag, word), run(m, other, word)
			m.Moves[2][from], m.Moves[2][to] = to, from
		}
	}
	return m
}

// similar is a map with two flags, the forms from which differ in the move 0 alone.
var similar = impl.Maniplex{Moves: [][]int64{
	{1, 0, 3, 2, 5, 4, 7, 6, 9, 8, 11, 10, 13, 12, 15, 14, 17, 16, 19, 18},
	{14, 15, 19, 4, 3, 18, 10, 9, 16, 7, 6, 12, 11, 17, 0, 1, 8, 13, 5, 2},
	{2, 3, 0, 1, 6, 7, 4, 5, 10, 11, 8, 9, 14, 15, 12, 13, 18, 19, 16, 17},
}}

// symmetricSamples are maniplexes of all ranks with one orbit of flags, with as many orbits as flags, and
// with some in between, with at most 400 flags.
func symmetricSamples() []impl.Maniplex {
	samples := []impl.Maniplex{similar, turning(2, 1), turning(7, 2), turning(8, 3), turning(12, 5), turning(9, 2), crossed(), beside(turning(5, 2), edge), beside(edge, turning(5, 2)), beside(turning(5, 2), cubes(2)), linked(2, 2, 1), linked(3, 3, 1), linked(3, 4, 2), linked(4, 5, 3), linked(10, 10, 4)}
	for _, m := range chiralManiplexes() {
		if len(m.Moves) == 3 {
			samples = append(samples, replacedByRunning(m, petrieTable[3]), replacedByRunning(m, oppositeTable))
		}
	}
	for seed := range int64(30) {
		samples = append(samples, scattered(4+int(seed%6), 500+seed))
	}
	samples = append(samples, chiralManiplexes()...)
	for i, m := range samples {
		samples = append(samples, flipped(m), renumber(m, shuffled(len(m.Moves[0]), int64(i))))
	}
	return slices.Concat(samples, operationSamples(), greatManiplexes())
}

// symmetric is a maniplex with its automorphisms and the numbers of the orbits of its flags, both as the
// definitions say it.
type symmetric struct {
	impl.Maniplex
	automorphisms [][]int64
	orbits        []int64
}

// count returns how many orbits of flags there are.
func (s symmetric) count() int64 {
	return slices.Max(s.orbits) + 1
}

// isChiral reports whether each move leads each flag to the other one of two orbits.
func (s symmetric) isChiral() bool {
	for _, move := range s.Moves {
		for flag, image := range move {
			if s.orbits[flag] == s.orbits[image] {
				return false
			}
		}
	}
	return s.count() == 2
}

// kind tells how symmetric the maniplex is.
func (s symmetric) kind() string {
	switch orbits := int(s.count()); {
	case s.isChiral():
		return "chiral"
	case orbits == 1:
		return "regular"
	case orbits == 2:
		return "two orbits alone"
	case orbits < len(s.orbits):
		return "more orbits"
	}
	return "one automorphism alone"
}

// withSymmetries returns a maniplex with its automorphisms and orbits.
func withSymmetries(m impl.Maniplex) symmetric {
	automorphisms := isomorphismsByRunning(m, m)
	return symmetric{m, automorphisms, orbitsByMerging(int64(len(m.Moves[0])), automorphisms)}
}

// symmetrics are the samples with their automorphisms and orbits.
var symmetrics = sync.OnceValue(func() []symmetric {
	var list []symmetric
	for _, m := range symmetricSamples() {
		list = append(list, withSymmetries(m))
	}
	return list
})

// isIsomorphism reports whether a list is an isomorphism from m to k, as the definition says it.
func isIsomorphism(m impl.Maniplex, k impl.Maniplex, list []int64) bool {
	once := slices.Equal(slices.Sorted(slices.Values(list)), identity(len(k.Moves[0])))
	return once && len(list) == len(m.Moves[0]) && goesWithMoves(m, k, list)
}

// goesWithMoves reports whether m and k have the same rank, and the flag to which a move leads a flag of m
// gets the flag of k to which this move leads what the flag gets.
func goesWithMoves(m impl.Maniplex, k impl.Maniplex, list []int64) bool {
	if len(m.Moves) != len(k.Moves) {
		return false
	}
	for i, move := range m.Moves {
		for flag, image := range move {
			if list[image] != k.Moves[i][list[flag]] {
				return false
			}
		}
	}
	return true
}

// isomorphismsByRunning returns all isomorphisms from m to k in ascending order of what they give the
// flag 0: each flag can only get the flag to which a word leads that leads to it from the flag 0.
func isomorphismsByRunning(m impl.Maniplex, k impl.Maniplex) [][]int64 {
	if len(m.Moves) != len(k.Moves) || len(m.Moves[0]) != len(k.Moves[0]) {
		return nil
	}
	var found [][]int64
	words := firstWordsByTrying(m, 0)
	for first := range int64(len(k.Moves[0])) {
		var list []int64
		for _, word := range words {
			list = append(list, run(k, first, word))
		}
		if isIsomorphism(m, k, list) {
			found = append(found, list)
		}
	}
	return found
}

// isomorphismsByTrying returns all isomorphisms from m to k in ascending order of what they give the
// flag 0: all of the given permutations are tried.
func isomorphismsByTrying(m impl.Maniplex, k impl.Maniplex, permutations [][]int64) [][]int64 {
	var found [][]int64
	for _, p := range permutations {
		if goesWithMoves(m, k, p) {
			found = append(found, p)
		}
	}
	return found
}

// allManiplexes returns all maniplexes of a rank with so many flags.
func allManiplexes(rank int, flags int) []impl.Maniplex {
	var all []impl.Maniplex
	involutions := freeInvolutions(flags)
	for _, word := range allWords(len(involutions), rank) {
		var m impl.Maniplex
		for _, i := range word {
			m.Moves = append(m.Moves, involutions[i])
		}
		if isManiplex(m) {
			all = append(all, m)
		}
	}
	return all
}

// faceOrbitsByMerging returns for each face of rank i the number of its orbit.
func (s symmetric) faceOrbitsByMerging(i int) []int64 {
	labels := labelsWithout(s.Moves, i)
	var list [][]int64
	for _, automorphism := range s.automorphisms {
		list = append(list, faceImages(labels, automorphism))
	}
	return orbitsByMerging(slices.Max(labels)+1, list)
}

// faceImages returns for each face the one to which an automorphism leads it: all of its flags go there.
func faceImages(labels []int64, automorphism []int64) []int64 {
	images := slices.Repeat([]int64{-1}, int(slices.Max(labels)+1))
	for flag, face := range labels {
		image := labels[automorphism[flag]]
		if images[face] >= 0 && images[face] != image {
			panic("an automorphism leads the flags of a face to several faces")
		}
		images[face] = image
	}
	return images
}

// symmetryType returns for each move and each orbit of flags the orbit to which the move leads its first
// flag.
func (s symmetric) symmetryType() [][]int64 {
	var lists [][]int64
	for _, move := range s.Moves {
		var list []int64
		for orbit := range s.count() {
			list = append(list, s.orbits[move[slices.Index(s.orbits, orbit)]])
		}
		lists = append(lists, list)
	}
	return lists
}
