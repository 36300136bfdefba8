package tests

import (
	"math/rand"
	"slices"
	"sync"
	"testing"

	"loop.example/g01108/impl"
)

// quotientByMerging returns the quotient of m by a list of automorphisms: a move leads an orbit to where it
// leads the flags of the orbit, which have to agree.
func quotientByMerging(m impl.Maniplex, list [][]int64) impl.Maniplex {
	orbits := orbitsByMerging(int64(len(m.Moves[0])), list)
	var moves [][]int64
	for _, move := range m.Moves {
		moves = append(moves, faceImages(orbits, move))
	}
	return impl.Maniplex{Moves: moves}
}

// coveringsByRunning returns all coverings from m to k in ascending order of what they give the flag 0:
// each flag can only get the flag to which a word leads that leads to it from the flag 0.
func coveringsByRunning(m impl.Maniplex, k impl.Maniplex) [][]int64 {
	if len(m.Moves) != len(k.Moves) {
		return nil
	}
	var found [][]int64
	words := firstWordsByTrying(m, 0)
	for first := range int64(len(k.Moves[0])) {
		var list []int64
		for _, word := range words {
			list = append(list, run(k, first, word))
		}
		if goesWithMoves(m, k, list) {
			found = append(found, list)
		}
	}
	return found
}

// coveringsByTrying returns all coverings from m to k in ascending order of what they give the flag 0: all
// of the given lists are tried, which have a flag of k for each flag of m.
func coveringsByTrying(m impl.Maniplex, k impl.Maniplex, lists [][]int64) [][]int64 {
	var found [][]int64
	for _, list := range lists {
		if goesWithMoves(m, k, list) {
			found = append(found, list)
		}
	}
	return found
}

// flagsOver returns the flags that get a flag, in ascending order.
func flagsOver(list []int64, flag int64) []int64 {
	var fibre []int64
	for from, image := range list {
		if image == flag {
			fibre = append(fibre, int64(from))
		}
	}
	return fibre
}

// deckMovesByTrying returns those of the automorphisms after which each flag gets what it got before.
func deckMovesByTrying(automorphisms [][]int64, list []int64) [][]int64 {
	var moves [][]int64
	for _, automorphism := range automorphisms {
		if slices.Equal(doBoth(automorphism, list), list) {
			moves = append(moves, automorphism)
		}
	}
	return moves
}

// sheets returns a maniplex of rank 3 with so many flags for each flag of k, and a covering onto k, or
// nothing if the seed leads to something that is not connected: the move 1 exchanges the flags over two
// flags in an order that depends on the seed, and the other moves keep the order.
func sheets(k impl.Maniplex, count int, seed int64) (impl.Maniplex, []int64) {
	random := rand.New(rand.NewSource(seed))
	m := impl.Maniplex{Moves: make([][]int64, 3)}
	var list []int64
	for i := range m.Moves {
		m.Moves[i] = make([]int64, count*len(k.Moves[0]))
	}
	for flag := range k.Moves[0] {
		orders := [][]int64{identity(count), shuffled(count, random.Int63()), identity(count)}
		for sheet := range count {
			list = append(list, int64(flag))
			for i, move := range k.Moves {
				if from, to := int64(flag*count+sheet), move[flag]*int64(count)+orders[i][sheet]; from < to {
					m.Moves[i][from], m.Moves[i][to] = to, from
				}
			}
		}
	}
	if !isManiplex(m) {
		return impl.Maniplex{}, nil
	}
	return m, list
}

// coveringSample is a covering from m to k with the deck moves of it, as the definition says it.
type coveringSample struct {
	m         impl.Maniplex
	k         impl.Maniplex
	list      []int64
	deckMoves [][]int64
}

// sizeOfFibres returns how many flags a fibre has.
func (c coveringSample) sizeOfFibres() int {
	return len(c.m.Moves[0]) / len(c.k.Moves[0])
}

// isNormal reports whether there are as many deck moves as flags in a fibre.
func (c coveringSample) isNormal() bool {
	return len(c.deckMoves) == c.sizeOfFibres()
}

// renumbered returns the covering with the numbers of the flags of m and of k changed.
func (c coveringSample) renumbered(seed int64) coveringSample {
	p, q := shuffled(len(c.m.Moves[0]), seed), shuffled(len(c.k.Moves[0]), seed+1)
	other := coveringSample{renumber(c.m, p), renumber(c.k, q), doBoth(doBoth(undo(p), c.list), q), nil}
	for _, move := range c.deckMoves {
		other.deckMoves = append(other.deckMoves, doBoth(doBoth(undo(p), move), p))
	}
	slices.SortFunc(other.deckMoves, slices.Compare[[]int64])
	return other
}

// coveringWithDeckMoves returns a covering from m to k with its deck moves.
func coveringWithDeckMoves(m impl.Maniplex, k impl.Maniplex, list []int64) coveringSample {
	return coveringSample{m, k, list, deckMovesByTrying(isomorphismsByRunning(m, m), list)}
}

// someAutomorphisms returns lists of automorphisms of one maniplex, which depend on the seed.
func someAutomorphisms(automorphisms [][]int64, seed int64) [][][]int64 {
	random := rand.New(rand.NewSource(seed))
	one := func() []int64 { return automorphisms[random.Intn(len(automorphisms))] }
	lists := [][][]int64{nil, {automorphisms[0]}, automorphisms[:min(16, len(automorphisms))]}
	for range 6 {
		first, second := one(), one()
		lists = append(lists, [][]int64{first}, [][]int64{first, second}, [][]int64{second, second, one()})
	}
	return lists
}

// quotientCoverings are the coverings from maniplexes to their quotients by lists of automorphisms.
func quotientCoverings() []coveringSample {
	var samples []coveringSample
	for i, s := range symmetrics() {
		if len(s.Moves[0]) > 120 && i%7 > 0 {
			continue
		}
		known := map[string]bool{}
		for _, list := range someAutomorphisms(s.automorphisms, int64(i)) {
			k := quotientByMerging(s.Maniplex, list)
			if !isManiplex(k) || known[nameOf(k)] {
				continue
			}
			known[nameOf(k)] = true
			orbits := orbitsByMerging(int64(len(s.Moves[0])), list)
			samples = append(samples, coveringSample{s.Maniplex, k, orbits, deckMovesByTrying(s.automorphisms, orbits)})
		}
	}
	return samples
}

// irregularCoverings are coverings of maps whose moves are led along by chance, most of which are not
// normal, and the same of the ranks 4 and 5.
func irregularCoverings() []coveringSample {
	var samples []coveringSample
	for i, k := range []impl.Maniplex{plane, cell, path, shifts(4, 1, 1, 2), shifts(4, 1, 2, 2), grid(1, 1, false), grid(1, 2, true), simplex(3), hemicube(), scattered(3, 5), pyramid(4)} {
		for count := 2; count <= 6; count++ {
			for seed := range int64(3) {
				m, list := sheets(k, count, seed+10*int64(i))
				if list == nil {
					continue
				}
				samples = append(samples, coveringWithDeckMoves(m, k, list))
				if len(list) <= 48 {
					samples = append(samples, raised(m, k, list)...)
				}
				// There is a deck move over each flag of m, but seldom one for all flags over one of k.
				if upper, above := sheets(m, 2, seed); above != nil && len(above) <= 120 {
					samples = append(samples, coveringWithDeckMoves(upper, k, doBoth(above, list)))
				}
			}
		}
	}
	return samples
}

// raised returns a covering with one more move behind the others, in front of them, and on both sides.
func raised(m impl.Maniplex, k impl.Maniplex, list []int64) []coveringSample {
	behind := pairsOf(list, []int64{0, 1}, 2)
	return []coveringSample{
		coveringWithDeckMoves(beside(m, edge), beside(k, edge), behind),
		coveringWithDeckMoves(beside(edge, m), beside(edge, k), pairsOf([]int64{0, 1}, list, len(k.Moves[0]))),
		coveringWithDeckMoves(beside(edge, beside(m, edge)), beside(edge, beside(k, edge)), pairsOf([]int64{0, 1}, behind, 2*len(k.Moves[0]))),
	}
}

// pairsOf returns what pairs of flags get from two lists, the second one of which has so many flags to give.
func pairsOf(a []int64, b []int64, flags int) []int64 {
	var list []int64
	for _, first := range a {
		for _, second := range b {
			list = append(list, first*int64(flags)+second)
		}
	}
	return list
}

// coveringSamples are coverings of all ranks, those that are normal and those that are not, also with other
// numbers of the flags.
var coveringSamples = sync.OnceValue(func() []coveringSample {
	samples := slices.Concat(quotientCoverings(), irregularCoverings())
	for i, c := range samples {
		if len(c.list) <= 120 || i%5 == 0 {
			samples = append(samples, c.renumbered(int64(i)))
		}
	}
	return samples
})

func TestCoveringSamples(t *testing.T) {
	kinds := map[int]map[bool]int{1: {}, 2: {}, 3: {}, 4: {}, 5: {}}
	several, moved := 0, 0
	for _, c := range coveringSamples() {
		if !isManiplex(c.m) || !isManiplex(c.k) || !goesWithMoves(c.m, c.k, c.list) {
			t.Errorf("%v is no covering from %v to %v", c.list, c.m, c.k)
		}
		kinds[len(c.m.Moves)][c.isNormal()]++
		if n := len(c.deckMoves); n > 1 && n < c.sizeOfFibres() {
			several++
		}
		if slices.Min(c.list) != c.list[0] {
			moved++
		}
	}
	for rank := 1; rank <= 5; rank++ {
		// Polygons cover polygons normally.
		if kinds[rank][true] < 10 && rank > 1 || kinds[rank][true] == 0 || (kinds[rank][false] < 10) != (rank <= 2) {
			t.Errorf("the samples of rank %d show too little: %v", rank, kinds[rank])
		}
	}
	if several < 10 || moved < 100 {
		t.Errorf("the samples show too little: %d with some deck moves, %d that lead the flag 0 to others", several, moved)
	}
}
