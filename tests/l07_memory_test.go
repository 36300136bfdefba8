package tests

import (
	"slices"
	"testing"

	"loop.example/g01108/impl"
)

// coveringCalls are calls of the functions of chapter 7 with two maniplexes and a list, each of which returns
// the lists of its result. Those that take automorphisms get the list as one of them.
func coveringCalls() map[string]func(m impl.Maniplex, k impl.Maniplex, list []int64) [][]int64 {
	type maniplex = impl.Maniplex
	return map[string]func(m maniplex, k maniplex, list []int64) [][]int64{
		"QuotientBy": func(m, _ maniplex, list []int64) [][]int64 {
			got, _ := impl.QuotientBy(m, [][]int64{list})
			return got.Moves
		},
		"QuotientBy of all": func(m, _ maniplex, _ []int64) [][]int64 { got, _ := impl.QuotientBy(m, nil); return got.Moves },
		"QuotientForms":     func(m, _ maniplex, _ []int64) [][]int64 { got, _ := impl.QuotientForms(m); return movesOf(got) },
		"CoveringOf":        func(m, k maniplex, _ []int64) [][]int64 { got, _ := impl.CoveringOf(m, k); return [][]int64{got} },
		"CountCoverings":    func(m, k maniplex, _ []int64) [][]int64 { impl.CountCoverings(m, k); return nil },
		"IsCovering":        func(m, k maniplex, list []int64) [][]int64 { impl.IsCovering(m, k, list); return nil },
		"FibreOf 0": func(m, k maniplex, list []int64) [][]int64 {
			got, _ := impl.FibreOf(m, k, list, 0)
			return [][]int64{got}
		},
		"FibreOf 1": func(m, k maniplex, list []int64) [][]int64 {
			got, _ := impl.FibreOf(m, k, list, 1)
			return [][]int64{got}
		},
		"DeckMoves":        func(m, k maniplex, list []int64) [][]int64 { got, _ := impl.DeckMoves(m, k, list); return got },
		"IsNormalCovering": func(m, k maniplex, list []int64) [][]int64 { impl.IsNormalCovering(m, k, list); return nil },
		"DoubleCover":      func(m, _ maniplex, _ []int64) [][]int64 { got, _ := impl.DoubleCover(m); return got.Moves },
		"FaceMap 0": func(m, k maniplex, list []int64) [][]int64 {
			got, _ := impl.FaceMap(m, k, list, 0)
			return [][]int64{got}
		},
		"FaceMap 1": func(m, k maniplex, list []int64) [][]int64 {
			got, _ := impl.FaceMap(m, k, list, 1)
			return [][]int64{got}
		},
	}
}

// coveringMemorySample are arguments of the calls.
type coveringMemorySample struct {
	m    impl.Maniplex
	k    impl.Maniplex
	list []int64
}

// coveringMemorySamples are coverings, automorphisms, and lists and maniplexes that are none.
func coveringMemorySamples() []coveringMemorySample {
	samples := []coveringMemorySample{
		{hexagon, triangle, onTriangle}, {hexagon, hexagon, halfTurn}, {triangle, oneGon, []int64{1, 0, 1, 0, 1, 0}}, {edge, edge, []int64{1, 0}}, {edge, edge, []int64{0, 1}},
		{cell, plane, []int64{0, 1, 2, 3, 3, 2, 1, 0}}, {cell, cell, []int64{7, 6, 5, 4, 3, 2, 1, 0}}, {plane, plane, identity(4)}, {hemicube(), hemicube(), identity(24)}, {prism(4), hemicube(), identity(48)},
		{prism(4), prism(4), opposites(prism(4))}, {doubled(hemicube()), hemicube(), halves(24)}, {triangle, hexagon, onTriangle}, {triangle, triangle, nil}, {impl.Maniplex{}, triangle, onTriangle}, {hexagon, impl.Maniplex{}, onTriangle},
	}
	for _, m := range symmetryMemorySamples() {
		samples = append(samples, coveringMemorySample{m, m, []int64{0}})
		if isManiplex(m) {
			samples = append(samples, coveringMemorySample{m, m, isomorphismsByRunning(m, m)[0]})
		}
	}
	return samples
}

func TestCoveringsAreNeitherChangedNorKept(t *testing.T) {
	for name, call := range coveringCalls() {
		for _, sample := range coveringMemorySamples() {
			first, sameFirst := guardAll(sample.m.Moves)
			last, sameLast := guardAll(sample.k.Moves)
			list, sameList := guard(sample.list)
			got := call(impl.Maniplex{Moves: first}, impl.Maniplex{Moves: last}, list)
			want := cloneLists(got)
			if !sameFirst() || !sameLast() || !sameList() {
				t.Errorf("%s of %v changed an argument", name, sample)
			}
			for _, move := range slices.Concat(first, last, [][]int64{list}) {
				scribble(move)
			}
			clear(first[:cap(first)])
			clear(last[:cap(last)])
			if !equalLists(got, want) {
				t.Errorf("%s of %v returned memory of an argument", name, sample)
			}
		}
	}
}

func TestListsOfAutomorphismsAreNeitherChangedNorKept(t *testing.T) {
	for _, m := range []impl.Maniplex{edge, triangle, hexagon, cell, path, cubes(4), prism(4)} {
		for i, lists := range someAutomorphisms(isomorphismsByRunning(m, m), 5) {
			moves, sameMoves := guardAll(m.Moves)
			list, sameList := guardAll(lists)
			got, code := impl.QuotientBy(impl.Maniplex{Moves: moves}, list)
			want := cloneLists(got.Moves)
			if !sameMoves() || !sameList() {
				t.Errorf("QuotientBy of %v by %v changed an argument: code %d", m, lists, code)
			}
			for _, p := range slices.Concat(moves, list) {
				scribble(p)
			}
			clear(moves[:cap(moves)])
			clear(list[:cap(list)])
			if !equalLists(got.Moves, want) {
				t.Errorf("QuotientBy of %v by the list %d returned memory of an argument", m, i)
			}
		}
	}
}

func TestManiplexesAndListsMayShareMemory(t *testing.T) {
	moves, same := guardAll(cubes(5).Moves)
	m := impl.Maniplex{Moves: moves}
	ok, code := impl.IsCovering(m, m, moves[2])
	expect(t, "a move as a covering", ok, code, true, impl.ErrNone)
	got, code := impl.DeckMoves(m, m, moves[2])
	expectLists(t, "a move as a covering", got, code, [][]int64{identity(32)}, impl.ErrNone)
	quotient, code := impl.QuotientBy(m, moves[:1])
	expectManiplex(t, "a move as an automorphism", quotient, code, impl.Maniplex{}, impl.ErrState)
	fibre, code := impl.FibreOf(m, m, moves[2], 0)
	expectList(t, "a move as a covering", fibre, code, []int64{moves[2][0]}, impl.ErrNone)
	if !same() {
		t.Errorf("a call changed an argument")
	}
}

func TestListsOfCoveringsShareNoMemory(t *testing.T) {
	for name, call := range coveringCalls() {
		for _, sample := range coveringMemorySamples() {
			expectSeparate(t, name, func() [][]int64 { return call(sample.m, sample.k, sample.list) })
		}
	}
}

func TestFormsOfQuotientsShareNoMemory(t *testing.T) {
	for _, m := range []impl.Maniplex{edge, triangle, hexagon, cell, prism(4), cubes(4), turning(5, 2)} {
		want, _ := impl.QuotientForms(m)
		for place := range want {
			got, code := impl.QuotientForms(m)
			moves := got[place].Moves
			clear(moves[:cap(moves)])
			got[place] = want[place]
			expectForms(t, "the other forms", got, code, want, impl.ErrNone)
		}
	}
}

func TestCallsForCoveringsKeepNoState(t *testing.T) {
	for name, call := range coveringCalls() {
		for _, sample := range coveringMemorySamples()[:9] {
			first := call(sample.m, sample.k, sample.list)
			want := cloneLists(first)
			for _, list := range first {
				scribble(list)
			}
			for _, other := range coveringMemorySamples() {
				call(other.m, other.k, other.list)
			}
			if got := call(sample.m, sample.k, sample.list); !equalLists(got, want) {
				t.Errorf("%s returned %v at first and then %v", name, want, got)
			}
		}
	}
}
