package tests

import (
	"slices"
	"testing"

	"loop.example/g01108/impl"
)

// symmetryCalls are calls of the functions of chapter 6 with one or two maniplexes, each of which returns
// the lists of its result.
func symmetryCalls() map[string]func(m impl.Maniplex, k impl.Maniplex) [][]int64 {
	calls := map[string]func(impl.Maniplex, impl.Maniplex) [][]int64{
		"IsomorphismOf":      func(m, k impl.Maniplex) [][]int64 { got, _ := impl.IsomorphismOf(m, k); return [][]int64{got} },
		"AreIsomorphic":      func(m, k impl.Maniplex) [][]int64 { impl.AreIsomorphic(m, k); return nil },
		"CountAutomorphisms": func(m, _ impl.Maniplex) [][]int64 { impl.CountAutomorphisms(m); return nil },
		"IsRegular":          func(m, _ impl.Maniplex) [][]int64 { impl.IsRegular(m); return nil },
		"IsChiral":           func(m, _ impl.Maniplex) [][]int64 { impl.IsChiral(m); return nil },
		"IsTransitiveOn":     func(m, _ impl.Maniplex) [][]int64 { impl.IsTransitiveOn(m, 0); return nil },
	}
	one := func(name string, function func(m impl.Maniplex) ([]int64, int64)) {
		calls[name] = func(m, _ impl.Maniplex) [][]int64 { got, _ := function(m); return [][]int64{got} }
	}
	one("AutomorphismTo 0", func(m impl.Maniplex) ([]int64, int64) { return impl.AutomorphismTo(m, 0) })
	one("AutomorphismTo 1", func(m impl.Maniplex) ([]int64, int64) { return impl.AutomorphismTo(m, 1) })
	one("FlagOrbits", impl.FlagOrbits)
	one("FaceOrbits 0", func(m impl.Maniplex) ([]int64, int64) { return impl.FaceOrbits(m, 0) })
	one("FaceOrbits 1", func(m impl.Maniplex) ([]int64, int64) { return impl.FaceOrbits(m, 1) })
	several := func(name string, function func(m impl.Maniplex) ([][]int64, int64)) {
		calls[name] = func(m, _ impl.Maniplex) [][]int64 { got, _ := function(m); return got }
	}
	several("AutomorphismsOf", impl.AutomorphismsOf)
	several("SymmetryType", impl.SymmetryType)
	several("StandardAutomorphisms", impl.StandardAutomorphisms)
	several("StabilizerOf 0", func(m impl.Maniplex) ([][]int64, int64) { return impl.StabilizerOf(m, 0, 0) })
	several("StabilizerOf 1", func(m impl.Maniplex) ([][]int64, int64) { return impl.StabilizerOf(m, 1, 1) })
	return calls
}

// symmetryMemorySamples are maniplexes, and lists that are none.
func symmetryMemorySamples() []impl.Maniplex {
	return append(memorySamples(), path, loop, prism(3), pyramid(4), turning(5, 2), hemicube(), simplex(4), beside(edge, turning(5, 2)))
}

func TestManiplexesOfSymmetriesAreNeitherChangedNorKept(t *testing.T) {
	for name, call := range symmetryCalls() {
		for i, sample := range symmetryMemorySamples() {
			others := []impl.Maniplex{sample, triangle, {}}
			if isManiplex(sample) {
				others = append(others, renumber(sample, shuffled(len(sample.Moves[0]), int64(i))))
			}
			for _, other := range others {
				first, sameFirst := guardAll(sample.Moves)
				last, sameLast := guardAll(other.Moves)
				got := call(impl.Maniplex{Moves: first}, impl.Maniplex{Moves: last})
				want := cloneLists(got)
				if !sameFirst() || !sameLast() {
					t.Errorf("%s of %v and %v changed an argument", name, sample, other)
				}
				for _, move := range slices.Concat(first, last) {
					scribble(move)
				}
				if !equalLists(got, want) {
					t.Errorf("%s of %v and %v returned memory of an argument", name, sample, other)
				}
			}
		}
	}
}

func TestBothManiplexesMayShareMemory(t *testing.T) {
	for _, m := range []impl.Maniplex{edge, triangle, cell, simplex(4), turning(5, 2)} {
		moves, same := guardAll(m.Moves)
		shared := impl.Maniplex{Moves: moves}
		got, code := impl.IsomorphismOf(shared, shared)
		expectList(t, "one maniplex twice", got, code, identity(len(m.Moves[0])), impl.ErrNone)
		if !same() {
			t.Errorf("IsomorphismOf of %v changed an argument", m)
		}
	}
}

func TestListsOfSymmetriesShareNoMemory(t *testing.T) {
	for name, call := range symmetryCalls() {
		for _, m := range symmetryMemorySamples() {
			expectSeparate(t, name, func() [][]int64 { return call(m, m) })
		}
	}
}

func TestCallsForSymmetriesKeepNoState(t *testing.T) {
	for name, call := range symmetryCalls() {
		for _, m := range []impl.Maniplex{triangle, path, simplex(3), turning(5, 2)} {
			k := renumber(m, shuffled(len(m.Moves[0]), 4))
			first := call(m, k)
			want := cloneLists(first)
			for _, list := range first {
				scribble(list)
			}
			for _, sample := range symmetryMemorySamples() {
				call(sample, k)
			}
			if got := call(m, k); !equalLists(got, want) {
				t.Errorf("%s returned %v at first and then %v", name, want, got)
			}
		}
	}
}
