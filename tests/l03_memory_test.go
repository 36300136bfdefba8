package tests

import (
	"slices"
	"testing"

	"loop.example/g01108/impl"
)

// listsOf returns the lists of a poset.
func listsOf(p impl.Poset) [][]int64 {
	return append([][]int64{p.Ranks}, p.Below...)
}

// posetCalls are calls of the functions of chapter 3 with a poset, each of which returns the lists of
// its result.
func posetCalls() map[string]func(p impl.Poset) [][]int64 {
	calls := map[string]func(impl.Poset) [][]int64{
		"IsPoset":       func(p impl.Poset) [][]int64 { impl.IsPoset(p); return nil },
		"IsPure":        func(p impl.Poset) [][]int64 { impl.IsPure(p); return nil },
		"IsPolytope":    func(p impl.Poset) [][]int64 { impl.IsPolytope(p); return nil },
		"IsLattice":     func(p impl.Poset) [][]int64 { impl.IsLattice(p); return nil },
		"FlagsOf":       func(p impl.Poset) [][]int64 { got, _ := impl.FlagsOf(p); return got },
		"ManiplexOf":    func(p impl.Poset) [][]int64 { got, _ := impl.ManiplexOf(p); return got.Moves },
		"OppositePoset": func(p impl.Poset) [][]int64 { got, _ := impl.OppositePoset(p); return listsOf(got) },
	}
	one := func(name string, function func(p impl.Poset) ([]int64, int64)) {
		calls[name] = func(p impl.Poset) [][]int64 {
			got, _ := function(p)
			return [][]int64{got}
		}
	}
	one("ElementCounts", impl.ElementCounts)
	one("DiamondFault", impl.DiamondFault)
	one("ConnectionFault", impl.ConnectionFault)
	return calls
}

// faceCalls are calls of the functions of chapter 3 with a maniplex, each of which returns the lists
// of its result.
func faceCalls() map[string]func(m impl.Maniplex) [][]int64 {
	return map[string]func(impl.Maniplex) [][]int64{
		"FacePoset":   func(m impl.Maniplex) [][]int64 { got, _ := impl.FacePoset(m); return listsOf(got) },
		"IsPolytopal": func(m impl.Maniplex) [][]int64 { impl.IsPolytopal(m); return nil },
		"TwinFlags":   func(m impl.Maniplex) [][]int64 { got, _ := impl.TwinFlags(m); return [][]int64{got} },
	}
}

// posetSamples are posets, and some that are none.
func posetSamples() []impl.Poset {
	samples := append(oddPosets(), facesOf(triangle), facesOf(simplex(3)), facesOf(cubes(5)), points(401))
	for _, p := range brokenPosets() {
		samples = append(samples, p)
	}
	return samples
}

// guardPoset does what guard does for a poset.
func guardPoset(p impl.Poset) (impl.Poset, func() bool) {
	ranks, sameRanks := guard(p.Ranks)
	below, sameBelow := guardAll(p.Below)
	return impl.Poset{Rank: p.Rank, Ranks: ranks, Below: below}, func() bool { return sameRanks() && sameBelow() }
}

func TestPosetsAreNeitherChangedNorKept(t *testing.T) {
	for name, call := range posetCalls() {
		for _, sample := range posetSamples() {
			p, same := guardPoset(sample)
			got := call(p)
			want := cloneLists(got)
			if !same() {
				t.Errorf("%s of %v changed an argument", name, sample)
			}
			for _, list := range listsOf(p) {
				scribble(list)
			}
			if !equalLists(got, want) {
				t.Errorf("%s of %v returned memory of an argument", name, sample)
			}
		}
	}
}

func TestManiplexesOfPosetsAreNeitherChangedNorKept(t *testing.T) {
	for name, call := range faceCalls() {
		for _, sample := range memorySamples() {
			moves, same := guardAll(sample.Moves)
			got := call(impl.Maniplex{Moves: moves})
			want := cloneLists(got)
			if !same() {
				t.Errorf("%s of %v changed an argument", name, sample)
			}
			for _, move := range moves {
				scribble(move)
			}
			if !equalLists(got, want) {
				t.Errorf("%s of %v returned memory of an argument", name, sample)
			}
		}
	}
}

// expectSeparate fails the test if a write into one list of a result changes another one.
func expectSeparate(t *testing.T, what string, call func() [][]int64) {
	t.Helper()
	want := cloneLists(call())
	for i := range want {
		got := call()
		scribble(got[i])
		for k := range got {
			if k != i && !slices.Equal(got[k], want[k]) {
				t.Errorf("%s: a write into the list %d changed the list %d", what, i, k)
			}
		}
	}
}

func TestListsOfAPosetShareNoMemory(t *testing.T) {
	for name, call := range posetCalls() {
		for _, p := range append(oddPosets(), facesOf(triangle), facesOf(cubes(5)), facesOf(simplex(3))) {
			expectSeparate(t, name, func() [][]int64 { return call(p) })
		}
	}
	for name, call := range faceCalls() {
		for _, m := range []impl.Maniplex{edge, triangle, cell, polygon(1), simplex(3), cubes(5), diagonal()} {
			expectSeparate(t, name, func() [][]int64 { return call(m) })
		}
	}
}

func TestCallsWithPosetsKeepNoState(t *testing.T) {
	for name, call := range posetCalls() {
		first := cloneLists(call(facesOf(triangle)))
		for _, sample := range posetSamples() {
			call(sample)
		}
		if got := call(facesOf(triangle)); !equalLists(got, first) {
			t.Errorf("%s returned %v at first and then %v", name, first, got)
		}
	}
	for name, call := range faceCalls() {
		first := cloneLists(call(triangle))
		for _, sample := range memorySamples() {
			call(sample)
		}
		if got := call(triangle); !equalLists(got, first) {
			t.Errorf("%s returned %v at first and then %v", name, first, got)
		}
	}
}
