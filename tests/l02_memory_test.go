package tests

import (
	"slices"
	"testing"

	"loop.example/g01108/impl"
)

// maniplexCalls are calls of the functions of chapter 2 with a maniplex, and a list where one is
// asked for, each of which returns the lists of its result.
func maniplexCalls() map[string]func(m impl.Maniplex, list []int64) [][]int64 {
	calls := map[string]func(impl.Maniplex, []int64) [][]int64{
		"IsManiplex":          func(m impl.Maniplex, _ []int64) [][]int64 { impl.IsManiplex(m); return nil },
		"EulerCharacteristic": func(m impl.Maniplex, _ []int64) [][]int64 { impl.EulerCharacteristic(m); return nil },
		"IsOrientable":        func(m impl.Maniplex, _ []int64) [][]int64 { impl.IsOrientable(m); return nil },
		"DiameterOf":          func(m impl.Maniplex, _ []int64) [][]int64 { impl.DiameterOf(m); return nil },
		"ManiplexText":        func(m impl.Maniplex, _ []int64) [][]int64 { impl.ManiplexText(m); return nil },
		"RunMoves":            func(m impl.Maniplex, list []int64) [][]int64 { impl.RunMoves(m, 1, list); return nil },
		"TypeOf":              func(m impl.Maniplex, _ []int64) [][]int64 { got, _ := impl.TypeOf(m); return got },
		"LeastForm":           func(m impl.Maniplex, _ []int64) [][]int64 { got, _ := impl.LeastForm(m); return got.Moves },
		"FormFrom 0":          func(m impl.Maniplex, _ []int64) [][]int64 { got, _ := impl.FormFrom(m, 0); return got.Moves },
		"FormFrom 1":          func(m impl.Maniplex, _ []int64) [][]int64 { got, _ := impl.FormFrom(m, 1); return got.Moves },
		"RenumberFlags": func(m impl.Maniplex, list []int64) [][]int64 {
			got, _ := impl.RenumberFlags(m, list)
			return got.Moves
		},
	}
	one := func(name string, function func(m impl.Maniplex) ([]int64, int64)) {
		calls[name] = func(m impl.Maniplex, _ []int64) [][]int64 {
			got, _ := function(m)
			return [][]int64{got}
		}
	}
	one("FaceCounts", impl.FaceCounts)
	one("ColouringOf", impl.ColouringOf)
	one("FaceLabels 0", func(m impl.Maniplex) ([]int64, int64) { return impl.FaceLabels(m, 0) })
	one("FaceLabels 1", func(m impl.Maniplex) ([]int64, int64) { return impl.FaceLabels(m, 1) })
	one("FirstWord", func(m impl.Maniplex) ([]int64, int64) { return impl.FirstWord(m, 0, 1) })
	one("DistancesFrom", func(m impl.Maniplex) ([]int64, int64) { return impl.DistancesFrom(m, 1) })
	return calls
}

// memorySamples are maniplexes, and lists that are none.
func memorySamples() []impl.Maniplex {
	samples := []impl.Maniplex{edge, triangle, cell, plane, polygon(1), polygon(4), simplex(3), cubes(5), scattered(3, 1)}
	for _, m := range brokenManiplexes() {
		if len(m.Moves) < 5 {
			samples = append(samples, m)
		}
	}
	return samples
}

// listFor returns a permutation of the flags for RenumberFlags, and a word for RunMoves.
func listFor(name string, m impl.Maniplex) []int64 {
	if name == "RenumberFlags" && len(m.Moves) > 0 {
		return shuffled(len(m.Moves[0]), 1)
	}
	return []int64{0, 0, 0}
}

func TestManiplexesAreNeitherChangedNorKept(t *testing.T) {
	for name, call := range maniplexCalls() {
		for _, sample := range memorySamples() {
			moves, sameMoves := guardAll(sample.Moves)
			list, sameList := guard(listFor(name, sample))
			got := call(impl.Maniplex{Moves: moves}, list)
			want := cloneLists(got)
			if !sameMoves() || !sameList() {
				t.Errorf("%s of %v changed an argument", name, sample)
			}
			for _, move := range moves {
				scribble(move)
			}
			scribble(list)
			if !equalLists(got, want) {
				t.Errorf("%s of %v returned memory of an argument", name, sample)
			}
		}
	}
}

func TestListsOfOneResultShareNoMemory(t *testing.T) {
	for name, call := range maniplexCalls() {
		for _, m := range []impl.Maniplex{edge, triangle, cell, polygon(1), simplex(3), cubes(5)} {
			list := listFor(name, m)
			want := cloneLists(call(m, list))
			for i := range want {
				got := call(m, list)
				scribble(got[i])
				for k := range got {
					if k != i && !slices.Equal(got[k], want[k]) {
						t.Errorf("%s of %v: a write into the list %d changed the list %d", name, m, i, k)
					}
				}
			}
		}
	}
}

func TestListsOfAParsedManiplexShareNoMemory(t *testing.T) {
	for _, m := range []impl.Maniplex{edge, triangle, cell, polygon(1), simplex(3), cubes(5)} {
		for i := range m.Moves {
			got, code := impl.ParseManiplex(writeMoves(m))
			expectManiplex(t, "ParseManiplex", got, code, m, impl.ErrNone)
			if len(got.Moves) != len(m.Moves) {
				return
			}
			scribble(got.Moves[i])
			for k, move := range got.Moves {
				if k != i && !slices.Equal(move, m.Moves[k]) {
					t.Errorf("a write into the move %d changed the move %d", i, k)
				}
			}
		}
	}
}

func TestCallsKeepNoState(t *testing.T) {
	for name, call := range maniplexCalls() {
		first := cloneLists(call(triangle, listFor(name, triangle)))
		for _, sample := range memorySamples() {
			call(sample, listFor(name, sample))
		}
		if got := call(triangle, listFor(name, triangle)); !equalLists(got, first) {
			t.Errorf("%s returned %v at first and then %v", name, first, got)
		}
	}
}
