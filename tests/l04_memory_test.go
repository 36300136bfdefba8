package tests

import (
	"testing"

	"loop.example/g01108/impl"
)

// movesOf returns the moves of all given maniplexes.
func movesOf(list []impl.Maniplex) [][]int64 {
	var moves [][]int64
	for _, m := range list {
		moves = append(moves, m.Moves...)
	}
	return moves
}

// sectionCalls are calls of the functions of chapter 4 with a maniplex, each of which returns the lists
// of its result.
func sectionCalls() map[string]func(m impl.Maniplex) [][]int64 {
	calls := map[string]func(impl.Maniplex) [][]int64{
		"HasEqualFacets":        func(m impl.Maniplex) [][]int64 { impl.HasEqualFacets(m); return nil },
		"HasEqualVertexFigures": func(m impl.Maniplex) [][]int64 { impl.HasEqualVertexFigures(m); return nil },
		"IsLocallySpherical":    func(m impl.Maniplex) [][]int64 { impl.IsLocallySpherical(m); return nil },
		"SmallestPolygons":      func(m impl.Maniplex) [][]int64 { got, _ := impl.SmallestPolygons(m); return [][]int64{got} },
	}
	one := func(name string, function func(m impl.Maniplex) (impl.Maniplex, int64)) {
		calls[name] = func(m impl.Maniplex) [][]int64 {
			got, _ := function(m)
			return got.Moves
		}
	}
	one("FacetAt", func(m impl.Maniplex) (impl.Maniplex, int64) { return impl.FacetAt(m, 1) })
	one("VertexFigureAt", func(m impl.Maniplex) (impl.Maniplex, int64) { return impl.VertexFigureAt(m, 1) })
	one("FaceAsManiplex", func(m impl.Maniplex) (impl.Maniplex, int64) { return impl.FaceAsManiplex(m, int64(len(m.Moves)-1), 0) })
	one("CofaceAsManiplex", func(m impl.Maniplex) (impl.Maniplex, int64) { return impl.CofaceAsManiplex(m, 0, 0) })
	spans := map[string]func(n int) (int64, int64){
		"all ranks":        func(n int) (int64, int64) { return 0, int64(n - 1) },
		"all but the last": func(n int) (int64, int64) { return 0, int64(n - 2) },
		"one rank":         func(n int) (int64, int64) { return int64(n - 1), int64(n - 1) },
	}
	for what, span := range spans {
		one("SectionAt, "+what, func(m impl.Maniplex) (impl.Maniplex, int64) {
			i, k := span(len(m.Moves))
			return impl.SectionAt(m, 0, i, k)
		})
		calls["SectionForms, "+what] = func(m impl.Maniplex) [][]int64 {
			i, k := span(len(m.Moves))
			got, _ := impl.SectionForms(m, i, k)
			return movesOf(got)
		}
		calls["SectionKinds, "+what] = func(m impl.Maniplex) [][]int64 {
			i, k := span(len(m.Moves))
			got, _ := impl.SectionKinds(m, i, k)
			return [][]int64{got}
		}
	}
	return calls
}

// sectionMemorySamples are maniplexes, and lists that are none; among them some whose least forms are
// their own forms from the flag 0.
func sectionMemorySamples() []impl.Maniplex {
	samples := append(memorySamples(), prism(3), flipped(prism(3)), alike(), beside(edge, alike()), disordered()[0])
	for _, m := range []impl.Maniplex{prism(3), alike(), simplex(3)} {
		samples = append(samples, leastFormBySorting(m))
	}
	return samples
}

func TestManiplexesOfSectionsAreNeitherChangedNorKept(t *testing.T) {
	for name, call := range sectionCalls() {
		for _, sample := range sectionMemorySamples() {
			moves, same := guardAll(sample.Moves)
			got := call(impl.Maniplex{Moves: moves})
			want := cloneLists(got)
			if !same() {
				t.Errorf("%s of %v changed an argument", name, sample)
			}
			for _, move := range moves {
				scribble(move)
			}
			if !equalLists(got, want) {
				t.Errorf("%s of %v returned memory of an argument", name, sample)
			}
		}
	}
}

func TestListsOfSectionsShareNoMemory(t *testing.T) {
	for name, call := range sectionCalls() {
		for _, m := range sectionMemorySamples() {
			expectSeparate(t, name, func() [][]int64 { return call(m) })
		}
	}
}

// expectSeparateForms fails the test if exchanging the moves of one form, or writing behind them,
// changes another form.
func expectSeparateForms(t *testing.T, m impl.Maniplex, i int64, k int64) {
	t.Helper()
	want, _ := impl.SectionForms(m, i, k)
	for place := range want {
		got, code := impl.SectionForms(m, i, k)
		moves := got[place].Moves
		moves = moves[:cap(moves)]
		for move := range moves {
			moves[move] = nil
		}
		got[place] = want[place]
		expectForms(t, "the other forms", got, code, want, impl.ErrNone)
	}
}

func TestFormsShareNoMemory(t *testing.T) {
	for _, m := range append(disordered(), prism(3), alike(), beside(edge, alike())) {
		for _, ranks := range rankPairs(m) {
			expectSeparateForms(t, m, ranks[0], ranks[1])
		}
	}
}

func TestCallsForSectionsKeepNoState(t *testing.T) {
	for name, call := range sectionCalls() {
		for _, m := range []impl.Maniplex{prism(3), alike()} {
			first := call(m)
			want := cloneLists(first)
			for _, list := range first {
				scribble(list)
			}
			for _, sample := range sectionMemorySamples() {
				call(sample)
			}
			if got := call(m); !equalLists(got, want) {
				t.Errorf("%s returned %v at first and then %v", name, want, got)
			}
		}
	}
}
