package tests

import (
	"slices"
	"testing"

	"loop.example/g01108/impl"
)

// mixCalls are calls of the functions of chapter 8 with two maniplexes and a word, each of which returns the
// lists of its result.
func mixCalls() map[string]func(m impl.Maniplex, k impl.Maniplex, word []int64) [][]int64 {
	type maniplex = impl.Maniplex
	return map[string]func(m maniplex, k maniplex, word []int64) [][]int64{
		"MixAt 0 0":       func(m, k maniplex, _ []int64) [][]int64 { got, _ := impl.MixAt(m, 0, k, 0); return got.Moves },
		"MixAt 1 0":       func(m, k maniplex, _ []int64) [][]int64 { got, _ := impl.MixAt(m, 1, k, 0); return got.Moves },
		"MixPairs 0 0":    func(m, k maniplex, _ []int64) [][]int64 { got, _ := impl.MixPairs(m, 0, k, 0); return got },
		"MixPairs 0 1":    func(m, k maniplex, _ []int64) [][]int64 { got, _ := impl.MixPairs(m, 0, k, 1); return got },
		"DoesNothing":     func(m, _ maniplex, word []int64) [][]int64 { impl.DoesNothing(m, word); return nil },
		"WordPeriod":      func(m, _ maniplex, word []int64) [][]int64 { impl.WordPeriod(m, word); return nil },
		"MonodromyOrder":  func(m, _ maniplex, _ []int64) [][]int64 { impl.MonodromyOrder(m); return nil },
		"RegularCover":    func(m, _ maniplex, _ []int64) [][]int64 { got, _ := impl.RegularCover(m); return got.Moves },
		"FirstNothing 6":  func(m, k maniplex, _ []int64) [][]int64 { got, _ := impl.FirstNothing(m, k, 6); return [][]int64{got} },
		"FirstNothing 12": func(m, k maniplex, _ []int64) [][]int64 { got, _ := impl.FirstNothing(m, k, 12); return [][]int64{got} },
		"AreCovered":      func(m, k maniplex, _ []int64) [][]int64 { impl.AreCovered(m, k); return nil },
	}
}

// mixMemorySample are arguments of the calls.
type mixMemorySample struct {
	m    impl.Maniplex
	k    impl.Maniplex
	word []int64
}

// mixMemorySamples are maniplexes of one rank and of different ranks, and lists that are none, with words and
// lists that are none.
func mixMemorySamples() []mixMemorySample {
	samples := []mixMemorySample{
		{triangle, digon, []int64{0, 1, 0, 1, 0, 1}}, {hexagon, polygon(4), []int64{0, 1}}, {polygon(4), hexagon, nil}, {triangle, triangle, []int64{1}}, {edge, edge, []int64{0, 0}}, {oneGon, triangle, []int64{0, 1}},
		{plane, cell, []int64{0, 1, 2}}, {path, withFlagAt(path, 1), longWord}, {grid(1, 2, false), grid(2, 1, false), longWord}, {hemicube(), simplex(3), longWord}, {scattered(3, 5), cell, longWord},
		{cubes(5), shifts(4, 1, 1, 2, 2, 3), []int64{0, 2, 4}}, {simplex(4), cubes(4), []int64{0, 1, 2, 3}}, {triangle, edge, []int64{0}}, {triangle, hexagon, []int64{2}}, {triangle, hexagon, make([]int64, 65)}, {polygon(200), polygon(199), []int64{0, 1}},
		{impl.Maniplex{}, triangle, []int64{0}}, {triangle, impl.Maniplex{}, []int64{0}}, {shared(3, 9, 3), beside(triangle, hexagon), longWord},
	}
	for _, m := range symmetryMemorySamples() {
		samples = append(samples, mixMemorySample{m, m, []int64{0}})
	}
	return samples
}

func TestArgumentsOfMixesAreNeitherChangedNorKept(t *testing.T) {
	for name, call := range mixCalls() {
		for _, sample := range mixMemorySamples() {
			first, sameFirst := guardAll(sample.m.Moves)
			last, sameLast := guardAll(sample.k.Moves)
			word, sameWord := guard(sample.word)
			got := call(impl.Maniplex{Moves: first}, impl.Maniplex{Moves: last}, word)
			want := cloneLists(got)
			if !sameFirst() || !sameLast() || !sameWord() {
				t.Errorf("%s of %v changed an argument", name, sample)
			}
			for _, list := range slices.Concat(first, last, [][]int64{word}) {
				scribble(list)
			}
			clear(first[:cap(first)])
			clear(last[:cap(last)])
			if !equalLists(got, want) {
				t.Errorf("%s of %v returned memory of an argument", name, sample)
			}
		}
	}
}

func TestManiplexesOfAMixMayShareMemory(t *testing.T) {
	for _, sample := range []impl.Maniplex{edge, triangle, cell, path, shifts(32, 1, 2, 4, 8, 16)} {
		moves, same := guardAll(sample.Moves)
		m := impl.Maniplex{Moves: moves}
		got, code := impl.MixAt(m, 1, m, 1)
		expectManiplex(t, "a maniplex with itself", got, code, formByNumbering(sample, 1), impl.ErrNone)
		word, code := impl.FirstNothing(m, m, 6)
		expectList(t, "a maniplex with itself", word, code, nil, impl.ErrNotFound)
		covered, code := impl.AreCovered(m, m)
		expect(t, "a maniplex with itself", covered, code, true, impl.ErrNone)
		if len(moves) > 1 {
			nothing, code := impl.DoesNothing(m, moves[0][:2])
			expect(t, "a part of a move as a word", nothing, code, false, impl.ErrNone)
		}
		if !same() {
			t.Errorf("a call with %v changed an argument", sample)
		}
	}
}

func TestListsOfMixesShareNoMemory(t *testing.T) {
	for name, call := range mixCalls() {
		for _, sample := range mixMemorySamples() {
			if len(sample.m.Moves) > 0 && len(sample.m.Moves[0]) > 100 {
				continue
			}
			expectSeparate(t, name, func() [][]int64 { return call(sample.m, sample.k, sample.word) })
		}
	}
}

func TestCallsForMixesKeepNoState(t *testing.T) {
	for name, call := range mixCalls() {
		for _, sample := range mixMemorySamples()[:12] {
			first := call(sample.m, sample.k, sample.word)
			want := cloneLists(first)
			for _, list := range first {
				scribble(list)
			}
			for _, other := range mixMemorySamples()[:20] {
				call(other.m, other.k, other.word)
			}
			if got := call(sample.m, sample.k, sample.word); !equalLists(got, want) {
				t.Errorf("%s returned %v at first and then %v", name, want, got)
			}
		}
	}
}

func TestMixesDoNotDependOnTheOrderInMemory(t *testing.T) {
	// The pairs of a mix may be kept in any order, but the results have one order only.
	for i, s := range mixSamples() {
		if i%15 > 0 {
			continue
		}
		want, pairs := s.mix(t)
		for range 10 {
			expectMix(t, "again and again", s, want, pairs, impl.ErrNone)
		}
	}
}
