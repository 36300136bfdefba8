package tests

import (
	"slices"
	"testing"

	"loop.example/g01108/impl"
)

// operationCalls are calls of the functions of chapter 5 with a maniplex, and words where they are asked
// for, each of which returns the lists of its result.
func operationCalls() map[string]func(m impl.Maniplex, words [][]int64) [][]int64 {
	calls := map[string]func(impl.Maniplex, [][]int64) [][]int64{
		"IsSelfDual":   func(m impl.Maniplex, _ [][]int64) [][]int64 { impl.IsSelfDual(m); return nil },
		"IsSelfPetrie": func(m impl.Maniplex, _ [][]int64) [][]int64 { impl.IsSelfPetrie(m); return nil },
		"PetrieLengths": func(m impl.Maniplex, _ [][]int64) [][]int64 {
			got, _ := impl.PetrieLengths(m)
			return [][]int64{got}
		},
		"ReplaceMoves": func(m impl.Maniplex, words [][]int64) [][]int64 {
			got, _ := impl.ReplaceMoves(m, words)
			return got.Moves
		},
		"HoleOf 1": func(m impl.Maniplex, _ [][]int64) [][]int64 { got, _ := impl.HoleOf(m, 1); return got.Moves },
		"HoleOf 3": func(m impl.Maniplex, _ [][]int64) [][]int64 { got, _ := impl.HoleOf(m, 3); return got.Moves },
	}
	for name, operation := range operationsOfOne() {
		calls[name] = func(m impl.Maniplex, _ [][]int64) [][]int64 {
			got, _ := operation(m)
			return got.Moves
		}
	}
	return calls
}

// operationMemorySamples are maniplexes, and lists that are none; among them some that are the results
// of operations on them, with the same numbers of the flags.
func operationMemorySamples() []impl.Maniplex {
	samples := append(memorySamples(), prism(4), hemicube(), pyramid(4), grid(2, 2, false), path, simplex(4), turned())
	for _, m := range []impl.Maniplex{triangle, cell, simplex(3), grid(3, 3, false), cubes(5)} {
		samples = append(samples, formByNumbering(m, 0))
	}
	return samples
}

// wordsToKeep are lists of words; only some of them lead to a maniplex, and not with all samples.
func wordsToKeep() [][][]int64 {
	return [][][]int64{{{0}}, {{0}, {1}}, {{1}, {0}}, {{0}, {1}, {2}}, {{0}, {0}}, {{0, 1}, {0}}, {nil}, {{7}}, {{0, 0, 0}}}
}

func TestArgumentsOfOperationsAreNeitherChangedNorKept(t *testing.T) {
	for name, call := range operationCalls() {
		for _, sample := range operationMemorySamples() {
			for _, list := range wordsToKeep() {
				moves, sameMoves := guardAll(sample.Moves)
				words, sameWords := guardAll(list)
				got := call(impl.Maniplex{Moves: moves}, words)
				want := cloneLists(got)
				if !sameMoves() || !sameWords() {
					t.Errorf("%s of %v and %v changed an argument", name, sample, list)
				}
				for _, argument := range slices.Concat(moves, words) {
					scribble(argument)
				}
				if !equalLists(got, want) {
					t.Errorf("%s of %v and %v returned memory of an argument", name, sample, list)
				}
			}
		}
	}
}

func TestWordsMayShareMemory(t *testing.T) {
	whole := []int64{0, 1, 0, 2, 1, 0, 7, 7}
	words := [][]int64{whole[0:1], whole[1:2], whole[3:4]}
	want, wantCode := replaced(simplex(3), [][]int64{{0}, {1}, {2}})
	got, code := impl.ReplaceMoves(simplex(3), words)
	expectManiplex(t, "words of one list", got, code, want, wantCode)
	expectList(t, "the list", whole, impl.ErrNone, []int64{0, 1, 0, 2, 1, 0, 7, 7}, impl.ErrNone)
	got, code = impl.ReplaceMoves(cell, [][]int64{whole[:1], whole[:2], whole[3:4]})
	want, wantCode = replaced(cell, [][]int64{{0}, {0, 1}, {2}})
	expectManiplex(t, "words that overlap", got, code, want, wantCode)
}

func TestMovesOfOneResultShareNoMemory(t *testing.T) {
	for name, call := range operationCalls() {
		for _, m := range operationMemorySamples() {
			for _, words := range wordsToKeep() {
				expectSeparate(t, name, func() [][]int64 { return call(m, words) })
			}
		}
	}
}

func TestCallsOfOperationsKeepNoState(t *testing.T) {
	words := [][]int64{{0}, {1}}
	for name, call := range operationCalls() {
		for _, m := range []impl.Maniplex{triangle, prism(4)} {
			first := call(m, words)
			want := cloneLists(first)
			for _, list := range first {
				scribble(list)
			}
			for _, sample := range operationMemorySamples() {
				call(sample, words)
			}
			if got := call(m, words); !equalLists(got, want) {
				t.Errorf("%s returned %v at first and then %v", name, want, got)
			}
		}
	}
}
