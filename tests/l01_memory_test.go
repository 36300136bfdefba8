package tests

import (
	"slices"
	"testing"

	"loop.example/g01108/impl"
)

// listCalls are calls of the functions of chapter 1 with lists p and q of five points, each of
// which returns the lists of its result.
func listCalls() map[string]func(p []int64, q []int64) [][]int64 {
	one := func(function func([]int64) ([]int64, int64)) func([]int64, []int64) [][]int64 {
		return func(p []int64, _ []int64) [][]int64 {
			got, _ := function(p)
			return [][]int64{got}
		}
	}
	two := func(function func([]int64, []int64) ([]int64, int64)) func([]int64, []int64) [][]int64 {
		return func(p []int64, q []int64) [][]int64 {
			got, _ := function(p, q)
			return [][]int64{got}
		}
	}
	power := func(k int64) func([]int64, []int64) [][]int64 {
		return one(func(p []int64) ([]int64, int64) { return impl.PowerPermutation(p, k) })
	}
	return map[string]func([]int64, []int64) [][]int64{
		"IsPermutation":        func(p []int64, _ []int64) [][]int64 { impl.IsPermutation(p); return nil },
		"IsFreeInvolution":     func(p []int64, _ []int64) [][]int64 { impl.IsFreeInvolution(p); return nil },
		"PermutationOrder":     func(p []int64, _ []int64) [][]int64 { impl.PermutationOrder(p); return nil },
		"PermutationText":      func(p []int64, _ []int64) [][]int64 { impl.PermutationText(p); return nil },
		"InversePermutation":   one(impl.InversePermutation),
		"CycleLengths":         one(impl.CycleLengths),
		"ThenPermutation":      two(impl.ThenPermutation),
		"ConjugatePermutation": two(impl.ConjugatePermutation),
		"the power -1":         power(-1),
		"the power 0":          power(0),
		"the power 1":          power(1),
		"the power 7":          power(7),
	}
}

func TestListsAreNeitherChangedNorKept(t *testing.T) {
	lists := [][]int64{{0, 1, 2, 3, 4}, {1, 0, 3, 4, 2}, {4, 2, 3, 1, 0}, {0, 1, 1, 3, 4}}
	for name, call := range listCalls() {
		for _, first := range lists {
			for _, second := range lists {
				p, sameP := guard(first)
				q, sameQ := guard(second)
				got := call(p, q)
				want := cloneLists(got)
				if !sameP() || !sameQ() {
					t.Errorf("%s of %v and %v changed an argument", name, first, second)
				}
				scribble(p)
				scribble(q)
				if !equalLists(got, want) {
					t.Errorf("%s of %v and %v returned memory of an argument", name, first, second)
				}
			}
		}
	}
}

// systemCalls are calls of the functions of a system on four points, each of which returns the
// lists of its result.
func systemCalls() map[string]func(list [][]int64, word []int64) [][]int64 {
	return map[string]func([][]int64, []int64) [][]int64{
		"ApplyWord": func(list [][]int64, word []int64) [][]int64 {
			impl.ApplyWord(4, list, word, 0)
			return nil
		},
		"OrbitLabels": func(list [][]int64, _ []int64) [][]int64 {
			got, _ := impl.OrbitLabels(4, list)
			return [][]int64{got}
		},
		"OrbitOf": func(list [][]int64, _ []int64) [][]int64 {
			got, _ := impl.OrbitOf(4, list, 2)
			return [][]int64{got}
		},
		"GroupElements": func(list [][]int64, _ []int64) [][]int64 {
			got, _ := impl.GroupElements(4, list)
			return got
		},
	}
}

func TestSystemsAreNeitherChangedNorKept(t *testing.T) {
	systems := [][][]int64{
		{},
		{{0, 1, 2, 3}},
		{{1, 2, 3, 0}, {1, 0, 2, 3}},
		{{0, 1, 3, 2}, {3, 1, 2, 0}},
		{{0, 1, 2, 3}, {0, 0, 2, 3}},
	}
	for name, call := range systemCalls() {
		for _, system := range systems {
			list, sameList := guardAll(system)
			word, sameWord := guard([]int64{1, 0, 1})
			got := call(list, word)
			want := cloneLists(got)
			if !sameList() || !sameWord() {
				t.Errorf("%s of %v changed an argument", name, system)
			}
			for _, p := range list {
				scribble(p)
			}
			if !equalLists(got, want) {
				t.Errorf("%s of %v returned memory of an argument", name, system)
			}
		}
	}
}

func TestElementsShareNoMemory(t *testing.T) {
	list := [][]int64{{1, 2, 3, 0}, {1, 0, 2, 3}}
	want := allPermutations(4)
	for i := range want {
		elements, code := impl.GroupElements(4, list)
		expectLists(t, "GroupElements", elements, code, want, impl.ErrNone)
		if len(elements) != len(want) {
			return
		}
		scribble(elements[i])
		for k, element := range elements {
			if k != i && !slices.Equal(element, want[k]) {
				t.Errorf("a write into the element %d changed the element %d", i, k)
			}
		}
	}
}
