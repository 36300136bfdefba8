package tests

import (
	"math"
	"math/rand"
	"slices"
	"testing"

	"loop.example/g01108/impl"
)

func TestOperationSamples(t *testing.T) {
	for i, m := range operationSamples() {
		if !isManiplex(m) {
			t.Errorf("the sample %d, %v, is no maniplex", i, m)
		}
	}
}

func TestReplaceMovesExamples(t *testing.T) {
	halfTurn := slices.Repeat([]int64{0, 1}, 32)
	cases := []struct {
		m        impl.Maniplex
		words    [][]int64
		want     impl.Maniplex
		wantCode int64
	}{
		{triangle, [][]int64{{1}, {0}}, triangleForm, impl.ErrNone},
		{triangle, [][]int64{{0}, {1}}, triangleForm, impl.ErrNone},
		{triangle, [][]int64{{0}, {1, 0, 1}}, triangleForm, impl.ErrNone},
		{triangle, [][]int64{{0, 1, 0}, {1, 0, 1}}, polygon(1), impl.ErrNone},
		{triangle, [][]int64{{1}}, edge, impl.ErrNone},
		{triangle, [][]int64{{0, 0, 0}}, edge, impl.ErrNone},
		{triangle, [][]int64{{0}, {0}}, polygon(1), impl.ErrNone},
		{edge, [][]int64{{0}}, edge, impl.ErrNone},
		{edge, [][]int64{{0}, {0}}, polygon(1), impl.ErrNone},
		{cell, [][]int64{{2}, {1}, {0}}, cellForm, impl.ErrNone},
		{cell, [][]int64{{0}, {2}}, biangleForm, impl.ErrNone},
		{cell, [][]int64{{0, 1, 2}}, edge, impl.ErrNone},
		{cell, [][]int64{{0}, {0}, {1, 2}, {1, 2}, {0, 1, 2}}, formByNumbering(shifts(4, 1, 1, 2, 2, 3), 0), impl.ErrNone},
		{plane, [][]int64{{0, 1}, {1}}, biangleForm, impl.ErrNone},
		{polygon(64), [][]int64{halfTurn}, edge, impl.ErrNone},
		{polygon(64), [][]int64{halfTurn, {0}}, biangleForm, impl.ErrNone},
		{triangle, [][]int64{nil}, impl.Maniplex{}, impl.ErrState},
		{triangle, [][]int64{nil, {0}}, impl.Maniplex{}, impl.ErrState},
		{triangle, [][]int64{{0}, nil}, impl.Maniplex{}, impl.ErrState},
		{triangle, [][]int64{{0}, {0, 1}}, impl.Maniplex{}, impl.ErrState},
		{triangle, [][]int64{{0, 1}}, impl.Maniplex{}, impl.ErrState},
		{triangle, [][]int64{{1, 1}}, impl.Maniplex{}, impl.ErrState},
		{triangle, [][]int64{{0}, {1}, {0}}, impl.Maniplex{}, impl.ErrState},
		{simplex(3), [][]int64{{0}, {2}, {1}}, impl.Maniplex{}, impl.ErrState},
		{edge, [][]int64{{0}, {0}, {0}}, impl.Maniplex{}, impl.ErrState},
		{cell, [][]int64{{0}, {1}, {2}, {0}}, impl.Maniplex{}, impl.ErrState},
		{path, [][]int64{{1, 2}}, impl.Maniplex{}, impl.ErrState},
		{withFlagAt(path, 1), [][]int64{{1, 2}}, edge, impl.ErrNone},
	}
	for i, c := range cases {
		want, code := replaced(c.m, c.words)
		expectManiplex(t, "the reference", want, code, c.want, c.wantCode)
		got, code := impl.ReplaceMoves(c.m, c.words)
		if compareMoves(got, c.want) != 0 || code != c.wantCode {
			t.Errorf("case %d: ReplaceMoves of %v and %v = %v, %d", i, c.m, c.words, got, code)
		}
	}
}

// kindOfReplacing tells what replacing the moves of m led to.
func kindOfReplacing(m impl.Maniplex, result impl.Maniplex) string {
	switch {
	case len(result.Moves) == 0:
		return "no maniplex"
	case len(result.Moves[0]) == len(m.Moves[0]):
		return "all flags"
	}
	return "fewer flags"
}

// expectReplacing fails the test if ReplaceMoves is not what running the words tells, and returns what
// it led to.
func expectReplacing(t *testing.T, m impl.Maniplex, words [][]int64) string {
	t.Helper()
	want, wantCode := replaced(m, words)
	got, code := impl.ReplaceMoves(m, words)
	if compareMoves(got, want) != 0 || code != wantCode {
		t.Errorf("ReplaceMoves of %v and %v = %v, %d; want %v, %d", m, words, got, code, want, wantCode)
	}
	return kindOfReplacing(m, want)
}

// shortLists returns all lists of 1 to count of the words of at most so many moves.
func shortLists(moves int, length int, count int) [][][]int64 {
	var words [][]int64
	for l := range length + 1 {
		words = append(words, allWords(moves, l)...)
	}
	var lists [][][]int64
	for l := 1; l <= count; l++ {
		for _, places := range allWords(len(words), l) {
			var list [][]int64
			for _, place := range places {
				list = append(list, words[place])
			}
			lists = append(lists, list)
		}
	}
	return lists
}

func TestReplaceMovesByAllShortWords(t *testing.T) {
	kinds := map[string]int{}
	for _, m := range []impl.Maniplex{triangle, polygon(1), polygon(4), renumber(triangle, shuffled(6, 2))} {
		for _, words := range shortLists(2, 3, 2) {
			kinds[expectReplacing(t, m, words)]++
		}
	}
	for _, m := range []impl.Maniplex{plane, cell, path, scattered(2, 1), scattered(2, 2)} {
		for _, words := range shortLists(3, 2, 2) {
			kinds[expectReplacing(t, m, words)]++
		}
		for _, words := range shortLists(3, 1, 3) {
			kinds[expectReplacing(t, m, words)]++
		}
	}
	if len(kinds) != 3 || kinds["all flags"] < 20 || kinds["fewer flags"] < 20 || kinds["no maniplex"] < 20 {
		t.Errorf("the words show too little: %v", kinds)
	}
}

// scatteredWords returns so many words of a maniplex with n moves, most of which are the same from both
// ends, and which depend on the random numbers.
func scatteredWords(random *rand.Rand, n int, count int) [][]int64 {
	var words [][]int64
	for range count {
		var half []int64
		for range random.Intn(4) {
			half = append(half, int64(random.Intn(n)))
		}
		word := append(slices.Clone(half), int64(random.Intn(n)))
		if random.Intn(6) > 0 {
			slices.Reverse(half)
		}
		words = append(words, append(word, half...))
	}
	return words
}

func TestReplaceMovesByScatteredWords(t *testing.T) {
	kinds := map[string]int{}
	for i, m := range operationSamples() {
		random := rand.New(rand.NewSource(int64(i)))
		for count := 1; count <= 5; count++ {
			kinds[expectReplacing(t, m, scatteredWords(random, len(m.Moves), count))]++
		}
	}
	for seed := range int64(300) {
		random := rand.New(rand.NewSource(seed))
		kinds[expectReplacing(t, cubes(5), scatteredWords(random, 5, 5))]++
	}
	if len(kinds) != 3 || kinds["all flags"] < 50 || kinds["fewer flags"] < 50 || kinds["no maniplex"] < 50 {
		t.Errorf("the words show too little: %v", kinds)
	}
}

func TestReplaceMovesByTheMovesIsTheFormFromTheFlag0(t *testing.T) {
	for _, m := range append(operationSamples(), greatManiplexes()...) {
		words := slices.Clone(dualTable[len(m.Moves)])
		slices.Reverse(words)
		got, code := impl.ReplaceMoves(m, words)
		expectManiplex(t, "the moves themselves", got, code, formByNumbering(m, 0), impl.ErrNone)
	}
}

func TestReplaceMovesAtItsLimits(t *testing.T) {
	five := [][]int64{{0}, {1}, {2}, {3}, {4}}
	got, code := impl.ReplaceMoves(cubes(5), five)
	expectManiplex(t, "MaxRank words", got, code, formByNumbering(cubes(5), 0), impl.ErrNone)
	got, code = impl.ReplaceMoves(cubes(5), append(slices.Clone(five), []int64{0}))
	expectManiplex(t, "a word more", got, code, impl.Maniplex{}, impl.ErrRange)
	got, code = impl.ReplaceMoves(cubes(5), slices.Repeat(five, 200))
	expectManiplex(t, "many words", got, code, impl.Maniplex{}, impl.ErrRange)
	for _, words := range [][][]int64{nil, {}, five[:0]} {
		got, code = impl.ReplaceMoves(cubes(5), words)
		expectManiplex(t, "no words", got, code, impl.Maniplex{}, impl.ErrRange)
	}
	for length := range 70 {
		long := slices.Repeat([]int64{0}, length)
		other := append(slices.Clone(long), 1)
		for _, words := range [][][]int64{{long}, {{2}, long}, {other, {1}}, {{1}, {2}, other}} {
			want, wantCode := impl.Maniplex{}, int64(impl.ErrRange)
			if len(slices.MaxFunc(words, func(a []int64, b []int64) int { return len(a) - len(b) })) <= 64 {
				want, wantCode = replaced(cell, words)
			}
			got, code := impl.ReplaceMoves(cell, words)
			expectManiplex(t, "a long word", got, code, want, wantCode)
		}
	}
}

func TestReplaceMovesErrors(t *testing.T) {
	for _, m := range []impl.Maniplex{edge, triangle, cell, simplex(4), cubes(5), polygon(200)} {
		n := int64(len(m.Moves))
		for _, move := range []int64{-1, n, n + 1, 1 << 32, math.MinInt64, math.MaxInt64} {
			lists := [][][]int64{
				{{move}}, {{0, move}}, {{move, 0}}, {{0}, {move}}, {{move}, {0}}, {nil, {move}}, {{move}, nil}, {{0, 0}, {0}, {0, 0, move}},
				{append(make([]int64, 63), move)}, {append(make([]int64, 64), move)}, {make([]int64, 65), {move}}, {{0}, {0}, {0}, {0}, {move}}, {{0}, {0}, {0}, {0}, {0}, {move}},
			}
			for _, words := range lists {
				got, code := impl.ReplaceMoves(m, words)
				expectManiplex(t, "a move that does not exist", got, code, impl.Maniplex{}, impl.ErrRange)
			}
		}
		for _, words := range [][][]int64{{nil, make([]int64, 65)}, {make([]int64, 65), nil}, make([][]int64, 6)} {
			got, code := impl.ReplaceMoves(m, words)
			expectManiplex(t, "too long, and no maniplex", got, code, impl.Maniplex{}, impl.ErrRange)
		}
		got, code := impl.ReplaceMoves(m, [][]int64{{n - 1}})
		expectManiplex(t, "the greatest move", got, code, edge, impl.ErrNone)
	}
	for what, m := range brokenManiplexes() {
		for _, words := range [][][]int64{nil, {nil}, {{0}}, {{0}, {0}}, {{-1}}, {{9}}, make([][]int64, 6), {make([]int64, 65)}} {
			got, code := impl.ReplaceMoves(m, words)
			expectManiplex(t, what, got, code, impl.Maniplex{}, impl.ErrInvalid)
		}
	}
}
