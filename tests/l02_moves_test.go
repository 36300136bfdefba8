package tests

import (
	"math"
	"slices"
	"testing"

	"loop.example/g01108/impl"
)

// run returns the flag to which a list of moves leads from a flag.
func run(m impl.Maniplex, flag int64, word []int64) int64 {
	for _, i := range word {
		flag = m.Moves[i][flag]
	}
	return flag
}

// distancesByWaiting returns the distances from a flag: as long as a move makes one less, it does.
func distancesByWaiting(m impl.Maniplex, from int64) []int64 {
	distances := slices.Repeat([]int64{1000}, len(m.Moves[0]))
	distances[from] = 0
	for changed := true; changed; {
		changed = false
		for _, move := range m.Moves {
			for flag, image := range move {
				if distances[flag]+1 < distances[image] {
					distances[image], changed = distances[flag]+1, true
				}
			}
		}
	}
	return distances
}

// firstWordsByTrying returns for each flag the first one of the words with the fewest moves that
// lead to it from a flag: all words are tried, the shorter ones first, those of as many moves in
// lexicographic order, but for those that go on from a flag by a word that was not its first one.
func firstWordsByTrying(m impl.Maniplex, from int64) [][]int64 {
	words := make([][]int64, len(m.Moves[0]))
	known := make([]bool, len(words))
	known[from] = true
	for queue := [][]int64{{}}; len(queue) > 0; queue = queue[1:] {
		for i := range m.Moves {
			word := append(slices.Clone(queue[0]), int64(i))
			flag := run(m, from, word)
			if !known[flag] {
				known[flag] = true
				words[flag] = word
				queue = append(queue, word)
			}
		}
	}
	return words
}

func TestRunMoves(t *testing.T) {
	cases := []struct {
		m    impl.Maniplex
		flag int64
		word []int64
		want int64
	}{
		{triangle, 0, []int64{0, 1, 0}, 3},
		{triangle, 0, []int64{0, 1}, 2},
		{triangle, 0, []int64{1, 0}, 4},
		{triangle, 5, nil, 5},
		{edge, 1, []int64{0}, 0},
		{edge, 1, slices.Repeat([]int64{0}, 64), 1},
		{edge, 1, slices.Repeat([]int64{0}, 63), 0},
		{polygon(200), 0, slices.Repeat([]int64{0, 1}, 32), 64},
		{cell, 0, []int64{2, 0, 1}, 7},
	}
	for _, c := range cases {
		got, code := impl.RunMoves(c.m, c.flag, c.word)
		expect(t, "RunMoves", got, code, c.want, impl.ErrNone)
	}
	for i, m := range sampleManiplexes() {
		for flag := range int64(len(m.Moves[0])) {
			word := shuffled(64, int64(i)+flag)
			for k := range word {
				word[k] %= int64(len(m.Moves))
			}
			got, code := impl.RunMoves(m, flag, word)
			expect(t, "a long word", got, code, run(m, flag, word), impl.ErrNone)
		}
	}
}

func TestRunMovesErrors(t *testing.T) {
	words := [][]int64{{2}, {-1}, {0, 1, 2}, {math.MaxInt64}, {math.MinInt64}, {1 << 32}, make([]int64, 65), append(make([]int64, 64), 2)}
	for _, word := range words {
		got, code := impl.RunMoves(triangle, 0, word)
		expect(t, "no word", got, code, 0, impl.ErrRange)
	}
	for _, flag := range noFlags(triangle) {
		got, code := impl.RunMoves(triangle, flag, nil)
		expect(t, "no flag", got, code, 0, impl.ErrRange)
		got, code = impl.RunMoves(triangle, flag, []int64{0, 2})
		expect(t, "neither a flag nor a word", got, code, 0, impl.ErrRange)
	}
	for what, m := range brokenManiplexes() {
		got, code := impl.RunMoves(m, 0, nil)
		expect(t, what, got, code, 0, impl.ErrInvalid)
		got, code = impl.RunMoves(m, -1, []int64{-1})
		expect(t, what, got, code, 0, impl.ErrInvalid)
	}
}

// noFlags returns numbers that are no flags of a maniplex.
func noFlags(m impl.Maniplex) []int64 {
	flags := int64(len(m.Moves[0]))
	return []int64{-1, flags, flags + 1, 1 << 32, math.MinInt64, math.MaxInt64}
}

func TestFirstWord(t *testing.T) {
	got, code := impl.FirstWord(triangle, 0, 3)
	expectList(t, "the example", got, code, []int64{0, 1, 0}, impl.ErrNone)
	got, code = impl.FirstWord(triangle, 3, 0)
	expectList(t, "the way back", got, code, []int64{0, 1, 0}, impl.ErrNone)
	got, code = impl.FirstWord(triangle, 1, 4)
	expectList(t, "the first one of two ways", got, code, []int64{0, 1, 0}, impl.ErrNone)
	got, code = impl.FirstWord(triangle, 4, 4)
	expectList(t, "no way", got, code, nil, impl.ErrNone)
	got, code = impl.FirstWord(cell, 7, 0)
	expectList(t, "the cell", got, code, []int64{0, 1, 2}, impl.ErrNone)
	got, code = impl.FirstWord(polygon(1), 0, 1)
	expectList(t, "moves that lead alike", got, code, []int64{0}, impl.ErrNone)
	for _, m := range smallManiplexes() {
		for from := range int64(len(m.Moves[0])) {
			for to, want := range firstWordsByTrying(m, from) {
				got, code := impl.FirstWord(m, from, int64(to))
				expectList(t, "FirstWord", got, code, want, impl.ErrNone)
			}
		}
	}
}

func TestFirstWordIsTheFirstOfAllWords(t *testing.T) {
	for _, m := range []impl.Maniplex{edge, triangle, cell, plane, polygon(5), grid(1, 1, true), grid(2, 1, false), simplex(3), beside(plane, edge), scattered(3, 2), scattered(4, 1)} {
		for from := range int64(len(m.Moves[0])) {
			for to, distance := range distancesByWaiting(m, from) {
				words := allWords(len(m.Moves), int(distance))
				first := slices.IndexFunc(words, func(word []int64) bool { return run(m, from, word) == int64(to) })
				got, code := impl.FirstWord(m, from, int64(to))
				expectList(t, "FirstWord", got, code, words[first], impl.ErrNone)
			}
		}
	}
}

func TestFirstWordAtItsLimit(t *testing.T) {
	for _, m := range []impl.Maniplex{polygon(64), polygon(65), polygon(66), polygon(200), scattered(100, 3), grid(10, 5, true)} {
		for to, distance := range distancesByWaiting(m, 1) {
			got, code := impl.FirstWord(m, 1, int64(to))
			if distance > 64 {
				expectList(t, "a word that is too long", got, code, nil, impl.ErrLimit)
				continue
			}
			if code != impl.ErrNone || int64(len(got)) != distance || run(m, 1, got) != int64(to) {
				t.Errorf("the word from 1 to %d, at the distance %d, is %v, %d", to, distance, got, code)
			}
		}
	}
	zigzag := slices.Repeat([]int64{0, 1}, 32)
	got, code := impl.FirstWord(polygon(64), 0, 64)
	expectList(t, "64 moves both ways around", got, code, zigzag, impl.ErrNone)
	got, code = impl.FirstWord(polygon(65), 0, 64)
	expectList(t, "64 moves", got, code, zigzag, impl.ErrNone)
	got, code = impl.FirstWord(polygon(65), 0, 65)
	expectList(t, "65 moves", got, code, nil, impl.ErrLimit)
	got, code = impl.FirstWord(polygon(200), 0, 200)
	expectList(t, "200 moves", got, code, nil, impl.ErrLimit)
}

func TestFirstWordErrors(t *testing.T) {
	for _, m := range []impl.Maniplex{edge, triangle, polygon(200)} {
		for _, flag := range noFlags(m) {
			got, code := impl.FirstWord(m, flag, 0)
			expectList(t, "from no flag", got, code, nil, impl.ErrRange)
			got, code = impl.FirstWord(m, 0, flag)
			expectList(t, "to no flag", got, code, nil, impl.ErrRange)
			got, code = impl.FirstWord(m, flag, flag)
			expectList(t, "from no flag to itself", got, code, nil, impl.ErrRange)
		}
	}
	for what, m := range brokenManiplexes() {
		for _, flag := range []int64{0, -1, 500} {
			got, code := impl.FirstWord(m, flag, 0)
			expectList(t, what, got, code, nil, impl.ErrInvalid)
		}
	}
}

func TestDistancesFrom(t *testing.T) {
	got, code := impl.DistancesFrom(triangle, 0)
	expectList(t, "the triangle", got, code, []int64{0, 1, 2, 3, 2, 1}, impl.ErrNone)
	got, code = impl.DistancesFrom(triangle, 3)
	expectList(t, "the triangle", got, code, []int64{3, 2, 1, 0, 1, 2}, impl.ErrNone)
	got, code = impl.DistancesFrom(edge, 1)
	expectList(t, "the edge", got, code, []int64{1, 0}, impl.ErrNone)
	got, code = impl.DistancesFrom(plane, 2)
	expectList(t, "the plane", got, code, []int64{1, 1, 0, 1}, impl.ErrNone)
	for _, m := range smallManiplexes() {
		greatest := int64(0)
		for from := range int64(len(m.Moves[0])) {
			want := distancesByWaiting(m, from)
			got, code := impl.DistancesFrom(m, from)
			expectList(t, "DistancesFrom", got, code, want, impl.ErrNone)
			greatest = max(greatest, slices.Max(want))
		}
		diameter, code := impl.DiameterOf(m)
		expect(t, "DiameterOf", diameter, code, greatest, impl.ErrNone)
	}
	for _, m := range greatManiplexes() {
		from := int64(len(m.Moves[0]) - 1)
		got, code := impl.DistancesFrom(m, from)
		expectList(t, "DistancesFrom", got, code, distancesByWaiting(m, from), impl.ErrNone)
	}
}

func TestDistancesFromErrors(t *testing.T) {
	for _, m := range []impl.Maniplex{edge, triangle, polygon(200)} {
		for _, flag := range noFlags(m) {
			got, code := impl.DistancesFrom(m, flag)
			expectList(t, "no flag", got, code, nil, impl.ErrRange)
		}
	}
	for what, m := range brokenManiplexes() {
		for _, flag := range []int64{0, -1, 500} {
			got, code := impl.DistancesFrom(m, flag)
			expectList(t, what, got, code, nil, impl.ErrInvalid)
		}
		diameter, code := impl.DiameterOf(m)
		expect(t, what, diameter, code, 0, impl.ErrInvalid)
	}
}

func TestDiameterOf(t *testing.T) {
	cases := []struct {
		m    impl.Maniplex
		want int64
	}{
		{edge, 1}, {triangle, 3}, {cell, 3}, {plane, 1}, {polygon(1), 1}, {polygon(64), 64}, {polygon(199), 199}, {polygon(200), 200},
		{simplex(3), 6}, {simplex(4), 10}, {cubes(5), 5}, {beside(cubes(3), polygon(25)), 28}, {beside(simplex(3), polygon(8)), 14},
	}
	for _, c := range cases {
		got, code := impl.DiameterOf(c.m)
		expect(t, "DiameterOf", got, code, c.want, impl.ErrNone)
	}
}

func TestDiameterIsNotThatOfOneFlag(t *testing.T) {
	uneven := 0
	for seed := range int64(20) {
		m := scattered(8, seed)
		want := greatestDistance(m)
		if slices.Max(distancesByWaiting(m, 0)) < want && slices.Max(distancesByWaiting(m, 31)) < want {
			uneven++
		}
		got, code := impl.DiameterOf(m)
		expect(t, "DiameterOf", got, code, want, impl.ErrNone)
	}
	if uneven == 0 {
		t.Errorf("the first or the last flag is always one of those with the greatest distance")
	}
}

// greatestDistance returns the greatest distance of two flags.
func greatestDistance(m impl.Maniplex) int64 {
	greatest := int64(0)
	for flag := range int64(len(m.Moves[0])) {
		greatest = max(greatest, slices.Max(distancesByWaiting(m, flag)))
	}
	return greatest
}

func TestFirstWordsAreAsShortAsDistances(t *testing.T) {
	for _, m := range sampleManiplexes() {
		for _, from := range []int64{0, int64(len(m.Moves[0]) / 2)} {
			distances, code := impl.DistancesFrom(m, from)
			if code != impl.ErrNone {
				t.Fatalf("code %d", code)
			}
			for to, distance := range distances {
				word, code := impl.FirstWord(m, from, int64(to))
				if distance > 64 {
					expectList(t, "a word that is too long", word, code, nil, impl.ErrLimit)
					continue
				}
				flag, runCode := impl.RunMoves(m, from, word)
				if code != impl.ErrNone || runCode != impl.ErrNone || flag != int64(to) || int64(len(word)) != distance {
					t.Errorf("the word from %d to %d, at the distance %d, is %v, %d", from, to, distance, word, code)
				}
			}
		}
	}
}
