package tests

import (
	"maps"
	"math/big"
	"math/rand"
	"slices"
	"sync"
	"testing"

	"loop.example/g01108/impl"
)

// together returns the moves that lead both flags of all pairs of a flag of m and a flag of k: the flags f
// and g are the pair f times the number of flags of k plus g.
func together(m impl.Maniplex, k impl.Maniplex) impl.Maniplex {
	var moves [][]int64
	for i, move := range m.Moves {
		moves = append(moves, pairsOf(move, k.Moves[i], len(k.Moves[0])))
	}
	return impl.Maniplex{Moves: moves}
}

// mixByRestricting returns the mix of m and k at f and g: of all pairs, those to which the moves lead are kept
// and numbered.
func mixByRestricting(m impl.Maniplex, f int64, k impl.Maniplex, g int64) impl.Maniplex {
	return sectionByRestricting(together(m, k), f*int64(len(k.Moves[0]))+g, 0, int64(len(m.Moves)-1))
}

// pairsByRunning returns for each flag of a mix of m and k at f and g the flags to which a word leads f and g
// that leads from the flag 0 of the mix to it.
func pairsByRunning(mix impl.Maniplex, m impl.Maniplex, f int64, k impl.Maniplex, g int64) [][]int64 {
	var pairs [][]int64
	for _, word := range firstWordsByTrying(mix, 0) {
		pairs = append(pairs, []int64{run(m, f, word), run(k, g, word)})
	}
	return pairs
}

// countPairs returns to how many pairs the moves of m and k lead f and g.
func countPairs(m impl.Maniplex, f int64, k impl.Maniplex, g int64) int {
	reached := map[[2]int64]bool{{f, g}: true}
	for queue := [][2]int64{{f, g}}; len(queue) > 0; queue = queue[1:] {
		for i := range m.Moves {
			image := [2]int64{m.Moves[i][queue[0][0]], k.Moves[i][queue[0][1]]}
			if !reached[image] {
				reached[image] = true
				queue = append(queue, image)
			}
		}
	}
	return len(reached)
}

// mixSample has two maniplexes of one rank and a flag of each one.
type mixSample struct {
	m impl.Maniplex
	f int64
	k impl.Maniplex
	g int64
}

// swapped returns the sample with both maniplexes exchanged.
func (s mixSample) swapped() mixSample {
	return mixSample{s.k, s.g, s.m, s.f}
}

// mix returns the mix of a sample and its pairs. It fails the test if there is none.
func (s mixSample) mix(t *testing.T) (impl.Maniplex, [][]int64) {
	t.Helper()
	mix, code := impl.MixAt(s.m, s.f, s.k, s.g)
	pairs, pairsCode := impl.MixPairs(s.m, s.f, s.k, s.g)
	if code != impl.ErrNone || pairsCode != impl.ErrNone || len(mix.Moves) != len(s.m.Moves) || len(mix.Moves[0]) != len(pairs) {
		t.Fatalf("the mix of %v is %v and %v, with the codes %d and %d", s, mix, pairs, code, pairsCode)
	}
	return mix, pairs
}

// column returns of each list of a list of lists the element with an index.
func column(lists [][]int64, index int) []int64 {
	var elements []int64
	for _, list := range lists {
		elements = append(elements, list[index])
	}
	return elements
}

// mixableManiplexes are maniplexes of all ranks, some of which have other numbers of the flags.
func mixableManiplexes() []impl.Maniplex {
	list := []impl.Maniplex{edge, oneGon, triangle, polygon(2), polygon(4), hexagon, cell, plane, path, loop, simplex(3), hemicube(), prism(3), pyramid(4), turning(5, 2), shifts(8, 1, 3, 4), grid(1, 3, false), grid(1, 2, true), scattered(2, 7), scattered(3, 5), scattered(4, 2), similar}
	list = append(list, beside(edge, plane), beside(plane, edge), beside(path, edge), cubes(4), shifts(4, 1, 1, 2, 2), simplex(4), beside(triangle, polygon(2)), beside(scattered(2, 7), edge))
	list = append(list, cubes(5), shifts(4, 1, 1, 2, 2, 3), shifts(16, 1, 2, 4, 8, 5), linked(2, 2, 1), beside(edge, beside(path, edge)), turned(), linked(2, 3, 1), chiralManiplexes()[9])
	for i, m := range list {
		list = append(list, renumber(m, shuffled(len(m.Moves[0]), int64(70+i))))
	}
	return list
}

// mixSamples are mixes with at most 400 flags: of two maniplexes, of one with itself at the same flag and at
// different ones, of one with what it covers, and of one with an isomorphic one.
var mixSamples = sync.OnceValue(func() []mixSample {
	var samples []mixSample
	add := func(m impl.Maniplex, f int, k impl.Maniplex, g int) {
		s := mixSample{m, int64(f % len(m.Moves[0])), k, int64(g % len(k.Moves[0]))}
		if len(m.Moves) == len(k.Moves) && countPairs(s.m, s.f, s.k, s.g) <= 400 {
			samples = append(samples, s)
		}
	}
	list := mixableManiplexes()
	for i, m := range list {
		for n, k := range list {
			if (i+n)%3 == 0 {
				add(m, 3*i+n, k, 5*n+2*i)
			}
		}
		add(m, i, m, i)
		add(m, 0, m, 1)
		add(m, 0, m, len(m.Moves[0])-1)
		add(m, 2, renumber(m, shuffled(len(m.Moves[0]), int64(i))), i)
	}
	for i, c := range coveringSamples() {
		if i%12 == 0 {
			add(c.m, i, c.k, int(c.list[i%len(c.list)]))
			add(c.k, i+1, c.m, i)
		}
	}
	for _, m := range greatManiplexes() {
		add(m, 0, m, 0)
		add(m, 399, renumber(m, shuffled(len(m.Moves[0]), 4)), int(shuffled(len(m.Moves[0]), 4)[399%len(m.Moves[0])]))
	}
	return samples
})

// kind tells how many flags the mix has.
func (s mixSample) kind() string {
	first, last, both := len(s.m.Moves[0]), len(s.k.Moves[0]), countPairs(s.m, s.f, s.k, s.g)
	switch {
	case both == first && both == last:
		return "as many as both"
	case both == first || both == last:
		return "as many as one"
	case both == first*last:
		return "all pairs"
	}
	return "some pairs"
}

func TestMixSamples(t *testing.T) {
	kinds, ranks := map[string]int{}, map[int]int{}
	for _, s := range mixSamples() {
		kinds[s.kind()]++
		ranks[len(s.m.Moves)]++
		if !isManiplex(s.m) || !isManiplex(s.k) {
			t.Errorf("%v is no sample", s)
		}
	}
	for _, kind := range []string{"as many as both", "as many as one", "all pairs", "some pairs"} {
		if kinds[kind] < 50 {
			t.Errorf("the samples show too little: %v", kinds)
		}
	}
	for rank := 1; rank <= 5; rank++ {
		if ranks[rank] < 5 {
			t.Errorf("the samples show too little: %v", ranks)
		}
	}
}

// doesNothing reports whether a word leads each flag to itself.
func doesNothing(m impl.Maniplex, word []int64) bool {
	for flag := range int64(len(m.Moves[0])) {
		if run(m, flag, word) != flag {
			return false
		}
	}
	return true
}

// doneByRunning returns the permutation of the flags that a word does.
func doneByRunning(m impl.Maniplex, word []int64) []int64 {
	var done []int64
	for flag := range int64(len(m.Moves[0])) {
		done = append(done, run(m, flag, word))
	}
	return done
}

// orderOf returns the least common multiple of the numbers of points of all cycles.
func orderOf(p []int64) *big.Int {
	return multipleOf(slices.Compact(lengthsOf(p)))
}

// multipleOf returns the least common multiple of numbers of at least 1.
func multipleOf(numbers []int64) *big.Int {
	multiple := big.NewInt(1)
	for _, number := range numbers {
		divisor := new(big.Int).GCD(nil, nil, multiple, big.NewInt(number))
		multiple.Mul(multiple, divisor.Div(big.NewInt(number), divisor))
	}
	return multiple
}

// periodOf returns the order of a permutation with ErrNone, or the error if it is too great.
func periodOf(p []int64) (int64, int64) {
	order := orderOf(p)
	if order.Cmp(big.NewInt(1000000000000000)) > 0 {
		return 0, impl.ErrLimit
	}
	return order.Int64(), impl.ErrNone
}

// someWords returns words of m that depend on the seed: the empty one, all with one move or two, and longer
// ones.
func someWords(m impl.Maniplex, seed int64, count int) [][]int64 {
	n := len(m.Moves)
	words := slices.Concat([][]int64{nil, {}}, allWords(n, 1), allWords(n, 2))
	random := rand.New(rand.NewSource(seed))
	for length := range count {
		var word []int64
		for range 3 + length%62 {
			word = append(word, random.Int63n(int64(n)))
		}
		words = append(words, word)
	}
	return words
}

// longWord is a word that no exchange of moves turns around, so that its cycles need not come in pairs with
// equally many flags.
var longWord = []int64{1, 0, 1, 2, 1, 0, 2}

// twoFaced returns a map with two faces that have twenty sides, which are glued as the seed tells.
func twoFaced(seed int64) impl.Maniplex {
	random := rand.New(rand.NewSource(seed))
	moves := append(union([]impl.Maniplex{polygon(20), polygon(20)}), make([]int64, 80))
	for sides := random.Perm(40); len(sides) > 0; sides = sides[2:] {
		turn := random.Intn(2)
		for end := range 2 {
			a, b := 2*sides[0]+end, 2*sides[1]+(end+turn)%2
			moves[2][a], moves[2][b] = int64(b), int64(a)
		}
	}
	return impl.Maniplex{Moves: moves}
}

// twoFacedByOrders returns maps with two faces by the orders of the long word on them, and these orders.
func twoFacedByOrders() (map[int64]impl.Maniplex, []int64) {
	facets := map[int64]impl.Maniplex{}
	for seed := range int64(2000) {
		m := twoFaced(seed)
		if order, _ := periodOf(doneByRunning(m, longWord)); isManiplex(m) {
			facets[order] = m
		}
	}
	return facets, slices.Sorted(maps.Keys(facets))
}

// chained returns the maniplex of rank 4 whose facets are maps with two faces: the second face of each one is
// glued to the first one of the next, and that of the last one to the first one of the first.
func chained(facets []impl.Maniplex) impl.Maniplex {
	moves := append(union(facets), nil)
	for flag := range 80 * len(facets) {
		step := 40
		if flag%80 < 40 {
			step = -40
		}
		moves[3] = append(moves[3], int64((flag+step+80*len(facets))%(80*len(facets))))
	}
	return impl.Maniplex{Moves: moves}
}

// withGreatOrders calls a function with maniplexes with 400 flags and the order of the long word on them, which
// is near 10 to the power 15 or far beyond it.
func withGreatOrders(use func(m impl.Maniplex, order *big.Int)) {
	facets, orders := twoFacedByOrders()
	random := rand.New(rand.NewSource(1))
	for range 200000 {
		var chosen []int64
		var parts []impl.Maniplex
		for range 5 {
			chosen = append(chosen, orders[random.Intn(len(orders))])
			parts = append(parts, facets[chosen[len(chosen)-1]])
		}
		order := multipleOf(chosen)
		if ratio := toGreatest(order); ratio > 0.98 && ratio < 1.02 || ratio > 10 {
			use(chained(parts), order)
		}
	}
}

// toGreatest returns the ratio of a number to 10 to the power 15.
func toGreatest(order *big.Int) float64 {
	number, _ := new(big.Float).SetInt(order).Float64()
	return number / 1e15
}

// shared returns the quotient of a p-gon beside a q-gon by a turn of the one by p / d corners together with one
// of the other by q / d corners. For an odd d its monodromy group has 4 p q permutations.
func shared(p int64, q int64, d int64) impl.Maniplex {
	var turn []int64
	for first := range 2 * p {
		for last := range 2 * q {
			turn = append(turn, (first+2*p/d)%(2*p)*2*q+(last+2*q/d)%(2*q))
		}
	}
	return quotientByMerging(beside(polygon(int(p)), polygon(int(q))), [][]int64{turn})
}

// coverByClosing returns the maniplex of the permutations of a group in lexicographic order.
func coverByClosing(m impl.Maniplex, group [][]int64) impl.Maniplex {
	var moves [][]int64
	for _, move := range m.Moves {
		var images []int64
		for _, element := range group {
			product := doBoth(element, move)
			isProduct := func(other []int64) bool { return slices.Equal(other, product) }
			images = append(images, int64(slices.IndexFunc(group, isProduct)))
		}
		moves = append(moves, images)
	}
	return impl.Maniplex{Moves: moves}
}

// grouped is a maniplex with the permutations of its monodromy group in lexicographic order, or without any if
// there are more than 1000.
type grouped struct {
	impl.Maniplex
	group [][]int64
}

// groupedSamples are maniplexes of all ranks, regular ones and others, with small and with great groups.
var groupedSamples = sync.OnceValue(func() []grouped {
	var list []grouped
	for i, m := range slices.Concat(mixableManiplexes(), knownGroups(), symmetricSamples()) {
		if len(m.Moves[0]) <= 24 || i%3 == 0 || i < 100 {
			list = append(list, grouped{m, elementsByClosing(int64(len(m.Moves[0])), m.Moves)})
		}
	}
	return list
})

// knownGroups are maniplexes that are not regular but have groups of a known size.
func knownGroups() []impl.Maniplex {
	list := []impl.Maniplex{grid(1, 2, false), grid(1, 5, false), grid(2, 3, false), grid(1, 7, false), grid(1, 8, false), grid(1, 10, false), grid(11, 1, false), grid(1, 12, false), shared(3, 9, 3), shared(5, 15, 5), shared(5, 20, 5), shared(6, 18, 3), shared(10, 25, 5), shared(12, 21, 3), beside(edge, shared(5, 10, 5)), beside(shared(5, 25, 5), edge), beside(edge, shared(9, 15, 3))}
	for i, m := range list {
		list = append(list, renumber(m, shuffled(len(m.Moves[0]), int64(i))))
	}
	return list
}

func TestGroupedSamples(t *testing.T) {
	kinds := map[string]int{}
	for _, s := range groupedSamples() {
		if !isManiplex(s.Maniplex) {
			t.Errorf("%v is no maniplex", s)
		}
		switch size := len(s.group); {
		case size == 0:
			kinds["great"]++
		case size == len(s.Moves[0]):
			kinds["as many as flags"]++
		case size <= 400:
			kinds["with a cover"]++
		default:
			kinds["without a cover"]++
		}
	}
	if kinds["great"] < 40 || kinds["as many as flags"] < 40 || kinds["with a cover"] < 40 || kinds["without a cover"] < 20 {
		t.Errorf("the samples show too little: %v", kinds)
	}
}

// nothingByTrying returns the first one of all words with at most n moves, those with fewer moves first and
// those with equally many in lexicographic order, that does nothing on m but not on k, or nothing if there is
// none. Words with a move that stands twice side by side do what shorter ones do, and are left out.
func nothingByTrying(m impl.Maniplex, k impl.Maniplex, n int) []int64 {
	var search func(word []int64, left int) []int64
	search = func(word []int64, left int) []int64 {
		if left == 0 {
			if doesNothing(m, word) && !doesNothing(k, word) {
				return slices.Clone(word)
			}
			return nil
		}
		for i := range int64(len(m.Moves)) {
			if len(word) > 0 && word[len(word)-1] == i {
				continue
			}
			if found := search(append(word, i), left-1); found != nil {
				return found
			}
		}
		return nil
	}
	for length := range n + 1 {
		if found := search(nil, length); found != nil {
			return found
		}
	}
	return nil
}
