package tests

import (
	"math"
	"math/rand"
	"slices"

	"loop.example/g01108/impl"
)

// posetOf returns the poset with the given ranks in which the pairs of d and e that are related, and
// those that have to be so because of them, are d below e.
func posetOf(rank int64, ranks []int64, related func(d int64, e int64) bool) impl.Poset {
	n := int64(len(ranks))
	below := make([][]int64, n)
	for e := range n {
		for d := range e {
			if ranks[d] < ranks[e] && related(d, e) {
				below[e] = append(below[e], d)
				below[e] = append(below[e], below[d]...)
			}
		}
		slices.Sort(below[e])
		below[e] = slices.Compact(below[e])
	}
	return impl.Poset{Rank: rank, Ranks: slices.Clone(ranks), Below: below}
}

// points returns the poset of rank 1 with so many elements.
func points(count int) impl.Poset {
	return posetOf(1, make([]int64, count), nil)
}

// stacked returns the poset with the elements of all given ones, those of each one above all of the
// ones before it.
func stacked(parts ...impl.Poset) impl.Poset {
	var whole impl.Poset
	for _, part := range parts {
		lower := int64(len(whole.Ranks))
		for e, rank := range part.Ranks {
			below := identity(int(lower))
			for _, d := range part.Below[e] {
				below = append(below, lower+d)
			}
			whole.Ranks = append(whole.Ranks, whole.Rank+rank)
			whole.Below = append(whole.Below, below)
		}
		whole.Rank += part.Rank
	}
	return whole
}

// isAt reports whether d is below e in p.
func isAt(p impl.Poset, d int64, e int64) bool {
	return slices.Contains(p.Below[e], d)
}

// mapped returns a poset with one element for each group of elements of equal rank of p, the groups
// being in ascending order of their ranks: one is below another one if some of their elements are.
// An element may be in several groups or in none.
func mapped(p impl.Poset, groups [][]int64) impl.Poset {
	var ranks []int64
	for _, group := range groups {
		ranks = append(ranks, p.Ranks[group[0]])
	}
	return posetOf(p.Rank, ranks, func(d int64, e int64) bool {
		return slices.ContainsFunc(groups[e], func(upper int64) bool {
			return slices.ContainsFunc(groups[d], func(lower int64) bool { return isAt(p, lower, upper) })
		})
	})
}

// alone returns for each element the group that has it alone.
func alone(p impl.Poset) [][]int64 {
	var groups [][]int64
	for e := range p.Ranks {
		groups = append(groups, []int64{int64(e)})
	}
	return groups
}

// without returns p without the element e.
func without(p impl.Poset, e int64) impl.Poset {
	return mapped(p, slices.Delete(alone(p), int(e), int(e+1)))
}

// merged returns p with the elements d and e of one rank made one, the lesser of them.
func merged(p impl.Poset, d int64, e int64) impl.Poset {
	groups := alone(p)
	groups[d] = append(groups[d], e)
	return mapped(p, slices.Delete(groups, int(e), int(e+1)))
}

// twice returns two posets like p beside each other, of which the second one comes behind the first
// one within each rank.
func twice(p impl.Poset) impl.Poset {
	var ranks, copies, originals []int64
	for i := range p.Rank {
		for copied := range int64(2) {
			for e, rank := range p.Ranks {
				if rank == i {
					ranks, copies, originals = append(ranks, i), append(copies, copied), append(originals, int64(e))
				}
			}
		}
	}
	return posetOf(p.Rank, ranks, func(d int64, e int64) bool {
		return copies[d] == copies[e] && isAt(p, originals[d], originals[e])
	})
}

// withLoose returns p with one more element of a rank, the last one of this rank, that is incident
// with no other one.
func withLoose(p impl.Poset, rank int64) impl.Poset {
	place, _ := slices.BinarySearch(p.Ranks, rank+1)
	ranks := slices.Insert(slices.Clone(p.Ranks), place, rank)
	old := func(e int64) int64 {
		if e > int64(place) {
			return e - 1
		}
		return e
	}
	return posetOf(p.Rank, ranks, func(d int64, e int64) bool {
		return d != int64(place) && e != int64(place) && isAt(p, old(d), old(e))
	})
}

// upsideDown returns the opposite of p.
func upsideDown(p impl.Poset) impl.Poset {
	last := int64(len(p.Ranks) - 1)
	var ranks []int64
	for e := range p.Ranks {
		ranks = append(ranks, p.Rank-1-p.Ranks[last-int64(e)])
	}
	return posetOf(p.Rank, ranks, func(d int64, e int64) bool { return isAt(p, last-e, last-d) })
}

// facesOf returns the face poset of a maniplex: the faces are told apart by their ranks and by the
// flags that have them.
func facesOf(m impl.Maniplex) impl.Poset {
	var ranks []int64
	var members [][]bool
	for i := range m.Moves {
		labels := labelsWithout(m.Moves, i)
		for face := range slices.Max(labels) + 1 {
			has := make([]bool, len(labels))
			for flag, label := range labels {
				has[flag] = label == face
			}
			ranks, members = append(ranks, int64(i)), append(members, has)
		}
	}
	return posetOf(int64(len(m.Moves)), ranks, func(d int64, e int64) bool {
		for flag := range members[d] {
			if members[d][flag] && members[e][flag] {
				return true
			}
		}
		return false
	})
}

// spindle returns the poset of the map with the faces of two pyramids over a p-gon that are glued at
// their bases, the tips of which have been made one vertex, the vertex 0.
func spindle(p int64) impl.Poset {
	ranks := slices.Concat(make([]int64, p+2), slices.Repeat([]int64{1}, int(3*p)), slices.Repeat([]int64{2}, int(2*p)))
	// The vertices are 0 and 1, the tips, and those of the p-gon; after the edges of the p-gon come
	// those to the tip 0 and then those to the tip 1, and the faces below the tips in this order, too.
	sides, faces := p+2, 4*p+2
	whole := posetOf(3, ranks, func(d int64, e int64) bool {
		switch {
		case e < sides+p: // a side of the p-gon has a corner
			return d == 2+(e-sides) || d == 2+(e-sides+1)%p
		case e < faces: // an edge to a tip
			return d == (e-sides-p)/p || d == 2+(e-sides-p)%p
		}
		tip, side := (e-faces)/p, (e-faces)%p
		return d == sides+side || d == sides+p+tip*p+side || d == sides+p+tip*p+(side+1)%p
	})
	return merged(whole, 0, 1)
}

// scatteredPoset returns a poset with few elements that depends on the seed only.
func scatteredPoset(seed int64) impl.Poset {
	random := rand.New(rand.NewSource(seed))
	rank := 1 + random.Int63n(5)
	var ranks []int64
	for range random.Intn(11) {
		ranks = append(ranks, random.Int63n(rank))
	}
	slices.Sort(ranks)
	often := 1 + random.Intn(4)
	return posetOf(rank, ranks, func(int64, int64) bool { return random.Intn(4) < often })
}

// halfTurned returns the maniplex of rank 4 whose flags are pairs of flags of two squares, where the
// pairs that half a turn of both squares leads to each other are one flag.
func halfTurned() impl.Maniplex {
	moves := make([][]int64, 4)
	square := polygon(4).Moves
	number := func(a int64, b int64) int64 {
		if a >= 4 {
			a, b = a-4, (b+4)%8
		}
		return 8*a + b
	}
	for flag := range int64(32) {
		a, b := flag/8, flag%8
		moves[0] = append(moves[0], number(square[0][a], b))
		moves[1] = append(moves[1], number(square[1][a], b))
		moves[2] = append(moves[2], number(a, square[0][b]))
		moves[3] = append(moves[3], number(a, square[1][b]))
	}
	return impl.Maniplex{Moves: moves}
}

// diagonal returns the map of squares on a torus with two vertices, four edges and two faces in
// which each face has both vertices twice.
func diagonal() impl.Maniplex {
	m := grid(2, 2, false)
	// A step of one square in both directions leads half of the flags to the other half.
	same := func(flag int64) int64 {
		square, rest := flag/8, flag%8
		return min(flag, (3-square)*8+rest)
	}
	var moves [][]int64
	for _, move := range m.Moves {
		var half []int64
		for flag := range int64(16) {
			half = append(half, same(move[flag]))
		}
		moves = append(moves, half)
	}
	return impl.Maniplex{Moves: moves}
}

// crossed returns the maniplex of rank 4 of six cubes in a torus, in which opposite corners of each
// cube are one vertex, and no other faces of a cube are one. A flag is a vertex, an order of the three
// axes and a sign for each axis.
func crossed() impl.Maniplex {
	orders := allPermutations(3)
	steps := []int{1, 2, 3} // or -3, which is the same among six vertices
	number := func(vertex int, order []int64, signs int) int64 {
		place, _ := slices.BinarySearchFunc(orders, order, slices.Compare[[]int64])
		return int64(((vertex+6)%6*6+place)*8 + signs)
	}
	moves := make([][]int64, 4)
	for flag := range 6 * 6 * 8 {
		vertex, order, signs := flag/48, orders[flag/8%6], flag%8
		step := steps[order[0]]
		if signs>>order[0]&1 == 1 {
			step = -step
		}
		moves[0] = append(moves[0], number(vertex+step, order, signs^1<<order[0]))
		moves[1] = append(moves[1], number(vertex, []int64{order[1], order[0], order[2]}, signs))
		moves[2] = append(moves[2], number(vertex, []int64{order[0], order[2], order[1]}, signs))
		moves[3] = append(moves[3], number(vertex, order, signs^1<<order[2]))
	}
	return impl.Maniplex{Moves: moves}
}

// oddPosets are posets that show one thing each.
func oddPosets() []impl.Poset {
	two, three := points(2), points(3)
	tetrahedron := facesOf(simplex(3))
	odd := []impl.Poset{
		points(0), points(1), two, three, {Rank: 2}, {Rank: 5},
		stacked(two, two), stacked(two, three), stacked(three, two), stacked(points(1), two), stacked(two, points(1), two), stacked(two, three, two),
		stacked(two, two, two, two), stacked(points(1), points(1), points(1), points(1), points(1)),
		posetOf(3, []int64{0, 0, 2, 2}, func(int64, int64) bool { return true }),
		posetOf(3, []int64{0, 0, 1, 1}, func(int64, int64) bool { return true }),
		posetOf(3, []int64{1, 1, 2, 2}, func(int64, int64) bool { return true }),
		posetOf(2, []int64{1, 1}, nil), posetOf(2, []int64{0, 0}, nil), posetOf(2, []int64{0, 0, 1, 1}, func(int64, int64) bool { return false }),
		twice(two), twice(facesOf(triangle)), twice(stacked(two, two)), twice(tetrahedron),
		stacked(twice(facesOf(triangle)), two), stacked(two, twice(facesOf(triangle))), stacked(two, twice(stacked(two, two)), two),
		spindle(2), spindle(3), stacked(spindle(2), two), stacked(two, spindle(2)), stacked(spindle(2), two, two), stacked(two, spindle(2), two),
		merged(twice(tetrahedron), 0, 4), merged(twice(facesOf(triangle)), 2, 3),
	}
	for rank := range int64(3) {
		odd = append(odd, withLoose(tetrahedron, rank), withLoose(stacked(two, two, two), rank))
	}
	for _, p := range odd {
		odd = append(odd, upsideDown(p))
	}
	return odd
}

// smallPosets are posets of many kinds with few flags.
func smallPosets() []impl.Poset {
	small := oddPosets()
	for _, m := range append(smallManiplexes(), halfTurned(), diagonal()) {
		if len(m.Moves[0]) <= 32 {
			small = append(small, facesOf(m))
		}
	}
	tetrahedron := facesOf(simplex(3))
	for e := range int64(len(tetrahedron.Ranks)) {
		small = append(small, without(tetrahedron, e), without(spindle(3), e))
		for d := range e {
			if tetrahedron.Ranks[d] == tetrahedron.Ranks[e] {
				small = append(small, merged(tetrahedron, d, e))
			}
		}
	}
	for seed := range int64(400) {
		small = append(small, scatteredPoset(seed))
	}
	return small
}

// polytopes are posets that are polytopes.
func polytopes() []impl.Poset {
	two := points(2)
	all := []impl.Poset{two, stacked(two, two), stacked(two, two, two, two, two), stacked(facesOf(triangle), facesOf(polygon(5)), two)}
	for _, m := range polytopalManiplexes() {
		all = append(all, facesOf(m), upsideDown(facesOf(m)))
	}
	return all
}

// polytopalManiplexes are maniplexes that are polytopal.
func polytopalManiplexes() []impl.Maniplex {
	all := []impl.Maniplex{edge, triangle, cell, simplex(3), simplex(4), polygon(2), polygon(4), polygon(7), polygon(199), polygon(200)}
	all = append(all, beside(polygon(3), polygon(4)), beside(edge, simplex(3)), beside(cubes(3), polygon(25)), beside(simplex(3), polygon(8)))
	all = append(all, grid(3, 3, false), grid(3, 4, true), grid(5, 10, false), grid(10, 5, true))
	for rank := 1; rank <= 5; rank++ {
		all = append(all, cubes(rank))
	}
	for i, m := range all {
		all = append(all, renumber(m, shuffled(len(m.Moves[0]), int64(i))))
	}
	return all
}

// bigPosets are posets with as many elements, or flags, as there may be, or more flags.
func bigPosets() []impl.Poset {
	hundred := points(100)
	return []impl.Poset{
		points(400), points(401), points(500), stacked(points(20), points(20)), facesOf(polygon(200)), twice(facesOf(polygon(100))),
		stacked(points(250), points(250)), stacked(hundred, hundred, hundred, hundred, hundred), twice(facesOf(polygon(125))),
	}
}

// isPoset reports whether p is a poset, as the definition says it.
func isPoset(p impl.Poset) bool {
	n := int64(len(p.Ranks))
	if p.Rank < 1 || p.Rank > 5 || n > 500 || int64(len(p.Below)) != n {
		return false
	}
	for e, rank := range p.Ranks {
		if rank < 0 || rank >= p.Rank || e > 0 && rank < p.Ranks[e-1] {
			return false
		}
	}
	for e, below := range p.Below {
		for k, d := range below {
			if d < 0 || d >= n || p.Ranks[d] >= p.Ranks[e] || k > 0 && d <= below[k-1] {
				return false
			}
		}
	}
	for _, below := range p.Below {
		for _, d := range below {
			for _, c := range p.Below[d] {
				if !slices.Contains(below, c) {
					return false
				}
			}
		}
	}
	return true
}

// brokenPosets are no posets, by what is wrong with them.
func brokenPosets() map[string]impl.Poset {
	many := points(501)
	full := stacked(points(250), points(250))
	wrong := stacked(points(250), points(250))
	wrong.Below[499] = slices.Delete(slices.Clone(wrong.Below[499]), 3, 4)
	wrong.Below[499] = append(wrong.Below[499], 3)
	return map[string]impl.Poset{
		"nothing":                             {},
		"rank 0":                              {Rank: 0, Ranks: nil, Below: nil},
		"rank 0 and an element":               {Rank: 0, Ranks: []int64{0}, Below: [][]int64{{}}},
		"rank 6":                              {Rank: 6, Ranks: nil, Below: nil},
		"rank 6 and elements of all ranks":    stacked(points(2), points(2), points(2), points(2), points(2), points(2)),
		"a negative rank":                     {Rank: -1},
		"a rank far away":                     {Rank: 1 << 32},
		"the greatest rank":                   {Rank: math.MaxInt64, Ranks: []int64{0}, Below: [][]int64{{}}},
		"the least rank":                      {Rank: math.MinInt64, Ranks: []int64{0}, Below: [][]int64{{}}},
		"501 elements":                        many,
		"501 elements of two ranks":           stacked(points(250), points(251)),
		"501 elements and rank 0":             {Rank: 0, Ranks: many.Ranks, Below: many.Below},
		"an element with a rank too great":    {Rank: 1, Ranks: []int64{1}, Below: [][]int64{{}}},
		"an element with a rank far too much": {Rank: 2, Ranks: []int64{0, math.MaxInt64}, Below: [][]int64{{}, {}}},
		"an element with a negative rank":     {Rank: 2, Ranks: []int64{-1, 1}, Below: [][]int64{{}, {}}},
		"an element with the least rank":      {Rank: 2, Ranks: []int64{math.MinInt64, 1}, Below: [][]int64{{}, {}}},
		"ranks that descend":                  {Rank: 2, Ranks: []int64{1, 0}, Below: [][]int64{{}, {}}},
		"ranks that descend once":             {Rank: 3, Ranks: []int64{0, 1, 1, 2, 1}, Below: [][]int64{{}, {}, {}, {}, {}}},
		"ranks that descend, with a list":     {Rank: 2, Ranks: []int64{1, 0}, Below: [][]int64{{1}, {}}},
		"a list too few":                      {Rank: 1, Ranks: []int64{0, 0}, Below: [][]int64{{}}},
		"a list too many":                     {Rank: 1, Ranks: []int64{0, 0}, Below: [][]int64{{}, {}, {}}},
		"a list too many that names all":      {Rank: 2, Ranks: []int64{0, 1}, Below: [][]int64{{}, {0}, {0, 1}}},
		"lists without elements":              {Rank: 1, Ranks: nil, Below: [][]int64{{}}},
		"elements without lists":              {Rank: 1, Ranks: []int64{0}, Below: nil},
		"a list that descends":                {Rank: 2, Ranks: []int64{0, 0, 1}, Below: [][]int64{{}, {}, {1, 0}}},
		"a list that names an element twice":  {Rank: 2, Ranks: []int64{0, 0, 1}, Below: [][]int64{{}, {}, {0, 0}}},
		"a list that descends at last":        {Rank: 2, Ranks: []int64{0, 0, 0, 1}, Below: [][]int64{{}, {}, {}, {0, 2, 1}}},
		"a list of 250 that descends at last": wrong,
		"an element that does not exist":      {Rank: 2, Ranks: []int64{0, 1}, Below: [][]int64{{}, {2}}},
		"an element far away":                 {Rank: 2, Ranks: []int64{0, 1}, Below: [][]int64{{}, {0, 1 << 32}}},
		"the greatest element":                {Rank: 2, Ranks: []int64{0, 1}, Below: [][]int64{{}, {0, math.MaxInt64}}},
		"a negative element":                  {Rank: 2, Ranks: []int64{0, 1}, Below: [][]int64{{}, {-1, 0}}},
		"the least element":                   {Rank: 2, Ranks: []int64{0, 1}, Below: [][]int64{{}, {math.MinInt64}}},
		"an element below itself":             {Rank: 2, Ranks: []int64{0, 1}, Below: [][]int64{{}, {0, 1}}},
		"an element below one of its rank":    {Rank: 2, Ranks: []int64{0, 1, 1}, Below: [][]int64{{}, {0}, {0, 1}}},
		"an element below one of rank 0":      {Rank: 2, Ranks: []int64{0, 0, 1}, Below: [][]int64{{}, {0}, {0, 1}}},
		"an element below a lower one":        {Rank: 2, Ranks: []int64{0, 1}, Below: [][]int64{{1}, {}}},
		"elements below each other":           {Rank: 2, Ranks: []int64{0, 1}, Below: [][]int64{{1}, {0}}},
		"what is below an element below":      {Rank: 3, Ranks: []int64{0, 1, 2}, Below: [][]int64{{}, {0}, {1}}},
		"what is below the second one below":  {Rank: 3, Ranks: []int64{0, 0, 1, 1, 2}, Below: [][]int64{{}, {}, {0}, {1}, {0, 2, 3}}},
		"what is far below":                   {Rank: 5, Ranks: []int64{0, 3, 4}, Below: [][]int64{{}, {0}, {1}}},
		"one element lacks in 500":            {Rank: 2, Ranks: full.Ranks, Below: full.Below[:499]},
	}
}
