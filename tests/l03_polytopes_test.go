package tests

import (
	"slices"
	"testing"

	"loop.example/g01108/impl"
)

// flagsByTrying returns the flags: all lists with one element of each rank are tried, but for those
// that go on from one that has elements which are not incident.
func flagsByTrying(p impl.Poset) [][]int64 {
	flags := [][]int64{{}}
	for i := range p.Rank {
		var longer [][]int64
		for _, chain := range flags {
			for e, rank := range p.Ranks {
				if rank == i && !slices.ContainsFunc(chain, func(d int64) bool { return !isAt(p, d, int64(e)) }) {
					longer = append(longer, append(slices.Clone(chain), int64(e)))
				}
			}
		}
		flags = longer
	}
	return flags
}

// diamondFaultByCounting returns the first list {i, e, f} of a set that does not have two elements,
// or nil. The numbers of the sets are counted for all lists in which e and f may be -1.
func diamondFaultByCounting(p impl.Poset) []int64 {
	n := int64(len(p.Ranks))
	hasRank := func(e int64, rank int64, end int64) bool {
		return e == -1 && rank == end || e >= 0 && p.Ranks[e] == rank
	}
	atMost := func(d int64, e int64) bool { return d == -1 || e == -1 || isAt(p, d, e) }
	for i := range p.Rank {
		for e := int64(-1); e < n; e++ {
			for f := int64(-1); f < n; f++ {
				if !hasRank(e, i-1, -1) || !hasRank(f, i+1, p.Rank) || !atMost(e, f) {
					continue
				}
				count := 0
				for d := range n {
					if p.Ranks[d] == i && atMost(e, d) && atMost(d, f) {
						count++
					}
				}
				if count != 2 {
					return []int64{i, e, f}
				}
			}
		}
	}
	return nil
}

// differences returns at how many indices two lists differ.
func differences(a []int64, b []int64) int {
	count := 0
	for i := range a {
		if a[i] != b[i] {
			count++
		}
	}
	return count
}

// isWay reports whether flags lead from one flag to another one, each of which but the first one
// differs in one element from the one before it, and all of which have all that both have in common.
func isWay(flags [][]int64, from int, to int) bool {
	reached := []int{from}
	for next := 0; next < len(reached); next++ {
		for flag := range flags {
			keeps := true
			for i, e := range flags[from] {
				keeps = keeps && (flags[to][i] != e || flags[flag][i] == e)
			}
			if keeps && !slices.Contains(reached, flag) && differences(flags[reached[next]], flags[flag]) == 1 {
				reached = append(reached, flag)
			}
		}
	}
	return slices.Contains(reached, to)
}

// connectionFaultByWalking returns the first list of indices of flags between which there is no way,
// or nil.
func connectionFaultByWalking(flags [][]int64) []int64 {
	for a := range flags {
		for b := a + 1; b < len(flags); b++ {
			if !isWay(flags, a, b) {
				return []int64{int64(a), int64(b)}
			}
		}
	}
	return nil
}

// isPureByLooking reports whether each element is in one of the flags.
func isPureByLooking(p impl.Poset, flags [][]int64) bool {
	for e := range p.Ranks {
		if !slices.ContainsFunc(flags, func(flag []int64) bool { return slices.Contains(flag, int64(e)) }) {
			return false
		}
	}
	return true
}

// maniplexBySearching returns the maniplex of a polytope with the given flags.
func maniplexBySearching(flags [][]int64) impl.Maniplex {
	moves := make([][]int64, len(flags[0]))
	for i := range moves {
		for _, flag := range flags {
			other := slices.IndexFunc(flags, func(other []int64) bool { return other[i] != flag[i] && differences(other, flag) == 1 })
			moves[i] = append(moves[i], int64(other))
		}
	}
	return impl.Maniplex{Moves: moves}
}

// faultCode returns the code that belongs to a list, which is nil if nothing was found.
func faultCode(list []int64) int64 {
	if list == nil {
		return impl.ErrNotFound
	}
	return impl.ErrNone
}

// expectFacts fails the test if the functions do not tell of a poset with few flags what the
// definitions say, and returns whether it has a flag, is pure, has diamonds, and is strongly
// connected.
func expectFacts(t *testing.T, p impl.Poset) [4]bool {
	t.Helper()
	wantFlags := flagsByTrying(p)
	flags, code := impl.FlagsOf(p)
	expectLists(t, "FlagsOf", flags, code, wantFlags, impl.ErrNone)
	wantPure := isPureByLooking(p, wantFlags)
	pure, code := impl.IsPure(p)
	expect(t, "IsPure", pure, code, wantPure, impl.ErrNone)
	wantDiamond := diamondFaultByCounting(p)
	diamond, code := impl.DiamondFault(p)
	expectList(t, "DiamondFault", diamond, code, wantDiamond, faultCode(wantDiamond))
	wantConnection := connectionFaultByWalking(wantFlags)
	connection, code := impl.ConnectionFault(p)
	expectList(t, "ConnectionFault", connection, code, wantConnection, faultCode(wantConnection))
	facts := [4]bool{len(wantFlags) > 0, wantPure, wantDiamond == nil, wantConnection == nil}
	want := facts == [4]bool{true, true, true, true}
	polytope, code := impl.IsPolytope(p)
	expect(t, "IsPolytope", polytope, code, want, impl.ErrNone)
	m, code := impl.ManiplexOf(p)
	if !want {
		expectManiplex(t, "ManiplexOf", m, code, impl.Maniplex{}, impl.ErrState)
		return facts
	}
	expectManiplex(t, "ManiplexOf", m, code, maniplexBySearching(wantFlags), impl.ErrNone)
	if !isManiplex(m) {
		t.Errorf("the maniplex of %v is %v", p, m)
	}
	return facts
}

func TestSmallPosets(t *testing.T) {
	kinds := map[[4]bool]int{}
	for _, p := range smallPosets() {
		facts := expectFacts(t, p)
		kinds[facts]++
		if opposite := expectFacts(t, upsideDown(p)); opposite != facts {
			t.Errorf("%v has the facts %v, but its opposite %v", p, facts, opposite)
		}
	}
	needed := [][4]bool{
		{true, true, true, true}, {false, true, true, true}, {true, false, true, true}, {true, true, false, true},
		{true, true, true, false}, {true, false, false, false}, {false, false, true, true}, {false, true, false, true},
	}
	for _, facts := range needed {
		if kinds[facts] == 0 {
			t.Errorf("no sample has the facts %v", facts)
		}
	}
}

func TestAllPosetsWithFewElements(t *testing.T) {
	found := 0
	lists := [][]int64{{0, 0, 1, 1, 2, 2}}
	for n := range 6 {
		for _, ranks := range allWords(3, n) {
			if slices.IsSorted(ranks) {
				lists = append(lists, ranks)
			}
		}
	}
	for _, ranks := range lists {
		for rank := int64(1); rank <= 3; rank++ {
			if len(ranks) > 0 && ranks[len(ranks)-1] >= rank {
				continue
			}
			shortPosets(rank, ranks, func(p impl.Poset) {
				if isPoset(p) && expectFacts(t, p) == [4]bool{true, true, true, true} {
					found++
				}
				if isPoset(p) {
					got, code := impl.IsLattice(p)
					expect(t, "IsLattice", got, code, isLattice(p), impl.ErrNone)
				}
			})
		}
	}
	// These are a pair of points, a pair of sides, and the one of rank 3.
	if found != 3 {
		t.Errorf("there are %d polytopes", found)
	}
}

func TestFlagsOf(t *testing.T) {
	cases := []struct {
		p    impl.Poset
		want [][]int64
	}{
		{impl.Poset{Rank: 1}, nil},
		{impl.Poset{Rank: 5}, nil},
		{points(3), [][]int64{{0}, {1}, {2}}},
		{facesOf(triangle), [][]int64{{0, 3}, {0, 5}, {1, 3}, {1, 4}, {2, 4}, {2, 5}}},
		{stacked(points(2), points(1), points(2)), [][]int64{{0, 2, 3}, {0, 2, 4}, {1, 2, 3}, {1, 2, 4}}},
		{posetOf(3, []int64{0, 2}, func(int64, int64) bool { return true }), nil},
		{posetOf(3, []int64{0, 0, 1, 1}, func(int64, int64) bool { return true }), nil},
		{posetOf(3, []int64{1, 1, 2, 2}, func(int64, int64) bool { return true }), nil},
		{posetOf(2, []int64{0, 0, 1, 1}, func(d int64, e int64) bool { return d+e == 3 }), [][]int64{{0, 3}, {1, 2}}},
	}
	for _, c := range cases {
		got, code := impl.FlagsOf(c.p)
		expectLists(t, "FlagsOf", got, code, c.want, impl.ErrNone)
	}
	for what, p := range brokenPosets() {
		got, code := impl.FlagsOf(p)
		expectLists(t, what, got, code, nil, impl.ErrInvalid)
	}
}

func TestDiamondFault(t *testing.T) {
	one, two, three := points(1), points(2), points(3)
	cases := []struct {
		p    impl.Poset
		want []int64
	}{
		{one, []int64{0, -1, -1}},
		{three, []int64{0, -1, -1}},
		{impl.Poset{Rank: 1}, []int64{0, -1, -1}},
		{two, nil},
		{impl.Poset{Rank: 2}, nil},
		{impl.Poset{Rank: 5}, nil},
		// One, no and three elements of the least rank.
		{stacked(one, two), []int64{0, -1, 1}},
		{posetOf(2, []int64{1, 1}, nil), []int64{0, -1, 0}},
		{stacked(three, two, two), []int64{0, -1, 3}},
		// One, no and three elements of a rank in the middle.
		{stacked(two, one, two), []int64{1, 0, 3}},
		{posetOf(3, []int64{0, 0, 2, 2}, func(int64, int64) bool { return true }), []int64{1, 0, 2}},
		{stacked(two, two, three, two), []int64{2, 2, 7}},
		// One, no and three elements of the greatest rank.
		{stacked(two, two, one), []int64{2, 2, -1}},
		{posetOf(2, []int64{0, 0}, nil), []int64{1, 0, -1}},
		{stacked(two, three), []int64{1, 0, -1}},
		// The first one of several.
		{stacked(three, three, three), []int64{0, -1, 3}},
		{stacked(two, three, three), []int64{1, 0, 5}},
		{withLoose(facesOf(triangle), 0), []int64{1, 3, -1}},
		{withLoose(facesOf(triangle), 1), []int64{0, -1, 6}},
		{withLoose(facesOf(simplex(3)), 0), nil},
		{withLoose(facesOf(simplex(3)), 1), []int64{0, -1, 10}},
		{withLoose(facesOf(simplex(3)), 2), nil},
		{without(facesOf(simplex(3)), 9), []int64{1, 2, 11}},
		{facesOf(diagonal()), []int64{1, 0, 6}},
		{spindle(7), nil},
		{stacked(points(250), points(250)), []int64{0, -1, 250}},
		{points(401), []int64{0, -1, -1}},
		{stacked(points(2), points(2), points(100), points(100), points(100)), []int64{2, 2, 104}},
		{facesOf(polygon(250)), nil},
		{twice(facesOf(polygon(125))), nil},
	}
	for i, c := range cases {
		if want := diamondFaultByCounting(c.p); len(c.p.Ranks) < 100 && !slices.Equal(want, c.want) {
			t.Errorf("the case %d has the fault %v", i, want)
		}
		got, code := impl.DiamondFault(c.p)
		expectList(t, "DiamondFault", got, code, c.want, faultCode(c.want))
	}
	for what, p := range brokenPosets() {
		got, code := impl.DiamondFault(p)
		expectList(t, what, got, code, nil, impl.ErrInvalid)
	}
}

func TestIsPure(t *testing.T) {
	cases := []struct {
		p    impl.Poset
		want bool
	}{
		{impl.Poset{Rank: 1}, true},
		{impl.Poset{Rank: 5}, true},
		{points(1), true},
		{points(400), true},
		{posetOf(2, []int64{0}, nil), false},
		{posetOf(2, []int64{0, 1}, func(int64, int64) bool { return false }), false},
		{posetOf(2, []int64{0, 1}, func(int64, int64) bool { return true }), true},
		{posetOf(3, []int64{0, 0, 2, 2}, func(int64, int64) bool { return true }), false},
		{withLoose(facesOf(cell), 0), false},
		{withLoose(facesOf(cell), 1), false},
		{withLoose(facesOf(cell), 2), false},
		{without(facesOf(simplex(3)), 0), true},
		{without(without(facesOf(triangle), 0), 0), false},
		{facesOf(polygon(200)), true},
		{withLoose(facesOf(polygon(200)), 0), false},
	}
	for _, c := range cases {
		got, code := impl.IsPure(c.p)
		expect(t, "IsPure", got, code, c.want, impl.ErrNone)
	}
	for what, p := range brokenPosets() {
		got, code := impl.IsPure(p)
		expect(t, what, got, code, false, impl.ErrInvalid)
	}
}

func TestConnectionFault(t *testing.T) {
	two, pair := points(2), twice(facesOf(triangle))
	cases := []struct {
		p    impl.Poset
		want []int64
	}{
		{impl.Poset{Rank: 1}, nil},
		{points(400), nil},
		{twice(stacked(two, two)), []int64{0, 4}},
		{pair, []int64{0, 6}},
		{spindle(3), []int64{0, 6}},
		{upsideDown(spindle(3)), []int64{1, 19}},
		// All flags are connected, but not those with one vertex, or in the middle.
		{stacked(pair, two), []int64{0, 12}},
		{stacked(two, pair), []int64{0, 6}},
		{stacked(two, pair, two), []int64{0, 12}},
		{facesOf(polygon(200)), nil},
		{twice(facesOf(polygon(100))), []int64{0, 200}},
		{withLoose(facesOf(simplex(4)), 3), nil},
	}
	for i, c := range cases {
		flags := flagsByTrying(c.p)
		if want := []int64(nil); len(flags) < 100 {
			want = connectionFaultByWalking(flags)
			if !slices.Equal(want, c.want) {
				t.Errorf("the case %d has the fault %v", i, want)
			}
		}
		got, code := impl.ConnectionFault(c.p)
		expectList(t, "ConnectionFault", got, code, c.want, faultCode(c.want))
	}
	for what, p := range brokenPosets() {
		got, code := impl.ConnectionFault(p)
		expectList(t, what, got, code, nil, impl.ErrInvalid)
	}
}

func TestIsPolytope(t *testing.T) {
	for i, p := range polytopes() {
		got, code := impl.IsPolytope(p)
		expect(t, "IsPolytope", got, code, true, impl.ErrNone)
		flags := flagsByTrying(p)
		m, code := impl.ManiplexOf(p)
		expectManiplex(t, "ManiplexOf", m, code, maniplexBySearching(flags), impl.ErrNone)
		if !isManiplex(m) {
			t.Errorf("the maniplex of the polytope %d is %v", i, m)
		}
		counts, code := impl.FaceCounts(m)
		elements, elementsCode := impl.ElementCounts(p)
		expectList(t, "FaceCounts", counts, code, elements, elementsCode)
	}
	for _, p := range []impl.Poset{points(400), stacked(points(20), points(20)), twice(facesOf(polygon(100))), spindle(30), withLoose(facesOf(simplex(4)), 0), {Rank: 4}} {
		got, code := impl.IsPolytope(p)
		expect(t, "no polytope", got, code, false, impl.ErrNone)
		m, code := impl.ManiplexOf(p)
		expectManiplex(t, "no polytope", m, code, impl.Maniplex{}, impl.ErrState)
	}
	for what, p := range brokenPosets() {
		got, code := impl.IsPolytope(p)
		expect(t, what, got, code, false, impl.ErrInvalid)
		m, code := impl.ManiplexOf(p)
		expectManiplex(t, what, m, code, impl.Maniplex{}, impl.ErrInvalid)
	}
}

func TestManiplexOf(t *testing.T) {
	m, code := impl.ManiplexOf(points(2))
	expectManiplex(t, "two points", m, code, edge, impl.ErrNone)
	m, code = impl.ManiplexOf(facesOf(triangle))
	expectManiplex(t, "the triangle", m, code, impl.Maniplex{Moves: [][]int64{{2, 5, 0, 4, 3, 1}, {1, 0, 3, 2, 5, 4}}}, impl.ErrNone)
	m, code = impl.ManiplexOf(facesOf(cell))
	expectManiplex(t, "the cell", m, code, impl.Maniplex{Moves: [][]int64{{4, 5, 6, 7, 0, 1, 2, 3}, {2, 3, 0, 1, 6, 7, 4, 5}, {1, 0, 3, 2, 5, 4, 7, 6}}}, impl.ErrNone)
}

func TestFacePosetThatIsNotStronglyConnected(t *testing.T) {
	m := crossed()
	if !isManiplex(m) {
		t.Fatalf("%v is no maniplex", m)
	}
	p, code := impl.FacePoset(m)
	expectPoset(t, "FacePoset", p, code, facesOf(m), impl.ErrNone)
	if facts := expectFacts(t, p); facts != [4]bool{true, true, true, false} {
		t.Errorf("the facts are %v", facts)
	}
}

// expectLimit fails the test if a function that needs all flags does not return ErrLimit, or one that
// does not need them returns it.
func expectLimit(t *testing.T, p impl.Poset) {
	t.Helper()
	flags, code := impl.FlagsOf(p)
	expectLists(t, "FlagsOf", flags, code, nil, impl.ErrLimit)
	pure, code := impl.IsPure(p)
	expect(t, "IsPure", pure, code, false, impl.ErrLimit)
	fault, code := impl.ConnectionFault(p)
	expectList(t, "ConnectionFault", fault, code, nil, impl.ErrLimit)
	polytope, code := impl.IsPolytope(p)
	expect(t, "IsPolytope", polytope, code, false, impl.ErrLimit)
	m, code := impl.ManiplexOf(p)
	expectManiplex(t, "ManiplexOf", m, code, impl.Maniplex{}, impl.ErrLimit)
	for name, code := range unlimitedCodes(p) {
		if code != impl.ErrNone && code != impl.ErrNotFound {
			t.Errorf("%s returns the code %d", name, code)
		}
	}
}

// unlimitedCodes returns the codes of the functions that do not need all flags.
func unlimitedCodes(p impl.Poset) map[string]int64 {
	codes := map[string]int64{}
	_, codes["ElementCounts"] = impl.ElementCounts(p)
	_, codes["DiamondFault"] = impl.DiamondFault(p)
	_, codes["OppositePoset"] = impl.OppositePoset(p)
	_, codes["IsLattice"] = impl.IsLattice(p)
	return codes
}

func TestMoreFlagsThanTheLimit(t *testing.T) {
	hundred := points(100)
	onePoint := points(1)
	oneMore := stacked(points(20), points(20))
	oneMore.Ranks = append(oneMore.Ranks, 1)
	oneMore.Below = append(oneMore.Below, []int64{7})
	for _, p := range []impl.Poset{
		points(401), points(500), oneMore, upsideDown(oneMore), facesOf(polygon(201)), facesOf(polygon(250)), twice(facesOf(polygon(125))), facesOf(grid(5, 11, false)),
		stacked(points(250), points(250)), stacked(hundred, hundred, hundred, hundred, hundred), stacked(points(166), points(166), points(166)),
		stacked(points(124), points(124), points(124), points(124), onePoint), stacked(onePoint, points(124), points(124), points(124), points(124)),
		withLoose(stacked(hundred, hundred, hundred, hundred, points(99)), 4), stacked(points(401), onePoint, onePoint), stacked(onePoint, onePoint, points(401)),
	} {
		expectLimit(t, p)
	}
}

func TestAsManyFlagsAsTheLimit(t *testing.T) {
	for _, p := range []impl.Poset{points(400), stacked(points(20), points(20)), facesOf(polygon(200)), stacked(points(400), points(1), points(1)), stacked(points(4), points(4), points(5), points(5)), facesOf(grid(5, 10, false))} {
		got, code := impl.FlagsOf(p)
		expectLists(t, "FlagsOf", got, code, flagsByTrying(p), impl.ErrNone)
		if len(got) != 400 {
			t.Errorf("there are %d flags", len(got))
		}
		pure, code := impl.IsPure(p)
		expect(t, "IsPure", pure, code, true, impl.ErrNone)
		fault, code := impl.ConnectionFault(p)
		expectList(t, "ConnectionFault", fault, code, nil, impl.ErrNotFound)
	}
}

// Chains without an end are very many here, and flags few or none.
func TestManyChainsWithoutAFlag(t *testing.T) {
	all := points(124)
	top := stacked(all, all, all, all)
	top.Rank = 5
	bottom := upsideDown(top)
	gap := stacked(points(160), points(1), points(160), points(160))
	gap.Rank = 5
	for _, p := range []impl.Poset{top, bottom, gap} {
		flags, code := impl.FlagsOf(p)
		expectLists(t, "FlagsOf", flags, code, nil, impl.ErrNone)
		pure, code := impl.IsPure(p)
		expect(t, "IsPure", pure, code, false, impl.ErrNone)
		fault, code := impl.ConnectionFault(p)
		expectList(t, "ConnectionFault", fault, code, nil, impl.ErrNotFound)
		polytope, code := impl.IsPolytope(p)
		expect(t, "IsPolytope", polytope, code, false, impl.ErrNone)
		m, code := impl.ManiplexOf(p)
		expectManiplex(t, "ManiplexOf", m, code, impl.Maniplex{}, impl.ErrState)
	}
	// One chain beside all of these is the only flag: it has the last element of each rank.
	flags, code := impl.FlagsOf(crowded())
	expectLists(t, "FlagsOf", flags, code, [][]int64{{99, 199, 299, 399, 499}}, impl.ErrNone)
}

// crowded returns the poset of rank 5 with 100 elements of each rank. The first 99 are above all such
// of lower ranks, but for the greatest rank, where they are above none; the last ones are a flag.
func crowded() impl.Poset {
	var ranks []int64
	for e := range int64(500) {
		ranks = append(ranks, e/100)
	}
	return posetOf(5, ranks, func(d int64, e int64) bool {
		if d%100 == 99 || e%100 == 99 {
			return d%100 == e%100
		}
		return e < 400
	})
}

// isPolytopal reports whether a maniplex with few flags is polytopal, as the definition says it.
func isPolytopal(m impl.Maniplex) bool {
	p := facesOf(m)
	flags := flagsByTrying(p)
	return len(flags) == len(m.Moves[0]) && isPureByLooking(p, flags) && diamondFaultByCounting(p) == nil && connectionFaultByWalking(flags) == nil
}

// twinsByComparing returns the first list of two flags with the same faces, or nil.
func twinsByComparing(m impl.Maniplex) []int64 {
	var labels [][]int64
	for i := range m.Moves {
		labels = append(labels, labelsWithout(m.Moves, i))
	}
	for f := range m.Moves[0] {
		for g := f + 1; g < len(m.Moves[0]); g++ {
			if !slices.ContainsFunc(labels, func(list []int64) bool { return list[f] != list[g] }) {
				return []int64{int64(f), int64(g)}
			}
		}
	}
	return nil
}

func TestIsPolytopal(t *testing.T) {
	cases := []struct {
		m     impl.Maniplex
		want  bool
		twins []int64
	}{
		{edge, true, nil},
		{triangle, true, nil},
		{cell, true, nil},
		{polygon(1), false, []int64{0, 1}},
		{polygon(2), true, nil},
		{plane, false, []int64{0, 1}},
		// As many flags as its face poset has, which has no diamonds.
		{diagonal(), false, nil},
		// As many flags as its face poset has, which has diamonds, but is not strongly connected.
		{crossed(), false, nil},
		// More flags than its face poset, which is a polytope.
		{halfTurned(), false, []int64{0, 4}},
		{beside(edge, plane), false, []int64{0, 1}},
		{beside(plane, edge), false, []int64{0, 2}},
		{grid(2, 2, false), true, nil},
		{grid(1, 2, false), false, []int64{0, 5}},
		{polygon(200), true, nil},
		{beside(polygon(1), polygon(100)), false, []int64{0, 200}},
		{beside(polygon(100), polygon(1)), false, []int64{0, 1}},
	}
	for i, c := range cases {
		if twins := twinsByComparing(c.m); !slices.Equal(twins, c.twins) {
			t.Errorf("the case %d has the twins %v", i, twins)
		}
		got, code := impl.IsPolytopal(c.m)
		expect(t, "IsPolytopal", got, code, c.want, impl.ErrNone)
		twins, code := impl.TwinFlags(c.m)
		expectList(t, "TwinFlags", twins, code, c.twins, faultCode(c.twins))
	}
	for _, m := range polytopalManiplexes() {
		got, code := impl.IsPolytopal(m)
		expect(t, "IsPolytopal", got, code, true, impl.ErrNone)
		twins, code := impl.TwinFlags(m)
		expectList(t, "TwinFlags", twins, code, nil, impl.ErrNotFound)
	}
	for what, m := range brokenManiplexes() {
		got, code := impl.IsPolytopal(m)
		expect(t, what, got, code, false, impl.ErrInvalid)
		twins, code := impl.TwinFlags(m)
		expectList(t, what, twins, code, nil, impl.ErrInvalid)
	}
}

func TestPolytopalManiplexes(t *testing.T) {
	kinds := map[[2]bool]int{}
	for _, m := range append(smallManiplexes(), halfTurned(), diagonal(), grid(2, 3, true), grid(3, 2, true)) {
		want, wantTwins := isPolytopal(m), twinsByComparing(m)
		kinds[[2]bool{want, wantTwins == nil}]++
		got, code := impl.IsPolytopal(m)
		expect(t, "IsPolytopal", got, code, want, impl.ErrNone)
		twins, code := impl.TwinFlags(m)
		expectList(t, "TwinFlags", twins, code, wantTwins, faultCode(wantTwins))
	}
	if kinds[[2]bool{true, true}] < 10 || kinds[[2]bool{false, true}] == 0 || kinds[[2]bool{false, false}] < 10 {
		t.Errorf("the samples are too much alike: %v", kinds)
	}
	for _, m := range greatManiplexes() {
		wantTwins := twinsByComparing(m)
		twins, code := impl.TwinFlags(m)
		expectList(t, "TwinFlags", twins, code, wantTwins, faultCode(wantTwins))
	}
}

func TestManiplexesOfFacePosetsHaveTheLeastForm(t *testing.T) {
	for _, m := range append(smallManiplexes(), polytopalManiplexes()...) {
		polytopal, code := impl.IsPolytopal(m)
		p, posetCode := impl.FacePoset(m)
		if code != impl.ErrNone || posetCode != impl.ErrNone {
			t.Fatalf("the codes are %d and %d", code, posetCode)
		}
		if !polytopal {
			continue
		}
		got, code := impl.ManiplexOf(p)
		if code != impl.ErrNone {
			t.Fatalf("code %d", code)
		}
		form, code := impl.LeastForm(got)
		want, wantCode := impl.LeastForm(m)
		expectManiplex(t, "the least form", form, code, want, wantCode)
	}
}

func TestFacePosetsOfManiplexesOfPolytopes(t *testing.T) {
	for _, p := range polytopes() {
		m, code := impl.ManiplexOf(p)
		if code != impl.ErrNone {
			t.Fatalf("code %d", code)
		}
		polytopal, code := impl.IsPolytopal(m)
		expect(t, "IsPolytopal", polytopal, code, true, impl.ErrNone)
		q, code := impl.FacePoset(m)
		counts, countsCode := impl.ElementCounts(q)
		want, wantCode := impl.ElementCounts(p)
		expectList(t, "ElementCounts", counts, max(code, countsCode), want, wantCode)
	}
}

func TestOppositesOfPolytopesArePolytopes(t *testing.T) {
	for _, p := range slices.Concat(smallPosets(), polytopes()) {
		opposite, code := impl.OppositePoset(p)
		if code != impl.ErrNone {
			t.Fatalf("code %d", code)
		}
		want, wantCode := impl.IsPolytope(p)
		got, code := impl.IsPolytope(opposite)
		expect(t, "IsPolytope of the opposite", got, code, want, wantCode)
		lattice, wantCode := impl.IsLattice(p)
		got, code = impl.IsLattice(opposite)
		expect(t, "IsLattice of the opposite", got, code, lattice, wantCode)
	}
}
