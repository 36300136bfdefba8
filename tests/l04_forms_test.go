package tests

import (
	"cmp"
	"math"
	"slices"
	"testing"

	"loop.example/g01108/impl"
)

// expectForms fails the test if a list of maniplexes or a code is not the wanted one. Beside an error
// the wanted list is nil.
func expectForms(t *testing.T, what string, got []impl.Maniplex, code int64, want []impl.Maniplex, wantCode int64) {
	t.Helper()
	same := func(a impl.Maniplex, b impl.Maniplex) bool { return compareMoves(a, b) == 0 }
	if !slices.EqualFunc(got, want, same) || code != wantCode {
		t.Errorf("%s = %v, %d; want %v, %d", what, got, code, want, wantCode)
	}
}

// compareFlagsAndMoves compares the numbers of flags of two maniplexes, and then their moves.
func compareFlagsAndMoves(a impl.Maniplex, b impl.Maniplex) int {
	return cmp.Or(len(a.Moves[0])-len(b.Moves[0]), compareMoves(a, b))
}

// leastSections returns for each flag the least form of the section at it from i to k.
func leastSections(m impl.Maniplex, i int64, k int64) []impl.Maniplex {
	var forms []impl.Maniplex
	known := map[string]impl.Maniplex{}
	for flag := range int64(len(m.Moves[0])) {
		section := sectionByRestricting(m, flag, i, k)
		form, ok := known[nameOf(section)]
		if !ok {
			form = leastFormBySorting(section)
			known[nameOf(section)] = form
		}
		forms = append(forms, form)
	}
	return forms
}

// distinct returns each of some maniplexes once, in the order of SectionForms.
func distinct(forms []impl.Maniplex) []impl.Maniplex {
	sorted := slices.SortedFunc(slices.Values(forms), compareFlagsAndMoves)
	return slices.CompactFunc(sorted, func(a impl.Maniplex, b impl.Maniplex) bool { return compareMoves(a, b) == 0 })
}

// kindsIn returns for each of some maniplexes its index in a list.
func kindsIn(list []impl.Maniplex, forms []impl.Maniplex) []int64 {
	var kinds []int64
	for _, form := range forms {
		same := func(other impl.Maniplex) bool { return compareMoves(form, other) == 0 }
		kinds = append(kinds, int64(slices.IndexFunc(list, same)))
	}
	return kinds
}

func TestSectionFormsExamples(t *testing.T) {
	cases := []struct {
		m     impl.Maniplex
		i, k  int64
		want  []impl.Maniplex
		kinds []int64
	}{
		{triangle, 0, 0, []impl.Maniplex{edge}, make([]int64, 6)},
		{triangle, 1, 1, []impl.Maniplex{edge}, make([]int64, 6)},
		{triangle, 0, 1, []impl.Maniplex{triangleForm}, make([]int64, 6)},
		{edge, 0, 0, []impl.Maniplex{edge}, make([]int64, 2)},
		{cell, 0, 1, []impl.Maniplex{biangleForm}, make([]int64, 8)},
		{cell, 0, 2, []impl.Maniplex{cellForm}, make([]int64, 8)},
		{path, 1, 2, []impl.Maniplex{polygon(1), biangleForm}, []int64{0, 1, 0, 1, 0, 1, 0, 1}},
		{path, 0, 1, []impl.Maniplex{squareForm}, make([]int64, 8)},
		{path, 2, 2, []impl.Maniplex{edge}, make([]int64, 8)},
		{prism(3), 0, 1, []impl.Maniplex{triangleForm, squareForm}, nil},
		{prism(3), 1, 2, []impl.Maniplex{triangleForm}, make([]int64, 36)},
		{prism(4), 0, 1, []impl.Maniplex{squareForm}, make([]int64, 48)},
		{flipped(prism(3)), 0, 1, []impl.Maniplex{triangleForm}, make([]int64, 36)},
		{flipped(prism(3)), 1, 2, []impl.Maniplex{triangleForm, squareForm}, nil},
	}
	for _, c := range cases {
		forms, code := impl.SectionForms(c.m, c.i, c.k)
		expectForms(t, "SectionForms", forms, code, c.want, impl.ErrNone)
		kinds, code := impl.SectionKinds(c.m, c.i, c.k)
		if c.kinds != nil {
			expectList(t, "SectionKinds", kinds, code, c.kinds, impl.ErrNone)
		}
	}
}

// kindOfForms tells what the forms of a list have in common.
func kindOfForms(forms []impl.Maniplex) string {
	least, greatest := len(forms[0].Moves[0]), len(forms[len(forms)-1].Moves[0])
	switch {
	case len(forms) == 1:
		return "one form"
	case least == greatest:
		return "several forms with the same number of flags"
	case !slices.IsSortedFunc(forms, compareMoves):
		return "forms of which smaller ones have more flags"
	}
	return "several forms"
}

func TestSectionFormsAndKinds(t *testing.T) {
	seen := map[string]int{}
	for _, m := range append(sectionSamples(), disordered()...) {
		for _, ranks := range rankPairs(m) {
			leasts := leastSections(m, ranks[0], ranks[1])
			want := distinct(leasts)
			forms, code := impl.SectionForms(m, ranks[0], ranks[1])
			expectForms(t, "SectionForms", forms, code, want, impl.ErrNone)
			kinds, code := impl.SectionKinds(m, ranks[0], ranks[1])
			expectList(t, "SectionKinds", kinds, code, kindsIn(want, leasts), impl.ErrNone)
			seen[kindOfForms(want)]++
			if ranks[0] > 0 && ranks[1] < int64(len(m.Moves)-1) {
				seen["between others: "+kindOfForms(want)]++
			}
		}
	}
	for _, kind := range []string{"one form", "several forms with the same number of flags", "forms of which smaller ones have more flags", "several forms", "between others: several forms with the same number of flags", "between others: several forms"} {
		if seen[kind] < 3 {
			t.Errorf("the samples show too little: %v", seen)
		}
	}
}

// disordered returns maniplexes of rank 4 with facets of two kinds, of which those with fewer flags have
// the greater least form.
func disordered() []impl.Maniplex {
	var found []impl.Maniplex
	for seed := range int64(60) {
		few, many := scattered(3, seed), scattered(4, seed)
		m := glued(seed, few, few, many, many)
		if len(m.Moves) > 0 && compareMoves(leastFormBySorting(few), leastFormBySorting(many)) > 0 {
			found = append(found, m)
		}
	}
	return found
}

func TestSectionFormsOfGreatManiplexes(t *testing.T) {
	for _, m := range append(greatManiplexes(), beside(prism(5), polygon(3)), beside(edge, beside(prism(7), edge))) {
		for _, ranks := range rankPairs(m) {
			forms, code := impl.SectionForms(m, ranks[0], ranks[1])
			if code != impl.ErrNone || !slices.IsSortedFunc(forms, compareFlagsAndMoves) || len(distinct(forms)) != len(forms) {
				t.Errorf("SectionForms of %v and %v = %v, %d", m, ranks, forms, code)
			}
			expectKinds(t, m, ranks, forms)
		}
	}
}

// expectKinds fails the test if not each flag has the kind of the least form of its section, or if some
// form is not that of a section.
func expectKinds(t *testing.T, m impl.Maniplex, ranks [2]int64, forms []impl.Maniplex) {
	t.Helper()
	kinds, code := impl.SectionKinds(m, ranks[0], ranks[1])
	if code != impl.ErrNone || len(kinds) != len(m.Moves[0]) {
		t.Fatalf("SectionKinds of %v and %v = %v, %d", m, ranks, kinds, code)
	}
	used := make([]bool, len(forms))
	for flag, kind := range kinds {
		if kind < 0 || kind >= int64(len(forms)) {
			t.Fatalf("the kind of the flag %d of %v is %d", flag, m, kind)
		}
		first := slices.Index(kinds, kind)
		if used[kind] && flag > first && flag%9 > 0 { // least forms of great sections take their time
			continue
		}
		used[kind] = true
		section, _ := impl.SectionAt(m, int64(flag), ranks[0], ranks[1])
		least, code := impl.LeastForm(section)
		expectManiplex(t, "the form of the kind of a flag", forms[kind], code, least, impl.ErrNone)
	}
	if slices.Contains(used, false) {
		t.Errorf("no flag of %v has one of the kinds of the ranks %v", m, ranks)
	}
}

func TestEachFlagHasTheKindOfItsSection(t *testing.T) {
	for _, m := range append(sectionSamples(), disordered()...) {
		for _, ranks := range rankPairs(m) {
			forms, code := impl.SectionForms(m, ranks[0], ranks[1])
			if code != impl.ErrNone || len(distinct(forms)) != len(forms) {
				t.Fatalf("SectionForms of %v and %v = %v, %d", m, ranks, forms, code)
			}
			expectKinds(t, m, ranks, forms)
		}
	}
}

func TestSectionFormsDoNotDependOnTheNumbersOfTheFlags(t *testing.T) {
	for i, m := range append(sectionSamples(), disordered()...) {
		p := shuffled(len(m.Moves[0]), int64(i))
		other := renumber(m, p)
		for _, ranks := range rankPairs(m) {
			want, wantCode := impl.SectionForms(m, ranks[0], ranks[1])
			got, code := impl.SectionForms(other, ranks[0], ranks[1])
			expectForms(t, "SectionForms", got, code, want, wantCode)
			kinds, wantCode := impl.SectionKinds(m, ranks[0], ranks[1])
			gotKinds, code := impl.SectionKinds(other, ranks[0], ranks[1])
			moved := make([]int64, len(kinds))
			for flag, kind := range kinds {
				moved[p[flag]] = kind
			}
			expectList(t, "SectionKinds", gotKinds, code, moved, wantCode)
		}
	}
}

func TestSectionFormsErrors(t *testing.T) {
	for _, m := range []impl.Maniplex{edge, triangle, cell, simplex(4), cubes(5), polygon(200)} {
		for _, ranks := range noRankPairs(m) {
			forms, code := impl.SectionForms(m, ranks[0], ranks[1])
			expectForms(t, "no ranks in order", forms, code, nil, impl.ErrRange)
			kinds, code := impl.SectionKinds(m, ranks[0], ranks[1])
			expectList(t, "no ranks in order", kinds, code, nil, impl.ErrRange)
		}
	}
	for what, m := range brokenManiplexes() {
		for _, ranks := range [][2]int64{{0, 0}, {0, 1}, {1, 0}, {-1, 0}, {0, 9}, {math.MinInt64, math.MaxInt64}} {
			forms, code := impl.SectionForms(m, ranks[0], ranks[1])
			expectForms(t, what, forms, code, nil, impl.ErrInvalid)
			kinds, code := impl.SectionKinds(m, ranks[0], ranks[1])
			expectList(t, what, kinds, code, nil, impl.ErrInvalid)
		}
	}
}

func TestEqualFacetsAndVertexFiguresExamples(t *testing.T) {
	cases := []struct {
		what            string
		m               impl.Maniplex
		facets, figures bool
	}{
		{"the triangle", triangle, true, true},
		{"the cell", cell, true, true},
		{"a polygon with one side", polygon(1), true, true},
		{"a polygon with 200 sides", polygon(200), true, true},
		{"the map with one vertex and one face", plane, true, true},
		{"a cube", prism(4), true, true},
		{"a prism", prism(3), false, true},
		{"a bipyramid", flipped(prism(3)), true, false},
		{"a path of two edges", path, true, false},
		{"a torus and a bottle", alike(), false, true},
		{"a torus and a bottle, flipped", flipped(alike()), true, false},
		{"facets that are a prism", beside(prism(3), edge), true, true},
		{"vertex figures that are a prism", beside(edge, prism(3)), false, true},
		{"the greatest rank", beside(cubes(3), polygon(25)), true, true},
		{"the greatest rank with a prism", beside(edge, beside(prism(3), edge)), true, true},
		{"the greatest rank and facets of two kinds", beside(edge, alike()), false, true},
		{"the greatest rank and vertex figures of two kinds", beside(flipped(alike()), edge), true, false},
	}
	for _, c := range cases {
		got, code := impl.HasEqualFacets(c.m)
		expect(t, "HasEqualFacets: "+c.what, got, code, c.facets, impl.ErrNone)
		got, code = impl.HasEqualVertexFigures(c.m)
		expect(t, "HasEqualVertexFigures: "+c.what, got, code, c.figures, impl.ErrNone)
	}
}

func TestEqualFacetsAndVertexFigures(t *testing.T) {
	seen := map[[2]bool]int{}
	for _, m := range append(sectionSamples(), disordered()...) {
		n := int64(len(m.Moves))
		if n == 1 {
			continue
		}
		facets := len(distinct(leastSections(m, 0, n-2))) == 1
		figures := len(distinct(leastSections(m, 1, n-1))) == 1
		got, code := impl.HasEqualFacets(m)
		expect(t, "HasEqualFacets", got, code, facets, impl.ErrNone)
		got, code = impl.HasEqualVertexFigures(m)
		expect(t, "HasEqualVertexFigures", got, code, figures, impl.ErrNone)
		seen[[2]bool{facets, figures}]++
	}
	if len(seen) != 4 {
		t.Errorf("the samples show too little: %v", seen)
	}
}

func TestEqualFacetsAndVertexFiguresErrors(t *testing.T) {
	for _, function := range []func(impl.Maniplex) (bool, int64){impl.HasEqualFacets, impl.HasEqualVertexFigures} {
		got, code := function(edge)
		expect(t, "rank 1", got, code, false, impl.ErrState)
		for what, m := range brokenManiplexes() {
			got, code := function(m)
			expect(t, what, got, code, false, impl.ErrInvalid)
		}
	}
}

func TestIsLocallySphericalExamples(t *testing.T) {
	torus := grid(2, 2, false)
	cases := []struct {
		what string
		m    impl.Maniplex
		want bool
	}{
		{"the cell", cell, true},
		{"rank 3 that is no sphere", plane, true},
		{"a torus of rank 3", torus, true},
		{"a bottle of rank 3 with 400 flags", grid(10, 5, true), true},
		{"a simplex", simplex(4), true},
		{"two squares, half turned", halfTurned(), true},
		{"six cubes in a torus", crossed(), true},
		{"planes as facets", beside(plane, edge), false},
		{"planes as vertex figures", beside(edge, plane), false},
		{"tori as facets", beside(torus, edge), false},
		{"tori as vertex figures", beside(edge, torus), false},
		{"planes at the first ranks", beside(plane, polygon(3)), false},
		{"planes at the ranks between", beside(edge, beside(plane, edge)), false},
		{"planes at the last ranks", beside(polygon(3), plane), false},
		{"the greatest rank", cubes(5), true},
		{"the greatest rank and 400 flags", beside(cubes(3), polygon(25)), true},
		{"a prism at the first ranks", beside(prism(3), polygon(3)), true},
		{"a cube with caps, of which some are spheres", capped(), false},
		{"a torus and a bottle", alike(), false},
	}
	for _, c := range cases {
		got, code := impl.IsLocallySpherical(c.m)
		expect(t, "IsLocallySpherical: "+c.what, got, code, c.want, impl.ErrNone)
	}
}

// haveEuler reports whether the sections from i to i + 2 at all flags have an Euler characteristic.
func haveEuler(m impl.Maniplex, i int64, euler int64) bool {
	for flag := range int64(len(m.Moves[0])) {
		section := sectionByRestricting(m, flag, i, i+2)
		sum := int64(0)
		for rank := range section.Moves {
			sum += (slices.Max(labelsWithout(section.Moves, rank)) + 1) * int64(1-2*(rank%2))
		}
		if sum != euler {
			return false
		}
	}
	return true
}

// areSpheres reports whether the sections of rank 3 of a maniplex of rank 4 or 5 are spheres.
func areSpheres(m impl.Maniplex) bool {
	for i := range int64(len(m.Moves) - 2) {
		if !haveEuler(m, i, 2) {
			return false
		}
	}
	return true
}

func TestIsLocallySpherical(t *testing.T) {
	seen := map[bool]int{}
	for _, m := range append(sectionSamples(), disordered()...) {
		n := len(m.Moves)
		if n < 3 {
			continue
		}
		want := n == 3 || areSpheres(m)
		got, code := impl.IsLocallySpherical(m)
		expect(t, "IsLocallySpherical", got, code, want, impl.ErrNone)
		if n > 3 {
			seen[want]++
		}
	}
	if seen[true] < 10 || seen[false] < 10 {
		t.Errorf("the samples show too little: %v", seen)
	}
}

func TestOneSectionThatIsNoSphere(t *testing.T) {
	alone := 0
	for _, a := range squareMaps() {
		for _, b := range squareMaps() {
			m := layered(a, b)
			want := areSpheres(m)
			got, code := impl.IsLocallySpherical(m)
			expect(t, "two facets", got, code, want, impl.ErrNone)
			got, code = impl.IsLocallySpherical(flipped(m))
			expect(t, "two vertex figures", got, code, want, impl.ErrNone)
			first, _ := impl.EulerCharacteristic(a)
			second, _ := impl.EulerCharacteristic(b)
			if first == 2 && second != 2 && haveEuler(m, 1, 2) {
				alone++
			}
		}
	}
	if alone < 2 {
		t.Errorf("in %d samples one facet alone is no sphere", alone)
	}
}

func TestIsLocallySphericalErrors(t *testing.T) {
	for _, m := range []impl.Maniplex{edge, triangle, polygon(1), polygon(200), cubes(2)} {
		got, code := impl.IsLocallySpherical(m)
		expect(t, "a rank less than 3", got, code, false, impl.ErrState)
	}
	for what, m := range brokenManiplexes() {
		got, code := impl.IsLocallySpherical(m)
		expect(t, what, got, code, false, impl.ErrInvalid)
	}
}

func TestSmallestPolygons(t *testing.T) {
	cases := []struct {
		m    impl.Maniplex
		want []int64
	}{
		{edge, nil},
		{triangle, []int64{3}},
		{polygon(1), []int64{1}},
		{polygon(200), []int64{200}},
		{cell, []int64{2, 2}},
		{plane, []int64{2, 2}},
		{prism(3), []int64{3, 3}},
		{prism(5), []int64{4, 3}},
		{flipped(prism(5)), []int64{3, 4}},
		{simplex(4), []int64{3, 3, 3}},
		{grid(5, 10, false), []int64{4, 4}},
		{beside(prism(5), polygon(3)), []int64{4, 3, 2, 3}},
		{impl.Maniplex{Moves: [][]int64{{1, 0, 3, 2, 5, 4, 7, 6}, {1, 0, 4, 5, 2, 3, 7, 6}, {2, 3, 0, 1, 6, 7, 4, 5}}}, []int64{1, 4}},
	}
	for _, c := range cases {
		got, code := impl.SmallestPolygons(c.m)
		expectList(t, "SmallestPolygons", got, code, c.want, impl.ErrNone)
	}
	several := 0
	for _, m := range sectionSamples() {
		var want []int64
		sizes := typeByCounting(m)
		for _, some := range sizes {
			want = append(want, slices.Min(some))
			several += len(some) - 1
		}
		got, code := impl.SmallestPolygons(m)
		expectList(t, "SmallestPolygons", got, code, want, impl.ErrNone)
	}
	for _, m := range greatManiplexes() {
		var want []int64
		sizes, wantCode := impl.TypeOf(m)
		for _, some := range sizes {
			want = append(want, some[0])
		}
		got, code := impl.SmallestPolygons(m)
		expectList(t, "SmallestPolygons", got, code, want, wantCode)
	}
	if several < 20 {
		t.Errorf("only %d polygons have other sizes than the smallest ones", several)
	}
	for what, m := range brokenManiplexes() {
		got, code := impl.SmallestPolygons(m)
		expectList(t, what, got, code, nil, impl.ErrInvalid)
	}
}
