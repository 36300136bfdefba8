package tests

import (
	"math"
	"slices"
	"testing"

	"loop.example/g01108/impl"
)

func TestLimitsOfManiplexes(t *testing.T) {
	if impl.MaxRank != 5 || impl.MaxFlags != 400 {
		t.Errorf("the limits are %d and %d", impl.MaxRank, impl.MaxFlags)
	}
}

func TestIsManiplex(t *testing.T) {
	for i, m := range sampleManiplexes() {
		if !impl.IsManiplex(m) {
			t.Errorf("the sample %d, %v, is a maniplex", i, m)
		}
	}
	for what, m := range brokenManiplexes() {
		if impl.IsManiplex(m) {
			t.Errorf("%s: %v is no maniplex", what, m)
		}
	}
}

// allWords returns the lists with so many of the numbers 0..n - 1 in lexicographic order.
func allWords(n int, length int) [][]int64 {
	words := [][]int64{{}}
	for range length {
		var longer [][]int64
		for _, word := range words {
			for number := range int64(n) {
				longer = append(longer, append(slices.Clone(word), number))
			}
		}
		words = longer
	}
	return words
}

// expectIsManiplex fails the test if IsManiplex does not tell what the definition says.
func expectIsManiplex(t *testing.T, moves ...[]int64) {
	t.Helper()
	m := impl.Maniplex{Moves: moves}
	if got, want := impl.IsManiplex(m), isManiplex(m); got != want {
		t.Errorf("IsManiplex(%v) = %v", m, got)
	}
}

func TestIsManiplexOfAllShortLists(t *testing.T) {
	for n := range 5 {
		for _, first := range allWords(n, n) {
			expectIsManiplex(t, first)
			for _, second := range allWords(n, n) {
				expectIsManiplex(t, first, second)
			}
		}
	}
	for n := range 5 {
		for _, first := range allPermutations(n) {
			for _, second := range allPermutations(n) {
				for _, third := range allPermutations(n) {
					expectIsManiplex(t, first, second, third)
				}
			}
		}
	}
}

// freeInvolutions returns the free involutions of n points in lexicographic order.
func freeInvolutions(n int) [][]int64 {
	return slices.DeleteFunc(allPermutations(n), func(p []int64) bool { return !impl.IsFreeInvolution(p) })
}

func TestIsManiplexOfAllFreeInvolutions(t *testing.T) {
	six := freeInvolutions(6)
	for _, first := range six {
		for _, second := range six {
			for _, third := range six {
				expectIsManiplex(t, first, second, third)
			}
		}
	}
	four := freeInvolutions(4)
	for _, first := range four {
		for _, second := range four {
			for _, third := range four {
				for _, fourth := range four {
					expectIsManiplex(t, first, second, third, fourth)
				}
			}
		}
	}
	eight := freeInvolutions(8)
	for i, first := range eight {
		for k, second := range eight {
			expectIsManiplex(t, cell.Moves[0], second, first)
			expectIsManiplex(t, first, eight[(7*i+k)%len(eight)], second)
			expectIsManiplex(t, cell.Moves[0], cell.Moves[1], cell.Moves[2], first, second)
			expectIsManiplex(t, first, cell.Moves[0], second, cell.Moves[1])
		}
	}
}

func TestIsManiplexOfOneChange(t *testing.T) {
	for _, m := range []impl.Maniplex{edge, triangle, cell, plane, simplex(3), cubes(5), beside(plane, plane)} {
		for i, move := range m.Moves {
			for flag := range move {
				for _, image := range []int64{-1, 0, 1, int64(flag), int64(len(move) - 1), int64(len(move)), math.MaxInt64, math.MinInt64} {
					moves := cloneLists(m.Moves)
					moves[i][flag] = image
					expectIsManiplex(t, moves...)
				}
			}
			moves := cloneLists(m.Moves)
			moves[i] = moves[i][1:]
			expectIsManiplex(t, moves...)
			expectIsManiplex(t, append(cloneLists(m.Moves), move)...)
		}
	}
}

func TestFaceLabels(t *testing.T) {
	cases := []struct {
		m    impl.Maniplex
		rank int64
		want []int64
	}{
		{triangle, 0, []int64{0, 1, 1, 2, 2, 0}},
		{triangle, 1, []int64{0, 0, 1, 1, 2, 2}},
		{edge, 0, []int64{0, 1}},
		{cell, 0, []int64{0, 1, 0, 1, 0, 1, 0, 1}},
		{cell, 1, []int64{0, 0, 1, 1, 0, 0, 1, 1}},
		{cell, 2, []int64{0, 0, 0, 0, 1, 1, 1, 1}},
		{plane, 0, []int64{0, 0, 0, 0}},
		{polygon(1), 1, []int64{0, 0}},
	}
	for _, c := range cases {
		got, code := impl.FaceLabels(c.m, c.rank)
		expectList(t, "FaceLabels", got, code, c.want, impl.ErrNone)
	}
	for _, m := range sampleManiplexes() {
		for i := range m.Moves {
			got, code := impl.FaceLabels(m, int64(i))
			expectList(t, "FaceLabels", got, code, labelsWithout(m.Moves, i), impl.ErrNone)
		}
		rank := int64(len(m.Moves))
		for _, i := range []int64{-1, rank, rank + 1, 1 << 32, math.MinInt64, math.MaxInt64} {
			got, code := impl.FaceLabels(m, i)
			expectList(t, "no rank", got, code, nil, impl.ErrRange)
		}
	}
	for what, m := range brokenManiplexes() {
		for _, i := range []int64{-1, 0, 5} {
			got, code := impl.FaceLabels(m, i)
			expectList(t, what, got, code, nil, impl.ErrInvalid)
		}
	}
}

func TestFaceCounts(t *testing.T) {
	cases := []struct {
		m     impl.Maniplex
		want  []int64
		euler int64
	}{
		{edge, []int64{2}, 2},
		{triangle, []int64{3, 3}, 0},
		{cell, []int64{2, 2, 2}, 2},
		{plane, []int64{1, 1, 1}, 1},
		{polygon(1), []int64{1, 1}, 0},
		{polygon(200), []int64{200, 200}, 0},
		{simplex(3), []int64{4, 6, 4}, 2},
		{simplex(4), []int64{5, 10, 10, 5}, 0},
		{grid(5, 10, false), []int64{50, 100, 50}, 0},
		{grid(1, 1, true), []int64{1, 2, 1}, 0},
		{beside(edge, plane), []int64{2, 1, 1, 1}, 1},
		{beside(plane, edge), []int64{1, 1, 1, 2}, -1},
		{beside(cubes(3), polygon(25)), []int64{2, 2, 2, 25, 25}, 2},
	}
	for _, c := range cases {
		got, code := impl.FaceCounts(c.m)
		expectList(t, "FaceCounts", got, code, c.want, impl.ErrNone)
		euler, code := impl.EulerCharacteristic(c.m)
		expect(t, "EulerCharacteristic", euler, code, c.euler, impl.ErrNone)
	}
	for _, m := range sampleManiplexes() {
		var want []int64
		euler := int64(0)
		for i := range m.Moves {
			count := slices.Max(labelsWithout(m.Moves, i)) + 1
			want = append(want, count)
			euler += count * int64(1-2*(i%2))
		}
		got, code := impl.FaceCounts(m)
		expectList(t, "FaceCounts", got, code, want, impl.ErrNone)
		got2, code := impl.EulerCharacteristic(m)
		expect(t, "EulerCharacteristic", got2, code, euler, impl.ErrNone)
	}
	for what, m := range brokenManiplexes() {
		got, code := impl.FaceCounts(m)
		expectList(t, what, got, code, nil, impl.ErrInvalid)
		euler, code := impl.EulerCharacteristic(m)
		expect(t, what, euler, code, 0, impl.ErrInvalid)
	}
}

// typeByCounting returns the type: for each i half of the numbers of flags of the orbits of the
// moves i and i + 1.
func typeByCounting(m impl.Maniplex) [][]int64 {
	var sizes [][]int64
	for i := range len(m.Moves) - 1 {
		labels := orbitsByMerging(int64(len(m.Moves[0])), m.Moves[i:i+2])
		some := []int64{}
		for flags := range len(labels) + 1 {
			for label := range labels {
				same := func(other int64) bool { return other != int64(label) }
				if flags > 0 && len(slices.DeleteFunc(slices.Clone(labels), same)) == flags {
					some = append(some, int64(flags/2))
					break
				}
			}
		}
		sizes = append(sizes, some)
	}
	return sizes
}

func TestTypeOf(t *testing.T) {
	bent := impl.Maniplex{Moves: [][]int64{{1, 0, 3, 2, 5, 4, 7, 6}, {1, 0, 4, 5, 2, 3, 7, 6}, {2, 3, 0, 1, 6, 7, 4, 5}}}
	cases := []struct {
		m    impl.Maniplex
		want [][]int64
	}{
		{edge, nil},
		{triangle, [][]int64{{3}}},
		{cell, [][]int64{{2}, {2}}},
		{plane, [][]int64{{2}, {2}}},
		{polygon(1), [][]int64{{1}}},
		{polygon(200), [][]int64{{200}}},
		{simplex(4), [][]int64{{3}, {3}, {3}}},
		{grid(2, 3, true), [][]int64{{4}, {4}}},
		{beside(simplex(3), polygon(8)), [][]int64{{3}, {3}, {2}, {8}}},
		{bent, [][]int64{{1, 2}, {4}}},
	}
	for _, c := range cases {
		got, code := impl.TypeOf(c.m)
		expectLists(t, "TypeOf", got, code, c.want, impl.ErrNone)
	}
	for _, m := range smallManiplexes() {
		got, code := impl.TypeOf(m)
		expectLists(t, "TypeOf", got, code, typeByCounting(m), impl.ErrNone)
	}
	for what, m := range brokenManiplexes() {
		got, code := impl.TypeOf(m)
		expectLists(t, what, got, code, nil, impl.ErrInvalid)
	}
}

func TestPolygonsOfManySizes(t *testing.T) {
	m := scattered(100, 3)
	got, code := impl.TypeOf(m)
	expectLists(t, "TypeOf", got, code, typeByCounting(m), impl.ErrNone)
	if len(got) != 2 || len(got[0]) < 3 || len(got[1]) < 3 {
		t.Errorf("the polygons have the sizes %v", got)
	}
}

// coloursByTrying returns the colours of the flags, or nil if there are none: each flag gets the one
// that some move demands, and then all moves are looked at.
func coloursByTrying(m impl.Maniplex) []int64 {
	colours := slices.Repeat([]int64{-1}, len(m.Moves[0]))
	colours[0] = 0
	for slices.Contains(colours, -1) {
		for _, move := range m.Moves {
			for flag, image := range move {
				if colours[flag] >= 0 && colours[image] < 0 {
					colours[image] = 1 - colours[flag]
				}
			}
		}
	}
	for _, move := range m.Moves {
		for flag, image := range move {
			if colours[flag]+colours[image] != 1 {
				return nil
			}
		}
	}
	return colours
}

func TestColouringOf(t *testing.T) {
	got, code := impl.ColouringOf(triangle)
	expectList(t, "the triangle", got, code, []int64{0, 1, 0, 1, 0, 1}, impl.ErrNone)
	got, code = impl.ColouringOf(edge)
	expectList(t, "the edge", got, code, []int64{0, 1}, impl.ErrNone)
	got, code = impl.ColouringOf(cell)
	expectList(t, "the cell", got, code, []int64{0, 1, 1, 0, 1, 0, 0, 1}, impl.ErrNone)
	got, code = impl.ColouringOf(plane)
	expectList(t, "the plane", got, code, nil, impl.ErrState)
	ways := map[bool]int{}
	for _, m := range sampleManiplexes() {
		want, wantCode := coloursByTrying(m), int64(impl.ErrNone)
		if want == nil {
			wantCode = impl.ErrState
		}
		ways[want == nil]++
		got, code := impl.ColouringOf(m)
		expectList(t, "ColouringOf", got, code, want, wantCode)
		orientable, code := impl.IsOrientable(m)
		expect(t, "IsOrientable", orientable, code, want != nil, impl.ErrNone)
	}
	if ways[true] < 20 || ways[false] < 20 {
		t.Errorf("the samples are too much alike: %v", ways)
	}
	for what, m := range brokenManiplexes() {
		got, code := impl.ColouringOf(m)
		expectList(t, what, got, code, nil, impl.ErrInvalid)
		orientable, code := impl.IsOrientable(m)
		expect(t, what, orientable, code, false, impl.ErrInvalid)
	}
}

func TestOrientableSurfaces(t *testing.T) {
	for a := 1; a <= 3; a++ {
		for b := 1; b <= 3; b++ {
			orientable, code := impl.IsOrientable(grid(a, b, false))
			expect(t, "a torus", orientable, code, true, impl.ErrNone)
			orientable, code = impl.IsOrientable(grid(a, b, true))
			expect(t, "a bottle", orientable, code, false, impl.ErrNone)
		}
	}
}
