package tests

import (
	"slices"
	"strconv"
	"testing"

	"loop.example/g01108/impl"
)

// expectManiplex fails the test if a maniplex or a code is not the wanted one. Beside an error the
// wanted maniplex has no moves.
func expectManiplex(t *testing.T, what string, got impl.Maniplex, code int64, want impl.Maniplex, wantCode int64) {
	t.Helper()
	expectLists(t, what, got.Moves, code, want.Moves, wantCode)
}

// compareMoves compares the moves of two maniplexes list by list.
func compareMoves(a impl.Maniplex, b impl.Maniplex) int {
	return slices.CompareFunc(a.Moves, b.Moves, slices.Compare[[]int64])
}

// formByNumbering returns the form from a flag: the numbers are given one after the other.
func formByNumbering(m impl.Maniplex, flag int64) impl.Maniplex {
	numbers := slices.Repeat([]int64{-1}, len(m.Moves[0]))
	numbers[flag] = 0
	next := int64(1)
	for number := range int64(len(numbers)) {
		at := slices.Index(numbers, number)
		for _, move := range m.Moves {
			if numbers[move[at]] < 0 {
				numbers[move[at]] = next
				next++
			}
		}
	}
	return renumber(m, numbers)
}

// leastFormBySorting returns the least form.
func leastFormBySorting(m impl.Maniplex) impl.Maniplex {
	var forms []impl.Maniplex
	for flag := range int64(len(m.Moves[0])) {
		forms = append(forms, formByNumbering(m, flag))
	}
	return slices.MinFunc(forms, compareMoves)
}

func TestFormFrom(t *testing.T) {
	want := impl.Maniplex{Moves: [][]int64{{1, 0, 4, 5, 2, 3}, {2, 3, 0, 1, 5, 4}}}
	for flag := range int64(6) {
		got, code := impl.FormFrom(triangle, flag)
		expectManiplex(t, "the triangle", got, code, want, impl.ErrNone)
	}
	got, code := impl.FormFrom(edge, 1)
	expectManiplex(t, "the edge", got, code, edge, impl.ErrNone)
	got, code = impl.FormFrom(cell, 5)
	expectManiplex(t, "the cell", got, code, impl.Maniplex{Moves: [][]int64{{1, 0, 4, 5, 2, 3, 7, 6}, {2, 4, 0, 6, 1, 7, 3, 5}, {3, 5, 6, 0, 7, 1, 2, 4}}}, impl.ErrNone)
	for _, m := range smallManiplexes() {
		for flag := range int64(len(m.Moves[0])) {
			got, code := impl.FormFrom(m, flag)
			expectManiplex(t, "FormFrom", got, code, formByNumbering(m, flag), impl.ErrNone)
		}
	}
	for _, m := range greatManiplexes() {
		flag := int64(len(m.Moves[0]) - 1)
		got, code := impl.FormFrom(m, flag)
		expectManiplex(t, "FormFrom", got, code, formByNumbering(m, flag), impl.ErrNone)
	}
}

func TestFormFromErrors(t *testing.T) {
	for _, m := range []impl.Maniplex{edge, triangle, polygon(200)} {
		for _, flag := range noFlags(m) {
			got, code := impl.FormFrom(m, flag)
			expectManiplex(t, "no flag", got, code, impl.Maniplex{}, impl.ErrRange)
		}
	}
	for what, m := range brokenManiplexes() {
		for _, flag := range []int64{0, -1, 500} {
			got, code := impl.FormFrom(m, flag)
			expectManiplex(t, what, got, code, impl.Maniplex{}, impl.ErrInvalid)
		}
		got, code := impl.LeastForm(m)
		expectManiplex(t, what, got, code, impl.Maniplex{}, impl.ErrInvalid)
	}
}

func TestLeastForm(t *testing.T) {
	got, code := impl.LeastForm(triangle)
	expectManiplex(t, "the triangle", got, code, impl.Maniplex{Moves: [][]int64{{1, 0, 4, 5, 2, 3}, {2, 3, 0, 1, 5, 4}}}, impl.ErrNone)
	got, code = impl.LeastForm(edge)
	expectManiplex(t, "the edge", got, code, edge, impl.ErrNone)
	got, code = impl.LeastForm(polygon(1))
	expectManiplex(t, "the polygon with one side", got, code, polygon(1), impl.ErrNone)
	places := map[bool]int{}
	for _, m := range smallManiplexes() {
		want := leastFormBySorting(m)
		got, code := impl.LeastForm(m)
		expectManiplex(t, "LeastForm", got, code, want, impl.ErrNone)
		places[compareMoves(formByNumbering(m, 0), want) == 0]++
	}
	if places[false] < 20 {
		t.Errorf("the form from the flag 0 is too often the least one: %v", places)
	}
	for _, m := range greatManiplexes() {
		got, code := impl.LeastForm(renumber(m, shuffled(len(m.Moves[0]), 5)))
		want, wantCode := impl.LeastForm(m)
		expectManiplex(t, "LeastForm", got, code, want, wantCode)
		if code != impl.ErrNone || !isManiplex(got) {
			t.Errorf("the least form is %v, %d", got, code)
		}
	}
}

// facts returns what does not depend on the numbers of the flags.
func facts(t *testing.T, m impl.Maniplex) [][]int64 {
	t.Helper()
	counts, countsCode := impl.FaceCounts(m)
	euler, eulerCode := impl.EulerCharacteristic(m)
	sizes, sizesCode := impl.TypeOf(m)
	orientable, orientableCode := impl.IsOrientable(m)
	_, colouringCode := impl.ColouringOf(m)
	diameter, diameterCode := impl.DiameterOf(m)
	least, leastCode := impl.LeastForm(m)
	if (colouringCode == impl.ErrNone) != orientable {
		t.Errorf("ColouringOf and IsOrientable do not agree on %v", m)
	}
	codes := []int64{countsCode, eulerCode, sizesCode, orientableCode, diameterCode, leastCode}
	if slices.Max(codes) != impl.ErrNone {
		t.Errorf("the codes of %v are %v", m, codes)
	}
	return slices.Concat([][]int64{counts, {euler, diameter, colouringCode}}, sizes, least.Moves)
}

func TestRenumberingChangesNoFacts(t *testing.T) {
	for i, m := range append(smallManiplexes(), beside(cubes(3), polygon(12)), grid(4, 4, true), scattered(40, 8)) {
		want := facts(t, m)
		for seed := range int64(3) {
			p := shuffled(len(m.Moves[0]), int64(i)+1000*seed)
			other, code := impl.RenumberFlags(m, p)
			if code != impl.ErrNone {
				t.Fatalf("code %d", code)
			}
			if got := facts(t, other); !equalLists(got, want) {
				t.Errorf("the sample %d has the facts %v, but renumbered by %v %v", i, want, p, got)
			}
		}
	}
}

// smallest returns a name for the maniplexes to which renumbering the flags of one of them leads.
func smallest(m impl.Maniplex, renumberings [][]int64) string {
	var least impl.Maniplex
	for i, p := range renumberings {
		if other := renumber(m, p); i == 0 || compareMoves(other, least) < 0 {
			least = other
		}
	}
	return nameOf(least)
}

// nameOf returns a text of the moves.
func nameOf(m impl.Maniplex) string {
	name := ""
	for _, move := range m.Moves {
		for _, image := range move {
			name += strconv.FormatInt(image, 10) + " "
		}
		name += ";"
	}
	return name
}

func TestLeastFormsTellManiplexesApart(t *testing.T) {
	cases := []struct{ flags, rank, kinds int }{{2, 1, 1}, {2, 2, 1}, {4, 2, 1}, {6, 2, 1}, {4, 3, 3}, {4, 4, 4}, {4, 5, 3}}
	for _, c := range cases {
		renumberings := allPermutations(c.flags)
		involutions := freeInvolutions(c.flags)
		kinds, forms := map[string]string{}, map[string]string{}
		for _, word := range allWords(len(involutions), c.rank) {
			var m impl.Maniplex
			for _, i := range word {
				m.Moves = append(m.Moves, involutions[i])
			}
			if !isManiplex(m) {
				continue
			}
			least, code := impl.LeastForm(m)
			if code != impl.ErrNone {
				t.Fatalf("code %d", code)
			}
			kind, form := smallest(m, renumberings), nameOf(least)
			if before, ok := kinds[kind]; ok && before != form {
				t.Errorf("%v has another least form than one with other numbers", m)
			}
			if before, ok := forms[form]; ok && before != kind {
				t.Errorf("%v has the least form of one that is different", m)
			}
			kinds[kind], forms[form] = form, kind
		}
		if len(forms) != c.kinds {
			t.Errorf("there are %d least forms with %d flags of rank %d", len(forms), c.flags, c.rank)
		}
	}
}

func TestRenumberFlags(t *testing.T) {
	got, code := impl.RenumberFlags(triangle, []int64{5, 4, 3, 2, 1, 0})
	expectManiplex(t, "backwards", got, code, impl.Maniplex{Moves: [][]int64{{1, 0, 3, 2, 5, 4}, {5, 2, 1, 4, 3, 0}}}, impl.ErrNone)
	got, code = impl.RenumberFlags(triangle, []int64{1, 2, 0, 3, 4, 5})
	expectManiplex(t, "in a cycle", got, code, impl.Maniplex{Moves: [][]int64{{3, 2, 1, 0, 5, 4}, {2, 5, 0, 4, 3, 1}}}, impl.ErrNone)
	got, code = impl.RenumberFlags(edge, []int64{1, 0})
	expectManiplex(t, "the edge", got, code, edge, impl.ErrNone)
	for i, m := range sampleManiplexes() {
		flags := len(m.Moves[0])
		got, code := impl.RenumberFlags(m, identity(flags))
		expectManiplex(t, "the identity", got, code, m, impl.ErrNone)
		p := shuffled(flags, int64(i))
		got, code = impl.RenumberFlags(m, p)
		expectManiplex(t, "RenumberFlags", got, code, renumber(m, p), impl.ErrNone)
		for k, move := range m.Moves {
			for flag, image := range move {
				if len(got.Moves) <= k || got.Moves[k][p[flag]] != p[image] {
					t.Fatalf("the move %d from the flag %d became %v", k, flag, got)
				}
			}
		}
	}
}

func TestRenumberFlagsErrors(t *testing.T) {
	lists := append(brokenPermutations(), nil, []int64{0, 1}, identity(5), identity(7), identity(400), []int64{0, 1, 2, 3, 4, 4}, []int64{0, 1, 2, 3, 4, 6}, []int64{0, 1, 2, 3, 4, -1}, []int64{1, 2, 3, 4, 5, 6})
	for _, p := range lists {
		got, code := impl.RenumberFlags(triangle, p)
		expectManiplex(t, "no permutation of the flags", got, code, impl.Maniplex{}, impl.ErrRange)
	}
	got, code := impl.RenumberFlags(polygon(200), identity(399))
	expectManiplex(t, "a flag too few", got, code, impl.Maniplex{}, impl.ErrRange)
	got, code = impl.RenumberFlags(polygon(200), identity(401))
	expectManiplex(t, "a flag too many", got, code, impl.Maniplex{}, impl.ErrRange)
	for what, m := range brokenManiplexes() {
		for _, p := range [][]int64{nil, {0, 0}, {1, 0}, identity(4)} {
			got, code := impl.RenumberFlags(m, p)
			expectManiplex(t, what, got, code, impl.Maniplex{}, impl.ErrInvalid)
		}
	}
}
