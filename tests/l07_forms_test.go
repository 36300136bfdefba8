package tests

import (
	"slices"
	"testing"

	"loop.example/g01108/impl"
)

func TestQuotientFormsExamples(t *testing.T) {
	triangleForm := leastFormBySorting(triangle)
	// The quotients of the cell are told by the bits that its automorphisms change: 0, 3, 6 and 7.
	ofCell := []impl.Maniplex{leastFormBySorting(shifts(4, 1, 1, 2)), leastFormBySorting(shifts(4, 1, 2, 2)), leastFormBySorting(plane), leastFormBySorting(cell)}
	slices.SortFunc(ofCell, compareFlagsAndMoves)
	var ofHexagon []impl.Maniplex
	for _, sides := range []int{1, 2, 3, 6} {
		ofHexagon = append(ofHexagon, leastFormBySorting(polygon(sides)))
	}
	for _, c := range []struct {
		what string
		m    impl.Maniplex
		want []impl.Maniplex
	}{
		{"the edge", edge, []impl.Maniplex{edge}},
		{"a 1-gon", oneGon, []impl.Maniplex{oneGon}},
		{"the triangle", triangle, []impl.Maniplex{oneGon, triangleForm}},
		{"the hexagon", hexagon, ofHexagon},
		{"the cell", cell, ofCell},
		{"the plane", plane, []impl.Maniplex{leastFormBySorting(plane)}},
		{"no symmetries", similar, []impl.Maniplex{leastFormBySorting(similar)}},
		{"no symmetries and 400 flags", scattered(100, 3), []impl.Maniplex{leastFormBySorting(scattered(100, 3))}},
	} {
		got, code := impl.QuotientForms(c.m)
		expectForms(t, c.what, got, code, c.want, impl.ErrNone)
	}
	forms, code := impl.QuotientForms(prism(4))
	half := leastFormBySorting(hemicube())
	if code != impl.ErrNone || !slices.ContainsFunc(forms, func(form impl.Maniplex) bool { return compareMoves(form, half) == 0 }) {
		t.Errorf("half of the cube is not among %v", forms)
	}
}

func TestQuotientFormsOfPolygons(t *testing.T) {
	for _, sides := range []int{1, 2, 12, 17, 30, 64, 97, 200} {
		var want []impl.Maniplex
		for divisor := 1; divisor <= sides; divisor++ {
			if sides%divisor == 0 {
				want = append(want, leastFormBySorting(polygon(divisor)))
			}
		}
		got, code := impl.QuotientForms(polygon(sides))
		expectForms(t, "a polygon", got, code, want, impl.ErrNone)
	}
}

// quotientFormsByMerging returns the least forms of the quotients by one automorphism that are maniplexes,
// each once and in order.
func quotientFormsByMerging(s symmetric) []impl.Maniplex {
	var forms []impl.Maniplex
	known := map[string]bool{}
	for _, automorphism := range s.automorphisms {
		k := quotientByMerging(s.Maniplex, [][]int64{automorphism})
		// Automorphisms with equal orbits have one quotient, and there are many of them.
		if isManiplex(k) && !known[nameOf(k)] {
			known[nameOf(k)] = true
			forms = append(forms, leastFormBySorting(k))
		}
	}
	return distinct(forms)
}

func TestQuotientForms(t *testing.T) {
	numbers := map[int]int{}
	for i, s := range symmetrics() {
		if len(s.Moves[0]) > 60 && i%9 > 0 || len(s.Moves[0]) > 240 {
			continue
		}
		want := quotientFormsByMerging(s)
		numbers[len(want)]++
		got, code := impl.QuotientForms(s.Maniplex)
		expectForms(t, "QuotientForms", got, code, want, impl.ErrNone)
	}
	for _, number := range []int{1, 2, 3, 4, 6, 8, 10} {
		if numbers[number] == 0 {
			t.Errorf("no sample has %d quotients: %v", number, numbers)
		}
	}
}

func TestQuotientFormsAreEachOnceAndInOrder(t *testing.T) {
	alike := 0
	for i, s := range symmetrics() {
		if i%3 > 0 {
			continue
		}
		forms, code := impl.QuotientForms(s.Maniplex)
		if code != impl.ErrNone || len(forms) == 0 {
			t.Fatalf("QuotientForms of %v is %v, %d", s.Maniplex, forms, code)
		}
		for n, form := range forms {
			least, code := impl.LeastForm(form)
			expectManiplex(t, "the least form of a form", least, code, form, impl.ErrNone)
			if n > 0 && compareFlagsAndMoves(forms[n-1], form) >= 0 {
				t.Errorf("%v is in front of %v", forms[n-1], form)
			}
			if n > 0 && len(forms[n-1].Moves[0]) == len(form.Moves[0]) {
				alike++
			}
			if _, code := impl.CoveringOf(s.Maniplex, form); code != impl.ErrNone {
				t.Errorf("%v does not cover %v: code %d", s.Maniplex, form, code)
			}
		}
		least, code := impl.LeastForm(s.Maniplex)
		expectManiplex(t, "the quotient by the identity", forms[len(forms)-1], code, least, impl.ErrNone)
	}
	if alike < 100 {
		t.Errorf("only %d forms follow on ones with equally many flags", alike)
	}
}

func TestQuotientFormsDoNotDependOnTheNumbersOfTheFlags(t *testing.T) {
	for i, s := range symmetrics() {
		if len(s.Moves[0]) > 120 && i%5 > 0 {
			continue
		}
		want, wantCode := impl.QuotientForms(s.Maniplex)
		got, code := impl.QuotientForms(renumber(s.Maniplex, shuffled(len(s.Moves[0]), int64(7*i))))
		expectForms(t, "renumbered", got, code, want, wantCode)
	}
}

func TestQuotientFormsAreThoseOfQuotientBy(t *testing.T) {
	for i, s := range symmetrics() {
		if i%6 > 0 {
			continue
		}
		var want []impl.Maniplex
		for _, automorphism := range s.automorphisms {
			k, code := impl.QuotientBy(s.Maniplex, [][]int64{automorphism})
			if code == impl.ErrState {
				continue
			}
			form, code := impl.LeastForm(k)
			if code != impl.ErrNone {
				t.Fatalf("LeastForm of %v: code %d", k, code)
			}
			want = append(want, form)
		}
		got, code := impl.QuotientForms(s.Maniplex)
		expectForms(t, "QuotientForms", got, code, distinct(want), impl.ErrNone)
	}
}
