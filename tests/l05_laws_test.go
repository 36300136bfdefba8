package tests

import (
	"slices"
	"testing"

	"loop.example/g01108/impl"
)

// expectSameLeastForm fails the test if a code is not ErrNone, or two maniplexes have not one least
// form.
func expectSameLeastForm(t *testing.T, what string, got impl.Maniplex, code int64, want impl.Maniplex) {
	t.Helper()
	least, leastCode := impl.LeastForm(got)
	wanted, wantedCode := impl.LeastForm(want)
	if code != impl.ErrNone || leastCode != impl.ErrNone || wantedCode != impl.ErrNone || compareMoves(least, wanted) != 0 {
		t.Errorf("%s: %v, %d has not the least form of %v", what, got, code, want)
	}
}

func TestOperationsDoneTwiceLeadBack(t *testing.T) {
	done := map[string]int{}
	for _, m := range append(operationSamples(), greatManiplexes()...) {
		for _, name := range []string{"DualOf", "PetrieOf", "OppositeOf"} {
			operation := operationsOfOne()[name]
			once, code := operation(m)
			if code != impl.ErrNone {
				continue
			}
			twice, code := operation(once)
			expectSameLeastForm(t, name+" twice", twice, code, m)
			expectManiplex(t, name+" twice", twice, code, formByNumbering(m, 0), impl.ErrNone)
			done[name]++
		}
	}
	if done["DualOf"] < 300 || done["PetrieOf"] < 200 || done["OppositeOf"] < 150 {
		t.Errorf("too few of the samples have what is done twice: %v", done)
	}
}

func TestOppositesAreDualsOfPetrieDualsOfDuals(t *testing.T) {
	done := 0
	for _, m := range append(operationSamples(), greatManiplexes()...) {
		if len(m.Moves) != 3 {
			continue
		}
		dual, dualCode := impl.DualOf(m)
		petrie, petrieCode := impl.PetrieOf(dual)
		want, wantCode := impl.DualOf(petrie)
		if slices.Max([]int64{dualCode, petrieCode, wantCode}) != impl.ErrNone {
			t.Fatalf("the codes of %v are %d, %d and %d", m, dualCode, petrieCode, wantCode)
		}
		got, code := impl.OppositeOf(m)
		expectSameLeastForm(t, "the opposite", got, code, want)
		expectManiplex(t, "the opposite", got, code, want, impl.ErrNone)
		done++
	}
	if done < 150 {
		t.Errorf("only %d samples have rank 3", done)
	}
}

// someFlags returns all flags of m, or some of them if there are many.
func someFlags(m impl.Maniplex) []int64 {
	var flags []int64
	for flag := 0; flag < len(m.Moves[0]); flag += 1 + len(m.Moves[0])/40 {
		flags = append(flags, int64(flag))
	}
	return flags
}

// expectDualSections fails the test if the facet of a dual at its flag 0 is not the dual of the vertex
// figure of m at its flag 0, or the other way round.
func expectDualSections(t *testing.T, m impl.Maniplex) {
	t.Helper()
	dual, code := impl.DualOf(m)
	if code != impl.ErrNone {
		t.Fatalf("DualOf of %v: code %d", m, code)
	}
	facet, code := impl.FacetAt(m, 0)
	vertexFigure, otherCode := impl.VertexFigureAt(m, 0)
	if code != impl.ErrNone || otherCode != impl.ErrNone {
		t.Fatalf("the sections of %v: codes %d and %d", m, code, otherCode)
	}
	want, wantCode := impl.DualOf(vertexFigure)
	got, code := impl.FacetAt(dual, 0)
	expectManiplex(t, "the facet of the dual", got, code, want, wantCode)
	want, wantCode = impl.DualOf(facet)
	got, code = impl.VertexFigureAt(dual, 0)
	expectManiplex(t, "the vertex figure of the dual", got, code, want, wantCode)
}

func TestFacetsOfDualsAreDualsOfVertexFigures(t *testing.T) {
	for _, m := range append(operationSamples(), greatManiplexes()...) {
		if len(m.Moves) < 2 {
			continue
		}
		for _, flag := range someFlags(m) {
			expectDualSections(t, withFlagAt(m, flag))
		}
	}
}

func TestAllFacetsOfDualsAreDualsOfVertexFigures(t *testing.T) {
	for _, m := range append(operationSamples(), greatManiplexes()...) {
		n := int64(len(m.Moves))
		if n < 2 {
			continue
		}
		figures, code := impl.SectionForms(m, 1, n-1)
		if code != impl.ErrNone {
			t.Fatalf("SectionForms of %v: code %d", m, code)
		}
		var want []impl.Maniplex
		for _, figure := range figures {
			dual, _ := impl.DualOf(figure)
			least, _ := impl.LeastForm(dual)
			want = append(want, least)
		}
		slices.SortFunc(want, compareFlagsAndMoves)
		dual, _ := impl.DualOf(m)
		got, code := impl.SectionForms(dual, 0, n-2)
		expectForms(t, "the facets of the dual", got, code, want, impl.ErrNone)
	}
}

func TestExtensionsHaveTheManiplexAsFacetOrVertexFigure(t *testing.T) {
	done := 0
	for _, m := range append(operationSamples(), greatManiplexes()...) {
		last, code := impl.ExtendManiplex(m)
		first, otherCode := impl.ExtendInside(m)
		if code != impl.ErrNone || otherCode != impl.ErrNone {
			continue
		}
		done++
		for _, flag := range someFlags(m) {
			want := formByNumbering(m, flag)
			for _, twin := range []int64{2 * flag, 2*flag + 1} {
				got, code := impl.FacetAt(last, twin)
				expectManiplex(t, "the facet of the extension", got, code, want, impl.ErrNone)
				got, code = impl.VertexFigureAt(first, twin)
				expectManiplex(t, "the vertex figure of the inner extension", got, code, want, impl.ErrNone)
			}
		}
	}
	if done < 250 {
		t.Errorf("only %d samples have extensions", done)
	}
}

func TestDualsOfExtensionsAreInnerExtensionsOfDuals(t *testing.T) {
	for _, m := range operationSamples() {
		extension, code := impl.ExtendManiplex(m)
		if code != impl.ErrNone {
			continue
		}
		dual, dualCode := impl.DualOf(m)
		want, wantCode := impl.ExtendInside(dual)
		if dualCode != impl.ErrNone || wantCode != impl.ErrNone {
			t.Fatalf("the codes of %v are %d and %d", m, dualCode, wantCode)
		}
		got, code := impl.DualOf(extension)
		expectSameLeastForm(t, "the dual of an extension", got, code, want)
	}
}

func TestOperationsDoNotDependOnTheNumbersOfTheFlags(t *testing.T) {
	for i, m := range operationSamples() {
		p := shuffled(len(m.Moves[0]), int64(i))
		other := renumber(m, p)
		for name, operation := range operationsOfOne() {
			want, wantCode := operation(m)
			got, code := operation(other)
			if code != wantCode {
				t.Errorf("%s of %v has the code %d, but renumbered %d", name, m, wantCode, code)
			}
			// Another flag 0 may be in the other half of the flags, which may be another maniplex.
			if wantCode == impl.ErrNone && name != "HalfOf" {
				expectSameLeastForm(t, name, got, code, want)
			}
		}
		want, wantCode := impl.IsSelfDual(m)
		self, code := impl.IsSelfDual(other)
		expect(t, "IsSelfDual", self, code, want, wantCode)
		want, wantCode = impl.IsSelfPetrie(m)
		self, code = impl.IsSelfPetrie(other)
		expect(t, "IsSelfPetrie", self, code, want, wantCode)
		lengths, _ := impl.PetrieLengths(m)
		otherLengths, _ := impl.PetrieLengths(other)
		for flag, length := range lengths {
			if otherLengths[p[flag]] != length {
				t.Errorf("the flag %d of %v has another length as the flag %d", flag, m, p[flag])
			}
		}
	}
}
