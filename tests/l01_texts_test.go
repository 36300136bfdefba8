package tests

import (
	"math"
	"slices"
	"strconv"
	"strings"
	"testing"

	"loop.example/g01108/impl"
)

// writeCycles returns the text of p. It takes the points in ascending order, and writes the cycle
// of each one that is the least of its cycle.
func writeCycles(p []int64) string {
	text := ""
	for start := range p {
		cycle := []int64{int64(start)}
		for point := p[start]; point != int64(start); point = p[point] {
			cycle = append(cycle, point)
		}
		if len(cycle) > 1 && slices.Min(cycle) == int64(start) {
			var numbers []string
			for _, point := range cycle {
				numbers = append(numbers, strconv.Itoa(int(point)))
			}
			text += "(" + strings.Join(numbers, " ") + ")"
		}
	}
	if text == "" {
		return "()"
	}
	return text
}

func TestPermutationText(t *testing.T) {
	cases := []struct {
		p    []int64
		want string
	}{
		{[]int64{1, 0, 3, 4, 2}, "(0 1)(2 3 4)"},
		{[]int64{0, 1}, "()"},
		{[]int64{0}, "()"},
		{nil, "()"},
		{identity(400), "()"},
		{[]int64{1, 0}, "(0 1)"},
		{[]int64{0, 3, 2, 1}, "(1 3)"},
		{[]int64{2, 0, 1}, "(0 2 1)"},
		{[]int64{3, 2, 1, 0}, "(0 3)(1 2)"},
		{withCycles(1, 1, 1, 1, 1, 1, 1, 1, 1, 3), "(9 10 11)"},
	}
	for _, c := range cases {
		got, code := impl.PermutationText(c.p)
		expect(t, "PermutationText", got, code, c.want, impl.ErrNone)
	}
	for _, p := range samplePermutations() {
		got, code := impl.PermutationText(p)
		expect(t, "the text", got, code, writeCycles(p), impl.ErrNone)
	}
	for _, p := range brokenPermutations() {
		got, code := impl.PermutationText(p)
		expect(t, "no permutation", got, code, "", impl.ErrInvalid)
	}
}

func TestParsePermutation(t *testing.T) {
	cases := []struct {
		n    int64
		text string
		want []int64
	}{
		{5, "(0 1)(2 3 4)", []int64{1, 0, 3, 4, 2}},
		{6, "(0 1)(2 3 4)", []int64{1, 0, 3, 4, 2, 5}},
		{0, "()", nil},
		{1, "()", []int64{0}},
		{5, "()", identity(5)},
		{400, "()", identity(400)},
		{400, "(398 399)", append(identity(398), 399, 398)},
		{12, "(9 10 11)", withCycles(1, 1, 1, 1, 1, 1, 1, 1, 1, 3)},
	}
	for _, c := range cases {
		got, code := impl.ParsePermutation(c.n, c.text)
		expectList(t, "ParsePermutation "+c.text, got, code, c.want, impl.ErrNone)
	}
}

func TestTextsAreParsedToTheirPermutations(t *testing.T) {
	for _, p := range samplePermutations() {
		text, code := impl.PermutationText(p)
		if code != impl.ErrNone {
			t.Fatalf("code %d", code)
		}
		got, code := impl.ParsePermutation(int64(len(p)), text)
		expectList(t, "ParsePermutation "+text, got, code, p, impl.ErrNone)
	}
}

// Of the texts with at most seven of the bytes of which such texts consist, exactly those of the
// six permutations of three points are accepted.
func TestParsePermutationOfAllShortTexts(t *testing.T) {
	permutations := map[string][]int64{}
	for _, p := range allPermutations(3) {
		permutations[writeCycles(p)] = p
	}
	var visit func(text string)
	visit = func(text string) {
		got, code := impl.ParsePermutation(3, text)
		if want, ok := permutations[text]; ok {
			expectList(t, "ParsePermutation "+text, got, code, want, impl.ErrNone)
		} else {
			expectList(t, "ParsePermutation "+text, got, code, nil, impl.ErrSyntax)
		}
		if len(text) < 7 {
			for _, next := range "() 012" {
				visit(text + string(next))
			}
		}
	}
	visit("")
}

func TestParsePermutationSyntax(t *testing.T) {
	texts := []string{
		"", " ", "(", ")", ")(", "0", "0 1", "(0 1", "0 1)", "(0)", "(0)(1 2)", "(0 1)(2)",
		"(1 0)", "(1 2 0)", "(2 3)(0 1)", "(0 1)(1 2)", "(0 1 0)", "(0 0)", "(0 1)(0 1)",
		"(0 5)", "(0 6)", "(0 400)", "(0 -1)", "(-1 0)", "(0 +1)", "(0 01)", "(00 1)", "(-0 1)", "(0 1.0)", "(0 0x1)", "(0 1_0)", "(0 1e0)",
		"(0 18446744073709551617)", "(0 4294967297)", "(0 99999999999999999999999999)", "(0 -9223372036854775808)",
		" ()", "() ", "( )", "()()", "()(0 1)", "(0 1)()", "(())", "((0 1))", "(0 (1 2))",
		"(0  1)", "( 0 1)", "(0 1 )", "(0 1) ", " (0 1)", "(0 1) (2 3)", "(0 1),(2 3)", "(0,1)", "(0\t1)", "(0\n1)", "(0 1)\n", "(0 1)\x00",
		"(0 1))", "((0 1)", "[0 1]", "(a b)", "(0 \xff)", "(0 \uff11)", "(0\u00a01)", "\uff080 1\uff09",
		strings.Repeat("(0 1)", 1000), strings.Repeat("()", 1000), strings.Repeat("(", 100000), "(" + strings.Repeat("0", 100000) + " 1)",
	}
	for _, text := range texts {
		got, code := impl.ParsePermutation(5, text)
		expectList(t, "ParsePermutation "+strconv.Quote(text), got, code, nil, impl.ErrSyntax)
	}
	for _, text := range []string{"", "(0)", "(0 1)", "(0 0)"} {
		for n := range int64(2) {
			got, code := impl.ParsePermutation(n, text)
			expectList(t, "ParsePermutation of few points "+text, got, code, nil, impl.ErrSyntax)
		}
	}
	got, code := impl.ParsePermutation(400, "(0 400)")
	expectList(t, "ParsePermutation of a point too far", got, code, nil, impl.ErrSyntax)
}

func TestParsePermutationRange(t *testing.T) {
	for _, n := range []int64{-1, 401, 1000, 1 << 32, math.MaxInt64, math.MinInt64} {
		for _, text := range []string{"()", "(0 1)", "", "(1 0)", "(0 1"} {
			got, code := impl.ParsePermutation(n, text)
			expectList(t, "ParsePermutation of a bad number of points "+text, got, code, nil, impl.ErrRange)
		}
	}
}
