package tests

import (
	"slices"
	"strconv"
	"strings"
	"testing"

	"loop.example/g01108/impl"
)

// writeMoves returns the text of a list of moves.
func writeMoves(m impl.Maniplex) string {
	var moves []string
	for _, move := range m.Moves {
		var flags []string
		for _, flag := range move {
			flags = append(flags, strconv.FormatInt(flag, 10))
		}
		moves = append(moves, strings.Join(flags, ","))
	}
	return strings.Join(moves, "/")
}

func TestManiplexText(t *testing.T) {
	cases := []struct {
		m    impl.Maniplex
		want string
	}{
		{edge, "1,0"},
		{triangle, "1,0,3,2,5,4/5,2,1,4,3,0"},
		{cell, "1,0,3,2,5,4,7,6/2,3,0,1,6,7,4,5/4,5,6,7,0,1,2,3"},
		{plane, "1,0,3,2/2,3,0,1/3,2,1,0"},
		{polygon(1), "1,0/1,0"},
		{polygon(6), "1,0,3,2,5,4,7,6,9,8,11,10/11,2,1,4,3,6,5,8,7,10,9,0"},
	}
	for _, c := range cases {
		got, code := impl.ManiplexText(c.m)
		expect(t, "ManiplexText", got, code, c.want, impl.ErrNone)
		m, code := impl.ParseManiplex(c.want)
		expectManiplex(t, c.want, m, code, c.m, impl.ErrNone)
	}
	for what, m := range brokenManiplexes() {
		got, code := impl.ManiplexText(m)
		expect(t, what, got, code, "", impl.ErrInvalid)
	}
}

func TestTextsAreParsedToTheirManiplexes(t *testing.T) {
	for _, m := range sampleManiplexes() {
		text, code := impl.ManiplexText(m)
		expect(t, "ManiplexText", text, code, writeMoves(m), impl.ErrNone)
		got, code := impl.ParseManiplex(text)
		expectManiplex(t, text, got, code, m, impl.ErrNone)
	}
}

func TestTextsOfWhatIsNoManiplex(t *testing.T) {
	for _, m := range brokenManiplexes() {
		text := writeMoves(m)
		got, code := impl.ParseManiplex(text)
		expectManiplex(t, text, got, code, impl.Maniplex{}, impl.ErrSyntax)
	}
}

func TestParseManiplexSyntax(t *testing.T) {
	texts := []string{
		"", "0", "1", "1,", ",", ",0", "/", "//", "1,0/", "/1,0", "1,0//1,0", "1,0,", ",1,0", "1,,0", "1,0/,", "1,/1,0", "1,0/1,", "0,1", "1,1", "0,0",
		"01,0", "1,00", "1,0/01,0", "1,0/1,00", "1,0,3,02", "001,0",
		" 1,0", "1,0 ", "1, 0", "1 ,0", "1,0 /1,0", "1,0/ 1,0", "1,0\n", "\n1,0", "1,0\r", "1,0\x00", "\x001,0", "\t1,0", "1 0", "1.0", "1;0", "1,0|1,0", "1,0\\1,0",
		"+1,0", "1,+0", "-1,0", "1,-0", "1,0-", "1,--0", "0x1,0", "1e0,0", "1_,0", "_1,0", "1,0x0", "{1,0}", "(1,0)", "(0 1)", "()",
		"1,0,2", "1,2,0", "2,1,0", "1,0,3,2", "1,0,3,2/1,0,3,2", "1,0/1,0/1,0", "1,0/1,0,3,2", "1,0,3,2/1,0", "2,3,0,1",
		"4294967297,0", "4294967297,4294967296", "18446744073709551617,0", "1,18446744073709551616", "18446744073709551617,18446744073709551616",
		"9223372036854775808,0", "9223372036854775807,0", "1,9223372036854775807", "99999999999999999999999999999999,0", "1,400", "400,0", "1,2", "2,0",
		"١,٠", "１,０", "1，0", "1,0é", "é1,0", "1,0\xff", "\xff", "1\xff,0", "1,\xc0\xb0", "1,0\u2028", "\ufeff1,0", "1,0̸",
		"³,0", "1,⁰", "one,zero", "a,b", "b,a", ":,0", "1,:", "1,0/:,0",
		strings.Repeat("0", 1000) + "1,0", strings.Repeat("9", 1000) + ",0", strings.Repeat("1,0/", 1000), strings.Repeat("1,0,", 1000), strings.Repeat("/", 1000),
	}
	for _, text := range texts {
		got, code := impl.ParseManiplex(text)
		expectManiplex(t, strconv.Quote(text), got, code, impl.Maniplex{}, impl.ErrSyntax)
	}
}

func TestParseManiplexOfAllShortTexts(t *testing.T) {
	maniplexes := map[string]bool{"1,0": true, "1,0/1,0": true}
	found := 0
	for length := range 8 {
		for _, word := range allWords(5, length) {
			text := ""
			for _, i := range word {
				text += "01,/ "[i : i+1]
			}
			m, code := impl.ParseManiplex(text)
			if (code == impl.ErrNone) != maniplexes[text] || code != impl.ErrNone && (code != impl.ErrSyntax || m.Moves != nil) {
				t.Errorf("ParseManiplex(%q) = %v, %d", text, m, code)
			}
			if code == impl.ErrNone {
				found++
			}
		}
	}
	if found != len(maniplexes) {
		t.Errorf("%d texts were found", found)
	}
}

func TestParseManiplexOfOneChange(t *testing.T) {
	for _, m := range []impl.Maniplex{edge, triangle, cell, plane, polygon(1), polygon(6), simplex(3), grid(1, 2, true), cubes(4)} {
		text := writeMoves(m)
		var changed []string
		for at := range len(text) + 1 {
			for _, char := range []string{"0", "1", "2", "3", "9", ",", "/", " ", "-", "+", "é", "\x80"} {
				changed = append(changed, text[:at]+char+text[at:])
				if at < len(text) {
					changed = append(changed, text[:at]+char+text[at+1:], text[:at]+text[at+1:])
				}
			}
		}
		for _, other := range changed {
			expectParsedAsWritten(t, other)
		}
	}
}

// expectParsedAsWritten fails the test if ParseManiplex does not return the maniplex whose text is
// the given one, or ErrSyntax where there is none.
func expectParsedAsWritten(t *testing.T, text string) {
	t.Helper()
	var want impl.Maniplex
	for part := range strings.SplitSeq(text, "/") {
		var move []int64
		for flag := range strings.SplitSeq(part, ",") {
			number, _ := strconv.ParseInt(flag, 10, 64)
			move = append(move, number)
		}
		want.Moves = append(want.Moves, move)
	}
	wantCode := int64(impl.ErrNone)
	if writeMoves(want) != text || !isManiplex(want) {
		want, wantCode = impl.Maniplex{}, impl.ErrSyntax
	}
	got, code := impl.ParseManiplex(text)
	expectManiplex(t, text, got, code, want, wantCode)
}

func TestTextsAtTheLimits(t *testing.T) {
	for _, m := range []impl.Maniplex{polygon(200), beside(cubes(3), polygon(25)), cubes(5)} {
		got, code := impl.ParseManiplex(writeMoves(m))
		expectManiplex(t, "at a limit", got, code, m, impl.ErrNone)
	}
	for _, m := range []impl.Maniplex{polygon(201), cubes(6), beside(edge, polygon(101)), beside(cubes(4), polygon(4)), beside(cubes(3), polygon(26))} {
		got, code := impl.ParseManiplex(writeMoves(m))
		expectManiplex(t, "beyond a limit", got, code, impl.Maniplex{}, impl.ErrSyntax)
	}
	got, code := impl.ParseManiplex(strings.Join(slices.Repeat([]string{"1,0"}, 6), "/"))
	expectManiplex(t, "six moves", got, code, impl.Maniplex{}, impl.ErrSyntax)
}
