package tests

import (
	"math"
	"math/big"
	"slices"
	"testing"

	"loop.example/g01108/impl"
)

// expectWord fails the test if DoesNothing or WordPeriod of a word is not what running it from each flag tells.
func expectWord(t *testing.T, what string, m impl.Maniplex, word []int64) {
	t.Helper()
	nothing, code := impl.DoesNothing(m, word)
	expect(t, what+": DoesNothing", nothing, code, doesNothing(m, word), impl.ErrNone)
	want, wantCode := periodOf(doneByRunning(m, word))
	period, code := impl.WordPeriod(m, word)
	expect(t, what+": WordPeriod", period, code, want, wantCode)
}

// expectNoWord fails the test if DoesNothing and WordPeriod do not return an error.
func expectNoWord(t *testing.T, what string, m impl.Maniplex, word []int64, wantCode int64) {
	t.Helper()
	nothing, code := impl.DoesNothing(m, word)
	expect(t, what+": DoesNothing", nothing, code, false, wantCode)
	period, code := impl.WordPeriod(m, word)
	expect(t, what+": WordPeriod", period, code, 0, wantCode)
}

func TestWordExamples(t *testing.T) {
	for _, c := range []struct {
		what   string
		m      impl.Maniplex
		word   []int64
		period int64
	}{
		{"the document's word", triangle, []int64{0, 1, 0, 1, 0, 1}, 1},
		{"two thirds of it", triangle, []int64{0, 1, 0, 1}, 3},
		{"half of it", triangle, []int64{0, 1, 0}, 2},
		{"it without its last move", triangle, []int64{0, 1, 0, 1, 0}, 2},
		{"it backwards", triangle, []int64{1, 0, 1, 0, 1, 0}, 1},
		{"it on a square", polygon(4), []int64{0, 1, 0, 1, 0, 1}, 4},
		{"it on a hexagon", hexagon, []int64{0, 1, 0, 1, 0, 1}, 2},
		{"a turn of the square", polygon(4), []int64{0, 1}, 4},
		{"a turn of the square back", polygon(4), []int64{1, 0}, 4},
		{"the empty word", triangle, nil, 1},
		{"the empty word of the edge", edge, []int64{}, 1},
		{"one move of the edge, which leads through all flags", edge, []int64{0}, 2},
		{"one move of a 1-gon, which leads through all flags", oneGon, []int64{1}, 2},
		{"both moves of a 1-gon", oneGon, []int64{0, 1}, 1},
		{"one move", cell, []int64{2}, 2},
		{"one move twice", cell, []int64{2, 2}, 1},
		{"one move three times", cell, []int64{1, 1, 1}, 2},
		{"64 times the move of the edge", edge, slices.Repeat([]int64{0}, 64), 1},
		{"63 times the move of the edge", edge, slices.Repeat([]int64{0}, 63), 2},
		{"64 moves around a 32-gon", polygon(32), slices.Repeat([]int64{0, 1}, 32), 1},
		{"62 moves around a 31-gon", polygon(31), slices.Repeat([]int64{0, 1}, 31), 1},
		{"64 moves around a 33-gon", polygon(33), slices.Repeat([]int64{0, 1}, 32), 33},
		{"a turn of a 200-gon, half of all flags", polygon(200), []int64{0, 1}, 200},
		{"a turn of a 199-gon", polygon(199), []int64{0, 1}, 199},
		{"a turn of a 200-gon by 8 corners", polygon(200), slices.Repeat([]int64{1, 0}, 8), 25},
		{"all moves of the plane", plane, []int64{0, 1, 2}, 1},
		{"all moves of the plane backwards", plane, []int64{2, 1, 0}, 1},
		{"all moves of the cell", cell, []int64{0, 1, 2}, 2},
		{"a zigzag of a tetrahedron", simplex(3), []int64{0, 1, 2}, 4},
		{"a zigzag of a simplex of rank 4", simplex(4), []int64{0, 1, 2, 3}, 5},
		{"a zigzag of half of a cube", hemicube(), []int64{0, 1, 2}, 3},
		{"a zigzag of an icosahedron", icosahedron(), []int64{0, 1, 2}, 10},
		{"moves of rank 5 that lead nowhere", shifts(4, 1, 1, 2, 2, 3), []int64{0, 2, 4}, 1},
		{"moves of rank 5 that lead somewhere", shifts(4, 1, 1, 2, 2, 3), []int64{4}, 2},
		{"a triangle with one and a square with the other", beside(triangle, polygon(4)), []int64{0, 1, 2, 3}, 12},
		{"a turn of a 13-gon and one of a 7-gon", beside(polygon(13), polygon(7)), []int64{2, 0, 3, 1}, 91},
		{"faces with 3 and 4 sides", prism(3), []int64{0, 1}, 12},
		{"faces with 3, 4 and 5 sides", surface([]int64{0, 1, 2, 3, 4}, []int64{5, 6, 7, 8, 9}, []int64{0, 1, 6, 5}, []int64{1, 2, 7, 6}, []int64{2, 3, 8, 7}, []int64{3, 4, 9}, []int64{3, 9, 8}, []int64{4, 0, 5, 9}), []int64{0, 1}, 60},
	} {
		period, code := impl.WordPeriod(c.m, c.word)
		expect(t, c.what, period, code, c.period, impl.ErrNone)
		nothing, code := impl.DoesNothing(c.m, c.word)
		expect(t, c.what, nothing, code, c.period == 1, impl.ErrNone)
		expectWord(t, c.what, c.m, c.word)
	}
}

func TestWordsOfSamples(t *testing.T) {
	periods := map[int64]int{}
	nothing := 0
	for i, m := range append(mixableManiplexes(), sampleManiplexes()...) {
		count := 62
		if len(m.Moves[0]) > 100 {
			count = 12
		}
		for _, word := range someWords(m, int64(i), count) {
			expectWord(t, "a word", m, word)
			period, _ := periodOf(doneByRunning(m, word))
			periods[period]++
			if doesNothing(m, word) && len(word) > 2 {
				nothing++
			}
		}
	}
	if nothing < 100 || len(periods) < 50 {
		t.Errorf("the words show too little: %d do nothing, there are %d orders", nothing, len(periods))
	}
}

func TestAllShortWords(t *testing.T) {
	for _, m := range []impl.Maniplex{edge, oneGon, triangle, digon, plane, cell, path, hemicube(), scattered(2, 7), shifts(4, 1, 1, 2, 2), cubes(4), shifts(4, 1, 1, 2, 2, 3)} {
		length := 6
		if len(m.Moves) > 3 {
			length = 4
		}
		for n := range length + 1 {
			for _, word := range allWords(len(m.Moves), n) {
				expectWord(t, "all words", m, word)
			}
		}
	}
}

// moved returns the flags that a word leads elsewhere.
func moved(m impl.Maniplex, word []int64) []int64 {
	var flags []int64
	for flag := range int64(len(m.Moves[0])) {
		if run(m, flag, word) != flag {
			flags = append(flags, flag)
		}
	}
	return flags
}

// withFlagsAt returns a permutation of the flags that leads the given ones to the numbers from a first one on,
// and keeps the order of the others.
func withFlagsAt(count int, flags []int64, first int) []int64 {
	order := slices.DeleteFunc(identity(count), func(flag int64) bool { return slices.Contains(flags, flag) })
	return undo(slices.Insert(order, first, flags...))
}

func TestWordsThatMoveAFewFlagsAlone(t *testing.T) {
	found := map[int]int{}
	for seed := range int64(300) {
		m := scattered(4+int(seed%30), seed)
		for _, base := range [][]int64{{0, 1}, {1, 2}, {0, 1, 2}, {0, 2, 1, 0, 1}, {1, 2, 1, 0, 2}, longWord} {
			for times := 1; times*len(base) <= 64; times++ {
				word := slices.Repeat(base, times)
				flags := moved(m, word)
				if len(flags) == 0 || 8*len(flags) > len(m.Moves[0]) {
					continue
				}
				found[len(flags)]++
				count := len(m.Moves[0])
				for _, first := range []int{0, (count - len(flags)) / 2, count - len(flags)} {
					k := renumber(m, withFlagsAt(count, flags, first))
					expectWord(t, "a few flags", k, word)
					nothing, code := impl.DoesNothing(k, word)
					expect(t, "a few flags", nothing, code, false, impl.ErrNone)
				}
			}
		}
	}
	if found[4] < 10 || len(found) < 2 {
		t.Errorf("the words show too little: %v", found)
	}
}

func TestListsThatAreNoWords(t *testing.T) {
	for _, m := range []impl.Maniplex{edge, triangle, cell, simplex(4), cubes(5), polygon(200)} {
		n := int64(len(m.Moves))
		for _, word := range [][]int64{{n}, {-1}, {n + 1}, {5}, {math.MaxInt64}, {math.MinInt64}, {1 << 32}, {0, n}, {n, 0}, {0, 0, -1, 0}, make([]int64, 65), make([]int64, 66), make([]int64, 400), append(make([]int64, 64), n), append(make([]int64, 63), n), append(make([]int64, 63), -1)} {
			expectNoWord(t, "no word", m, word, impl.ErrRange)
		}
		for _, word := range [][]int64{{n - 1}, {0}, make([]int64, 64), slices.Repeat([]int64{n - 1}, 64), slices.Repeat([]int64{n - 1}, 63)} {
			expectWord(t, "a word at a limit", m, word)
		}
	}
}

func TestWordsOfWhatIsNoManiplex(t *testing.T) {
	for what, m := range brokenManiplexes() {
		for _, word := range [][]int64{nil, {0}, {0, 1}, {-1}, {9}, make([]int64, 65)} {
			expectNoWord(t, what, m, word, impl.ErrInvalid)
		}
	}
}

func TestPeriodsAroundTheGreatestOne(t *testing.T) {
	below, above, far := 0.0, math.Inf(1), 0
	withGreatOrders(func(m impl.Maniplex, order *big.Int) {
		if !isManiplex(m) || orderOf(doneByRunning(m, longWord)).Cmp(order) != 0 {
			t.Errorf("%v is no maniplex with the order %v", m, order)
		}
		expectWord(t, "a great order", m, longWord)
		switch ratio := toGreatest(order); {
		case ratio > 10:
			far++
		case ratio > 1:
			above = min(above, ratio)
		default:
			below = max(below, ratio)
		}
	})
	// No order on 400 flags is 2 to the power 15 times 5 to the power 15, so it can only be near.
	if below < 0.999 || above > 1.001 || far < 10 {
		t.Errorf("the orders show too little: %v, %v and %d far beyond", below, above, far)
	}
}

func TestWordsDoneAsOftenAsTheirPeriodsDoNothing(t *testing.T) {
	long := 0
	for i, m := range append(mixableManiplexes(), sampleManiplexes()...) {
		for _, word := range someWords(m, int64(500+i), 16) {
			period, code := impl.WordPeriod(m, word)
			if code != impl.ErrNone {
				t.Fatalf("WordPeriod of %v: code %d", word, code)
			}
			for times := int64(1); times*int64(len(word)) <= 64 && times <= 2*period; times++ {
				nothing, code := impl.DoesNothing(m, slices.Repeat(word, int(times)))
				expect(t, "a word repeated", nothing, code, times%period == 0, impl.ErrNone)
			}
			if period*int64(len(word)) > 64 {
				long++
				expectExponent(t, doneByRunning(m, word), period)
			}
		}
	}
	if long < 500 {
		t.Errorf("only %d orders are long", long)
	}
}

// expectExponent fails the test if an order is not the least number of times that a permutation has to be done
// to be the identity.
func expectExponent(t *testing.T, p []int64, order int64) {
	t.Helper()
	if !slices.Equal(doTimes(p, order), identity(len(p))) {
		t.Errorf("the permutation %v done %d times is not the identity", p, order)
	}
	left := order
	for prime := int64(2); left > 1; prime++ {
		if left%prime > 0 {
			continue
		}
		for left%prime == 0 {
			left /= prime
		}
		if slices.Equal(doTimes(p, order/prime), identity(len(p))) {
			t.Errorf("the permutation %v done %d times is the identity already", p, order/prime)
		}
	}
}
