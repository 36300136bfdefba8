package tests

import (
	"math/big"
	"slices"
	"testing"

	"loop.example/g01108/impl"
)

func TestMixesAreManiplexesThatCoverBoth(t *testing.T) {
	for i, s := range mixSamples() {
		mix, pairs := s.mix(t)
		if !impl.IsManiplex(mix) || !isManiplex(mix) || !slices.Equal(pairs[0], []int64{s.f, s.g}) {
			t.Errorf("the mix of %v is %v with the pairs %v", s, mix, pairs)
		}
		known := map[[2]int64]bool{}
		for _, pair := range pairs {
			known[[2]int64(pair)] = true
		}
		if len(known) != len(pairs) {
			t.Errorf("a pair of the mix of %v stands twice in %v", s, pairs)
		}
		for index, covered := range []impl.Maniplex{s.m, s.k} {
			list := column(pairs, index)
			ok, code := impl.IsCovering(mix, covered, list)
			expect(t, "what the pairs tell", ok, code, true, impl.ErrNone)
			fibre, code := impl.FibreOf(mix, covered, list, 0)
			expect(t, "a fibre", len(fibre)*len(covered.Moves[0]), code, len(pairs), impl.ErrNone)
			ok, code = impl.AreCovered(mix, covered)
			expect(t, "a mix covers both", ok, code, true, impl.ErrNone)
			if i%5 == 0 {
				word, code := impl.FirstNothing(mix, covered, 12)
				expectList(t, "nothing on a mix is nothing on both", word, code, nil, impl.ErrNotFound)
			}
		}
		form, code := impl.FormFrom(mix, 0)
		expectManiplex(t, "the form from the flag 0", form, code, mix, impl.ErrNone)
	}
}

func TestMixesInTheOtherOrder(t *testing.T) {
	for _, s := range mixSamples() {
		mix, pairs := s.mix(t)
		var swapped [][]int64
		for _, pair := range pairs {
			swapped = append(swapped, []int64{pair[1], pair[0]})
		}
		expectMix(t, "the other order", s.swapped(), mix, swapped, impl.ErrNone)
		other, _ := s.swapped().mix(t)
		same, code := impl.AreIsomorphic(mix, other)
		expect(t, "the other order", same, code, true, impl.ErrNone)
	}
}

func TestMixingAgainChangesNothing(t *testing.T) {
	for i, s := range mixSamples() {
		mix, pairs := s.mix(t)
		for index, again := range []impl.Maniplex{s.m, s.k} {
			var want [][]int64
			for flag, pair := range pairs {
				want = append(want, []int64{int64(flag), pair[index]})
			}
			expectMix(t, "one of both again", mixSample{mix, 0, again, pairs[0][index]}, mix, want, impl.ErrNone)
			flag := int64(i % len(pairs))
			form := formByNumbering(mix, flag)
			got, _ := mixSample{again, pairs[flag][index], mix, flag}.mix(t)
			expectManiplex(t, "one of both again at another flag", got, impl.ErrNone, form, impl.ErrNone)
		}
	}
}

func TestMixesAtTheFlagsOfAPair(t *testing.T) {
	for i, s := range mixSamples() {
		mix, pairs := s.mix(t)
		for _, flag := range []int{i % len(pairs), len(pairs) - 1} {
			want := formByNumbering(mix, int64(flag))
			got, _ := mixSample{s.m, pairs[flag][0], s.k, pairs[flag][1]}.mix(t)
			expectManiplex(t, "the flags of a pair", got, impl.ErrNone, want, impl.ErrNone)
		}
	}
}

func TestWordsDoNothingOnAMixExactlyIfOnBoth(t *testing.T) {
	found := map[string]int{}
	for i, s := range mixSamples() {
		mix, _ := s.mix(t)
		words := someWords(mix, int64(i), 30)
		for _, pair := range [][2]impl.Maniplex{{s.m, s.k}, {s.k, s.m}} {
			if word, code := impl.FirstNothing(pair[0], pair[1], 8); code == impl.ErrNone {
				words = append(words, word, slices.Repeat(word, 2), slices.Repeat(word, 5))
			}
		}
		for _, word := range words {
			first, firstCode := impl.DoesNothing(s.m, word)
			last, lastCode := impl.DoesNothing(s.k, word)
			both, code := impl.DoesNothing(mix, word)
			expect(t, "nothing on a mix", both, code, first && last, max(firstCode, lastCode))
			switch {
			case len(word) > 2 && first && last:
				found["both"]++
			case first || last:
				found["one of both"]++
			}
			expectPeriodOfBoth(t, s, mix, word)
		}
	}
	if found["both"] < 100 || found["one of both"] < 500 {
		t.Errorf("the words show too little: %v", found)
	}
}

// expectPeriodOfBoth fails the test if the order of a word on a mix is not the least common multiple of those on
// both maniplexes.
func expectPeriodOfBoth(t *testing.T, s mixSample, mix impl.Maniplex, word []int64) {
	t.Helper()
	first, firstCode := impl.WordPeriod(s.m, word)
	last, lastCode := impl.WordPeriod(s.k, word)
	both, code := impl.WordPeriod(mix, word)
	if code != impl.ErrNone || firstCode != impl.ErrNone || lastCode != impl.ErrNone || multipleOf([]int64{first, last}).Cmp(big.NewInt(both)) != 0 {
		t.Errorf("the orders of %v are %d, %d, and %d on the mix, with the codes %d, %d and %d", word, first, last, both, firstCode, lastCode, code)
	}
}

func TestWhatCoversBothCoversTheMix(t *testing.T) {
	found := map[bool]int{}
	for i, s := range symmetrics() {
		if i%2 > 0 || len(s.orbits) > 120 {
			continue
		}
		lists := someAutomorphisms(s.automorphisms, int64(4000+i))
		for n := range 3 * len(lists) {
			first, firstOrbits := coveringOn(t, s.Maniplex, lists[n%len(lists)])
			last, lastOrbits := coveringOn(t, s.Maniplex, lists[(4*n+1)%len(lists)])
			if firstOrbits == nil || lastOrbits == nil {
				continue
			}
			flag := i % len(s.orbits)
			mix, pairs := mixSample{first, firstOrbits[flag], last, lastOrbits[flag]}.mix(t)
			var covering []int64
			for place, orbit := range firstOrbits {
				isPair := func(pair []int64) bool { return pair[0] == orbit && pair[1] == lastOrbits[place] }
				covering = append(covering, int64(slices.IndexFunc(pairs, isPair)))
			}
			ok, code := impl.IsCovering(s.Maniplex, mix, covering)
			expect(t, "what covers both", ok, code, true, impl.ErrNone)
			found[len(pairs) > max(len(first.Moves[0]), len(last.Moves[0]))]++
		}
	}
	if found[true] < 50 || found[false] < 100 {
		t.Errorf("the mixes show too little: %v", found)
	}
}

func TestMixesOfThree(t *testing.T) {
	samples := mixSamples()
	found := 0
	for i, s := range samples {
		mix, pairs := s.mix(t)
		third := samples[(7*i)%len(samples)]
		flags := countPairs(edge, 0, edge, 0)
		if len(third.m.Moves) == len(mix.Moves) {
			flags = countPairs(mix, 0, third.m, third.f)
		}
		if len(third.m.Moves) != len(mix.Moves) || flags > 400 {
			continue
		}
		want, wantPairs := mixSample{mix, 0, third.m, third.f}.mix(t)
		right, rightPairs := mixSample{s.k, s.g, third.m, third.f}.mix(t)
		got, gotPairs := mixSample{s.m, s.f, right, 0}.mix(t)
		expectManiplex(t, "a mix of three", got, impl.ErrNone, want, impl.ErrNone)
		for flag, pair := range wantPairs {
			left := append(slices.Clone(pairs[pair[0]]), pair[1])
			other := append([]int64{gotPairs[flag][0]}, rightPairs[gotPairs[flag][1]]...)
			if !slices.Equal(left, other) {
				t.Fatalf("the flag %d of a mix of three is %v and %v", flag, left, other)
			}
		}
		if flags > len(mix.Moves[0]) {
			found++
		}
	}
	if found < 30 {
		t.Errorf("the mixes show too little: %d", found)
	}
}

func TestMixesDoNotDependOnTheNumbersOfTheFlags(t *testing.T) {
	for i, s := range mixSamples() {
		mix, pairs := s.mix(t)
		p, q := shuffled(len(s.m.Moves[0]), int64(i)), shuffled(len(s.k.Moves[0]), int64(i+1))
		var want [][]int64
		for _, pair := range pairs {
			want = append(want, []int64{p[pair[0]], q[pair[1]]})
		}
		expectMix(t, "other numbers", mixSample{renumber(s.m, p), p[s.f], renumber(s.k, q), q[s.g]}, mix, want, impl.ErrNone)
	}
}

func TestMixesOfRegularManiplexesAreRegular(t *testing.T) {
	found, orientable := 0, map[bool]int{}
	for _, s := range mixSamples() {
		mix, _ := s.mix(t)
		first, _ := impl.IsRegular(s.m)
		last, _ := impl.IsRegular(s.k)
		if first && last {
			regular, code := impl.IsRegular(mix)
			expect(t, "a mix of regular ones", regular, code, true, impl.ErrNone)
			found++
		}
		first, _ = impl.IsOrientable(s.m)
		last, _ = impl.IsOrientable(s.k)
		if first || last {
			ok, code := impl.IsOrientable(mix)
			expect(t, "a mix with an orientable one", ok, code, true, impl.ErrNone)
			orientable[first && last]++
		}
	}
	if found < 50 || orientable[true] < 50 || orientable[false] < 20 {
		t.Errorf("the samples show too little: %d, %v", found, orientable)
	}
}

func TestMixesWithAnOrientableOneAreDoubleCovers(t *testing.T) {
	for _, c := range []struct{ m, k impl.Maniplex }{{plane, cell}, {hemicube(), cell}, {hemicube(), prism(4)}, {grid(1, 2, true), cell}, {beside(plane, edge), cubes(4)}, {beside(hemicube(), edge), cubes(4)}} {
		double, code := impl.DoubleCover(c.m)
		mix, mixCode := impl.MixAt(c.m, 0, c.k, 0)
		if code != impl.ErrNone || mixCode != impl.ErrNone {
			t.Fatalf("the codes are %d and %d", code, mixCode)
		}
		covered, code := impl.AreCovered(mix, double)
		expect(t, "the double cover", covered, code, true, impl.ErrNone)
	}
}

func TestAreCoveredAsCoveringsAreFound(t *testing.T) {
	found := map[bool]int{}
	list := mixableManiplexes()
	for _, m := range list {
		for _, k := range list {
			count, countCode := impl.CountCoverings(m, k)
			got, code := impl.AreCovered(m, k)
			expect(t, "a pair", got, code, count > 0, countCode)
			expect(t, "a pair", got, code, len(coveringsByRunning(m, k)) > 0, impl.ErrNone)
			if len(m.Moves[0]) > len(k.Moves[0]) && len(m.Moves) == len(k.Moves) {
				found[got]++
			}
		}
	}
	for _, c := range coveringSamples() {
		got, code := impl.AreCovered(c.m, c.k)
		expect(t, "a covering", got, code, true, impl.ErrNone)
		got, code = impl.AreCovered(c.k, c.m)
		expect(t, "the way back", got, code, len(c.m.Moves[0]) == len(c.k.Moves[0]), impl.ErrNone)
	}
	if found[true] < 50 || found[false] < 200 {
		t.Errorf("the pairs show too little: %v", found)
	}
}

func TestAreCoveredByOneFlagAlone(t *testing.T) {
	for flag := range int64(20) {
		got, code := impl.AreCovered(similar, withFlagAt(similar, flag))
		expect(t, "a flag alone", got, code, true, impl.ErrNone)
	}
	for seed := range int64(6) {
		m, list := sheets(similar, 3, seed)
		if list == nil {
			continue
		}
		last := withFlagAt(similar, 19)
		got, code := impl.AreCovered(m, last)
		expect(t, "the last flag alone", got, code, true, impl.ErrNone)
		got, code = impl.AreCovered(last, m)
		expect(t, "the way back", got, code, false, impl.ErrNone)
	}
	// The identity is the only automorphism of this map, so that only one flag fits.
	got, code := impl.AreCovered(scattered(100, 3), renumber(scattered(100, 3), shuffled(400, 8)))
	expect(t, "400 flags", got, code, true, impl.ErrNone)
	got, code = impl.AreCovered(scattered(100, 3), scattered(100, 4))
	expect(t, "400 other flags", got, code, false, impl.ErrNone)
}

func TestAreCoveredOfDifferentRanks(t *testing.T) {
	ranks := []impl.Maniplex{edge, oneGon, triangle, polygon(200), plane, cell, grid(5, 10, false), shifts(4, 1, 1, 2, 2), simplex(4), shifts(4, 1, 1, 2, 2, 3), cubes(5)}
	for _, m := range ranks {
		for _, k := range ranks {
			if len(m.Moves) != len(k.Moves) {
				got, code := impl.AreCovered(m, k)
				expect(t, "different ranks", got, code, false, impl.ErrNone)
			}
		}
	}
	for _, pair := range brokenPairs() {
		got, code := impl.AreCovered(pair[0], pair[1])
		expect(t, "no maniplex", got, code, false, impl.ErrInvalid)
	}
}
