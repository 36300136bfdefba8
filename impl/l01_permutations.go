package impl

import (
	"slices"
	"strconv"
	"strings"
)

// Error codes of all chapters.
const (
	ErrNone = iota
	ErrInvalid
	ErrRange
	ErrLimit
	ErrNotFound
	ErrState
	ErrSyntax
)

// Limits of chapter 1.
const (
	MaxPoints     = 400
	MaxGenerators = 16
	MaxElements   = 1000
	MaxWord       = 64
	MaxOrder      = 1000000000000000
)

// maxPower is the greatest number of times that PowerPermutation does a permutation or its inverse.
const maxPower = 1000000000

// permutation leads the point i to its element i. Methods other than isValid and placeCycle rely on
// its being valid.
type permutation []int64

// identityOf returns the identity of n points.
func identityOf(n int64) permutation {
	p := make(permutation, n)
	for point := range n {
		p[point] = point
	}
	return p
}

// isValid reports whether p has at most MaxPoints points and each of them once.
func (p permutation) isValid() bool {
	if len(p) > MaxPoints {
		return false
	}
	taken := make([]bool, len(p))
	for _, image := range p {
		if image < 0 || image >= int64(len(p)) || taken[image] {
			return false
		}
		taken[image] = true
	}
	return true
}

// then returns the permutation that does p, and after it q of as many points.
func (p permutation) then(q permutation) permutation {
	done := make(permutation, len(p))
	for point, image := range p {
		done[point] = q[image]
	}
	return done
}

// inverse returns the permutation that undoes p.
func (p permutation) inverse() permutation {
	back := make(permutation, len(p))
	for point, image := range p {
		back[image] = int64(point)
	}
	return back
}

// cycles returns the cycles of p in ascending order of their least points, each one from its least
// point on, in the order in which p leads through them.
func (p permutation) cycles() []permutation {
	var cycles []permutation
	passed := make([]bool, len(p))
	for start := range p {
		var cycle permutation
		for point := int64(start); !passed[point]; point = p[point] {
			passed[point] = true
			cycle = append(cycle, point)
		}
		if len(cycle) > 0 {
			cycles = append(cycles, cycle)
		}
	}
	return cycles
}

// cycleLengths returns the numbers of points of the cycles of p in ascending order.
func (p permutation) cycleLengths() []int64 {
	var lengths []int64
	for _, cycle := range p.cycles() {
		lengths = append(lengths, int64(len(cycle)))
	}
	slices.Sort(lengths)
	return lengths
}

// power returns the permutation that does p k times, or its inverse -k times. Each point moves
// along its own cycle only, so the work does not grow with k.
func (p permutation) power(k int64) permutation {
	done := make(permutation, len(p))
	for _, cycle := range p.cycles() {
		length := int64(len(cycle))
		shift := (k%length + length) % length
		for i, point := range cycle {
			done[point] = cycle[(int64(i)+shift)%length]
		}
	}
	return done
}

// order returns the order of p, and whether it is at most MaxOrder. It stops at the first multiple
// that is greater, because the next one could exceed an int64.
func (p permutation) order() (int64, bool) {
	order := int64(1)
	for _, length := range p.cycleLengths() {
		order *= length / greatestDivisor(order, length)
		if order > MaxOrder {
			return 0, false
		}
	}
	return order, true
}

// greatestDivisor returns the greatest common divisor of two positive numbers.
func greatestDivisor(a int64, b int64) int64 {
	for b != 0 {
		a, b = b, a%b
	}
	return a
}

// isFreeInvolution reports whether p exchanges the points in pairs.
func (p permutation) isFreeInvolution() bool {
	for point, image := range p {
		if image == int64(point) || p[image] != int64(point) {
			return false
		}
	}
	return true
}

// key returns a string by which p is known in a map.
func (p permutation) key() string {
	var key strings.Builder
	for _, image := range p {
		key.WriteByte(byte(image >> 8))
		key.WriteByte(byte(image))
	}
	return key.String()
}

// text returns the cycles of p with at least two points as a text.
func (p permutation) text() string {
	var text strings.Builder
	for _, cycle := range p.cycles() {
		if len(cycle) < 2 {
			continue
		}
		separator := "("
		for _, point := range cycle {
			text.WriteString(separator)
			text.WriteString(strconv.FormatInt(point, 10))
			separator = " "
		}
		text.WriteString(")")
	}
	if text.Len() == 0 {
		return "()"
	}
	return text.String()
}

// readCycles returns the permutation of n points whose cycles stand in a text, in any order, each
// from any of its points on and with numbers in any spelling, and whether there is one.
func readCycles(n int64, text string) (permutation, bool) {
	p := identityOf(n)
	for len(text) > 0 {
		cycle, rest, closed := strings.Cut(text, ")")
		points, opened := strings.CutPrefix(cycle, "(")
		if !closed || !opened || !p.placeCycle(points) {
			return nil, false
		}
		text = rest
	}
	return p, p.isValid()
}

// placeCycle makes p lead each of the points in a text to the next one, and reports whether all of
// them exist. A point that stands in two cycles may leave p invalid.
func (p permutation) placeCycle(text string) bool {
	if text == "" {
		return true
	}
	var cycle []int64
	for field := range strings.SplitSeq(text, " ") {
		point, err := strconv.ParseInt(field, 10, 64)
		if err != nil || point < 0 || point >= int64(len(p)) {
			return false
		}
		cycle = append(cycle, point)
	}
	for i, point := range cycle {
		p[point] = cycle[(i+1)%len(cycle)]
	}
	return true
}

// areAlike reports whether p and q are permutations of equally many points.
func areAlike(p permutation, q permutation) bool {
	return len(p) == len(q) && p.isValid() && q.isValid()
}

// isSystem reports whether a list is a system on n points.
func isSystem(n int64, list [][]int64) bool {
	if n < 0 || n > MaxPoints || len(list) > MaxGenerators {
		return false
	}
	for _, p := range list {
		if int64(len(p)) != n || !IsPermutation(p) {
			return false
		}
	}
	return true
}

// orbitFrom returns the orbit of a point in the order in which it is reached, and marks its points
// as reached. Inverses need not be done, because they are powers.
func orbitFrom(list [][]int64, point int64, reached []bool) []int64 {
	orbit := []int64{point}
	reached[point] = true
	for next := 0; next < len(orbit); next++ {
		for _, p := range list {
			image := p[orbit[next]]
			if !reached[image] {
				reached[image] = true
				orbit = append(orbit, image)
			}
		}
	}
	return orbit
}

// IsPermutation reports whether p is a permutation.
func IsPermutation(p []int64) bool {
	return permutation(p).isValid()
}

// ThenPermutation returns the permutation that does p then q, and ErrNone.
func ThenPermutation(p []int64, q []int64) ([]int64, int64) {
	if !areAlike(p, q) {
		return nil, ErrInvalid
	}
	return permutation(p).then(q), ErrNone
}

// InversePermutation returns the inverse of p, and ErrNone.
func InversePermutation(p []int64) ([]int64, int64) {
	if !IsPermutation(p) {
		return nil, ErrInvalid
	}
	return permutation(p).inverse(), ErrNone
}

// PowerPermutation returns the permutation that does p k times, or its inverse -k times if k is
// negative, and ErrNone; k is in -1000000000..1000000000.
func PowerPermutation(p []int64, k int64) ([]int64, int64) {
	if !IsPermutation(p) {
		return nil, ErrInvalid
	}
	if k < -maxPower || k > maxPower {
		return nil, ErrRange
	}
	return permutation(p).power(k), ErrNone
}

// PermutationOrder returns the order of p, and ErrNone. Errors: ErrLimit if it is greater than
// MaxOrder.
func PermutationOrder(p []int64) (int64, int64) {
	if !IsPermutation(p) {
		return 0, ErrInvalid
	}
	order, ok := permutation(p).order()
	if !ok {
		return 0, ErrLimit
	}
	return order, ErrNone
}

// CycleLengths returns the numbers of points of all cycles of p, those with one point among them,
// in ascending order, and ErrNone.
func CycleLengths(p []int64) ([]int64, int64) {
	if !IsPermutation(p) {
		return nil, ErrInvalid
	}
	return permutation(p).cycleLengths(), ErrNone
}

// ConjugatePermutation returns the permutation that does the inverse of q, then p, then q, and
// ErrNone.
func ConjugatePermutation(p []int64, q []int64) ([]int64, int64) {
	if !areAlike(p, q) {
		return nil, ErrInvalid
	}
	return permutation(q).inverse().then(p).then(q), ErrNone
}

// IsFreeInvolution reports whether p is a permutation that leads no point to itself, and that done
// twice is the identity.
func IsFreeInvolution(p []int64) bool {
	return IsPermutation(p) && permutation(p).isFreeInvolution()
}

// ApplyWord returns the point to which the permutations of a system, in the order of a list of
// their indices, one after the other, lead a point, and ErrNone. Errors: ErrRange also if the list
// has more than MaxWord elements, or one of them is no index.
func ApplyWord(n int64, list [][]int64, word []int64, point int64) (int64, int64) {
	if !isSystem(n, list) {
		return 0, ErrInvalid
	}
	if point < 0 || point >= n || len(word) > MaxWord {
		return 0, ErrRange
	}
	for _, index := range word {
		if index < 0 || index >= int64(len(list)) {
			return 0, ErrRange
		}
		point = list[index][point]
	}
	return point, ErrNone
}

// OrbitLabels returns for each point the number of its orbit, and ErrNone.
func OrbitLabels(n int64, list [][]int64) ([]int64, int64) {
	if !isSystem(n, list) {
		return nil, ErrInvalid
	}
	labels := make([]int64, n)
	reached := make([]bool, n)
	orbits := int64(0)
	for start := range n {
		if reached[start] {
			continue
		}
		for _, point := range orbitFrom(list, start, reached) {
			labels[point] = orbits
		}
		orbits++
	}
	return labels, ErrNone
}

// OrbitOf returns the points of the orbit of a point in ascending order, and ErrNone.
func OrbitOf(n int64, list [][]int64, point int64) ([]int64, int64) {
	if !isSystem(n, list) {
		return nil, ErrInvalid
	}
	if point < 0 || point >= n {
		return nil, ErrRange
	}
	orbit := orbitFrom(list, point, make([]bool, n))
	slices.Sort(orbit)
	return orbit, ErrNone
}

// GroupElements returns all permutations of the group of a system in lexicographic order, and
// ErrNone. Errors: ErrLimit if there are more than MaxElements.
func GroupElements(n int64, list [][]int64) ([][]int64, int64) {
	if !isSystem(n, list) {
		return nil, ErrInvalid
	}
	identity := identityOf(n)
	elements := [][]int64{identity}
	known := map[string]bool{identity.key(): true}
	for next := 0; next < len(elements); next++ {
		for _, generator := range list {
			element := permutation(elements[next]).then(generator)
			key := element.key()
			if known[key] {
				continue
			}
			if len(elements) == MaxElements {
				return nil, ErrLimit
			}
			known[key] = true
			elements = append(elements, element)
		}
	}
	slices.SortFunc(elements, slices.Compare[[]int64])
	return elements, ErrNone
}

// PermutationText returns the text of p, and ErrNone.
func PermutationText(p []int64) (string, int64) {
	if !IsPermutation(p) {
		return "", ErrInvalid
	}
	return permutation(p).text(), ErrNone
}

// ParsePermutation returns the permutation of n points with a text, and ErrNone. Errors: ErrRange,
// first, if n is not in 0..MaxPoints; ErrSyntax if there is none. (ErrInvalid is not returned.)
func ParsePermutation(n int64, text string) ([]int64, int64) {
	if n < 0 || n > MaxPoints {
		return nil, ErrRange
	}
	p, ok := readCycles(n, text)
	// A permutation has one text only, so the comparison rejects every other way to write it.
	if !ok || p.text() != text {
		return nil, ErrSyntax
	}
	return p, ErrNone
}
