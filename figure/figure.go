// Package figure is layer 1: see shared/doc/01-figure.md.
package figure

import (
	"cmp"
	"math"
	"slices"
	"strings"

	"drowse/api"
)

// The classes, in the order of numbers.
const (
	MinusInf = 1 + iota
	Below
	MinusZero
	Zero
	Above
	Inf
	NaN
)

// nanBits are the bits of the one NaN; what the machine makes of 0 by 0 has others.
const nanBits = 0x7FF8000000000001

// digits are what texts are made of: the place of each is its value.
const digits = "0123456789abcdef"

// textLen is how many digits 64 bits take.
const textLen = 16

// One is a number; the one NaN in the place of every other one.
func One(x float64) float64 {
	if math.IsNaN(x) {
		return theNaN()
	}
	return x
}

func theNaN() float64 { return math.Float64frombits(nanBits) }

// Class is what a number is.
func Class(x float64) int {
	switch {
	case math.IsNaN(x):
		return NaN
	case math.IsInf(x, -1):
		return MinusInf
	case math.IsInf(x, 1):
		return Inf
	case x < 0:
		return Below
	case x > 0:
		return Above
	case math.Signbit(x):
		return MinusZero
	}
	return Zero
}

// Order is how two stand: -1, 0, 1.
func Order(a, b float64) int {
	classA, classB := Class(a), Class(b)
	if classA != classB {
		return cmp.Compare(classA, classB)
	}
	if classA == Below || classA == Above {
		return cmp.Compare(a, b)
	}
	return 0
}

// Same tells whether two are the same.
func Same(a, b float64) bool { return Order(a, b) == 0 }

// Least is the first one in order, and its place.
func Least(l []float64) (float64, int) { return foremost(l, -1) }

// Most is the last one in order but the NaN, and its place.
func Most(l []float64) (float64, int) { return foremost(l, 1) }

// foremost is the number of l, but the NaN, that stands furthest to a side of the order, and the first place where it stands.
func foremost(l []float64, side int) (float64, int) {
	found, place := theNaN(), -1
	for i := range len(l) {
		if Class(l[i]) == NaN {
			continue
		}
		if place < 0 || Order(l[i], found) == side {
			found, place = l[i], i
		}
	}
	return found, place
}

// Rank is all places, in the order of what stands there.
func Rank(l []float64) []int {
	places := make([]int, len(l))
	for i := range len(l) {
		places[i] = i
	}
	slices.SortFunc(places, func(i, j int) int {
		// No two places are as good, so that the answer does not hang on how the sort goes about it.
		return cmp.Or(Order(l[i], l[j]), cmp.Compare(i, j))
	})
	return places
}

// Ratio is a by b.
func Ratio(a, b int64) float64 { return One(float64(a) / float64(b)) }

// Sum is all together, from the left.
func Sum(l []float64) float64 {
	if len(l) == 0 {
		return 0
	}
	// Beginning with +0 would make +0 of a sum of nothing but -0.
	sum := l[0]
	for i := range len(l) - 1 {
		sum += l[i+1]
	}
	return One(sum)
}

// Mean is their mean; of none it is 0 by 0, which is the NaN.
func Mean(l []float64) float64 { return One(Sum(l) / float64(len(l))) }

// Share is each one's share of all.
func Share(l []float64) []float64 {
	sum := Sum(l)
	shares := make([]float64, len(l))
	for i := range len(l) {
		shares[i] = One(l[i] / sum)
	}
	return shares
}

// Fair is how evenly they share; of none it is 0 by 0, which is the NaN.
func Fair(l []float64) float64 {
	sum, n := Sum(l), float64(len(l))
	return One((sum * sum) / (n * Sum(squares(l))))
}

func squares(l []float64) []float64 {
	products := make([]float64, len(l))
	for i := range len(l) {
		// The conversion keeps a compiler from taking this product and the sum that follows together.
		products[i] = float64(l[i] * l[i])
	}
	return products
}

// Text is a number's bits as a text.
func Text(x float64) string {
	bits := math.Float64bits(One(x))
	text := make([]byte, textLen)
	for i := range textLen {
		text[textLen-1-i] = digits[bits%16]
		bits /= 16
	}
	return string(text)
}

// Read is the number of a text.
func Read(s string) (float64, api.Errno) {
	if len(s) != textLen {
		return 0, api.ErrFigureText
	}
	bits := uint64(0)
	for i := range textLen {
		digit := strings.IndexByte(digits, s[i])
		if digit < 0 {
			return 0, api.ErrFigureText
		}
		bits = bits*16 + uint64(digit)
	}
	x := math.Float64frombits(bits)
	if math.IsNaN(x) && bits != nanBits {
		return 0, api.ErrFigureText
	}
	return x, api.OK
}
