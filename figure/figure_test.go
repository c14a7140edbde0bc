package figure_test

import (
	"cmp"
	"math"
	"math/big"
	"math/rand"
	"slices"
	"strings"
	"testing"

	"drowse/api"
	"drowse/figure"
)

const (
	maxFinite  = math.MaxFloat64
	minFinite  = math.SmallestNonzeroFloat64
	leastRound = 0x1p-1022 // the least number that has all its bits
)

var (
	minusZero = math.Copysign(0, -1)
	inf       = math.Inf(1)
	minusInf  = math.Inf(-1)
	theNaN    = math.Float64frombits(0x7FF8000000000001)
)

// nans are numbers that are none, with many bits: quiet ones and signalling ones, of both signs.
func nans() []float64 {
	var l []float64
	for _, b := range []uint64{
		0x7FF8000000000001, 0x7FF8000000000000, 0xFFF8000000000000, 0xFFF8000000000001,
		0x7FF0000000000001, 0xFFF0000000000001, 0x7FF7FFFFFFFFFFFF, 0x7FFFFFFFFFFFFFFF, 0xFFFFFFFFFFFFFFFF,
	} {
		l = append(l, math.Float64frombits(b))
	}
	return l
}

// ladder is numbers in their order, no two of them the same.
func ladder() []float64 {
	return []float64{
		minusInf,
		-maxFinite, -2, math.Nextafter(-1, -2), -1, math.Nextafter(-1, 0), -leastRound, -2 * minFinite, -minFinite,
		minusZero,
		0,
		minFinite, 2 * minFinite, leastRound, math.Nextafter(1, 0), 1, math.Nextafter(1, 2), 2, maxFinite,
		inf,
		theNaN,
	}
}

// edges is the ladder, and what is no number with other bits.
func edges() []float64 { return append(ladder(), nans()...) }

func bits(x float64) uint64 { return math.Float64bits(x) }

func sameBits(a, b float64) bool { return bits(a) == bits(b) }

func sameLists(a, b []float64) bool { return slices.EqualFunc(a, b, sameBits) }

// source gives the same numbers each time.
func source() *rand.Rand { return rand.New(rand.NewSource(1)) }

// anyFloat is an edge, a small whole number or a number of any bits.
func anyFloat(r *rand.Rand) float64 {
	switch r.Intn(3) {
	case 0:
		e := edges()
		return e[r.Intn(len(e))]
	case 1:
		return float64(r.Intn(7) - 3)
	}
	return math.Float64frombits(r.Uint64())
}

func anyList(r *rand.Rand) []float64 {
	l := make([]float64, r.Intn(12))
	for i := range l {
		l[i] = anyFloat(r)
	}
	return l
}

// P1.1

func TestOne(t *testing.T) {
	for _, x := range nans() {
		if got := figure.One(x); bits(got) != 0x7FF8000000000001 {
			t.Errorf("One of the bits %x: %x", bits(x), bits(got))
		}
	}
	for _, x := range ladder() {
		if got := figure.One(x); !sameBits(got, x) {
			t.Errorf("One(%v): the bits %x", x, bits(got))
		}
	}
}

func TestClassConstants(t *testing.T) {
	got := []int{figure.MinusInf, figure.Below, figure.MinusZero, figure.Zero, figure.Above, figure.Inf, figure.NaN}
	if !slices.Equal(got, []int{1, 2, 3, 4, 5, 6, 7}) {
		t.Error(got)
	}
}

func TestClass(t *testing.T) {
	for _, c := range []struct {
		x    float64
		want int
	}{
		{minusInf, 1},
		{-maxFinite, 2}, {-1, 2}, {-leastRound, 2}, {-minFinite, 2},
		{minusZero, 3},
		{0, 4},
		{minFinite, 5}, {leastRound, 5}, {1, 5}, {maxFinite, 5},
		{inf, 6},
		{math.NaN(), 7},
	} {
		if got := figure.Class(c.x); got != c.want {
			t.Errorf("Class(%v): %d, not %d", c.x, got, c.want)
		}
	}
	for _, x := range nans() {
		if got := figure.Class(x); got != 7 {
			t.Errorf("Class of the bits %x: %d", bits(x), got)
		}
	}
}

func TestOrderOnTheLadder(t *testing.T) {
	l := ladder()
	for i, a := range l {
		for j, b := range l {
			want := cmp.Compare(i, j)
			if got := figure.Order(a, b); got != want {
				t.Errorf("Order(%v, %v): %d, not %d", a, b, got, want)
			}
			if got := figure.Same(a, b); got != (i == j) {
				t.Errorf("Same(%v, %v): %v", a, b, got)
			}
		}
	}
}

func TestOrderOfWhatIsNoNumber(t *testing.T) {
	for _, a := range nans() {
		for _, b := range nans() {
			if figure.Order(a, b) != 0 || !figure.Same(a, b) {
				t.Errorf("the bits %x and %x are not the same", bits(a), bits(b))
			}
		}
		if figure.Order(a, inf) != 1 || figure.Order(inf, a) != -1 || figure.Same(a, inf) {
			t.Errorf("the bits %x do not stand behind +inf", bits(a))
		}
		if figure.Order(a, minusInf) != 1 || figure.Order(minusInf, a) != -1 {
			t.Errorf("the bits %x do not stand behind -inf", bits(a))
		}
	}
}

func TestOrderExamples(t *testing.T) {
	for _, c := range []struct {
		a, b float64
		want int
	}{{minusZero, 0, -1}, {theNaN, inf, 1}, {theNaN, theNaN, 0}, {-1, -2, 1}} {
		if got := figure.Order(c.a, c.b); got != c.want {
			t.Errorf("Order(%v, %v): %d, not %d", c.a, c.b, got, c.want)
		}
	}
}

// P1.2

func TestLeastAndMost(t *testing.T) {
	signalling := math.Float64frombits(0xFFF0000000000001)
	for _, c := range []struct {
		name      string
		l         []float64
		least     float64
		leastAt   int
		most      float64
		mostPlace int
	}{
		{"nil", nil, theNaN, -1, theNaN, -1},
		{"none", []float64{}, theNaN, -1, theNaN, -1},
		{"one", []float64{3}, 3, 0, 3, 0},
		{"the NaN alone", []float64{theNaN, theNaN}, theNaN, -1, theNaN, -1},
		{"other NaNs alone", []float64{signalling}, theNaN, -1, theNaN, -1},
		{"noughts", []float64{theNaN, 0, minusZero}, minusZero, 2, 0, 1},
		{"noughts the other way", []float64{minusZero, 0}, minusZero, 0, 0, 1},
		{"infinities", []float64{1, inf, theNaN, minusInf, -1}, minusInf, 3, inf, 1},
		{"an infinity alone", []float64{signalling, inf}, inf, 1, inf, 1},
		{"minus infinity alone", []float64{theNaN, minusInf}, minusInf, 1, minusInf, 1},
		{"the first of several", []float64{2, 1, 1, 2, 1, 2}, 1, 1, 2, 0},
		{"all the same", []float64{5, 5, 5}, 5, 0, 5, 0},
		{"the same noughts", []float64{0, minusZero, minusZero, 0}, minusZero, 1, 0, 0},
		{"finite ends", []float64{minFinite, -minFinite, maxFinite, -maxFinite}, -maxFinite, 3, maxFinite, 2},
	} {
		if x, at := figure.Least(c.l); !sameBits(x, c.least) || at != c.leastAt {
			t.Errorf("Least, %s: %v (%x) at %d", c.name, x, bits(x), at)
		}
		if x, at := figure.Most(c.l); !sameBits(x, c.most) || at != c.mostPlace {
			t.Errorf("Most, %s: %v (%x) at %d", c.name, x, bits(x), at)
		}
	}
}

func TestRank(t *testing.T) {
	other := math.Float64frombits(0xFFF0000000000001)
	for _, c := range []struct {
		l    []float64
		want []int
	}{
		{nil, nil},
		{[]float64{}, nil},
		{[]float64{7}, []int{0}},
		{[]float64{theNaN}, []int{0}},
		{[]float64{theNaN, 2, minusZero, 2, 0}, []int{2, 4, 1, 3, 0}},
		{[]float64{other, theNaN, 1, other}, []int{2, 0, 1, 3}},
		{[]float64{3, 2, 1}, []int{2, 1, 0}},
		{[]float64{4, 4, 4, 4}, []int{0, 1, 2, 3}},
		{[]float64{0, minusZero, 0, minusZero}, []int{1, 3, 0, 2}},
		{[]float64{inf, minusInf, maxFinite, -maxFinite}, []int{1, 3, 2, 0}},
	} {
		if got := figure.Rank(c.l); !slices.Equal(got, c.want) {
			t.Errorf("Rank(%v): %v, not %v", c.l, got, c.want)
		}
	}
}

// A long list is where a sort that does not keep the places of the same number rising shows itself.
func TestRankOfLongLists(t *testing.T) {
	r := source()
	for range 20 {
		l := make([]float64, 1000)
		for i := range l {
			l[i] = anyFloat(r)
		}
		want := make([]int, len(l))
		for i := range want {
			want[i] = i
		}
		slices.SortStableFunc(want, func(i, j int) int { return figure.Order(l[i], l[j]) })
		if !slices.Equal(figure.Rank(l), want) {
			t.Fatal("places are not as they must be")
		}
	}
}

// P1.3

func TestRatio(t *testing.T) {
	const most, least = math.MaxInt64, math.MinInt64
	for _, c := range []struct {
		a, b int64
		want float64
	}{
		{1, 3, 0x1.5555555555555p-2},
		{6, 3, 2}, {-6, 4, -1.5}, {6, -4, -1.5}, {-6, -4, 1.5},
		{1, 0, inf}, {-1, 0, minusInf}, {most, 0, inf}, {least, 0, minusInf},
		{0, 0, theNaN},
		{0, 5, 0}, {0, -5, minusZero},
		{1 << 53, 1, 0x1p53},
		{1<<53 + 1, 1, 0x1p53}, {1<<53 + 2, 1, 0x1p53 + 2}, {1<<53 + 3, 1, 0x1p53 + 4},
		{-1<<53 - 1, 1, -0x1p53}, {-1<<53 - 3, 1, -0x1p53 - 4},
		{1<<53 + 1, 1<<53 + 1, 1}, {1 << 53, 1<<53 + 1, 1}, {1<<53 + 1, 1<<53 + 3, 0x1p53 / (0x1p53 + 4)},
		{most, 1, 0x1p63}, {least, 1, -0x1p63}, {most, least, -1}, {least, most, -1}, {least, -1, 0x1p63},
		{1, most, 0x1p-63}, {1, least, -0x1p-63},
		{most - 512, 1, 0x1p63 - 1024}, {most - 511, 1, 0x1p63}, {most - 510, 1, 0x1p63},
	} {
		if got := figure.Ratio(c.a, c.b); !sameBits(got, c.want) {
			t.Errorf("Ratio(%d, %d): %v (%x), not %v", c.a, c.b, got, bits(got), c.want)
		}
	}
}

// bigFloat rounds what comes of each operation to 53 bits, ties to even.
func bigFloat() *big.Float { return new(big.Float).SetPrec(53).SetMode(big.ToNearestEven) }

func TestRatioRoundsThrice(t *testing.T) {
	r := source()
	for range 5000 {
		a, b := int64(r.Uint64())>>r.Intn(63), int64(r.Uint64())>>r.Intn(63)
		if a == 0 || b == 0 {
			continue
		}
		want, _ := bigFloat().Quo(bigFloat().SetInt64(a), bigFloat().SetInt64(b)).Float64()
		if got := figure.Ratio(a, b); !sameBits(got, want) {
			t.Fatalf("Ratio(%d, %d): %v, not %v", a, b, got, want)
		}
	}
}

// P1.4

func TestSum(t *testing.T) {
	for _, c := range []struct {
		l    []float64
		want float64
	}{
		{nil, 0}, {[]float64{}, 0},
		{[]float64{0}, 0}, {[]float64{minusZero}, minusZero},
		{[]float64{minusZero, minusZero}, minusZero}, {[]float64{minusZero, 0}, 0}, {[]float64{0, minusZero}, 0},
		{[]float64{1, -1}, 0}, {[]float64{minusZero, 1, -1}, 0},
		{[]float64{1, 0x1p53, -0x1p53}, 0}, {[]float64{0x1p53, -0x1p53, 1}, 1}, {[]float64{0x1p53, 1, 1}, 0x1p53},
		{[]float64{1, 1, 0x1p53}, 0x1p53 + 2},
		{[]float64{inf, 1}, inf}, {[]float64{1, minusInf}, minusInf},
		{[]float64{inf, minusInf}, theNaN}, {[]float64{minusInf, inf}, theNaN},
		{[]float64{maxFinite, maxFinite}, inf}, {[]float64{maxFinite, maxFinite, -maxFinite}, inf}, {[]float64{maxFinite, -maxFinite, maxFinite}, maxFinite},
		{[]float64{minFinite, minFinite}, 2 * minFinite}, {[]float64{minFinite, -minFinite}, 0},
	} {
		if got := figure.Sum(c.l); !sameBits(got, c.want) {
			t.Errorf("Sum(%v): %v (%x), not %v", c.l, got, bits(got), c.want)
		}
	}
}

func TestMean(t *testing.T) {
	for _, c := range []struct {
		l    []float64
		want float64
	}{
		{nil, theNaN}, {[]float64{}, theNaN},
		{[]float64{1, 2}, 1.5}, {[]float64{7}, 7}, {[]float64{1, 1, 0}, 0x1.5555555555555p-1},
		{[]float64{minusZero}, minusZero}, {[]float64{minusZero, minusZero}, minusZero}, {[]float64{0, minusZero}, 0},
		{[]float64{inf, 3}, inf}, {[]float64{minusInf, 3}, minusInf}, {[]float64{inf, minusInf}, theNaN},
		{[]float64{maxFinite, maxFinite}, inf},
		{[]float64{minFinite, 0}, 0}, {[]float64{-minFinite, 0}, minusZero},
	} {
		if got := figure.Mean(c.l); !sameBits(got, c.want) {
			t.Errorf("Mean(%v): %v (%x), not %v", c.l, got, bits(got), c.want)
		}
	}
}

func TestShare(t *testing.T) {
	for _, c := range []struct{ l, want []float64 }{
		{nil, nil}, {[]float64{}, nil},
		{[]float64{1, 3}, []float64{0.25, 0.75}},
		{[]float64{0, 0}, []float64{theNaN, theNaN}}, {[]float64{minusZero}, []float64{theNaN}},
		{[]float64{5}, []float64{1}},
		{[]float64{0, 4, minusZero}, []float64{0, 1, minusZero}}, {[]float64{0, -4}, []float64{minusZero, 1}},
		{[]float64{1, -1}, []float64{inf, minusInf}}, {[]float64{1, -1, 0}, []float64{inf, minusInf, theNaN}},
		{[]float64{inf, 1, -1}, []float64{theNaN, 0, minusZero}}, {[]float64{minusInf, 1}, []float64{theNaN, minusZero}},
		{[]float64{maxFinite, maxFinite}, []float64{0, 0}},
		{[]float64{1, 1, 1}, []float64{0x1.5555555555555p-2, 0x1.5555555555555p-2, 0x1.5555555555555p-2}},
	} {
		if got := figure.Share(c.l); !sameLists(got, c.want) {
			t.Errorf("Share(%v): %v, not %v", c.l, got, c.want)
		}
	}
}

func TestFair(t *testing.T) {
	for _, c := range []struct {
		l    []float64
		want float64
	}{
		{nil, theNaN}, {[]float64{}, theNaN},
		{[]float64{0}, theNaN}, {[]float64{minusZero, 0}, theNaN},
		{[]float64{1, 1}, 1}, {[]float64{1, 0}, 0.5}, {[]float64{3}, 1}, {[]float64{-2, -2}, 1},
		{[]float64{1, 2, 3}, 36.0 / 42.0}, {[]float64{1, -1}, 0},
		{[]float64{inf}, theNaN}, {[]float64{inf, minusInf}, theNaN}, {[]float64{minusInf, 2}, theNaN},
		{[]float64{0x1p600, -0x1p600}, 0}, {[]float64{0x1p600}, theNaN}, {[]float64{0x1p511, 0x1p511}, theNaN},
		{[]float64{0x1p-600}, theNaN}, {[]float64{minFinite, minFinite}, theNaN},
	} {
		if got := figure.Fair(c.l); !sameBits(got, c.want) {
			t.Errorf("Fair(%v): %v (%x), not %v", c.l, got, bits(got), c.want)
		}
	}
}

func TestWhatIsNoNumberGoesThrough(t *testing.T) {
	for _, x := range nans() {
		for _, l := range [][]float64{{x}, {x, 1}, {1, x}, {1, x, inf}, {x, x}} {
			for name, got := range map[string]float64{"Sum": figure.Sum(l), "Mean": figure.Mean(l), "Fair": figure.Fair(l)} {
				if !sameBits(got, theNaN) {
					t.Errorf("%s with the bits %x: %x", name, bits(x), bits(got))
				}
			}
			for _, got := range figure.Share(l) {
				if !sameBits(got, theNaN) {
					t.Errorf("Share with the bits %x: %x", bits(x), bits(got))
				}
			}
		}
	}
}

// bigSum adds from the left, rounding each time.
func bigSum(l []float64, each func(*big.Float) *big.Float) *big.Float {
	sum := each(bigFloat().SetFloat64(l[0]))
	for _, x := range l[1:] {
		sum = bigFloat().Add(sum, each(bigFloat().SetFloat64(x)))
	}
	return sum
}

func TestEachOperationRoundsByItself(t *testing.T) {
	r := source()
	for range 5000 {
		l := make([]float64, 1+r.Intn(8))
		for i := range l {
			l[i] = math.Ldexp(r.Float64()+0.5, r.Intn(40))
		}
		n := bigFloat().SetInt64(int64(len(l)))
		sum := bigSum(l, func(x *big.Float) *big.Float { return x })
		squares := bigSum(l, func(x *big.Float) *big.Float { return bigFloat().Mul(x, x) })
		wantSum, _ := sum.Float64()
		wantMean, _ := bigFloat().Quo(sum, n).Float64()
		wantFair, _ := bigFloat().Quo(bigFloat().Mul(sum, sum), bigFloat().Mul(n, squares)).Float64()
		if !sameBits(figure.Sum(l), wantSum) || !sameBits(figure.Mean(l), wantMean) || !sameBits(figure.Fair(l), wantFair) {
			t.Fatalf("%v: %v %v %v, not %v %v %v", l, figure.Sum(l), figure.Mean(l), figure.Fair(l), wantSum, wantMean, wantFair)
		}
		for i, got := range figure.Share(l) {
			want, _ := bigFloat().Quo(bigFloat().SetFloat64(l[i]), sum).Float64()
			if !sameBits(got, want) {
				t.Fatalf("Share(%v) at %d: %v, not %v", l, i, got, want)
			}
		}
	}
}

// P1.5

func TestText(t *testing.T) {
	for _, c := range []struct {
		x    float64
		want string
	}{
		{minusZero, "8000000000000000"}, {0, "0000000000000000"},
		{1, "3ff0000000000000"}, {-2, "c000000000000000"},
		{inf, "7ff0000000000000"}, {minusInf, "fff0000000000000"},
		{minFinite, "0000000000000001"}, {-minFinite, "8000000000000001"},
		{maxFinite, "7fefffffffffffff"}, {-maxFinite, "ffefffffffffffff"},
		{math.Float64frombits(0x0123456789abcdef), "0123456789abcdef"}, {math.Float64frombits(0xfedcba9876543210), "fedcba9876543210"},
		{theNaN, "7ff8000000000001"},
	} {
		if got := figure.Text(c.x); got != c.want {
			t.Errorf("Text(%v): %s, not %s", c.x, got, c.want)
		}
		if x, e := figure.Read(c.want); e != api.OK || !sameBits(x, c.x) {
			t.Errorf("Read(%s): %v (%x), %v", c.want, x, bits(x), e)
		}
	}
	for _, x := range nans() {
		if got := figure.Text(x); got != "7ff8000000000001" {
			t.Errorf("Text of the bits %x: %s", bits(x), got)
		}
	}
}

func TestReadOfWhatIsNoText(t *testing.T) {
	for _, s := range []string{
		"", "0", "3ff000000000000", "3ff00000000000000", "00000000000000000000000000000000",
		"3FF0000000000000", "3fF0000000000000", "000000000000000A", "000000000000000F",
		"7ff8000000000000", "fff8000000000000", "fff8000000000001", "7ff8000000000002", "7ff0000000000001", "7fffffffffffffff", "ffffffffffffffff",
		"3ff000000000000g", "g000000000000000", "000000000000000/", "000000000000000:", "000000000000000`", "000000000000000@",
		" 3ff000000000000", "3ff000000000000 ", "+3ff000000000000", "-3ff000000000000", "0x3ff00000000000", "3ff0_00000000000", "3ff000000000000\n",
		"\x003ff000000000000", "3ff000000000000\xff", "3ff00000000000é", "３ff0000000000", strings.Repeat("0", 15) + "\x00",
	} {
		if x, e := figure.Read(s); bits(x) != 0 || e != api.ErrFigureText {
			t.Errorf("Read(%q): %v (%x), %v", s, x, bits(x), e)
		}
	}
	if api.ErrFigureText != 11 {
		t.Error("ErrFigureText is not 11")
	}
}

// Each byte at each place: just the sixteen digits are taken.
func TestReadOfEachByte(t *testing.T) {
	for place := range 16 {
		for b := range 256 {
			s := []byte(strings.Repeat("0", 16))
			s[place] = byte(b)
			x, e := figure.Read(string(s))
			value := strings.IndexByte("0123456789abcdef", byte(b))
			if value < 0 {
				if bits(x) != 0 || e != api.ErrFigureText {
					t.Errorf("Read(%q): %v, %v", s, x, e)
				}
			} else if e != api.OK || bits(x) != uint64(value)<<(60-4*place) {
				t.Errorf("Read(%q): %x, %v", s, bits(x), e)
			}
		}
	}
}

// P1.6

func TestOrderIsAnOrder(t *testing.T) {
	l := edges()
	r := source()
	for range 30 {
		l = append(l, anyFloat(r))
	}
	for _, a := range l {
		for _, b := range l {
			if figure.Order(b, a) != -figure.Order(a, b) {
				t.Errorf("Order(%v, %v) is not the opposite", b, a)
			}
			if figure.Same(a, b) != (figure.Order(a, b) == 0) {
				t.Errorf("Same(%v, %v)", a, b)
			}
			for _, c := range l {
				if figure.Order(a, b) <= 0 && figure.Order(b, c) <= 0 && figure.Order(a, c) > 0 {
					t.Errorf("%v, %v, %v", a, b, c)
				}
			}
		}
	}
}

func TestLeastAndMostAreTheEndsOfRank(t *testing.T) {
	r := source()
	for range 3000 {
		l := anyList(r)
		var numbers []int
		for _, at := range figure.Rank(l) {
			if figure.Class(l[at]) != figure.NaN {
				numbers = append(numbers, at)
			}
		}
		least, leastAt := figure.Least(l)
		most, mostAt := figure.Most(l)
		if len(numbers) == 0 {
			if !sameBits(least, theNaN) || !sameBits(most, theNaN) || leastAt != -1 || mostAt != -1 {
				t.Fatal(l, least, leastAt, most, mostAt)
			}
			continue
		}
		if first := numbers[0]; leastAt != first || !sameBits(least, l[first]) {
			t.Fatal(l, least, leastAt)
		}
		if last := l[numbers[len(numbers)-1]]; !sameBits(most, last) || mostAt != slices.IndexFunc(l, func(x float64) bool { return sameBits(x, last) }) {
			t.Fatal(l, most, mostAt)
		}
	}
}

func TestReadOfTextAndBack(t *testing.T) {
	l := edges()
	r := source()
	for range 3000 {
		l = append(l, math.Float64frombits(r.Uint64()))
	}
	for _, x := range l {
		s := figure.Text(x)
		got, e := figure.Read(s)
		if e != api.OK || !sameBits(got, figure.One(x)) {
			t.Fatalf("the bits %x: %s, %x, %v", bits(x), s, bits(got), e)
		}
		if figure.Text(got) != s {
			t.Fatalf("%s is told as %s", s, figure.Text(got))
		}
	}
}

func TestFairOfWholeNumbers(t *testing.T) {
	r := source()
	for range 2000 {
		l := make([]float64, 1+r.Intn(1000))
		most := 1 + r.Intn(1000)
		for i := range l {
			l[i] = float64(r.Intn(most + 1))
		}
		l[r.Intn(len(l))] = float64(1 + r.Intn(1000))
		if f := figure.Fair(l); !(f > 0 && f <= 1) {
			t.Fatal(l, f)
		}
	}
	alone := make([]float64, 1000)
	alone[999] = 1
	if f := figure.Fair(alone); !sameBits(f, 1.0/1000) {
		t.Error(f)
	}
}

func TestFairOfTheSameIsOne(t *testing.T) {
	for _, n := range []int{1, 2, 3, 7, 10, 49, 100, 333, 999, 1000} {
		for x := 1; x <= 1000; x++ {
			if f := figure.Fair(slices.Repeat([]float64{float64(x)}, n)); f != 1 {
				t.Fatal(n, x, f)
			}
		}
	}
}

// P1, P2 and the rules that hold everywhere

// What is handed in stays as it is, and so does what lies behind it; what is answered is new.
func TestArgumentsStay(t *testing.T) {
	whole := []float64{2, math.Float64frombits(0xFFF0000000000001), minusZero, 2, 5, 99, math.Float64frombits(0xFFF0000000000002)}
	kept := slices.Clone(whole)
	l := whole[:5]
	figure.Least(l)
	figure.Most(l)
	figure.Sum(l)
	figure.Mean(l)
	figure.Fair(l)
	rank, again := figure.Rank(l), figure.Rank(l)
	share, shareAgain := figure.Share(l), figure.Share(l)
	if !sameLists(whole, kept) {
		t.Error("the list was written into")
	}
	for i := range l {
		share[i], rank[i] = -7, -7
	}
	if !sameLists(whole, kept) || slices.Contains(shareAgain, -7) || slices.Contains(again, -7) {
		t.Error("an answer shares memory")
	}
}

func TestWhatLiesBehindIsNotRead(t *testing.T) {
	a := []float64{1, 3, inf}[:2]
	b := []float64{1, 3}
	leastA, leastAtA := figure.Least(a)
	leastB, leastAtB := figure.Least(b)
	mostA, mostAtA := figure.Most(a)
	mostB, mostAtB := figure.Most(b)
	if leastA != leastB || leastAtA != leastAtB || mostA != mostB || mostAtA != mostAtB {
		t.Error("Least, Most")
	}
	if figure.Sum(a) != figure.Sum(b) || figure.Mean(a) != figure.Mean(b) || figure.Fair(a) != figure.Fair(b) {
		t.Error("Sum, Mean, Fair")
	}
	if !sameLists(figure.Share(a), figure.Share(b)) || !slices.Equal(figure.Rank(a), figure.Rank(b)) {
		t.Error("Share, Rank")
	}
}

// Each answer is the one NaN or a number, the same each time, and no call panics.
func TestAnswersAtAllArguments(t *testing.T) {
	r := source()
	for range 3000 {
		l := anyList(r)
		least, _ := figure.Least(l)
		most, _ := figure.Most(l)
		answers := append([]float64{
			figure.Sum(l), figure.Mean(l), figure.Fair(l), least, most,
			figure.Ratio(int64(r.Uint64())>>r.Intn(64), int64(r.Uint64())>>r.Intn(64)),
		}, figure.Share(l)...)
		for _, x := range answers {
			if !sameBits(x, figure.One(x)) {
				t.Fatalf("%v: the bits %x", l, bits(x))
			}
		}
		if !sameBits(answers[0], figure.Sum(l)) || !sameBits(answers[1], figure.Mean(l)) || !sameBits(answers[2], figure.Fair(l)) {
			t.Fatalf("%v: another answer the second time", l)
		}
		if len(figure.Share(l)) != len(l) || len(figure.Rank(l)) != len(l) {
			t.Fatalf("%v: not as long", l)
		}
	}
}
