package tests

import (
	"math"
	"math/big"
	"testing"

	"loop.example/g00515/impl"
)

// The limits of the specification are written out here, so that a change of
// the program's constants does not change what the tests expect.
const (
	limitNumber = 1000000
	limitCoeff  = 1000000000
)

func TestLimitConstants(t *testing.T) {
	if impl.MaxNumber != limitNumber {
		t.Errorf("MaxNumber = %d, want %d", impl.MaxNumber, limitNumber)
	}
	if impl.MaxCoeff != limitCoeff {
		t.Errorf("MaxCoeff = %d, want %d", impl.MaxCoeff, limitCoeff)
	}
}

func TestFits(t *testing.T) {
	cases := []struct {
		n    int
		want bool
	}{
		{0, true},
		{1, true},
		{-1, true},
		{123456, true},
		{-654321, true},
		{limitNumber - 1, true},
		{limitNumber, true},
		{limitNumber + 1, false},
		{-limitNumber + 1, true},
		{-limitNumber, true},
		{-limitNumber - 1, false},
		{limitCoeff, false},
		{-limitCoeff, false},
		{1 << 32, false},
		{1<<32 + 1, false},
		{-1 << 32, false},
		{math.MaxInt, false},
		{math.MinInt, false},
		{math.MinInt + 1, false},
	}
	for _, c := range cases {
		if got := impl.Fits(c.n); got != c.want {
			t.Errorf("Fits(%d) = %t, want %t", c.n, got, c.want)
		}
	}
}

// limitCase expects ok to be false with a want of 0.
type limitCase struct {
	x, y int
	want int
	ok   bool
}

func TestAddLimited(t *testing.T) {
	cases := []limitCase{
		{0, 0, 0, true},
		{2, 3, 5, true},
		{-2, 3, 1, true},
		{2, -3, -1, true},
		{-2, -3, -5, true},
		{7, -7, 0, true},
		{1000, 0, 1000, true},
		{0, -1000, -1000, true},
		{limitNumber, limitNumber, 2 * limitNumber, true},

		{limitCoeff, 0, limitCoeff, true},
		{0, limitCoeff, limitCoeff, true},
		{limitCoeff - 1, 1, limitCoeff, true},
		{1, limitCoeff - 1, limitCoeff, true},
		{500000000, 500000000, limitCoeff, true},
		{limitCoeff - 1, 0, limitCoeff - 1, true},
		{limitCoeff, 1, 0, false},
		{1, limitCoeff, 0, false},
		{limitCoeff - 1, 2, 0, false},
		{500000000, 500000001, 0, false},
		{limitCoeff, limitCoeff, 0, false},

		{-limitCoeff, 0, -limitCoeff, true},
		{0, -limitCoeff, -limitCoeff, true},
		{-limitCoeff + 1, -1, -limitCoeff, true},
		{-1, -limitCoeff + 1, -limitCoeff, true},
		{-500000000, -500000000, -limitCoeff, true},
		{-limitCoeff, -1, 0, false},
		{-1, -limitCoeff, 0, false},
		{-500000001, -500000000, 0, false},
		{-limitCoeff, -limitCoeff, 0, false},

		{limitCoeff, -limitCoeff, 0, true},
		{-limitCoeff, limitCoeff, 0, true},
		{limitCoeff, -1, limitCoeff - 1, true},
		{1, -limitCoeff, -limitCoeff + 1, true},

		// The sum would be within the limits, but an argument is not.
		{limitCoeff + 1, -1, 0, false},
		{-1, limitCoeff + 1, 0, false},
		{limitCoeff + 1, 0, 0, false},
		{0, limitCoeff + 1, 0, false},
		{-limitCoeff - 1, 1, 0, false},
		{1, -limitCoeff - 1, 0, false},
		{0, -limitCoeff - 1, 0, false},
		{limitCoeff + 1, -limitCoeff - 1, 0, false},
		{limitCoeff + 1, -limitCoeff, 0, false},
		{-limitCoeff, limitCoeff + 1, 0, false},
		{math.MaxInt, math.MinInt, 0, false},
		{math.MinInt, math.MaxInt, 0, false},
		{math.MaxInt, -math.MaxInt, 0, false},

		// The sum wraps around to a small number.
		{math.MinInt, math.MinInt, 0, false},
		{math.MaxInt, math.MaxInt, 0, false},
		{math.MinInt, math.MinInt + 5, 0, false},
		{math.MaxInt, math.MinInt + 1, 0, false},

		{math.MaxInt, 0, 0, false},
		{0, math.MaxInt, 0, false},
		{math.MinInt, 0, 0, false},
		{0, math.MinInt, 0, false},
		{math.MaxInt, 1, 0, false},
		{-1, math.MinInt, 0, false},
		{math.MaxInt, -limitCoeff, 0, false},
		{limitCoeff, math.MinInt, 0, false},
	}
	for _, c := range cases {
		if got, ok := impl.AddLimited(c.x, c.y); got != c.want || ok != c.ok {
			t.Errorf("AddLimited(%d, %d) = %d, %t, want %d, %t", c.x, c.y, got, ok, c.want, c.ok)
		}
	}
}

func TestMulLimited(t *testing.T) {
	cases := []limitCase{
		{0, 0, 0, true},
		{2, 3, 6, true},
		{-2, 3, -6, true},
		{2, -3, -6, true},
		{-2, -3, 6, true},
		{1, 12345, 12345, true},
		{12345, -1, -12345, true},
		{0, 12345, 0, true},
		{-12345, 0, 0, true},

		{limitCoeff, 1, limitCoeff, true},
		{1, limitCoeff, limitCoeff, true},
		{limitCoeff, -1, -limitCoeff, true},
		{-1, limitCoeff, -limitCoeff, true},
		{-limitCoeff, 1, -limitCoeff, true},
		{-limitCoeff, -1, limitCoeff, true},
		{-1, -limitCoeff, limitCoeff, true},
		{limitCoeff, 0, 0, true},
		{0, -limitCoeff, 0, true},
		{25000, 40000, limitCoeff, true},
		{-25000, 40000, -limitCoeff, true},
		{-2, -500000000, limitCoeff, true},
		{2, -500000000, -limitCoeff, true},
		{9, 111111111, limitCoeff - 1, true},
		{31622, 31622, 999950884, true},

		// The product is limitCoeff + 1, or its negative.
		{7, 142857143, 0, false},
		{-7, 142857143, 0, false},
		{1001, -999001, 0, false},
		{-1001, -999001, 0, false},

		{31623, 31623, 0, false},
		{-31623, 31623, 0, false},
		{40000, 40000, 0, false},
		{limitNumber, limitNumber, 0, false},
		{limitCoeff, 2, 0, false},
		{2, -limitCoeff, 0, false},
		{500000001, 2, 0, false},
		{limitCoeff, limitCoeff, 0, false},
		{limitCoeff, -limitCoeff, 0, false},
		{-limitCoeff, limitCoeff, 0, false},
		{-limitCoeff, -limitCoeff, 0, false},
		{limitCoeff - 1, limitCoeff, 0, false},

		// The product would be 0 and within the limits, but an argument is not.
		{0, limitCoeff + 1, 0, false},
		{limitCoeff + 1, 0, 0, false},
		{0, -limitCoeff - 1, 0, false},
		{-limitCoeff - 1, 0, 0, false},
		{0, math.MaxInt, 0, false},
		{math.MaxInt, 0, 0, false},
		{0, math.MinInt, 0, false},
		{math.MinInt, 0, 0, false},

		{limitCoeff + 1, 1, 0, false},
		{1, limitCoeff + 1, 0, false},
		{-limitCoeff - 1, -1, 0, false},
		{-1, -limitCoeff - 1, 0, false},
		{math.MaxInt, 1, 0, false},
		{-1, math.MaxInt, 0, false},
		{math.MinInt, 1, 0, false},
		{math.MinInt, -1, 0, false},
		{-1, math.MinInt, 0, false},

		// The product wraps around to a small number.
		{math.MinInt, 2, 0, false},
		{2, math.MinInt, 0, false},
		{math.MinInt, math.MinInt, 0, false},
		{math.MaxInt, math.MaxInt, 0, false},
		{math.MaxInt, 2, 0, false},
		{math.MaxInt, -2, 0, false},
		{1 << 32, 1 << 32, 0, false},
		{1 << 32, -1 << 32, 0, false},
		{3, -6148914691236517205, 0, false},
		{-6148914691236517205, 3, 0, false},
		{math.MaxInt, math.MinInt, 0, false},
		{math.MinInt, limitCoeff, 0, false},
		{-limitCoeff, math.MinInt, 0, false},
	}
	for _, c := range cases {
		if got, ok := impl.MulLimited(c.x, c.y); got != c.want || ok != c.ok {
			t.Errorf("MulLimited(%d, %d) = %d, %t, want %d, %t", c.x, c.y, got, ok, c.want, c.ok)
		}
	}
}

// edgeNumbers returns numbers at, below and above all limits, their halves,
// square roots and divisors, and numbers of few digits, with both signs.
func edgeNumbers() []int {
	list := []int{0, math.MinInt}
	for _, n := range []int{
		1, 2, 3, 5, 6, 7, 8, 9, 10, 12, 1001, 25000, 31622, 31623, 40000, 46341, 65536,
		limitNumber - 1, limitNumber, limitNumber + 1,
		142857143, 333333333, 433494437, 499999999, 500000000, 500000001, 701408733,
		limitCoeff - 2, limitCoeff - 1, limitCoeff, limitCoeff + 1, limitCoeff + 2, 2 * limitCoeff,
		1<<31 - 1, 1 << 31, 1 << 32, 1<<32 + 1, 3037000500, 1 << 62,
		6148914691236517205, math.MaxInt - limitCoeff, math.MaxInt - 1, math.MaxInt,
	} {
		list = append(list, n, -n)
	}
	return list
}

func withinCoeff(n int) bool { return n >= -limitCoeff && n <= limitCoeff }

// exactResult returns what a limited operation has to return for an exact
// result.
func exactResult(x int, y int, exact *big.Int) (int, bool) {
	if !withinCoeff(x) || !withinCoeff(y) {
		return 0, false
	}
	if exact.CmpAbs(big.NewInt(limitCoeff)) > 0 {
		return 0, false
	}
	return int(exact.Int64()), true
}

func TestLimitedResultsAreExact(t *testing.T) {
	for _, x := range edgeNumbers() {
		for _, y := range edgeNumbers() {
			bigX, bigY := big.NewInt(int64(x)), big.NewInt(int64(y))
			want, wantOk := exactResult(x, y, new(big.Int).Add(bigX, bigY))
			if got, ok := impl.AddLimited(x, y); got != want || ok != wantOk {
				t.Errorf("AddLimited(%d, %d) = %d, %t, want %d, %t", x, y, got, ok, want, wantOk)
			}
			want, wantOk = exactResult(x, y, new(big.Int).Mul(bigX, bigY))
			if got, ok := impl.MulLimited(x, y); got != want || ok != wantOk {
				t.Errorf("MulLimited(%d, %d) = %d, %t, want %d, %t", x, y, got, ok, want, wantOk)
			}
		}
	}
}

func TestLimitedResultsOfSmallPairs(t *testing.T) {
	for x := -30; x <= 30; x++ {
		for y := -30; y <= 30; y++ {
			if got, ok := impl.AddLimited(x, y); got != x+y || !ok {
				t.Errorf("AddLimited(%d, %d) = %d, %t, want %d, true", x, y, got, ok, x+y)
			}
			if got, ok := impl.MulLimited(x, y); got != x*y || !ok {
				t.Errorf("MulLimited(%d, %d) = %d, %t, want %d, true", x, y, got, ok, x*y)
			}
		}
	}
}

// TestLimitedResultsNearTheLimits varies a sum and a product around each end
// of the range while both arguments stay within it.
func TestLimitedResultsNearTheLimits(t *testing.T) {
	for _, sign := range []int{1, -1} {
		for d := -50; d <= 50; d++ {
			size, want, wantOk := limitCoeff+d, sign*(limitCoeff+d), true
			if d > 0 {
				want, wantOk = 0, false
			}
			x := sign * 600000000
			if got, ok := impl.AddLimited(x, sign*size-x); got != want || ok != wantOk {
				t.Errorf("AddLimited(%d, %d) = %d, %t, want %d, %t", x, sign*size-x, got, ok, want, wantOk)
			}
			for factor := 2; factor <= 40000; factor++ {
				if size%factor != 0 {
					continue
				}
				if got, ok := impl.MulLimited(sign*factor, size/factor); got != want || ok != wantOk {
					t.Errorf("MulLimited(%d, %d) = %d, %t, want %d, %t", sign*factor, size/factor, got, ok, want, wantOk)
				}
			}
		}
	}
}

func TestGcd(t *testing.T) {
	cases := []struct{ x, y, want int }{
		{0, 0, 0},
		{0, 1, 1},
		{1, 0, 1},
		{0, 7, 7},
		{7, 0, 7},
		{0, -7, 7},
		{-7, 0, 7},
		{1, 1, 1},
		{6, 4, 2},
		{4, 6, 2},
		{-6, 4, 2},
		{6, -4, 2},
		{-6, -4, 2},
		{-4, -6, 2},
		{6, 6, 6},
		{-6, -6, 6},
		{6, -6, 6},
		{-6, 6, 6},
		{3, 12, 3},
		{12, -3, 3},
		{8, 9, 1},
		{-8, 9, 1},
		{8, -15, 1},
		{1, -1000, 1},
		{462, 1071, 21},
		{433494437, 701408733, 1},
		{701408733, -433494437, 1},

		{limitCoeff, limitCoeff, limitCoeff},
		{-limitCoeff, limitCoeff, limitCoeff},
		{limitCoeff, -limitCoeff, limitCoeff},
		{-limitCoeff, -limitCoeff, limitCoeff},
		{limitCoeff, 0, limitCoeff},
		{0, limitCoeff, limitCoeff},
		{-limitCoeff, 0, limitCoeff},
		{0, -limitCoeff, limitCoeff},
		{limitCoeff, limitCoeff - 1, 1},
		{-limitCoeff + 1, -limitCoeff, 1},
		{limitCoeff, 1, 1},
		{1 << 20, limitCoeff, 512},
		{-limitCoeff, 3 << 20, 512},
		{500000000, -limitCoeff, 500000000},

		{limitCoeff + 1, limitCoeff + 1, 0},
		{limitCoeff + 1, 0, 0},
		{0, limitCoeff + 1, 0},
		{limitCoeff + 1, 1, 0},
		{1, limitCoeff + 1, 0},
		{limitCoeff + 1, 7, 0},
		{7, limitCoeff + 1, 0},
		{limitCoeff, limitCoeff + 1, 0},
		{-limitCoeff - 1, 0, 0},
		{0, -limitCoeff - 1, 0},
		{-limitCoeff - 1, 7, 0},
		{7, -limitCoeff - 1, 0},
		{-limitCoeff - 1, limitCoeff, 0},
		{math.MaxInt, 7, 0},
		{7, math.MaxInt, 0},
		{math.MaxInt, math.MaxInt, 0},
		{math.MaxInt, 0, 0},
		{0, math.MaxInt, 0},
		{math.MinInt, 2, 0},
		{2, math.MinInt, 0},
		{math.MinInt, 0, 0},
		{0, math.MinInt, 0},
		{math.MinInt, -1, 0},
		{-1, math.MinInt, 0},
		{math.MinInt, math.MinInt, 0},
		{math.MinInt, math.MaxInt, 0},
	}
	for _, c := range cases {
		if got := impl.Gcd(c.x, c.y); got != c.want {
			t.Errorf("Gcd(%d, %d) = %d, want %d", c.x, c.y, got, c.want)
		}
	}
}

// divides reports whether d divides n; only 0 is divided by 0.
func divides(d int, n int) bool {
	if d == 0 {
		return n == 0
	}
	return n%d == 0
}

func TestGcdOfSmallPairs(t *testing.T) {
	const most = 60
	for x := -most; x <= most; x++ {
		for y := -most; y <= most; y++ {
			got := impl.Gcd(x, y)
			if got < 0 || !divides(got, x) || !divides(got, y) {
				t.Errorf("Gcd(%d, %d) = %d is negative or no common divisor", x, y, got)
			}
			for d := -most; d <= most; d++ {
				if divides(d, x) && divides(d, y) && !divides(d, got) {
					t.Errorf("Gcd(%d, %d) = %d is not divided by %d", x, y, got, d)
				}
			}
		}
	}
}

func TestGcdOfEdgeNumbers(t *testing.T) {
	for _, x := range edgeNumbers() {
		for _, y := range edgeNumbers() {
			want := 0
			if withinCoeff(x) && withinCoeff(y) {
				want = int(new(big.Int).GCD(nil, nil, big.NewInt(int64(x)), big.NewInt(int64(y))).Int64())
			}
			if got := impl.Gcd(x, y); got != want {
				t.Errorf("Gcd(%d, %d) = %d, want %d", x, y, got, want)
			}
		}
	}
}

func TestFloorDiv(t *testing.T) {
	cases := []struct{ x, y, want int }{
		{0, 1, 0},
		{0, 5, 0},
		{6, 3, 2},
		{7, 3, 2},
		{8, 3, 2},
		{2, 3, 0},
		{-6, 3, -2},
		{-7, 3, -3},
		{-8, 3, -3},
		{-1, 3, -1},
		{-3, 3, -1},
		{-4, 2, -2},
		{-5, 2, -3},
		{5, 1, 5},
		{-5, 1, -5},

		{5, 0, 0},
		{-5, 0, 0},
		{0, 0, 0},
		{5, -1, 0},
		{-5, -1, 0},
		{6, -3, 0},
		{-7, -3, 0},
		{5, math.MinInt, 0},
		{0, math.MinInt, 0},
		{math.MinInt, 0, 0},
		{math.MaxInt, 0, 0},
		{math.MinInt, -1, 0},
		{math.MaxInt, -1, 0},
		{math.MinInt, math.MinInt, 0},

		{math.MaxInt, 1, math.MaxInt},
		{math.MinInt, 1, math.MinInt},
		{math.MaxInt, 2, 1<<62 - 1},
		{math.MinInt, 2, -1 << 62},
		{math.MinInt + 1, 2, -1 << 62},
		{math.MinInt, 3, -3074457345618258603},
		{math.MaxInt, math.MaxInt, 1},
		{math.MaxInt - 1, math.MaxInt, 0},
		{0, math.MaxInt, 0},
		{5, math.MaxInt, 0},
		{-5, math.MaxInt, -1},
		{-math.MaxInt, math.MaxInt, -1},
		{math.MinInt, math.MaxInt, -2},

		// The limits of the other functions do not hold here.
		{limitCoeff + 1, 1, limitCoeff + 1},
		{10 * limitCoeff, 2, 5 * limitCoeff},
		{-10*limitCoeff - 1, 2, -5*limitCoeff - 1},
		{7, 3 * limitCoeff, 0},
		{-7, 3 * limitCoeff, -1},
	}
	for _, c := range cases {
		if got := impl.FloorDiv(c.x, c.y); got != c.want {
			t.Errorf("FloorDiv(%d, %d) = %d, want %d", c.x, c.y, got, c.want)
		}
	}
}

func TestFloorDivOfSmallPairs(t *testing.T) {
	const most = 60
	for x := -most; x <= most; x++ {
		for y := 1; y <= most; y++ {
			if got := impl.FloorDiv(x, y); y*got > x || x-y*got >= y {
				t.Errorf("FloorDiv(%d, %d) = %d", x, y, got)
			}
		}
		for y := -most; y <= 0; y++ {
			if got := impl.FloorDiv(x, y); got != 0 {
				t.Errorf("FloorDiv(%d, %d) = %d, want 0", x, y, got)
			}
		}
	}
}

func TestFloorDivOfEdgeNumbers(t *testing.T) {
	for _, x := range edgeNumbers() {
		for _, y := range edgeNumbers() {
			want := 0
			if y > 0 {
				// Div leaves a remainder that is not negative: for a positive
				// divisor, the quotient is rounded down.
				want = int(new(big.Int).Div(big.NewInt(int64(x)), big.NewInt(int64(y))).Int64())
			}
			if got := impl.FloorDiv(x, y); got != want {
				t.Errorf("FloorDiv(%d, %d) = %d, want %d", x, y, got, want)
			}
		}
	}
}
