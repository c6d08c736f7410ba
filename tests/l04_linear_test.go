package tests

import (
	"math"
	"slices"
	"testing"

	"loop.example/g00515/impl"
)

// limitVars is the limit of the specification, written out as those of the
// bounded arithmetic are.
const limitVars = 8

// lin returns the expression with these numbers, in memory of its own.
func lin(constant int, coeffs ...int) impl.Lin {
	return impl.Lin{Const: constant, Coeffs: slices.Clone(coeffs)}
}

// sameLin does not use EqualLin, which is a subject of these tests.
func sameLin(a impl.Lin, b impl.Lin) bool {
	return a.Const == b.Const && slices.Equal(a.Coeffs, b.Coeffs)
}

// linAt returns an expression of n variables that has x at one place (the
// constant at -1, the coefficients from 0 on) and rest at all others.
func linAt(n int, place int, x int, rest int) impl.Lin {
	l := lin(rest, slices.Repeat([]int{rest}, n)...)
	if place < 0 {
		l.Const = x
	} else {
		l.Coeffs[place] = x
	}
	return l
}

// coeffEdges returns numbers of few digits, at each limit and beyond it.
func coeffEdges() []int {
	return []int{
		0, 1, -1, 2, -2, 3, -7, 40000, -40000,
		limitCoeff/2 - 1, limitCoeff / 2, limitCoeff/2 + 1, -limitCoeff / 2, -limitCoeff/2 - 1,
		limitCoeff - 1, limitCoeff, limitCoeff + 1, -limitCoeff + 1, -limitCoeff, -limitCoeff - 1,
		1 << 32, math.MaxInt, math.MinInt, math.MinInt + 1,
	}
}

// beyondCoeff returns numbers that are not permitted in an expression.
func beyondCoeff() []int {
	return slices.DeleteFunc(coeffEdges(), withinCoeff)
}

// countEdges returns numbers of variables at, between and beyond the limits.
func countEdges() []int {
	list := []int{math.MinInt, -limitVars, -2, -1, 2 * limitVars, 100, math.MaxInt}
	for n := range limitVars + 3 {
		list = append(list, n)
	}
	return list
}

func TestMaxVars(t *testing.T) {
	if impl.MaxVars != limitVars {
		t.Errorf("MaxVars = %d, want %d", impl.MaxVars, limitVars)
	}
}

func TestIsValidLin(t *testing.T) {
	cases := []struct {
		l    impl.Lin
		n    int
		want bool
	}{
		{impl.Lin{}, 0, true},
		{impl.Lin{Coeffs: []int{}}, 0, true},
		{lin(5), 0, true},
		{lin(5), -1, false},
		{lin(5), 1, false},
		{lin(-3, 2, -1), 2, true},
		{lin(-3, 2, -1), 1, false},
		{lin(-3, 2, -1), 3, false},
		{lin(-3, 2, -1), -2, false},
		{lin(0, 0, 0, 0, 0, 0, 0, 0, 0), 8, true},
		{lin(0, 0, 0, 0, 0, 0, 0, 0, 0), 9, false},
		{lin(0, 0, 0, 0, 0, 0, 0, 0, 0), 7, false},
		{lin(0, 0, 0, 0, 0, 0, 0, 0, 0, 0), 9, false},
		{lin(0, 0, 0, 0, 0, 0, 0, 0, 0, 0), 8, false},
		{lin(1, 2), math.MinInt, false},
		{lin(1, 2), math.MaxInt, false},
		{lin(limitCoeff, -limitCoeff, limitCoeff), 2, true},
		{lin(limitCoeff+1, 0), 1, false},
		{lin(0, -limitCoeff-1), 1, false},
		{lin(math.MinInt), 0, false},
	}
	for _, c := range cases {
		if got := impl.IsValidLin(c.l, c.n); got != c.want {
			t.Errorf("IsValidLin(%v, %d) = %t, want %t", c.l, c.n, got, c.want)
		}
	}
}

func TestIsValidLinCountsCoeffs(t *testing.T) {
	for size := range 2*limitVars + 3 {
		l := linAt(size, -1, 1, 1)
		for _, n := range countEdges() {
			want := n == size && n <= limitVars
			if got := impl.IsValidLin(l, n); got != want {
				t.Errorf("IsValidLin(%v, %d) = %t, want %t", l, n, got, want)
			}
		}
	}
}

func TestIsValidLinAtEveryNumber(t *testing.T) {
	for n := range limitVars + 1 {
		for place := -1; place < n; place++ {
			for _, x := range coeffEdges() {
				l := linAt(n, place, x, limitCoeff)
				if got := impl.IsValidLin(l, n); got != withinCoeff(x) {
					t.Errorf("IsValidLin(%v, %d) = %t", l, n, got)
				}
			}
		}
	}
}

func TestConstLin(t *testing.T) {
	for _, n := range countEdges() {
		for _, k := range coeffEdges() {
			want := impl.Lin{}
			if n >= 0 && n <= limitVars && withinCoeff(k) {
				want = linAt(n, -1, k, 0)
			}
			if got := impl.ConstLin(k, n); !sameLin(got, want) {
				t.Errorf("ConstLin(%d, %d) = %v, want %v", k, n, got, want)
			}
		}
	}
}

func TestVarLin(t *testing.T) {
	for _, n := range countEdges() {
		for _, i := range countEdges() {
			want := impl.Lin{}
			if n <= limitVars && i >= 0 && i < n {
				want = linAt(n, i, 1, 0)
			}
			if got := impl.VarLin(i, n); !sameLin(got, want) {
				t.Errorf("VarLin(%d, %d) = %v, want %v", i, n, got, want)
			}
		}
	}
}

func TestSimpleExpressions(t *testing.T) {
	if got := impl.ConstLin(4, 2); !sameLin(got, lin(4, 0, 0)) {
		t.Errorf("ConstLin(4, 2) = %v", got)
	}
	if got := impl.ConstLin(-4, 0); !sameLin(got, lin(-4)) {
		t.Errorf("ConstLin(-4, 0) = %v", got)
	}
	if got := impl.VarLin(1, 3); !sameLin(got, lin(0, 0, 1, 0)) {
		t.Errorf("VarLin(1, 3) = %v", got)
	}
	if got := impl.VarLin(7, 8); !sameLin(got, lin(0, 0, 0, 0, 0, 0, 0, 0, 1)) {
		t.Errorf("VarLin(7, 8) = %v", got)
	}
}

// combination returns what AddScaled has to return. Products are computed only
// of numbers that are within the limits, so that none wraps around.
func combination(a impl.Lin, k int, b impl.Lin) (impl.Lin, bool) {
	n := len(a.Coeffs)
	if n > limitVars || n != len(b.Coeffs) || !withinCoeff(k) {
		return impl.Lin{}, false
	}
	left, right := append([]int{a.Const}, a.Coeffs...), append([]int{b.Const}, b.Coeffs...)
	sums := make([]int, n+1)
	for i := range sums {
		if !withinCoeff(left[i]) || !withinCoeff(right[i]) {
			return impl.Lin{}, false
		}
		sums[i] = left[i] + k*right[i]
		if !withinCoeff(k*right[i]) || !withinCoeff(sums[i]) {
			return impl.Lin{}, false
		}
	}
	return impl.Lin{Const: sums[0], Coeffs: sums[1:]}, true
}

func wantSum(t *testing.T, a impl.Lin, k int, b impl.Lin, want impl.Lin, ok bool) {
	t.Helper()
	if got, gotOk := impl.AddScaled(a, k, b); !sameLin(got, want) || gotOk != ok {
		t.Errorf("AddScaled(%v, %d, %v) = %v, %t, want %v, %t", a, k, b, got, gotOk, want, ok)
	}
}

func TestAddScaled(t *testing.T) {
	wantSum(t, lin(1, 2, -1), 2, lin(0, 0, 1), lin(1, 2, 1), true)
	wantSum(t, lin(1, 2, 3), 0, lin(4, 5, 6), lin(1, 2, 3), true)
	wantSum(t, lin(1, 2, 3), 1, lin(4, 5, 6), lin(5, 7, 9), true)
	wantSum(t, lin(1, 2, 3), -1, lin(4, 5, 6), lin(-3, -3, -3), true)
	wantSum(t, lin(4, -5, 6), -1, lin(4, -5, 6), lin(0, 0, 0), true)
	wantSum(t, lin(-1, 0), -3, lin(5, -7), lin(-16, 21), true)
	wantSum(t, lin(7), 3, lin(-2), lin(1), true)
	wantSum(t, impl.Lin{}, 5, impl.Lin{Coeffs: []int{}}, lin(0), true)
	wantSum(t, lin(0, 1, 2, 3, 4, 5, 6, 7, 8), 10, lin(9, 8, 7, 6, 5, 4, 3, 2, 1), lin(90, 81, 72, 63, 54, 45, 36, 27, 18), true)
	wantSum(t, lin(5, 1), limitCoeff, lin(0, 1), impl.Lin{}, false)
	wantSum(t, lin(5, 0), limitCoeff, lin(0, 1), lin(5, limitCoeff), true)
	wantSum(t, lin(5, 0), -limitCoeff, lin(0, 1), lin(5, -limitCoeff), true)
	wantSum(t, lin(-1, 0), limitCoeff, lin(1, -1), lin(limitCoeff-1, -limitCoeff), true)
	wantSum(t, lin(limitCoeff, -limitCoeff), -2, lin(limitCoeff/2, -limitCoeff/2), lin(0, 0), true)
}

func TestAddScaledWithFactorsBeyond(t *testing.T) {
	for _, k := range beyondCoeff() {
		wantSum(t, lin(1, 2), k, lin(0, 0), impl.Lin{}, false)
		wantSum(t, lin(1, 2), k, lin(3, 4), impl.Lin{}, false)
		wantSum(t, lin(0), k, lin(0), impl.Lin{}, false)
		wantSum(t, impl.Lin{}, k, impl.Lin{}, impl.Lin{}, false)
	}
}

func TestAddScaledOfDifferentSizes(t *testing.T) {
	for n := range limitVars + 3 {
		for m := range limitVars + 3 {
			for _, k := range []int{0, 1, -2} {
				// Zeros alone, so that only the numbers of variables matter.
				a, b := linAt(n, -1, 3, 0), linAt(m, -1, 4, 0)
				want, ok := impl.Lin{}, n == m && n <= limitVars
				if ok {
					want = linAt(n, -1, 3+4*k, 0)
				}
				wantSum(t, a, k, b, want, ok)
			}
		}
	}
}

func TestAddScaledOfTooManyCoeffs(t *testing.T) {
	for _, n := range []int{limitVars + 1, 2 * limitVars, 2*limitVars + 1, 100} {
		for _, k := range []int{0, 1, -1, limitCoeff} {
			wantSum(t, linAt(n, -1, 1, 0), k, linAt(n, -1, 1, 0), impl.Lin{}, false)
			wantSum(t, linAt(n, -1, 1, 0), k, linAt(limitVars, -1, 1, 0), impl.Lin{}, false)
			wantSum(t, linAt(limitVars, -1, 1, 0), k, linAt(n, -1, 1, 0), impl.Lin{}, false)
		}
	}
}

// TestAddScaledAtEveryNumber puts all numbers at, below and above the limits
// at each place of expressions that are otherwise unproblematic.
func TestAddScaledAtEveryNumber(t *testing.T) {
	for _, n := range []int{0, 1, 2, limitVars} {
		for place := -1; place < n; place++ {
			for _, x := range coeffEdges() {
				for _, k := range coeffEdges() {
					for _, y := range coeffEdges() {
						a, b := linAt(n, place, x, -6), linAt(n, place, y, 0)
						want, ok := combination(a, k, b)
						wantSum(t, a, k, b, want, ok)
					}
				}
			}
		}
	}
}

// TestAddScaledNearTheLimits varies a product and a sum around each end of the
// range, and combines a product that is too large with a sum that would fit.
func TestAddScaledNearTheLimits(t *testing.T) {
	cases := []struct {
		x, k, y, want int
		ok            bool
	}{
		{0, 40000, 25000, limitCoeff, true},
		{0, -40000, 25000, -limitCoeff, true},
		{0, 7, 142857143, 0, false},
		{0, -7, 142857143, 0, false},
		{-1, 7, 142857143, 0, false},
		{1, -7, 142857143, 0, false},
		{-limitCoeff, 7, 142857143, 0, false},
		{-limitCoeff, 2, limitCoeff, 0, false},
		{limitCoeff, -2, limitCoeff, 0, false},
		{limitCoeff, 1001, -999001, 0, false},
		{1, 40000, 25000, 0, false},
		{-1, 40000, 25000, limitCoeff - 1, true},
		{-1, 40000, -25000, 0, false},
		{1, 40000, -25000, -limitCoeff + 1, true},
		{limitCoeff, 0, limitCoeff, limitCoeff, true},
		{limitCoeff - 1, 1, 1, limitCoeff, true},
		{limitCoeff - 1, 1, 2, 0, false},
		{limitCoeff - 1, 2, 1, 0, false},
		{limitCoeff, 1, 1, 0, false},
		{limitCoeff, -1, 1, limitCoeff - 1, true},
		{-limitCoeff + 1, -1, 1, -limitCoeff, true},
		{-limitCoeff + 1, -1, 2, 0, false},
		{-limitCoeff, 1, -1, 0, false},
		{-limitCoeff, -1, -limitCoeff, 0, true},
		{limitCoeff, -limitCoeff, 1, 0, true},
		{limitCoeff, 1, limitCoeff, 0, false},
		{-limitCoeff, limitCoeff, 1, 0, true},
		{-limitCoeff, limitCoeff, limitCoeff, 0, false},
	}
	for n := range limitVars + 1 {
		for place := -1; place < n; place++ {
			for _, c := range cases {
				want := impl.Lin{}
				if c.ok {
					want = linAt(n, place, c.want, 5)
				}
				wantSum(t, linAt(n, place, c.x, 5), c.k, linAt(n, place, c.y, 0), want, c.ok)
			}
		}
	}
}

func TestAddScaledOfInvalidExpressions(t *testing.T) {
	for _, n := range []int{0, 1, 3, limitVars} {
		for place := -1; place < n; place++ {
			for _, x := range beyondCoeff() {
				for _, k := range []int{0, 1, -1} {
					wantSum(t, linAt(n, place, x, 0), k, linAt(n, place, 0, 0), impl.Lin{}, false)
					wantSum(t, linAt(n, place, 0, 0), k, linAt(n, place, x, 0), impl.Lin{}, false)
				}
			}
		}
	}
}

func wantValue(t *testing.T, l impl.Lin, values []int, want int, ok bool) {
	t.Helper()
	if got, gotOk := impl.EvalLin(l, values); got != want || gotOk != ok {
		t.Errorf("EvalLin(%v, %v) = %d, %t, want %d, %t", l, values, got, gotOk, want, ok)
	}
}

func TestEvalLin(t *testing.T) {
	wantValue(t, lin(1, 2, -1), []int{3, 4}, 3, true)
	wantValue(t, lin(-5, 2, 3), []int{-7, 11}, 14, true)
	wantValue(t, lin(0, 1, 0, 0), []int{7, 8, 9}, 7, true)
	wantValue(t, lin(0, 0, 0, 1), []int{7, 8, 9}, 9, true)
	wantValue(t, lin(5, 0, 0), []int{7, 8}, 5, true)
	wantValue(t, lin(0, 0, 0), []int{7, 8}, 0, true)
	wantValue(t, lin(1, 2, 3, 4, 5, 6, 7, 8, 9), []int{1, -1, 1, -1, 1, -1, 1, -1}, -3, true)
}

func TestEvalLinWithoutVariables(t *testing.T) {
	for _, values := range [][]int{nil, {}} {
		wantValue(t, impl.Lin{}, values, 0, true)
		wantValue(t, impl.Lin{Const: -4, Coeffs: []int{}}, values, -4, true)
		wantValue(t, lin(limitCoeff), values, limitCoeff, true)
		wantValue(t, lin(-limitCoeff), values, -limitCoeff, true)
		wantValue(t, lin(limitCoeff+1), values, 0, false)
		wantValue(t, lin(1, 2), values, 0, false)
	}
	wantValue(t, lin(4), []int{0}, 0, false)
	wantValue(t, impl.Lin{}, []int{0}, 0, false)
}

func TestEvalLinAtEveryValue(t *testing.T) {
	values := []int{0, 1, -1, limitNumber - 1, limitNumber, limitNumber + 1, -limitNumber + 1, -limitNumber, -limitNumber - 1, limitCoeff, -limitCoeff, math.MaxInt, math.MinInt}
	for n := 1; n <= limitVars; n++ {
		for place := range n {
			for _, v := range values {
				list := slices.Repeat([]int{2}, n)
				list[place] = v
				l, want, ok := linAt(n, place, -3, 10), 0, v >= -limitNumber && v <= limitNumber
				if ok {
					want = 10 + 20*(n-1) - 3*v
				}
				wantValue(t, l, list, want, ok)
				// A value must fit even if its coefficient is 0.
				want = 0
				if ok {
					want = 2 * (n - 1)
				}
				wantValue(t, impl.Lin{Coeffs: linAt(n, place, 0, 1).Coeffs}, list, want, ok)
			}
		}
	}
}

func TestEvalLinCountsValues(t *testing.T) {
	for size := range limitVars + 3 {
		for n := range limitVars + 3 {
			want, ok := 0, size == n && n <= limitVars
			if ok {
				want = 4 + 3*n
			}
			wantValue(t, linAt(size, -1, 4, 1), slices.Repeat([]int{3}, n), want, ok)
		}
	}
}

func TestEvalLinOfTheGreatestValues(t *testing.T) {
	most := slices.Repeat([]int{limitNumber}, limitVars)
	least := slices.Repeat([]int{-limitNumber}, limitVars)
	high, low := linAt(limitVars, -1, limitCoeff, limitCoeff), linAt(limitVars, -1, -limitCoeff, -limitCoeff)
	wantValue(t, high, most, 8000001000000000, true)
	wantValue(t, high, least, -7999999000000000, true)
	wantValue(t, low, most, -8000001000000000, true)
	wantValue(t, low, least, 7999999000000000, true)
	for n := 1; n <= limitVars; n++ {
		wantValue(t, linAt(n, -1, 1, limitCoeff), most[:n], n*1000000000000000+1, true)
	}
}

func TestEvalLinOfInvalidExpressions(t *testing.T) {
	for _, n := range []int{0, 1, 3, limitVars} {
		for place := -1; place < n; place++ {
			for _, x := range beyondCoeff() {
				wantValue(t, linAt(n, place, x, 1), make([]int, n), 0, false)
				wantValue(t, linAt(n, place, x, 0), slices.Repeat([]int{1}, n), 0, false)
			}
		}
	}
}

// linsOf returns all expressions of n variables with these numbers.
func linsOf(n int, constants []int, coeffs []int) []impl.Lin {
	list := []impl.Lin{}
	for _, k := range constants {
		list = append(list, impl.Lin{Const: k})
	}
	for range n {
		var longer []impl.Lin
		for _, l := range list {
			for _, c := range coeffs {
				longer = append(longer, lin(l.Const, append(slices.Clone(l.Coeffs), c)...))
			}
		}
		list = longer
	}
	return list
}

// from returns the integers from low to high.
func from(low int, high int) []int {
	var list []int
	for n := low; n <= high; n++ {
		list = append(list, n)
	}
	return list
}

// pointsOf returns all values of n variables from low to high.
func pointsOf(n int, low int, high int) [][]int {
	var list [][]int
	for _, l := range linsOf(n, []int{0}, from(low, high)) {
		list = append(list, l.Coeffs)
	}
	return list
}

// valueAt computes the value of an expression of few digits.
func valueAt(l impl.Lin, point []int) int {
	sum := l.Const
	for i, v := range point {
		sum += l.Coeffs[i] * v
	}
	return sum
}

func TestValueOfACombination(t *testing.T) {
	lins, points := linsOf(2, []int{-2, 0, 1}, from(-2, 2)), pointsOf(2, -2, 2)
	for _, a := range lins {
		for _, b := range lins {
			for _, k := range []int{-3, -1, 0, 1, 2, 5} {
				sum, ok := impl.AddScaled(a, k, b)
				if !ok {
					t.Fatalf("AddScaled(%v, %d, %v) fails", a, k, b)
				}
				for _, point := range points {
					if got, ok := impl.EvalLin(sum, point); !ok || got != valueAt(a, point)+k*valueAt(b, point) {
						t.Fatalf("the value of AddScaled(%v, %d, %v) for %v is %d, %t", a, k, b, point, got, ok)
					}
				}
			}
		}
	}
}

func TestValueOfACombinationOfLargeNumbers(t *testing.T) {
	a := lin(limitCoeff, -limitCoeff, 123456789, 0, 1, -1, limitCoeff/2, 999999999, -7)
	b := lin(-limitCoeff/3, 300000000, -41152263, 333333333, -333333333, 1, -166666666, -333333333, 2)
	for _, k := range []int{-1, 0, 1, 2, 3} {
		sum, ok := impl.AddScaled(a, k, b)
		if want, wantOk := combination(a, k, b); !sameLin(sum, want) || ok != wantOk {
			t.Fatalf("AddScaled(%v, %d, %v) = %v, %t, want %v, %t", a, k, b, sum, ok, want, wantOk)
		}
		for _, point := range [][]int{
			{limitNumber, -limitNumber, 0, 1, -1, 999999, -123456, limitNumber},
			{-limitNumber, limitNumber, limitNumber, limitNumber, -limitNumber, -limitNumber, limitNumber, -limitNumber},
		} {
			if !ok {
				continue
			}
			x, okX := impl.EvalLin(a, point)
			y, okY := impl.EvalLin(b, point)
			if got, ok := impl.EvalLin(sum, point); !ok || !okX || !okY || got != x+k*y {
				t.Errorf("the value of AddScaled(%v, %d, %v) for %v is %d, want %d", a, k, b, point, got, x+k*y)
			}
		}
	}
}

func wantTight(t *testing.T, l impl.Lin, want impl.Lin) {
	t.Helper()
	if got := impl.TightenLin(l); !sameLin(got, want) {
		t.Errorf("TightenLin(%v) = %v, want %v", l, got, want)
	}
}

func TestTightenLin(t *testing.T) {
	cases := []struct{ l, want impl.Lin }{
		{lin(-3, 2, 4), lin(-2, 1, 2)},
		{lin(-4, 2, 4), lin(-2, 1, 2)},
		{lin(3, 2, 4), lin(1, 1, 2)},
		{lin(4, 2, 4), lin(2, 1, 2)},
		{lin(0, 2, 4), lin(0, 1, 2)},
		{lin(-1, 3), lin(-1, 1)},
		{lin(-2, 3), lin(-1, 1)},
		{lin(-3, 3), lin(-1, 1)},
		{lin(-4, 3), lin(-2, 1)},
		{lin(1, 3), lin(0, 1)},
		{lin(2, 3), lin(0, 1)},
		{lin(3, 3), lin(1, 1)},
		{lin(-3, -2), lin(-2, -1)},
		{lin(3, -2), lin(1, -1)},
		{lin(-1, -6, 4), lin(-1, -3, 2)},
		{lin(7, 6, -9, 0, 15), lin(2, 2, -3, 0, 5)},
		{lin(-7, 0, 0, -5), lin(-2, 0, 0, -1)},
		{lin(100, 0, 4, 0, 0, 0, 0, 0, -6), lin(50, 0, 2, 0, 0, 0, 0, 0, -3)},

		// The Gcd is 1.
		{lin(-3, 2, 3), lin(-3, 2, 3)},
		{lin(-4, 1), lin(-4, 1)},
		{lin(6, -1, 2, 4), lin(6, -1, 2, 4)},
		{lin(5, 6, 10, 15), lin(5, 6, 10, 15)},
		{lin(4, 8, 8, 8, 8, 8, 8, 8, 7), lin(4, 8, 8, 8, 8, 8, 8, 8, 7)},
		{lin(4, 7, 8, 8, 8, 8, 8, 8, 8), lin(4, 7, 8, 8, 8, 8, 8, 8, 8)},

		// The Gcd is 0.
		{impl.Lin{}, impl.Lin{}},
		{lin(6), lin(6)},
		{lin(-6), lin(-6)},
		{lin(-6, 0, 0), lin(-6, 0, 0)},
		{lin(0, 0, 0, 0, 0, 0, 0, 0, 0), lin(0, 0, 0, 0, 0, 0, 0, 0, 0)},

		{lin(limitCoeff, limitCoeff), lin(1, 1)},
		{lin(-limitCoeff, -limitCoeff), lin(-1, -1)},
		{lin(limitCoeff-1, limitCoeff), lin(0, 1)},
		{lin(-limitCoeff+1, limitCoeff, 0), lin(-1, 1, 0)},
		{lin(-1, -limitCoeff, limitCoeff), lin(-1, -1, 1)},
		{lin(limitCoeff, 2), lin(limitCoeff/2, 1)},
		{lin(-limitCoeff, 3), lin(-333333334, 1)},
	}
	for _, c := range cases {
		wantTight(t, c.l, c.want)
	}
}

func TestTightenLinOfInvalidExpressions(t *testing.T) {
	for _, n := range []int{1, 2, limitVars} {
		for place := -1; place < n; place++ {
			for _, x := range beyondCoeff() {
				l := linAt(n, place, x, 4)
				wantTight(t, l, l)
			}
			// Multiples of the other numbers, so that the Gcd would be 4.
			for _, x := range []int{limitCoeff + 4, -limitCoeff - 4, 1 << 32, math.MinInt} {
				l := linAt(n, place, x, 4)
				wantTight(t, l, l)
			}
		}
	}
	for _, n := range []int{limitVars + 1, limitVars + 2, 2 * limitVars, 2*limitVars + 1, 100} {
		for _, place := range []int{-1, 0, limitVars - 1, limitVars, n - 1} {
			l := linAt(n, place, -7, 4)
			wantTight(t, l, l)
			l = linAt(n, place, -8, 4)
			wantTight(t, l, l)
		}
	}
	wantTight(t, lin(limitCoeff+1), lin(limitCoeff+1))
	wantTight(t, lin(math.MinInt), lin(math.MinInt))
}

// gcdOf returns the greatest common divisor of numbers of few digits.
func gcdOf(list []int) int {
	for d := 200; d > 0; d-- {
		if !slices.ContainsFunc(list, func(n int) bool { return n%d != 0 }) {
			if !slices.ContainsFunc(list, func(n int) bool { return n != 0 }) {
				return 0
			}
			return d
		}
	}
	return 0
}

func wantSameSolutions(t *testing.T, l impl.Lin, points [][]int) {
	t.Helper()
	tight := impl.TightenLin(l)
	if !impl.IsValidLin(tight, len(l.Coeffs)) {
		t.Fatalf("TightenLin(%v) = %v is not valid", l, tight)
	}
	for _, point := range points {
		if (valueAt(l, point) >= 0) != (valueAt(tight, point) >= 0) {
			t.Fatalf("TightenLin(%v) = %v differs for %v", l, tight, point)
		}
	}
	divisor := gcdOf(l.Coeffs)
	if divisor <= 1 && !sameLin(tight, l) {
		t.Errorf("TightenLin(%v) = %v, but the Gcd is %d", l, tight, divisor)
	}
	for i, c := range tight.Coeffs {
		if divisor > 1 && c*divisor != l.Coeffs[i] {
			t.Errorf("TightenLin(%v) = %v, but the Gcd is %d", l, tight, divisor)
		}
	}
	if again := impl.TightenLin(tight); !sameLin(again, tight) {
		t.Errorf("TightenLin(%v) = %v, and %v if it is done again", l, tight, again)
	}
}

func TestTightenedConstraintsHaveTheSameSolutions(t *testing.T) {
	points := pointsOf(0, -30, 30)
	for _, l := range linsOf(0, from(-20, 20), nil) {
		wantSameSolutions(t, l, points)
	}
	points = pointsOf(1, -30, 30)
	for _, l := range linsOf(1, from(-20, 20), from(-12, 12)) {
		wantSameSolutions(t, l, points)
	}
	points = pointsOf(2, -5, 5)
	for _, l := range linsOf(2, from(-13, 13), from(-6, 6)) {
		wantSameSolutions(t, l, points)
	}
	points = pointsOf(3, -2, 2)
	for _, l := range linsOf(3, from(-9, 9), []int{-6, -4, -3, 0, 2, 3, 6}) {
		wantSameSolutions(t, l, points)
	}
}

func TestTightenedConstraintsOfAllVariables(t *testing.T) {
	points := pointsOf(limitVars, -1, 1)
	for _, constant := range from(-8, 8) {
		for _, divisor := range []int{1, 2, 3, 5} {
			l := lin(constant, 0, divisor, 2*divisor, -divisor, -3*divisor, 4*divisor, 0, -2*divisor)
			wantSameSolutions(t, l, points)
		}
	}
}

func wantEqual(t *testing.T, a impl.Lin, b impl.Lin, want bool) {
	t.Helper()
	if got := impl.EqualLin(a, b); got != want {
		t.Errorf("EqualLin(%v, %v) = %t, want %t", a, b, got, want)
	}
	if got := impl.EqualLin(b, a); got != want {
		t.Errorf("EqualLin(%v, %v) = %t, want %t", b, a, got, want)
	}
}

func TestEqualLin(t *testing.T) {
	none, empty := impl.Lin{Const: 3}, impl.Lin{Const: 3, Coeffs: []int{}}
	wantEqual(t, none, none, true)
	wantEqual(t, none, empty, true)
	wantEqual(t, empty, empty, true)
	wantEqual(t, impl.Lin{}, impl.Lin{Coeffs: []int{}}, true)
	wantEqual(t, impl.Lin{}, none, false)
	wantEqual(t, impl.Lin{}, empty, false)
	wantEqual(t, none, lin(3, 0), false)
	wantEqual(t, empty, lin(3, 0), false)
	wantEqual(t, lin(1, 2, -1), lin(1, 2, -1), true)
	wantEqual(t, lin(1, 2, -1), lin(-1, 2, -1), false)
	wantEqual(t, lin(1, 2, -1), lin(1, -2, -1), false)
	wantEqual(t, lin(1, 2, -1), lin(1, -1, 2), false)
	wantEqual(t, lin(1, 2, -1), lin(2, 1, -1), false)
	wantEqual(t, lin(0, 1), lin(1, 0), false)
	wantEqual(t, lin(2, 2), lin(1, 1), false)
	wantEqual(t, impl.Lin{Coeffs: make([]int, 2, 9)}, lin(0, 0, 0), true)
}

// TestEqualLinAtEveryNumber also has expressions that are not valid: more
// Coeffs than MaxVars, and numbers beyond the limits.
func TestEqualLinAtEveryNumber(t *testing.T) {
	pairs := [][2]int{{0, 1}, {1, -1}, {5, 6}, {limitCoeff, limitCoeff + 1}, {0, 1 << 32}, {math.MinInt, 0}, {math.MinInt, math.MaxInt}}
	for n := range 3*limitVars + 2 {
		for place := -1; place < n; place++ {
			for _, p := range pairs {
				wantEqual(t, linAt(n, place, p[0], 7), linAt(n, place, p[1], 7), false)
				wantEqual(t, linAt(n, place, p[0], 7), linAt(n, place, p[0], 7), true)
				wantEqual(t, linAt(n, place, p[1], 0), linAt(n, place, p[1], 0), true)
			}
		}
	}
}

func TestEqualLinCountsCoeffs(t *testing.T) {
	for n := range 3*limitVars + 2 {
		for m := range 3*limitVars + 2 {
			for _, rest := range []int{0, 1, -7, math.MinInt} {
				a, b := linAt(n, -1, 2, rest), linAt(m, -1, 2, rest)
				wantEqual(t, a, b, n == m)
				// The same beginning, followed by zeros in memory as well.
				a.Coeffs = append(a.Coeffs, make([]int, 2*limitVars)...)[:n]
				b.Coeffs = append(b.Coeffs, make([]int, 2*limitVars)...)[:m]
				wantEqual(t, a, b, n == m)
			}
			longer := lin(2, append(linAt(n, -1, 0, 1).Coeffs, make([]int, m)...)...)
			wantEqual(t, linAt(n, -1, 2, 1), longer, m == 0)
		}
	}
}

// spare returns numbers of which a test passes only a part, so that the others
// are unused capacity or stand before it.
func spare() []int {
	list := []int{6, -4, 8, 2, -10, 12, 4, 6, -2, 14}
	return append(list, list...)
}

// partsOf returns expressions whose Coeffs are parts of list: with a Gcd of 2,
// one without variables, and some with too many variables.
func partsOf(list []int) []impl.Lin {
	var parts []impl.Lin
	for _, n := range []int{0, 1, 2, 5, limitVars, limitVars + 1, 2*limitVars + 1} {
		parts = append(parts, impl.Lin{Const: -7, Coeffs: list[1 : n+1]})
	}
	return append(parts, impl.Lin{Const: limitCoeff + 1, Coeffs: list[2:5]})
}

func TestLinearFunctionsKeepTheirArguments(t *testing.T) {
	list, other := spare(), spare()
	factors := []int{0, 1, -1, 3, limitCoeff, limitCoeff + 1}
	for _, a := range partsOf(list) {
		for n := range len(list) + 1 {
			impl.IsValidLin(a, n)
			impl.EvalLin(a, list[:n])
			impl.EvalLin(a, other[:n])
		}
		impl.TightenLin(a)
		for _, k := range factors {
			for _, b := range slices.Concat(partsOf(list), partsOf(other), partsOf(list[1:])) {
				impl.EqualLin(a, b)
				impl.AddScaled(a, k, b)
				impl.AddScaled(b, k, a)
			}
		}
		if !slices.Equal(list, spare()) || !slices.Equal(other, spare()) {
			t.Fatalf("arguments changed to %v, %v for %v", list, other, a)
		}
	}
}

// overwriteLin changes everything that can be reached from a result.
func overwriteLin(l impl.Lin) {
	coeffs := l.Coeffs[:cap(l.Coeffs)]
	for i := range coeffs {
		coeffs[i] = 987654
	}
}

// wantSeparate expects that two results of the same call share no memory, with
// each other or with a list from which the arguments are taken.
func wantSeparate(t *testing.T, name string, list []int, call func() impl.Lin) {
	t.Helper()
	first, second := call(), call()
	kept, want := slices.Clone(list), lin(second.Const, second.Coeffs...)
	overwriteLin(first)
	if !slices.Equal(list, kept) || !sameLin(second, want) || !sameLin(call(), want) {
		t.Errorf("a change of a result of %s changed its arguments to %v, or %v to %v", name, list, want, second)
	}
}

func TestLinearResultsAreSeparate(t *testing.T) {
	list := spare()
	for n := range limitVars + 1 {
		wantSeparate(t, "ConstLin", list, func() impl.Lin { return impl.ConstLin(3, n) })
		for i := range n {
			wantSeparate(t, "VarLin", list, func() impl.Lin { return impl.VarLin(i, n) })
		}
	}
	for _, a := range partsOf(list) {
		wantSeparate(t, "TightenLin", list, func() impl.Lin { return impl.TightenLin(a) })
		half := impl.TightenLin(a)
		wantSeparate(t, "TightenLin", half.Coeffs, func() impl.Lin { return impl.TightenLin(half) })
		zero := impl.Lin{Coeffs: make([]int, len(a.Coeffs))}
		for _, b := range append(partsOf(list), zero) {
			for _, k := range []int{0, 1, -1, 2} {
				wantSeparate(t, "AddScaled", list, func() impl.Lin {
					sum, _ := impl.AddScaled(a, k, b)
					return sum
				})
				wantSeparate(t, "AddScaled", zero.Coeffs, func() impl.Lin {
					sum, _ := impl.AddScaled(b, k, zero)
					return sum
				})
			}
		}
	}
}

func TestCombinationsOfOverlappingExpressions(t *testing.T) {
	list := []int{1, 2, 3, 4}
	a, b := impl.Lin{Const: 5, Coeffs: list[:3]}, impl.Lin{Const: 6, Coeffs: list[1:]}
	wantSum(t, a, 10, b, lin(65, 21, 32, 43), true)
	wantSum(t, b, 10, a, lin(56, 12, 23, 34), true)
	wantSum(t, a, 2, a, lin(15, 3, 6, 9), true)
	wantValue(t, a, list[1:], 5+2+6+12, true)
	wantEqual(t, a, impl.Lin{Const: 5, Coeffs: list[1:]}, false)
}
