package tests

import (
	"fmt"
	"math"
	"slices"
	"testing"

	"loop.example/g00515/impl"
)

// farkas returns a certificate in memory of its own.
func farkas(scale int, mult ...int) impl.Farkas {
	return impl.Farkas{Scale: scale, Mult: slices.Clone(mult)}
}

// multAt returns multipliers for a number of rows that are x at one place and
// rest at all others.
func multAt(rows int, place int, x int, rest int) []int {
	mult := slices.Repeat([]int{rest}, rows)
	mult[place] = x
	return mult
}

// multiplierEdges returns multipliers and scales at and beyond the limits.
func multiplierEdges() []int {
	return []int{
		-1, 0, 1, 2, limitCoeff - 1, limitCoeff, limitCoeff + 1,
		-2, -limitCoeff, -limitCoeff - 1, 1 << 32, -1 << 32, math.MaxInt, math.MinInt, math.MinInt + 1,
	}
}

func withinMultiplier(n int) bool { return n >= 0 && n <= limitCoeff }

// sumOfRows returns what CombineRows has to return.
func sumOfRows(s impl.System, mult []int) (impl.Lin, bool) {
	if s.N < 0 || s.N > limitVars || len(s.Rows) > limitRows || len(mult) != len(s.Rows) {
		return impl.Lin{}, false
	}
	sum, ok := linAt(s.N, -1, 0, 0), true
	for k, row := range s.Rows {
		if mult[k] < 0 {
			return impl.Lin{}, false
		}
		if sum, ok = combination(sum, mult[k], row); !ok {
			return impl.Lin{}, false
		}
	}
	return sum, true
}

// isNegativeConstant does not use IsConstant, which is a subject of these
// tests.
func isNegativeConstant(l impl.Lin) bool {
	return l.Const < 0 && sameLin(l, linAt(len(l.Coeffs), -1, l.Const, 0))
}

// isRefuted computes what CheckEmpty has to return.
func isRefuted(s impl.System, mult []int) bool {
	sum, ok := sumOfRows(s, mult)
	return ok && isNegativeConstant(sum)
}

// isProof computes what CheckFarkas has to return.
func isProof(s impl.System, target impl.Lin, f impl.Farkas) bool {
	rows, ok := sumOfRows(s, f.Mult)
	if !ok || !withinMultiplier(f.Scale) {
		return false
	}
	next, ok := combination(target, 1, linAt(s.N, -1, 1, 0))
	if !ok {
		return false
	}
	sum, ok := combination(rows, -f.Scale, next)
	return ok && isNegativeConstant(sum)
}

func wantCombined(t *testing.T, s impl.System, mult []int, want impl.Lin, ok bool) {
	t.Helper()
	if got, gotOk := impl.CombineRows(s, mult); !sameLin(got, want) || gotOk != ok {
		t.Errorf("CombineRows(%v, %v) = %v, %t, want %v, %t", s, mult, got, gotOk, want, ok)
	}
}

// wantNoCombination expects that nothing accepts the multipliers, not even for
// a target that the system could not fail to imply.
func wantNoCombination(t *testing.T, s impl.System, mult []int) {
	t.Helper()
	wantCombined(t, s, mult, impl.Lin{}, false)
	wantEmpty(t, s, mult, false)
	for _, scale := range []int{0, 1, 2} {
		wantProof(t, s, linAt(mostVars(s.N), -1, 3, 0), farkas(scale, mult...), false)
		wantProof(t, s, linAt(mostVars(s.N), -1, limitCoeff/2-1, 0), farkas(scale, mult...), false)
	}
}

func wantEmpty(t *testing.T, s impl.System, mult []int, want bool) {
	t.Helper()
	if got := impl.CheckEmpty(s, mult); got != want {
		t.Errorf("CheckEmpty(%v, %v) = %t, want %t", s, mult, got, want)
	}
}

func wantProof(t *testing.T, s impl.System, target impl.Lin, f impl.Farkas, want bool) {
	t.Helper()
	if got := impl.CheckFarkas(s, target, f); got != want {
		t.Errorf("CheckFarkas(%v, %v, %v) = %t, want %t", s, target, f, got, want)
	}
}

func TestCombineRows(t *testing.T) {
	s := system(2, lin(-1, 1, 0), lin(0, -1, 1), lin(7, 0, -3))
	wantCombined(t, s, []int{0, 0, 0}, lin(0, 0, 0), true)
	wantCombined(t, s, []int{1, 0, 0}, lin(-1, 1, 0), true)
	wantCombined(t, s, []int{0, 1, 0}, lin(0, -1, 1), true)
	wantCombined(t, s, []int{0, 0, 1}, lin(7, 0, -3), true)
	wantCombined(t, s, []int{1, 1, 0}, lin(-1, 0, 1), true)
	wantCombined(t, s, []int{3, 3, 1}, lin(4, 0, 0), true)
	wantCombined(t, s, []int{5, 2, 4}, lin(23, 3, -10), true)
	wantCombined(t, system(1, lin(-2, 1)), []int{4}, lin(-8, 4), true)
	wantCombined(t, system(0, lin(-2), lin(3)), []int{4, 2}, lin(-2), true)
	// A row that is there twice counts twice.
	wantCombined(t, system(1, lin(-2, 1), lin(-2, 1)), []int{4, 3}, lin(-14, 7), true)
	wantCombined(t, system(8, lin(1, 2, 3, 4, 5, 6, 7, 8, 9), lin(9, 8, 7, 6, 5, 4, 3, 2, 1)), []int{1, 10}, lin(91, 82, 73, 64, 55, 46, 37, 28, 19), true)
}

func TestCombineNoRows(t *testing.T) {
	for _, n := range countEdges() {
		for _, s := range []impl.System{{N: n}, {N: n, Rows: []impl.Lin{}}} {
			for _, mult := range [][]int{nil, {}} {
				if n < 0 || n > limitVars {
					wantNoCombination(t, s, mult)
					continue
				}
				wantCombined(t, s, mult, linAt(n, -1, 0, 0), true)
				wantEmpty(t, s, mult, false)
				wantProof(t, s, linAt(n, -1, 0, 0), farkas(1, mult...), true)
				wantProof(t, s, linAt(n, -1, 0, 0), farkas(0, mult...), false)
				wantProof(t, s, linAt(n, -1, -1, 0), farkas(1, mult...), false)
			}
			for _, mult := range [][]int{{0}, {1}, {0, 0}} {
				wantNoCombination(t, s, mult)
			}
		}
	}
}

func TestCombineRowsOfInvalidSystems(t *testing.T) {
	for _, s := range invalidSystems() {
		for _, x := range []int{0, 1, 2} {
			for _, rows := range []int{len(s.Rows) - 1, len(s.Rows), len(s.Rows) + 1, 0, limitRows} {
				wantNoCombination(t, s, slices.Repeat([]int{x}, max(rows, 0)))
			}
		}
		// One row of the right length is taken, and the others are not.
		for k, row := range s.Rows {
			if len(row.Coeffs) == s.N {
				wantNoCombination(t, s, multAt(len(s.Rows), k, 1, 0))
			}
		}
	}
}

// TestCombineInvalidRows has one row that is not valid, with a multiplier of 0
// as well.
func TestCombineInvalidRows(t *testing.T) {
	for n := range limitVars + 1 {
		for _, rows := range []int{1, 2, 3, limitRows} {
			for _, row := range places(rows) {
				for _, x := range []int{0, 1} {
					s := system(n, slices.Repeat([]impl.Lin{linAt(n, -1, -1, 0)}, rows)...)
					s.Rows[row] = linAt(n+1, -1, -1, 0)
					wantNoCombination(t, s, multAt(rows, row, x, 1))
					for place := -1; place < n; place++ {
						for _, beyond := range beyondCoeff() {
							s.Rows[row] = linAt(n, place, beyond, 0)
							wantNoCombination(t, s, multAt(rows, row, x, 1))
						}
					}
				}
			}
		}
	}
}

func TestCombineRowsCountsMultipliers(t *testing.T) {
	for _, n := range []int{0, 1, 2, limitVars} {
		for rows := range limitRows + 2 {
			for size := range limitRows + 3 {
				// Zeros alone, so that only the numbers of rows matter.
				zeros := system(n, slices.Repeat([]impl.Lin{linAt(n, -1, 0, 0)}, rows)...)
				empty := system(n, slices.Repeat([]impl.Lin{linAt(n, -1, -1, 0)}, rows)...)
				if rows != size || rows > limitRows {
					wantNoCombination(t, zeros, make([]int, size))
					wantNoCombination(t, empty, slices.Repeat([]int{1}, size))
					continue
				}
				wantCombined(t, zeros, make([]int, size), linAt(n, -1, 0, 0), true)
				wantCombined(t, empty, slices.Repeat([]int{1}, size), linAt(n, -1, -rows, 0), true)
				wantEmpty(t, empty, slices.Repeat([]int{1}, size), rows > 0)
				wantProof(t, empty, linAt(n, -1, -5, 0), farkas(0, slices.Repeat([]int{1}, size)...), rows > 0)
			}
		}
	}
	wantNoCombination(t, system(1, lin(-1, 0)), nil)
	wantNoCombination(t, system(1, lin(-1, 0)), []int{})
	wantNoCombination(t, system(1, lin(-1, 0), lin(0, 1)), []int{1})
	wantNoCombination(t, system(1, lin(-1, 0)), []int{1, 0})
	wantNoCombination(t, system(1, lin(-1, 0)), []int{1, 1})
}

// TestCombineRowsAtEveryMultiplier puts all multipliers at the first, a middle
// and the last place, for rows of zeros and for rows of small numbers.
func TestCombineRowsAtEveryMultiplier(t *testing.T) {
	for _, n := range []int{0, 1, 2, limitVars} {
		for _, rows := range []int{1, 2, 3, 7, limitRows} {
			for _, place := range places(rows) {
				for _, x := range multiplierEdges() {
					mult := multAt(rows, place, x, 1)
					zeros := system(n, slices.Repeat([]impl.Lin{linAt(n, -1, 0, 0)}, rows)...)
					small := system(n, slices.Repeat([]impl.Lin{linAt(n, -1, 0, 0)}, rows)...)
					small.Rows[place] = linAt(n, -1, -1, 1)
					if !withinMultiplier(x) {
						wantNoCombination(t, zeros, mult)
						wantNoCombination(t, small, mult)
						continue
					}
					wantCombined(t, zeros, mult, linAt(n, -1, 0, 0), true)
					wantCombined(t, small, mult, linAt(n, -1, -x, x), true)
					empty := system(n, zeros.Rows...)
					empty.Rows[place].Const = -1
					wantEmpty(t, empty, mult, x > 0)
					wantProof(t, empty, linAt(n, -1, -2, 1), farkas(0, mult...), x > 0)
					wantEmpty(t, small, mult, n == 0 && x > 0)
				}
			}
		}
	}
}

// TestNegativeMultipliersProveNothing has sums that would be negative
// constants although all rows are satisfied by some values.
func TestNegativeMultipliersProveNothing(t *testing.T) {
	wantNoCombination(t, system(0, lin(1)), []int{-1})
	wantNoCombination(t, system(1, lin(1, 0)), []int{-1})
	wantNoCombination(t, system(1, lin(0, 1), lin(-1, 1)), []int{-1, 1})
	wantNoCombination(t, system(1, lin(-1, 1), lin(0, 1)), []int{1, -1})
	wantNoCombination(t, system(1, lin(-1, 1), lin(5, 0), lin(0, 1)), []int{1, 0, -1})
	wantNoCombination(t, system(1, lin(5, 0), lin(0, 0), lin(-1, 0)), []int{0, -1, 1})
	wantNoCombination(t, system(0, lin(limitCoeff), lin(0)), []int{-1, 0})
	wantNoCombination(t, system(0, lin(1), lin(0)), []int{-limitCoeff, 1})
}

// TestCombineRowsNearTheLimits has, at each place, a product and a sum of two
// products that is just within the limits or just beyond them.
func TestCombineRowsNearTheLimits(t *testing.T) {
	cases := []struct {
		x, k, y, m, want int
		ok               bool
	}{
		{limitCoeff, 1, 0, 1, limitCoeff, true},
		{-limitCoeff, 1, 0, 1, -limitCoeff, true},
		{1, limitCoeff, 0, 0, limitCoeff, true},
		{-1, limitCoeff, 0, 0, -limitCoeff, true},
		{25000, 40000, 0, 1, limitCoeff, true},
		{-25000, 40000, 0, 1, -limitCoeff, true},
		{0, 1, 25000, 40000, limitCoeff, true},
		{0, 1, -25000, 40000, -limitCoeff, true},
		{142857143, 7, 0, 1, 0, false},
		{-142857143, 7, 0, 1, 0, false},
		{0, 1, 142857143, 7, 0, false},
		{0, 1, -142857143, 7, 0, false},
		{limitCoeff, 2, 0, 1, 0, false},
		{0, 1, limitCoeff, 2, 0, false},
		{2, limitCoeff, 0, 1, 0, false},
		{limitCoeff, limitCoeff, 0, 0, 0, false},
		{-limitCoeff, limitCoeff, 0, 0, 0, false},
		{limitCoeff, limitCoeff, -limitCoeff, limitCoeff, 0, false},

		// The product is beyond the limits, but the whole sum is not.
		{142857143, 7, -1, 1, 0, false},
		{-1, 1, 142857143, 7, 0, false},
		{1, 1, -142857143, 7, 0, false},
		{-limitCoeff, 1, limitCoeff, 2, 0, false},
		{limitCoeff, 2, -limitCoeff, 1, 0, false},

		{limitCoeff - 1, 1, 1, 1, limitCoeff, true},
		{1, 1, limitCoeff - 1, 1, limitCoeff, true},
		{limitCoeff / 4, 2, limitCoeff / 2, 1, limitCoeff, true},
		{-limitCoeff / 4, 2, -limitCoeff / 2, 1, -limitCoeff, true},
		{limitCoeff, 1, 1, 1, 0, false},
		{1, 1, limitCoeff, 1, 0, false},
		{-limitCoeff, 1, -1, 1, 0, false},
		{-1, 1, -limitCoeff, 1, 0, false},
		{limitCoeff / 2, 1, limitCoeff/2 + 1, 1, 0, false},
		{limitCoeff, 1, limitCoeff, 1, 0, false},
		{limitCoeff, 1, -1, 1, limitCoeff - 1, true},
		{limitCoeff, 1, -limitCoeff, 1, 0, true},
		{-limitCoeff, 1, limitCoeff, 1, 0, true},
		{limitCoeff, 1, 1, 0, limitCoeff, true},
		{limitCoeff, 0, limitCoeff, 0, 0, true},
	}
	for n := range limitVars + 1 {
		for place := -1; place < n; place++ {
			for _, c := range cases {
				s := system(n, linAt(n, place, c.x, 0), linAt(n, place, c.y, 0))
				if !c.ok {
					wantNoCombination(t, s, []int{c.k, c.m})
					continue
				}
				wantCombined(t, s, []int{c.k, c.m}, linAt(n, place, c.want, 0), true)
			}
		}
	}
}

// TestCombineRowsInOrder has rows whose whole sum is within the limits, so
// that the order of the rows decides.
func TestCombineRowsInOrder(t *testing.T) {
	for _, n := range []int{0, 1, 2, limitVars} {
		for place := -1; place < n; place++ {
			for _, sign := range []int{1, -1} {
				most, one := linAt(n, place, sign*limitCoeff, 0), linAt(n, place, sign, 0)
				back := linAt(n, place, -sign, 0)
				want := linAt(n, place, sign*limitCoeff, 0)
				ones := []int{1, 1, 1}
				wantNoCombination(t, system(n, most, one, back), ones)
				wantNoCombination(t, system(n, one, most, back), ones)
				wantCombined(t, system(n, most, back, one), ones, want, true)
				wantCombined(t, system(n, back, most, one), ones, want, true)
				wantCombined(t, system(n, one, back, most), ones, want, true)
				wantCombined(t, system(n, back, one, most), ones, want, true)
				wantCombined(t, system(n, one, back, one), []int{limitCoeff, 1, 1}, want, true)
				wantNoCombination(t, system(n, one, one, back), []int{limitCoeff, 1, 1})
			}
		}
	}
}

// TestCombineRowsOfEdgeNumbers compares with the rule of the specification for
// all numbers and multipliers around the limits.
func TestCombineRowsOfEdgeNumbers(t *testing.T) {
	for _, n := range []int{0, 1, limitVars} {
		for place := -1; place < n; place++ {
			for _, x := range coeffEdges() {
				for _, y := range coeffEdges() {
					for _, k := range multiplierEdges() {
						for _, m := range []int{0, 1, 2, limitCoeff} {
							s, mult := system(n, linAt(n, place, x, 0), linAt(n, place, y, 0)), []int{k, m}
							want, ok := sumOfRows(s, mult)
							wantCombined(t, s, mult, want, ok)
							wantEmpty(t, s, mult, isRefuted(s, mult))
						}
					}
				}
			}
		}
	}
}

func TestCheckFarkas(t *testing.T) {
	s := system(2, lin(-1, 1, 0), lin(0, -1, 1))
	wantProof(t, s, lin(-1, 0, 1), farkas(1, 1, 1), true)
	wantProof(t, s, lin(-1, 1, 0), farkas(1, 1, 0), true)
	wantProof(t, s, lin(0, -1, 1), farkas(1, 0, 1), true)
	wantProof(t, s, lin(-2, 1, 1), farkas(1, 2, 1), true)
	wantProof(t, s, lin(5, -1, 1), farkas(1, 0, 1), true)
	wantProof(t, s, lin(-1, 0, 1), farkas(3, 3, 3), true)
	wantProof(t, s, lin(0, 0, 0), farkas(1, 0, 0), true)
	wantProof(t, s, lin(-1, 0, 1), farkas(1, 1, 0), false)
	wantProof(t, s, lin(-1, 0, 1), farkas(1, 0, 1), false)
	wantProof(t, s, lin(-1, 0, 1), farkas(1, 2, 1), false)
	wantProof(t, s, lin(-1, 0, 1), farkas(2, 1, 1), false)
	wantProof(t, s, lin(-1, 0, 1), farkas(0, 1, 1), false)
	wantProof(t, s, lin(-1, 0, 1), farkas(1, 1), false)
	wantProof(t, s, lin(-1, 0, 1), farkas(1, 1, 1, 0), false)
	wantProof(t, s, lin(-1, 0, 1), impl.Farkas{}, false)
	wantProof(t, s, lin(-2, 0, 1), farkas(1, 1, 1), false)
	wantProof(t, s, lin(-1, 1), farkas(1, 1, 1), false)
	wantProof(t, system(0, lin(3)), lin(3), farkas(1, 1), true)
	wantProof(t, system(0), lin(0), farkas(1), true)
	wantProof(t, system(0), lin(-1), farkas(1), false)
	wantProof(t, system(0), lin(0), farkas(0), false)
	// That 2x - 1 is at least 0 implies that x - 1 is, for integers alone.
	wantProof(t, system(1, lin(-1, 2)), lin(-1, 1), farkas(2, 1), true)
	wantProof(t, system(1, lin(-1, 2)), lin(-2, 1), farkas(2, 1), false)
	wantProof(t, system(1, lin(-2, 3), lin(5, -1)), lin(-1, 1), farkas(3, 1, 0), true)
	wantProof(t, system(1, lin(-1, 3), lin(5, -1)), lin(-2, 1), farkas(3, 1, 0), false)
}

// TestCheckFarkasOfConstants has a difference of each small constant, from
// the rows and from the target.
func TestCheckFarkasOfConstants(t *testing.T) {
	for n := range limitVars + 1 {
		for _, constant := range from(-4, 4) {
			for _, more := range from(-4, 4) {
				s := system(n, linAt(n, -1, constant, 3), linAt(n, -1, 7, 1))
				wantProof(t, s, linAt(n, -1, constant+more-1, 3), farkas(1, 1, 0), more > 0)
				wantProof(t, s, linAt(n, -1, constant+more-1, 3), farkas(2, 2, 0), more > 0)
				wantProof(t, s, linAt(n, -1, 7+3*more-1, 1), farkas(1, 0, 1), more > 0)
				s = system(n, linAt(n, -1, constant, 3), linAt(n, -1, more-constant, -3))
				wantEmpty(t, s, []int{1, 1}, more < 0)
				wantEmpty(t, s, []int{3, 3}, more < 0)
				wantProof(t, s, linAt(n, -1, -5, 1), farkas(0, 1, 1), more < 0)
			}
		}
	}
}

// TestCheckFarkasOfNegativeDifferences has differences that are negative for
// some values alone, as one coefficient is not 0.
func TestCheckFarkasOfNegativeDifferences(t *testing.T) {
	for n := 1; n <= limitVars; n++ {
		for place := range n {
			for _, c := range []int{1, -1, 2, -5, limitCoeff / 2, -limitCoeff / 2} {
				s := system(n, linAt(n, -1, -9, 0), linAt(n, place, c, 0))
				wantEmpty(t, s, []int{1, 0}, true)
				wantEmpty(t, s, []int{1, 1}, false)
				wantProof(t, s, linAt(n, -1, 4, 0), farkas(1, 1, 0), true)
				wantProof(t, s, linAt(n, -1, 4, 0), farkas(1, 1, 1), false)
				wantProof(t, s, linAt(n, -1, 4, 0), farkas(0, 1, 1), false)
				wantProof(t, s, linAt(n, place, c, 0), farkas(0, 1, 0), true)
				wantProof(t, s, linAt(n, place, c, 0), farkas(0, 1, 1), false)
				wantProof(t, s, linAt(n, place, c, 0), farkas(1, 1, 0), false)
				wantProof(t, s, linAt(n, place, c, 0), farkas(1, 1, 1), true)
				wantProof(t, s, linAt(n, place, c, 0), farkas(1, 1, 2), false)
				wantProof(t, s, linAt(n, place, -c, 0), farkas(1, 1, 1), false)
			}
		}
	}
}

func TestCheckFarkasOfInvalidSystems(t *testing.T) {
	for _, s := range invalidSystems() {
		for size := range limitVars + 3 {
			for _, scale := range []int{0, 1} {
				wantProof(t, s, linAt(size, -1, 5, 0), farkas(scale, make([]int, len(s.Rows))...), false)
				wantProof(t, s, linAt(size, -1, 5, 0), farkas(scale), false)
			}
		}
	}
	// The first row shows that there is no solution, but another one is not
	// valid.
	for n := range limitVars + 1 {
		for _, scale := range []int{0, 1} {
			target := linAt(n, -1, 5, 0)
			wantProof(t, system(n, linAt(n, -1, -1, 0)), target, farkas(scale, 1), true)
			wantProof(t, system(n, linAt(n, -1, -1, 0), linAt(n+1, -1, 0, 0)), target, farkas(scale, 1, 0), false)
			wantProof(t, system(n, linAt(n, -1, -1, 0), linAt(n, -1, limitCoeff+1, 0)), target, farkas(scale, 1, 0), false)
		}
	}
}

// contradiction returns a system whose first row shows that it has no
// solution, with a certificate of this.
func contradiction(n int) (impl.System, []int) {
	return system(n, linAt(n, -1, -3, 0), linAt(n, -1, 2, 1)), []int{1, 0}
}

func TestCheckFarkasCountsVars(t *testing.T) {
	for n := range limitVars + 1 {
		s, mult := contradiction(n)
		for _, size := range append(from(0, limitVars+2), 2*limitVars, 100) {
			for _, scale := range []int{0, 1, 2} {
				wantProof(t, s, linAt(size, -1, 4, 0), farkas(scale, mult...), size == n)
				wantProof(t, impl.System{N: n}, linAt(size, -1, 4, 0), farkas(scale), size == n && scale > 0)
			}
		}
	}
	for _, n := range []int{-1, limitVars + 1, math.MinInt, math.MaxInt} {
		for _, scale := range []int{0, 1} {
			wantProof(t, impl.System{N: n}, linAt(mostVars(n), -1, 4, 0), farkas(scale), false)
		}
	}
}

// TestCheckFarkasAtEveryNumberOfTheTarget has targets that are not valid, also
// where the Scale is 0 and the system has no solution.
func TestCheckFarkasAtEveryNumberOfTheTarget(t *testing.T) {
	for n := range limitVars + 1 {
		s, mult := contradiction(n)
		for place := -1; place < n; place++ {
			for _, x := range coeffEdges() {
				for _, rest := range []int{0, 7} {
					// 1 is added to the target, so that its Const is less than
					// the limit.
					ok := withinCoeff(x) && (place >= 0 || x < limitCoeff)
					wantProof(t, s, linAt(n, place, x, rest), farkas(0, mult...), ok)
					wantProof(t, s, linAt(n, place, x, rest), farkas(0, 0, 0), false)
				}
				target := linAt(n, place, x, 0)
				for _, scale := range []int{1, 2} {
					wantProof(t, s, target, farkas(scale, mult...), isProof(s, target, farkas(scale, mult...)))
				}
			}
		}
	}
}

// TestCheckFarkasAddsOneFirst has a target whose Const is MaxCoeff: with 1, it
// exceeds the limits, whatever the Scale is.
func TestCheckFarkasAddsOneFirst(t *testing.T) {
	for n := range limitVars + 1 {
		s, mult := contradiction(n)
		for _, scale := range []int{0, 1, 2, limitCoeff} {
			wantProof(t, s, linAt(n, -1, limitCoeff, 0), farkas(scale, mult...), false)
			wantProof(t, s, linAt(n, -1, limitCoeff, 0), farkas(scale, 0, 0), false)
			wantProof(t, impl.System{N: n}, linAt(n, -1, limitCoeff, 0), farkas(scale), false)
			wantProof(t, impl.System{N: n}, linAt(n, -1, limitCoeff-1, 0), farkas(scale), scale == 1)
			wantProof(t, impl.System{N: n}, linAt(n, -1, limitCoeff/2-1, 0), farkas(scale), scale == 1 || scale == 2)
		}
		wantProof(t, s, linAt(n, -1, limitCoeff-1, 0), farkas(0, mult...), true)
		wantProof(t, s, linAt(n, -1, limitCoeff-1, 0), farkas(1, mult...), false)
		wantProof(t, s, linAt(n, -1, limitCoeff-4, 0), farkas(1, mult...), true)
		wantProof(t, s, linAt(n, -1, limitCoeff-3, 0), farkas(1, mult...), false)
		wantProof(t, s, linAt(n, -1, -limitCoeff, 0), farkas(0, mult...), true)
		wantProof(t, s, linAt(n, -1, -limitCoeff, 0), farkas(1, mult...), false)
	}
}

// TestCheckFarkasAtEveryScale has certificates that differ in the Scale alone.
func TestCheckFarkasAtEveryScale(t *testing.T) {
	for n := 1; n <= limitVars; n++ {
		empty, mult := contradiction(n)
		for _, scale := range multiplierEdges() {
			ok := withinMultiplier(scale)
			// A target of -1 adds nothing, however often it is taken.
			wantProof(t, empty, linAt(n, -1, -1, 0), farkas(scale, mult...), ok)
			if scale >= 0 {
				s, target := system(n, linAt(n, -1, -1, 1)), linAt(n, -1, -1, 1)
				wantProof(t, s, target, farkas(scale, scale), ok && scale > 0)
			}
			wantProof(t, impl.System{N: n}, linAt(n, -1, 0, 0), farkas(scale), ok && scale > 0)
			wantProof(t, impl.System{N: n}, linAt(n, -1, -1, 0), farkas(scale), false)
			// A negative Scale would prove what never holds.
			wantProof(t, impl.System{N: n}, linAt(n, -1, -2, 0), farkas(scale), false)
			wantProof(t, system(n, linAt(n, -1, 0, 1)), linAt(n, -1, -2, -1), farkas(scale, 1), false)
		}
	}
}

// TestCheckFarkasNearTheLimits has a row and a target that are alike but for
// one place, with a product of the Scale or a difference that is just within
// the limits or just beyond them.
func TestCheckFarkasNearTheLimits(t *testing.T) {
	cases := []struct {
		row, mult, target, scale int
		ok                       bool
	}{
		// The difference is row * mult - scale * (target + 1).
		{0, 1, limitCoeff - 1, 1, true},
		{-1, 1, limitCoeff - 1, 1, false},
		{-1, 1, limitCoeff - 2, 1, true},
		{-limitCoeff, 1, -1, 1, true},
		{-limitCoeff, 1, 0, 1, false},
		{-limitCoeff, 1, -2, 1, true},
		{limitCoeff, 1, limitCoeff - 1, 1, false},
		{limitCoeff - 1, 1, limitCoeff - 1, 1, true},
		{limitCoeff, 1, -2, 1, false},
		{limitCoeff - 1, 1, -2, 1, false},
		{0, 0, 24999, 40000, true},
		{0, 0, 39999, 25000, true},
		{0, 0, 0, limitCoeff, true},
		{0, 0, -1, limitCoeff, false},
		{-1, 1, -1, limitCoeff, true},
		{-1, 1, 0, limitCoeff, false},
		{1, 1, 0, limitCoeff, true},
		{1, limitCoeff, 0, limitCoeff, false},
		{1, limitCoeff - 1, 0, limitCoeff, true},

		// The product is beyond the limits, but the difference is not.
		{0, 0, 142857142, 7, false},
		{1, 1, 142857142, 7, false},
		{1000, 1, 142857142, 7, false},
		{limitCoeff, 1, limitCoeff - 1, 2, false},
		{limitCoeff, 1, 1, limitCoeff, false},
		{limitCoeff, 1, limitCoeff - 1, limitCoeff, false},
		{-limitCoeff, 1, -limitCoeff, 2, false},
		{-limitCoeff, 1, -3, limitCoeff, false},
		{-1, 1, -142857144, 7, false},
		{-limitCoeff, 1, -25001, 40000, false},
		{-limitCoeff, 1, -25001, 39999, true},
	}
	for n := range limitVars + 1 {
		for _, c := range cases {
			s := system(n, linAt(n, -1, c.row, 0))
			wantProof(t, s, linAt(n, -1, c.target, 0), farkas(c.scale, c.mult), c.ok)
		}
	}
}

// TestCheckFarkasAtEveryCoefficient has coefficients whose products are just
// within the limits or beyond them.
func TestCheckFarkasAtEveryCoefficient(t *testing.T) {
	cases := []struct {
		row, mult, target, scale int
		ok                       bool
	}{
		{1, 1, 1, 1, true},
		{1, 1, -1, 1, false},
		{3, 2, 2, 3, true},
		{3, 2, 2, 2, false},
		{-3, 2, -2, 3, true},
		{25000, 40000, 40000, 25000, true},
		{25000, 40000, limitCoeff, 1, true},
		{-25000, 40000, -limitCoeff, 1, true},
		{limitCoeff, 1, 25000, 40000, true},
		{limitCoeff, 1, limitCoeff, 1, true},
		{limitCoeff, 1, -limitCoeff, 1, false},
		{limitCoeff, 1, limitCoeff - 1, 1, false},
		{limitCoeff, 0, limitCoeff, 0, true},
		{limitCoeff, 0, limitCoeff, 1, false},
		{limitCoeff, 1, 1, limitCoeff, true},
		{1, limitCoeff, limitCoeff, 1, true},
		{1, limitCoeff, 1, limitCoeff, true},
		{142857143, 7, 142857143, 7, false},
		{7, 142857143, 7, 142857143, false},
		{limitCoeff, 2, limitCoeff, 2, false},
		{limitCoeff, limitCoeff, limitCoeff, limitCoeff, false},
		{-limitCoeff, limitCoeff, -limitCoeff, limitCoeff, false},
		{1 << 30, 1, 1 << 30, 1, false},
		// Products that are the same but beyond the limits.
		{1 << 29, 2, 1 << 28, 4, false},
		{1 << 28, 2, 1 << 27, 4, true},
	}
	for n := 1; n <= limitVars; n++ {
		for place := range n {
			for _, c := range cases {
				// The other row makes the constant negative.
				s := system(n, linAt(n, place, c.row, 0), linAt(n, -1, -1, 0))
				target := linAt(n, place, c.target, 0)
				target.Const = -1
				wantProof(t, s, target, farkas(c.scale, c.mult, 1), c.ok)
				wantProof(t, s, target, farkas(c.scale, c.mult, 0), false)
			}
		}
	}
}

// TestCheckFarkasOfEdgeNumbers compares with the rule of the specification for
// all numbers around the limits.
func TestCheckFarkasOfEdgeNumbers(t *testing.T) {
	for _, n := range []int{0, 1, 3} {
		for _, x := range coeffEdges() {
			for _, y := range coeffEdges() {
				for _, scale := range multiplierEdges() {
					for _, m := range multiplierEdges() {
						s, f := system(n, linAt(n, -1, x, 0)), farkas(scale, m)
						wantProof(t, s, linAt(n, -1, y, 0), f, isProof(s, linAt(n, -1, y, 0), f))
						if n > 0 {
							s = system(n, linAt(n, n-1, x, 0))
							target := linAt(n, n-1, y, 0)
							wantProof(t, s, target, f, isProof(s, target, f))
						}
					}
				}
			}
		}
	}
}

// TestCheckFarkasWithAScaleOfZero has multipliers that show that the system
// has no solution, so that any target is implied, and others.
func TestCheckFarkasWithAScaleOfZero(t *testing.T) {
	s := system(2, lin(-1, 1, 0), lin(0, -1, 0), lin(4, 0, 1))
	for _, target := range linsOf(2, []int{-limitCoeff, -1, 0, 1, limitCoeff - 1}, []int{-limitCoeff, -1, 0, 2, limitCoeff}) {
		wantProof(t, s, target, farkas(0, 1, 1, 0), true)
		wantProof(t, s, target, farkas(0, 9, 9, 0), true)
		wantProof(t, s, target, farkas(0, 0, 0, 0), false)
		wantProof(t, s, target, farkas(0, 1, 0, 0), false)
		wantProof(t, s, target, farkas(0, 0, 1, 0), false)
		wantProof(t, s, target, farkas(0, 2, 1, 0), false)
		wantProof(t, s, target, farkas(0, 1, 1, 1), false)
		wantProof(t, s, target, farkas(0, 1, 1), false)
		wantProof(t, s, target, farkas(0), false)
		wantProof(t, s, target, farkas(-1, 1, 1, 0), false)
	}
	// Without the first row there are solutions, and the sum of the others is
	// a constant that is not negative.
	s = system(2, lin(0, 1, 0), lin(0, -1, 0), lin(4, 0, 1))
	for _, target := range linsOf(2, from(-2, 2), from(-1, 1)) {
		wantProof(t, s, target, farkas(0, 1, 1, 0), false)
		wantProof(t, s, target, farkas(0, 0, 0, 0), false)
	}
}

func TestCheckEmpty(t *testing.T) {
	s := system(1, lin(-1, 1), lin(0, -1))
	wantEmpty(t, s, []int{1, 1}, true)
	wantEmpty(t, s, []int{5, 5}, true)
	wantEmpty(t, s, []int{limitCoeff, limitCoeff}, true)
	wantEmpty(t, s, []int{limitCoeff + 1, limitCoeff + 1}, false)
	wantEmpty(t, s, []int{-1, -1}, false)
	wantEmpty(t, s, []int{1, 0}, false)
	wantEmpty(t, s, []int{0, 1}, false)
	wantEmpty(t, s, []int{0, 0}, false)
	wantEmpty(t, s, []int{2, 1}, false)
	wantEmpty(t, s, []int{1}, false)
	wantEmpty(t, s, []int{1, 1, 0}, false)
	wantEmpty(t, s, nil, false)
	wantEmpty(t, system(1, lin(0, 1), lin(0, -1)), []int{1, 1}, false)
	wantEmpty(t, system(1, lin(0, 1), lin(1, -1)), []int{1, 1}, false)
	wantEmpty(t, system(0, lin(-1)), []int{1}, true)
	wantEmpty(t, system(0, lin(-1)), []int{0}, false)
	wantEmpty(t, system(0, lin(0)), []int{1}, false)
	wantEmpty(t, system(0, lin(1)), []int{-1}, false)
	wantEmpty(t, system(3, lin(-1, 2, -3, 0), lin(0, -1, 0, 5), lin(-1, 0, 2, -7)), []int{1, 1, 1}, false)
	wantEmpty(t, system(3, lin(-1, 2, -3, 0), lin(0, -2, 0, 5), lin(0, 0, 3, -5)), []int{1, 1, 1}, true)
	// Twice a number is not 1, but no multipliers can show it.
	wantEmpty(t, system(1, lin(-1, 2), lin(1, -2)), []int{1, 1}, false)
}

func TestIsConstant(t *testing.T) {
	for _, constant := range []int{0, 1, -1, limitCoeff, limitCoeff + 1, math.MinInt, math.MaxInt} {
		for _, coeffs := range [][]int{nil, {}} {
			if !impl.IsConstant(impl.Lin{Const: constant, Coeffs: coeffs}) {
				t.Errorf("IsConstant is false for %d without Coeffs", constant)
			}
		}
		for _, n := range append(from(0, 2*limitVars+2), 100) {
			if l := linAt(n, -1, constant, 0); !impl.IsConstant(l) {
				t.Errorf("IsConstant(%v) is false", l)
			}
			for place := range n {
				for _, x := range slices.Concat(coeffEdges(), []int{1 << 31, 1 << 62, -1 << 62}) {
					l := linAt(n, place, x, 0)
					l.Const = constant
					if got := impl.IsConstant(l); got != (x == 0) {
						t.Errorf("IsConstant(%v) = %t", l, got)
					}
				}
			}
		}
	}
	// The sum of the Coeffs is 0.
	if impl.IsConstant(lin(0, 1, -1)) || impl.IsConstant(lin(0, math.MinInt, math.MinInt)) {
		t.Error("IsConstant is true for Coeffs that are not 0")
	}
}

func wantEqualFarkas(t *testing.T, a impl.Farkas, b impl.Farkas, want bool) {
	t.Helper()
	if got := impl.EqualFarkas(a, b); got != want {
		t.Errorf("EqualFarkas(%v, %v) = %t, want %t", a, b, got, want)
	}
	if got := impl.EqualFarkas(b, a); got != want {
		t.Errorf("EqualFarkas(%v, %v) = %t, want %t", b, a, got, want)
	}
}

func TestEqualFarkas(t *testing.T) {
	wantEqualFarkas(t, impl.Farkas{}, impl.Farkas{}, true)
	wantEqualFarkas(t, impl.Farkas{}, impl.Farkas{Scale: 1}, false)
	wantEqualFarkas(t, farkas(1, 2, 3), farkas(1, 2, 3), true)
	wantEqualFarkas(t, farkas(1, 2, 3), farkas(2, 2, 3), false)
	wantEqualFarkas(t, farkas(1, 2, 3), farkas(-1, 2, 3), false)
	wantEqualFarkas(t, farkas(1, 2, 3), farkas(1, 3, 2), false)
	wantEqualFarkas(t, farkas(1, 2, 3), farkas(1, 2, 2), false)
	wantEqualFarkas(t, farkas(1, 2, 3), farkas(1, 2), false)
	wantEqualFarkas(t, farkas(1, 2, 3), farkas(1, 2, 3, 0), false)
	wantEqualFarkas(t, farkas(1, 2, 3), farkas(1, 0, 2, 3), false)
	wantEqualFarkas(t, farkas(1, 2, 3), farkas(2, 4, 6), false)
	wantEqualFarkas(t, farkas(1), farkas(1, 0), false)
	wantEqualFarkas(t, farkas(0, 1), farkas(1, 0), false)
	wantEqualFarkas(t, farkas(2), farkas(0, 2), false)
}

func TestEqualFarkasOfNothing(t *testing.T) {
	for _, scale := range multiplierEdges() {
		none, empty := impl.Farkas{Scale: scale}, impl.Farkas{Scale: scale, Mult: []int{}}
		unused := impl.Farkas{Scale: scale, Mult: []int{4, 5}[:0]}
		wantEqualFarkas(t, none, none, true)
		wantEqualFarkas(t, none, empty, true)
		wantEqualFarkas(t, none, unused, true)
		wantEqualFarkas(t, empty, unused, true)
		wantEqualFarkas(t, none, farkas(scale, 0), false)
		wantEqualFarkas(t, empty, farkas(scale, 0), false)
		for _, other := range multiplierEdges() {
			wantEqualFarkas(t, none, impl.Farkas{Scale: other, Mult: []int{}}, scale == other)
			wantEqualFarkas(t, farkas(scale, 1, 2), farkas(other, 1, 2), scale == other)
		}
	}
}

// TestEqualFarkasAtEveryMultiplier also has certificates that no check
// accepts: with too many multipliers, and with numbers beyond the limits.
func TestEqualFarkasAtEveryMultiplier(t *testing.T) {
	for _, rows := range append(from(1, limitRows+2), 100) {
		for place := range rows {
			for _, rest := range []int{0, 1, -1, math.MinInt} {
				for _, x := range multiplierEdges() {
					a, b := farkas(1, multAt(rows, place, x, rest)...), farkas(1, multAt(rows, place, rest, rest)...)
					wantEqualFarkas(t, a, b, x == rest)
					wantEqualFarkas(t, a, farkas(1, a.Mult...), true)
				}
			}
		}
	}
	for rows := range limitRows + 3 {
		for more := range limitRows + 3 {
			for _, x := range multiplierEdges() {
				a, b := slices.Repeat([]int{x}, rows), slices.Repeat([]int{x}, more)
				wantEqualFarkas(t, farkas(x, a...), farkas(x, b...), rows == more)
			}
		}
	}
}

// multipliersOf returns all lists of so many multipliers from 0 to most.
func multipliersOf(rows int, most int) [][]int { return pointsOf(rows, 0, most) }

// solutionsOf returns those of the points that are solutions of the system.
func solutionsOf(s impl.System, points [][]int) [][]int {
	var list [][]int
	for _, point := range points {
		if isSolution(s, point) {
			list = append(list, point)
		}
	}
	return list
}

// wantSound expects that what the checks accept holds for these solutions, and
// that they accept what the specification says.
func wantSound(t *testing.T, s impl.System, targets []impl.Lin, mults [][]int, scales []int, solutions [][]int) {
	t.Helper()
	for _, mult := range mults {
		empty := impl.CheckEmpty(s, mult)
		if empty != isRefuted(s, mult) || empty && len(solutions) > 0 {
			t.Fatalf("CheckEmpty(%v, %v) = %t with the solutions %v", s, mult, empty, solutions)
		}
		for _, target := range targets {
			for _, scale := range scales {
				f := impl.Farkas{Scale: scale, Mult: mult}
				proved := impl.CheckFarkas(s, target, f)
				if proved != isProof(s, target, f) {
					t.Fatalf("CheckFarkas(%v, %v, %v) = %t", s, target, f, proved)
				}
				for _, point := range solutions {
					if proved && valueAt(target, point) < 0 {
						t.Fatalf("CheckFarkas(%v, %v, %v) is true, but not for %v", s, target, f, point)
					}
				}
			}
		}
	}
}

// TestAcceptedCertificatesHold is the promise: every integer solution of a
// system satisfies the target if a certificate of it is accepted.
func TestAcceptedCertificatesHold(t *testing.T) {
	cases := []struct{ n, low, high, most int }{{0, -3, 3, 2}, {1, -2, 2, 2}, {2, -1, 1, 1}}
	for _, c := range cases {
		numbers := from(c.low, c.high)
		rows, points := linsOf(c.n, numbers, numbers), pointsOf(c.n, -4, 4)
		for _, s := range smallSystems(rows, c.n) {
			wantSound(t, s, rows, multipliersOf(len(s.Rows), c.most), from(-1, c.most), solutionsOf(s, points))
		}
	}
}

// TestAcceptedCertificatesOfThreeRows has systems of three rows, many of which
// have no solution.
func TestAcceptedCertificatesOfThreeRows(t *testing.T) {
	rows, points := linsOf(2, []int{-1, 0}, from(-1, 1)), pointsOf(2, -4, 4)
	targets := linsOf(2, []int{-2, -1, 0}, []int{0, 1})
	for _, s := range smallSystems(rows, 2) {
		for _, row := range []impl.Lin{lin(3, -1, -1), lin(-2, 2, -1), lin(0, -2, 3)} {
			longer := with(s, row)
			wantSound(t, longer, targets, multipliersOf(len(longer.Rows), 2), []int{0, 1, 2}, solutionsOf(longer, points))
		}
	}
}

// TestCombinationsFollow expects that the value of a combination is the sum of
// the values of the rows, for solutions and for other values.
func TestCombinationsFollow(t *testing.T) {
	points := pointsOf(2, -2, 2)
	for _, s := range smallSystems(linsOf(2, []int{-2, 1}, from(-1, 1)), 2) {
		for _, mult := range multipliersOf(len(s.Rows), 3) {
			l, ok := impl.CombineRows(s, mult)
			if !ok {
				t.Fatalf("CombineRows(%v, %v) fails", s, mult)
			}
			for _, point := range points {
				want := 0
				for k, row := range s.Rows {
					want += mult[k] * valueAt(row, point)
				}
				if got := valueAt(l, point); got != want {
					t.Fatalf("CombineRows(%v, %v) = %v is %d for %v, want %d", s, mult, l, got, point, want)
				}
			}
		}
	}
}

// TestCertificatesOfManyRows has a chain of rows that are all needed.
func TestCertificatesOfManyRows(t *testing.T) {
	n := limitVars
	s := system(n, linAt(n, -1, -5, 0))
	s.Rows[0].Coeffs[0] = 1
	for i := 1; i < n; i++ {
		l := linAt(n, i, 1, 0)
		l.Const, l.Coeffs[i-1] = -1, -1
		s = with(s, l)
	}
	for len(s.Rows) < limitRows {
		s = with(s, linAt(n, -1, 3, 1))
	}
	mult := append(slices.Repeat([]int{1}, n), make([]int, limitRows-n)...)
	target := linAt(n, n-1, 1, 0)
	for constant := -20; constant <= 20; constant++ {
		target.Const = constant
		wantProof(t, s, target, farkas(1, mult...), constant >= -12)
	}
	for k := range limitRows {
		target.Const = -12
		wrong := slices.Clone(mult)
		wrong[k] = 1 - wrong[k]
		wantProof(t, s, target, farkas(1, wrong...), false)
	}
	last := linAt(n, n-1, -1, 0)
	last.Const = 11
	s.Rows[limitRows-1] = last
	mult[limitRows-1] = 1
	wantEmpty(t, s, mult, true)
	wantProof(t, s, linAt(n, -1, -7, 3), farkas(0, mult...), true)
	s.Rows[limitRows-1].Const = 12
	wantEmpty(t, s, mult, false)
}

// stock is memory of which tests pass only parts, so that the others are
// unused capacity or stand before them.
type stock struct {
	numbers []int
	rows    []impl.Lin
	mult    []int
}

// newStock returns rows of two variables whose Coeffs overlap and cancel each
// other out, and rows that are not valid.
func newStock() stock {
	numbers := []int{1, -1, 1, -1, 1, -1, 1, -1, 1, -1, 1, -1}
	var rows []impl.Lin
	for i := range 7 {
		rows = append(rows, impl.Lin{Const: -1, Coeffs: numbers[i : i+2]})
	}
	rows = append(rows, impl.Lin{Const: 2, Coeffs: numbers[:1]}, impl.Lin{Const: limitCoeff + 1, Coeffs: numbers[2:4]})
	return stock{numbers, rows, []int{0, 1, 1, 1, 1, 0, 2, 2, 0, -1, 3, limitCoeff, 1}}
}

// describe returns everything that the stock holds.
func (h stock) describe() string { return fmt.Sprint(h.numbers, h.rows, h.mult) }

// systems returns parts of the rows as systems, most of them valid.
func (h stock) systems() []impl.System {
	list := []impl.System{{N: -1, Rows: h.rows[:2]}, {N: 1, Rows: h.rows[7:8]}, {N: limitVars, Rows: h.rows[:0]}}
	for start := range 3 {
		for _, end := range []int{3, 4, 5, 7, 8, 9} {
			list = append(list, impl.System{N: 2, Rows: h.rows[start:end]})
		}
		list = append(list, impl.System{N: start, Rows: h.rows[start:start]}, impl.System{N: 2, Rows: h.rows[start : start+1]})
	}
	return list
}

// targets returns expressions whose Coeffs are also those of the rows, or
// multipliers.
func (h stock) targets() []impl.Lin {
	list := slices.Clone(h.rows)
	for n := range 4 {
		list = append(list, impl.Lin{Const: 3, Coeffs: h.numbers[n : n+2]}, impl.Lin{Const: 1, Coeffs: h.mult[1 : n+1]})
	}
	return append(list, impl.Lin{Const: limitCoeff, Coeffs: h.numbers[1:3]})
}

// multipliers returns parts of a list.
func multipliers(list []int) [][]int {
	parts := [][]int{list[:0]}
	for start := range 5 {
		for end := start + 1; end <= len(list); end++ {
			parts = append(parts, list[start:end])
		}
	}
	return parts
}

func TestFarkasFunctionsKeepTheirArguments(t *testing.T) {
	h, accepted, refuted := newStock(), 0, 0
	for _, s := range h.systems() {
		for _, mult := range slices.Concat(multipliers(h.mult), multipliers(h.numbers)) {
			impl.CombineRows(s, mult)
			if impl.CheckEmpty(s, mult) {
				refuted++
			}
			for _, scale := range []int{0, 1, -1, limitCoeff} {
				f := impl.Farkas{Scale: scale, Mult: mult}
				impl.EqualFarkas(f, impl.Farkas{Scale: scale, Mult: h.mult[1:3]})
				for _, target := range h.targets() {
					impl.IsConstant(target)
					if impl.CheckFarkas(s, target, f) {
						accepted++
					}
				}
			}
			if h.describe() != newStock().describe() {
				t.Fatalf("arguments changed to %v for %v, %v", h, s, mult)
			}
		}
	}
	if accepted == 0 || refuted == 0 {
		t.Errorf("%d proofs and %d contradictions are accepted", accepted, refuted)
	}
}

func TestCombinationsAreSeparate(t *testing.T) {
	h := newStock()
	for _, s := range h.systems() {
		for _, mult := range slices.Concat(multipliers(h.mult), multipliers(h.numbers)) {
			call := func() impl.Lin {
				l, _ := impl.CombineRows(s, mult)
				return l
			}
			wantSeparate(t, "CombineRows", h.numbers, call)
			wantSeparate(t, "CombineRows", h.mult, call)
		}
	}
	if h.describe() != newStock().describe() {
		t.Errorf("arguments changed to %v", h)
	}
}

// TestCombineRowsOfSharedMemory has multipliers that are also the Coeffs of
// the rows and of the target.
func TestCombineRowsOfSharedMemory(t *testing.T) {
	shared := []int{2, 3, 5}
	s := impl.System{N: 2, Rows: []impl.Lin{{Const: -1, Coeffs: shared[:2]}, {Const: -4, Coeffs: shared[1:]}}}
	wantCombined(t, s, shared[:2], lin(-14, 13, 21), true)
	wantCombined(t, s, shared[1:], lin(-23, 21, 34), true)
	wantProof(t, s, impl.Lin{Const: 0, Coeffs: shared[:2]}, impl.Farkas{Scale: 1, Mult: []int{1, 0}}, true)
	wantProof(t, s, impl.Lin{Const: 0, Coeffs: shared[:2]}, impl.Farkas{Scale: 1, Mult: shared[:2]}, false)
	wantEmpty(t, s, shared[:2], false)
	if !slices.Equal(shared, []int{2, 3, 5}) {
		t.Errorf("arguments changed to %v", shared)
	}
}
