package tests

import (
	"math/rand/v2"
	"slices"
	"testing"

	"loop.example/g00515/impl"
)

// limitDerived is the limit of the specification, written out as the others
// are.
const limitDerived = 60

// sameFarkas does not use EqualFarkas, which is a subject of other tests.
func sameFarkas(a impl.Farkas, b impl.Farkas) bool {
	return a.Scale == b.Scale && slices.Equal(a.Mult, b.Mult)
}

// search is what the specification says of the search, with all numbers of a
// derived row in one list: the constant, the coefficients, the Scale and the
// multipliers. It counts the combinations that are left out, the rows of the
// longest list, and the certificates that the check refuses.
type search struct {
	system  impl.System
	target  impl.Lin
	leftOut int
	longest int
	refused int
}

// flatRow returns all numbers of a derived row.
func flatRow(l impl.Lin, scale int, mult []int) []int {
	return slices.Concat([]int{l.Const}, l.Coeffs, []int{scale}, mult)
}

func (x *search) start() [][]int {
	rows := len(x.system.Rows)
	var list [][]int
	for k, l := range x.system.Rows {
		list = append(list, flatRow(l, 0, multAt(rows, k, 1, 0)))
	}
	negated := impl.Lin{Const: -x.target.Const - 1}
	for _, c := range x.target.Coeffs {
		negated.Coeffs = append(negated.Coeffs, -c)
	}
	return append(list, flatRow(negated, 1, make([]int, rows)))
}

// sumOfMultiples returns k * a + m * b. No product wraps around: all numbers are within
// the limits, and so are the factors.
func sumOfMultiples(k int, a []int, m int, b []int) ([]int, bool) {
	var list []int
	for i := range a {
		if !withinCoeff(k*a[i]) || !withinCoeff(m*b[i]) || !withinCoeff(k*a[i]+m*b[i]) {
			return nil, false
		}
		list = append(list, k*a[i]+m*b[i])
	}
	return list, true
}

func commonDivisor(p int, q int) int {
	if q == 0 {
		return p
	}
	return commonDivisor(q, p%q)
}

// step replaces the list for the variable at a place of the rows.
func (x *search) step(list [][]int, place int) [][]int {
	var kept, positive, negative [][]int
	for _, row := range list {
		switch {
		case row[place] == 0:
			kept = append(kept, row)
		case row[place] > 0:
			positive = append(positive, row)
		default:
			negative = append(negative, row)
		}
	}
	for _, a := range positive {
		for _, b := range negative {
			p, q := a[place], -b[place]
			g := commonDivisor(p, q)
			if row, ok := sumOfMultiples(q/g, a, p/g, b); ok {
				kept = append(kept, row)
			} else {
				x.leftOut++
			}
		}
	}
	x.longest = max(x.longest, len(kept))
	return kept
}

// find returns what FindFarkas has to return for a valid system and target.
func (x *search) find() (impl.Farkas, bool) {
	if x.target.Const == limitCoeff {
		return impl.Farkas{}, false
	}
	n, list := x.system.N, x.start()
	for i := range n {
		if list = x.step(list, i+1); len(list) > limitDerived {
			return impl.Farkas{}, false
		}
	}
	for _, row := range list {
		if row[0] < 0 {
			f := farkas(row[n+1], row[n+2:]...)
			if isProof(x.system, x.target, f) {
				return f, true
			}
			x.refused++
			return impl.Farkas{}, false
		}
	}
	return impl.Farkas{}, false
}

func wantFound(t *testing.T, s impl.System, target impl.Lin, want impl.Farkas) {
	t.Helper()
	wantResult(t, s, target, want, true)
	if !isProof(s, target, want) {
		t.Errorf("the test wants %v for %v, %v, which is no certificate", want, s, target)
	}
	if !impl.CheckFarkas(s, target, want) {
		t.Errorf("CheckFarkas(%v, %v, %v) is false", s, target, want)
	}
}

func wantNotFound(t *testing.T, s impl.System, target impl.Lin) {
	t.Helper()
	wantResult(t, s, target, impl.Farkas{}, false)
}

func wantResult(t *testing.T, s impl.System, target impl.Lin, want impl.Farkas, ok bool) {
	t.Helper()
	if got, gotOk := impl.FindFarkas(s, target); !sameFarkas(got, want) || gotOk != ok {
		t.Errorf("FindFarkas(%v, %v) = %v, %t, want %v, %t", s, target, got, gotOk, want, ok)
	}
	if got := impl.Entails(s, target); got != ok {
		t.Errorf("Entails(%v, %v) = %t, want %t", s, target, got, ok)
	}
	if sameLin(target, linAt(mostVars(s.N), -1, -1, 0)) {
		wantNoSolution(t, s, ok)
	}
}

func wantNoSolution(t *testing.T, s impl.System, want bool) {
	t.Helper()
	if got := impl.IsEmptySystem(s); got != want {
		t.Errorf("IsEmptySystem(%v) = %t, want %t", s, got, want)
	}
}

// wantSearched expects what the specification says, for a valid system and a
// valid target.
func wantSearched(t *testing.T, s impl.System, target impl.Lin) search {
	t.Helper()
	x := search{system: s, target: target}
	want, ok := x.find()
	wantResult(t, s, target, want, ok)
	return x
}

// minusOne is the target that no solution satisfies.
func minusOne(n int) impl.Lin { return linAt(n, -1, -1, 0) }

func TestMaxDerived(t *testing.T) {
	if impl.MaxDerived != limitDerived {
		t.Errorf("MaxDerived = %d, want %d", impl.MaxDerived, limitDerived)
	}
}

func TestFindFarkas(t *testing.T) {
	s := system(2, lin(-1, 1, 0), lin(0, -1, 1))
	wantFound(t, s, lin(-1, 0, 1), farkas(1, 1, 1))
	wantFound(t, s, lin(-1, 1, 0), farkas(1, 1, 0))
	wantFound(t, s, lin(0, -1, 1), farkas(1, 0, 1))
	wantFound(t, s, lin(-2, 1, 1), farkas(1, 2, 1))
	wantFound(t, s, lin(-3, 1, 2), farkas(1, 3, 2))
	wantFound(t, s, lin(0, 0, 0), farkas(1, 0, 0))
	wantFound(t, s, lin(7, 0, 0), farkas(1, 0, 0))
	wantNotFound(t, s, lin(-2, 0, 1))
	wantNotFound(t, s, lin(-3, 1, 1))
	wantNotFound(t, s, lin(0, -1, 0))
	wantNotFound(t, s, lin(5, 1, -1))
	wantNotFound(t, s, lin(-1, 0, 0))
	// That 2x - 1 is at least 0 implies that x - 1 is, for integers alone.
	wantFound(t, system(1, lin(-1, 2)), lin(-1, 1), farkas(2, 1))
	wantNotFound(t, system(1, lin(-1, 2)), lin(-2, 1))
	wantFound(t, system(1, lin(-2, 3), lin(5, -1)), lin(-1, 1), farkas(3, 1, 0))
	wantNotFound(t, system(1, lin(-2, 3), lin(5, -1)), lin(4, -1))
	wantFound(t, system(1, lin(-2, 3), lin(5, -1)), lin(5, -1), farkas(1, 0, 1))
	// The fractions of 2x = 1 are solutions for the search.
	corner := system(1, lin(-1, 2), lin(1, -2))
	wantNoSolution(t, corner, false)
	wantFound(t, corner, lin(-1, 1), farkas(2, 1, 0))
	wantFound(t, corner, lin(0, -1), farkas(2, 0, 1))
}

func TestFindNothingForInvalidSystems(t *testing.T) {
	for _, s := range invalidSystems() {
		wantNoSolution(t, s, false)
		for size := range limitVars + 3 {
			for _, constant := range []int{-1, 0, 5, limitCoeff} {
				wantNotFound(t, s, linAt(size, -1, constant, 0))
			}
		}
		for _, l := range s.Rows {
			wantNotFound(t, s, l)
		}
	}
}

// TestFindNothingForInvalidRows has systems whose first row shows that there
// is no solution, and one row that is not valid.
func TestFindNothingForInvalidRows(t *testing.T) {
	for n := range limitVars + 1 {
		for _, rows := range []int{2, 3, limitRows, limitRows + 1} {
			s := system(n, slices.Repeat([]impl.Lin{linAt(n, -1, -2, 0)}, rows)...)
			if rows > limitRows {
				wantNotFound(t, s, linAt(n, -1, 3, 0))
				wantNoSolution(t, s, false)
				continue
			}
			wantFound(t, s, linAt(n, -1, 3, 0), farkas(0, multAt(rows, 0, 1, 0)...))
			wantNoSolution(t, s, true)
			for _, row := range places(rows)[1:] {
				wrong := []impl.Lin{linAt(n+1, -1, 1, 0)}
				if n > 0 {
					wrong = append(wrong, linAt(n-1, -1, 1, 0), impl.Lin{Const: 1})
				}
				for place := -1; place < n; place++ {
					for _, x := range beyondCoeff() {
						wrong = append(wrong, linAt(n, place, x, 0))
					}
				}
				for _, l := range wrong {
					s.Rows[row] = l
					wantNotFound(t, s, linAt(n, -1, 3, 0))
					wantNoSolution(t, s, false)
				}
				s.Rows[row] = linAt(n, -1, -2, 0)
			}
		}
	}
}

func TestFindFarkasCountsVars(t *testing.T) {
	for n := range limitVars + 1 {
		empty, mult := contradiction(n)
		for _, size := range append(from(0, limitVars+2), 2*limitVars, 100) {
			target := linAt(size, -1, 4, 0)
			if size != n {
				wantNotFound(t, empty, target)
				wantNotFound(t, impl.System{N: n}, target)
				continue
			}
			wantFound(t, empty, target, farkas(0, mult...))
			wantFound(t, impl.System{N: n}, target, farkas(1))
		}
	}
	for _, n := range countEdges() {
		within := n >= 0 && n <= limitVars
		wantNoSolution(t, impl.System{N: n}, false)
		wantNoSolution(t, system(n, linAt(mostVars(n), -1, -1, 0)), within)
		if !within {
			for size := range limitVars + 3 {
				wantNotFound(t, impl.System{N: n}, linAt(size, -1, 4, 0))
			}
		}
	}
}

func TestFindFarkasWithoutRows(t *testing.T) {
	for n := range limitVars + 1 {
		for _, s := range []impl.System{{N: n}, {N: n, Rows: []impl.Lin{}}} {
			wantNoSolution(t, s, false)
			for _, constant := range []int{-limitCoeff, -2, -1, 0, 1, 2, limitCoeff - 1, limitCoeff} {
				if constant < 0 || constant == limitCoeff {
					wantNotFound(t, s, linAt(n, -1, constant, 0))
				} else {
					wantFound(t, s, linAt(n, -1, constant, 0), farkas(1))
				}
				for place := range n {
					for _, x := range []int{1, -1, 5, limitCoeff, -limitCoeff} {
						l := linAt(n, place, x, 0)
						l.Const = constant
						wantNotFound(t, s, l)
					}
				}
			}
		}
	}
}

// TestFindFarkasAtEveryNumberOfTheTarget has a system whose first row alone
// shows that there is no solution, so that only invalid targets and a Const of
// MaxCoeff have no certificate.
func TestFindFarkasAtEveryNumberOfTheTarget(t *testing.T) {
	for n := range limitVars + 1 {
		s, mult := contradiction(n)
		for place := -1; place < n; place++ {
			for _, x := range coeffEdges() {
				for _, rest := range []int{0, 7, limitCoeff - 1} {
					target := linAt(n, place, x, rest)
					if withinCoeff(x) && (place >= 0 || x < limitCoeff) {
						wantFound(t, s, target, farkas(0, mult...))
					} else {
						wantNotFound(t, s, target)
					}
				}
			}
		}
	}
}

func TestTargetsAtTheLimit(t *testing.T) {
	for n := 1; n <= limitVars; n++ {
		for place := range n {
			for _, sign := range []int{1, -1} {
				row, target := linAt(n, place, sign, 0), linAt(n, place, sign, 0)
				cases := []struct {
					row, target int
					ok          bool
				}{
					{limitCoeff, limitCoeff, false},
					{0, limitCoeff, false},
					{limitCoeff - 1, limitCoeff - 1, true},
					{limitCoeff - 2, limitCoeff - 1, true},
					{0, limitCoeff - 1, true},
					{limitCoeff, limitCoeff - 1, false},
					{-limitCoeff, -limitCoeff, true},
					{1 - limitCoeff, -limitCoeff, false},
					{-limitCoeff, limitCoeff - 1, false},
					{1 - limitCoeff, 1, false},
					{1 - limitCoeff, 0, true},
					{-limitCoeff, 0, false},
					{-limitCoeff, -1, true},
				}
				for _, c := range cases {
					row.Const, target.Const = c.row, c.target
					if c.ok {
						wantFound(t, system(n, row), target, farkas(1, 1))
					} else {
						wantNotFound(t, system(n, row), target)
					}
				}
			}
		}
	}
}

// plus returns the expression with a constant added to it.
func plus(l impl.Lin, k int) impl.Lin { return lin(l.Const+k, l.Coeffs...) }

// times returns a multiple of an expression.
func times(k int, l impl.Lin) impl.Lin {
	m := lin(k*l.Const, l.Coeffs...)
	for i := range m.Coeffs {
		m.Coeffs[i] *= k
	}
	return m
}

func TestTargetsThatAreRows(t *testing.T) {
	for n := 1; n <= limitVars; n++ {
		for _, l := range []impl.Lin{linAt(n, 0, 5, -3), linAt(n, n-1, -2, 0), linAt(n, n/2, 7, 1), linAt(n, 0, 1, 0)} {
			for _, constant := range []int{-100, -1, 0, 1, 7} {
				l.Const = constant
				for _, k := range []int{1, 2, 3, 10, 1000} {
					wantFound(t, system(n, l), times(k, l), farkas(1, k))
					wantFound(t, system(n, l), plus(times(k, l), 1), farkas(1, k))
					wantFound(t, system(n, l), plus(times(k, l), 99), farkas(1, k))
					wantNotFound(t, system(n, l), plus(times(k, l), -1))
					wantNotFound(t, system(n, l), plus(times(k, l), -99))
					wantNotFound(t, system(n, l), times(-k, l))
					// A multiple of the target alone says less.
					wantFound(t, system(n, times(k, l)), plus(l, 0), farkas(k, 1))
					wantNotFound(t, system(n, times(k, l)), plus(l, -1))
				}
			}
		}
	}
}

func TestTargetsThatAreSums(t *testing.T) {
	// All rows are 0 for 1, 0, 0, so that no sum can be less.
	s := system(3, lin(-1, 1, 0, 0), lin(2, -2, 3, 0), lin(0, 0, -1, 5), lin(0, 0, 0, -1))
	for _, mult := range multipliersOf(4, 3) {
		sum := lin(0, 0, 0, 0)
		for k, row := range s.Rows {
			sum, _ = combination(sum, mult[k], row)
		}
		for _, k := range []int{-2, -1, 0, 1, 2} {
			x := wantSearched(t, s, plus(sum, k))
			if _, ok := x.find(); ok != (k >= 0) {
				t.Errorf("the specification says %t for %v, %v", ok, s, plus(sum, k))
			}
		}
	}
	// Rows and multiples of rows, by themselves and together.
	a, b := lin(-1, 1, 0), lin(2, -1, 3)
	for _, k := range []int{0, 1, 2} {
		wantFound(t, system(2, a, b), plus(a, k), farkas(1, 1, 0))
		wantFound(t, system(2, a, b), plus(b, k), farkas(1, 0, 1))
		wantFound(t, system(2, a, b), plus(lin(1, 0, 3), k), farkas(1, 1, 1))
		wantFound(t, system(2, a, b), plus(lin(3, -1, 6), k), farkas(1, 1, 2))
		wantFound(t, system(2, a, b), plus(lin(0, 1, 3), k), farkas(1, 2, 1))
	}
	for _, l := range []impl.Lin{a, b, lin(1, 0, 3), lin(3, -1, 6), lin(0, 1, 3)} {
		wantNotFound(t, system(2, a, b), plus(l, -1))
	}
	wantFound(t, system(2, b, a), lin(0, 1, 3), farkas(1, 1, 2))
}

// TestSystemsWithoutSolutions has certificates from the rows alone, whatever
// the target is, and others that need the target.
func TestSystemsWithoutSolutions(t *testing.T) {
	empty := system(2, lin(-1, 1, 0), lin(0, -1, 0), lin(4, 0, 1))
	wantNoSolution(t, empty, true)
	wantFound(t, empty, minusOne(2), farkas(0, 1, 1, 0))
	wantFound(t, empty, lin(-2, 0, 0), farkas(0, 1, 1, 0))
	wantFound(t, empty, lin(-9, 0, 1), farkas(0, 1, 1, 0))
	wantFound(t, empty, lin(limitCoeff-1, 0, -5), farkas(0, 1, 1, 0))
	wantFound(t, empty, lin(-limitCoeff, 0, 3), farkas(0, 1, 1, 0))
	wantNotFound(t, empty, lin(limitCoeff, 0, 3))
	// The negated target is a negative constant, or becomes one earlier.
	wantFound(t, empty, lin(0, 0, 0), farkas(1, 0, 0, 0))
	wantFound(t, empty, lin(3, 0, 0), farkas(1, 0, 0, 0))
	wantFound(t, empty, lin(limitCoeff-1, 0, 0), farkas(1, 0, 0, 0))
	wantFound(t, system(1, lin(-2, 1), lin(0, -1)), lin(-2, 1), farkas(0, 1, 1))
	wantFound(t, system(1, lin(0, -1), lin(-2, 1)), lin(0, -1), farkas(0, 1, 1))
	// The combinations with the target come before that of the rows.
	wantFound(t, system(1, lin(-1, 1), lin(1, 1), lin(0, -1)), lin(0, -1), farkas(0, 1, 0, 1))
	wantFound(t, system(1, lin(1, 1), lin(-1, 1), lin(0, -1)), lin(2, 1), farkas(1, 1, 0, 0))
	wantFound(t, system(1, lin(1, 1), lin(-1, 1), lin(0, -1)), lin(1, 1), farkas(1, 1, 0, 0))
	wantFound(t, system(1, lin(1, 1), lin(-1, 1), lin(0, -1)), lin(0, 1), farkas(0, 0, 1, 1))
	// Systems that have solutions need the target.
	s := system(1, lin(-2, 1), lin(3, -1))
	wantNoSolution(t, s, false)
	wantFound(t, s, lin(-2, 1), farkas(1, 1, 0))
	wantFound(t, s, lin(3, -1), farkas(1, 0, 1))
	wantFound(t, s, lin(-5, 3), farkas(1, 3, 0))
	wantNotFound(t, s, lin(-3, 1))
	wantNotFound(t, s, lin(2, -1))
	// Chains of rows through all variables.
	for n := 1; n <= limitVars; n++ {
		s := system(n, linAt(n, 0, 1, 0))
		s.Rows[0].Const = -1
		for i := 1; i < n; i++ {
			l := linAt(n, i, 1, 0)
			l.Coeffs[i-1] = -1
			s = with(s, l)
		}
		last := linAt(n, n-1, -1, 0)
		wantNoSolution(t, with(s, last), true)
		wantFound(t, with(s, last), minusOne(n), farkas(0, slices.Repeat([]int{1}, n+1)...))
		wantNoSolution(t, with(s, plus(last, 1)), false)
		target := linAt(n, n-1, 1, 0)
		wantFound(t, s, plus(target, -1), farkas(1, slices.Repeat([]int{1}, n)...))
		wantNotFound(t, s, plus(target, -2))
	}
}

// TestTheFirstNegativeConstantCounts has rows that are negative constants from
// the beginning, which are kept in order.
func TestTheFirstNegativeConstantCounts(t *testing.T) {
	for n := range limitVars + 1 {
		for size := 1; size <= 4; size++ {
			for _, constants := range pointsOf(size, -2, 1) {
				s := impl.System{N: n}
				for _, k := range constants {
					s.Rows = append(s.Rows, linAt(n, -1, k, 0))
				}
				first := slices.IndexFunc(constants, func(k int) bool { return k < 0 })
				wantNoSolution(t, s, first >= 0)
				for _, target := range []int{-2, -1, 0, 5} {
					switch l := linAt(n, -1, target, 0); {
					case first >= 0:
						wantFound(t, s, l, farkas(0, multAt(size, first, 1, 0)...))
					case target >= 0:
						wantFound(t, s, l, farkas(1, make([]int, size)...))
					default:
						wantNotFound(t, s, l)
					}
				}
			}
		}
	}
}

// TestKeptRowsComeFirst has rows with a coefficient of 0 before, between and
// after the others, and combinations that are negative constants as well.
func TestKeptRowsComeFirst(t *testing.T) {
	up, down := lin(-1, 1), lin(0, -1)
	wantFound(t, system(1, lin(-5, 0), up, down), minusOne(1), farkas(0, 1, 0, 0))
	wantFound(t, system(1, up, lin(-5, 0), down), minusOne(1), farkas(0, 0, 1, 0))
	wantFound(t, system(1, up, down, lin(-5, 0)), minusOne(1), farkas(0, 0, 0, 1))
	wantFound(t, system(1, down, up, lin(-5, 0)), minusOne(1), farkas(0, 0, 0, 1))
	wantFound(t, system(1, up, down, lin(-5, 0), lin(-6, 0)), minusOne(1), farkas(0, 0, 0, 1, 0))
	wantFound(t, system(1, lin(5, 0), up, lin(0, 0), down, lin(-6, 0)), minusOne(1), farkas(0, 0, 0, 0, 0, 1))
	wantFound(t, system(1, lin(5, 0), up, lin(0, 0), down, lin(6, 0)), minusOne(1), farkas(0, 0, 1, 0, 1, 0))
	wantFound(t, system(1, up, down), lin(4, 0), farkas(1, 0, 0))
	wantFound(t, system(1, up, down, lin(-7, 0)), lin(4, 0), farkas(0, 0, 0, 1))
	// The first variable is in two rows alone; the order of the others remains
	// when the second variable is eliminated.
	first, second := lin(-1, 1, 1), lin(0, -1, 0)
	wantFound(t, system(2, lin(-3, 0, 1), first, lin(1, 0, -1), second), minusOne(2), farkas(0, 1, 0, 1, 0))
	wantFound(t, system(2, first, lin(1, 0, -1), second, lin(-3, 0, 1)), minusOne(2), farkas(0, 0, 1, 0, 1))
	wantFound(t, system(2, first, lin(0, 0, -1), second, lin(-3, 0, 1)), minusOne(2), farkas(0, 0, 1, 0, 1))
	wantFound(t, system(2, first, lin(0, 0, -1), second, lin(3, 0, 1)), minusOne(2), farkas(0, 1, 1, 1, 0))
	// Each place of the only negative constant, and of two of them.
	for rows := 3; rows <= 6; rows++ {
		for a := range rows {
			for b := a; b < rows; b++ {
				s := system(1, slices.Repeat([]impl.Lin{lin(3, 0)}, rows)...)
				s.Rows[b].Const, s.Rows[a].Const = -3, -2
				wantFound(t, with(with(s, up), down), minusOne(1), farkas(0, multAt(rows+2, a, 1, 0)...))
				s = system(1, append([]impl.Lin{up, down}, s.Rows...)...)
				wantFound(t, s, minusOne(1), farkas(0, multAt(rows+2, a+2, 1, 0)...))
			}
		}
	}
}

// TestPositiveRowsMeetNegativeOnes has all signs of the combinations
// of several positive and several negative rows: the first positive row with a
// negative sum counts, with the first negative row for which it is one.
func TestPositiveRowsMeetNegativeOnes(t *testing.T) {
	for _, size := range [][2]int{{1, 3}, {3, 1}, {2, 2}, {2, 3}, {3, 2}} {
		for _, ups := range pointsOf(size[0], -1, 1) {
			for _, downs := range pointsOf(size[1], -1, 1) {
				want := []int{-1, -1}
				for i, a := range ups {
					for j, b := range downs {
						if a+b < 0 && want[0] < 0 {
							want = []int{i, j}
						}
					}
				}
				wantMeeting(t, ups, downs, want)
			}
		}
	}
}

// wantMeeting expects the certificate of a pair of rows, if there is one,
// wherever the positive rows stand among the negative ones.
func wantMeeting(t *testing.T, ups []int, downs []int, pair []int) {
	t.Helper()
	for before := range len(downs) + 1 {
		s := system(1)
		for _, k := range downs[:before] {
			s = with(s, lin(k, -1))
		}
		for _, k := range ups {
			s = with(s, lin(k, 1))
		}
		for _, k := range downs[before:] {
			s = with(s, lin(k, -1))
		}
		if pair[0] < 0 {
			wantNotFound(t, s, minusOne(1))
			continue
		}
		up, down := before+pair[0], pair[1]
		if down >= before {
			down += len(ups)
		}
		mult := make([]int, len(s.Rows))
		mult[up], mult[down] = 1, 1
		wantFound(t, s, minusOne(1), farkas(0, mult...))
	}
}

func TestOrderOfCombinations(t *testing.T) {
	// All combinations are negative.
	wantFound(t, system(1, lin(-1, 1), lin(-2, 1), lin(-3, -1), lin(-4, -1)), minusOne(1), farkas(0, 1, 0, 1, 0))
	wantFound(t, system(1, lin(-3, -1), lin(-4, -1), lin(-1, 1), lin(-2, 1)), minusOne(1), farkas(0, 1, 0, 1, 0))
	wantFound(t, system(1, lin(-3, -1), lin(-1, 1), lin(-4, -1), lin(-2, 1)), minusOne(1), farkas(0, 1, 1, 0, 0))
	// Only those of the second positive row or of the second negative one.
	wantFound(t, system(1, lin(5, 1), lin(-2, 1), lin(-3, -1), lin(-4, -1)), minusOne(1), farkas(0, 0, 1, 1, 0))
	wantFound(t, system(1, lin(-1, 1), lin(-2, 1), lin(3, -1), lin(-4, -1)), minusOne(1), farkas(0, 1, 0, 0, 1))
	// The first positive row with the second negative one is ahead of the
	// second positive row with the first negative one.
	wantFound(t, system(1, lin(0, 1), lin(-2, 1), lin(0, -1), lin(-2, -1)), minusOne(1), farkas(0, 1, 0, 0, 1))
	wantFound(t, system(1, lin(0, -1), lin(-2, -1), lin(0, 1), lin(-2, 1)), minusOne(1), farkas(0, 0, 1, 1, 0))
	// The negated target is the last row, whatever its sign is.
	wantFound(t, system(1, lin(0, -1), lin(-2, 1)), lin(-2, 1), farkas(0, 1, 1))
	wantFound(t, system(1, lin(2, -1), lin(-2, 1)), lin(-2, 1), farkas(1, 0, 1))
	wantFound(t, system(1, lin(2, -1), lin(-2, 1)), lin(2, -1), farkas(1, 1, 0))
	// Variables are eliminated from number 0 on: the sums of the first one
	// stand behind the kept rows when the second one is eliminated.
	wantFound(t, system(2, lin(-1, 1, 1), lin(-2, 0, 1), lin(0, -1, 0), lin(0, 0, -1)), minusOne(2), farkas(0, 0, 1, 0, 1))
	wantFound(t, system(2, lin(-1, 1, 1), lin(-2, 1, 0), lin(0, -1, 0), lin(0, 0, -1)), minusOne(2), farkas(0, 0, 1, 1, 0))
	wantFound(t, system(2, lin(-1, 1, 1), lin(-2, 0, 1), lin(0, 0, -1), lin(0, -1, 0)), minusOne(2), farkas(0, 0, 1, 1, 0))
	wantFound(t, system(2, lin(-1, 1, -1), lin(0, -1, 0), lin(0, 0, 1), lin(-1, 0, -1)), minusOne(2), farkas(0, 0, 0, 1, 1))
	wantFound(t, system(2, lin(-1, 1, -1), lin(0, -1, 0), lin(0, 0, 1), lin(1, 0, -1)), minusOne(2), farkas(0, 1, 1, 1, 0))
}

// TestOrderOfManyCombinations has all small constants of rows that are in one
// of several fixed orders, for one and for two variables.
func TestOrderOfManyCombinations(t *testing.T) {
	signs := []impl.System{
		system(1, lin(0, 1), lin(0, -1), lin(0, 0), lin(0, 2), lin(0, -2)),
		system(1, lin(0, -2), lin(0, 0), lin(0, -1), lin(0, 3), lin(0, 1)),
		system(1, lin(0, 0), lin(0, 1), lin(0, 0), lin(0, -1), lin(0, 0)),
		system(2, lin(0, 1, 1), lin(0, -1, 1), lin(0, 0, -1), lin(0, -1, -1), lin(0, 1, 0)),
		system(2, lin(0, 0, 1), lin(0, 1, -1), lin(0, -2, 0), lin(0, 2, 1), lin(0, 0, -3)),
		system(2, lin(0, -1, -1), lin(0, -1, 2), lin(0, 1, 0), lin(0, 1, 1), lin(0, 0, -1)),
	}
	for _, s := range signs {
		for _, constants := range pointsOf(5, -2, 1) {
			for k := range s.Rows {
				s.Rows[k].Const = constants[k]
			}
			wantSearched(t, s, minusOne(s.N))
			wantSearched(t, s, plus(s.Rows[0], 0))
			wantSearched(t, s, linAt(s.N, s.N-1, -1, 0))
		}
	}
}

func TestCommonDivisors(t *testing.T) {
	cases := []struct{ p, q, k, m int }{
		{1, 1, 1, 1}, {7, 7, 1, 1}, {limitCoeff, limitCoeff, 1, 1},
		{1, 5, 5, 1}, {5, 1, 1, 5}, {1, limitCoeff, limitCoeff, 1}, {limitCoeff, 1, 1, limitCoeff},
		{2, 3, 3, 2}, {3, 2, 2, 3}, {5, 7, 7, 5}, {99, 100, 100, 99}, {512, 1953125, 1953125, 512},
		{4, 6, 3, 2}, {6, 4, 2, 3}, {10, 5, 1, 2}, {5, 10, 2, 1}, {12, 18, 3, 2}, {1000, 15, 3, 200},
		{limitCoeff, limitCoeff / 2, 1, 2}, {limitCoeff / 2, limitCoeff, 2, 1}, {limitCoeff / 2, limitCoeff / 5, 2, 5},
		{31622, 31623, 31623, 31622}, {40000, 25000, 5, 8},
	}
	for n := 1; n <= limitVars; n++ {
		for _, place := range places(n) {
			for _, c := range cases {
				up, down := linAt(n, place, c.p, 0), linAt(n, place, -c.q, 0)
				up.Const = -1
				wantFound(t, system(n, up, down), minusOne(n), farkas(0, c.k, c.m))
				wantFound(t, system(n, down, up), minusOne(n), farkas(0, c.m, c.k))
				wantNotFound(t, system(n, plus(up, 1), down), minusOne(n))
				// The target is the negated other row: -down - 1 is at least 0.
				negated := linAt(n, place, c.q, 0)
				negated.Const = -1
				wantFound(t, system(n, up), negated, farkas(c.m, c.k))
			}
		}
	}
	// Combinations of combinations: the multipliers of a row add up.
	wantFound(t, system(2, lin(0, 1, 2), lin(-1, -1, 2), lin(0, 0, -2)), minusOne(2), farkas(0, 1, 1, 2))
	wantFound(t, system(2, lin(0, 2, 1), lin(-1, -3, 1), lin(0, 0, -5)), minusOne(2), farkas(0, 3, 2, 1))
	wantFound(t, system(2, lin(0, 2, 2), lin(-1, -3, -1), lin(0, 0, -6)), minusOne(2), farkas(0, 9, 6, 2))
	wantFound(t, system(2, lin(0, 1, 0), lin(-1, -1, 1), lin(-1, -1, -1)), minusOne(2), farkas(0, 2, 1, 1))
	wantFound(t, system(2, lin(0, 2, 0), lin(-1, -3, 1), lin(-1, -1, -1)), minusOne(2), farkas(0, 4, 2, 2))
	wantFound(t, system(2, lin(-1, 3, 1), lin(-1, 1, -1), lin(0, -2, 0)), minusOne(2), farkas(0, 2, 2, 4))
}

// TestLargeSums has, besides a combination that exceeds the limits or is just
// within them, one that is found if the other one is left out.
func TestLargeSums(t *testing.T) {
	half := limitCoeff / 2
	other := lin(-1, -1)
	cases := []struct {
		up, down impl.Lin
		k, m     int
		ok       bool
	}{
		{lin(-half, 1), lin(-half, -1), 1, 1, true},
		{lin(-half, 1), lin(-half-1, -1), 1, 1, false},
		{lin(-half-1, 1), lin(-half, -1), 1, 1, false},
		{lin(-half-1, 1), lin(-half+1, -1), 1, 1, true},
		{lin(-1, 1), lin(-limitCoeff, -1), 1, 1, false},
		{lin(0, 1), lin(-limitCoeff, -1), 1, 1, true},
		{lin(-1, 1), lin(1-limitCoeff, -1), 1, 1, true},
		// A product is too large.
		{lin(-half, 1), lin(0, -2), 2, 1, true},
		{lin(-half-1, 1), lin(0, -2), 2, 1, false},
		{lin(-half-1, 1), lin(4, -2), 2, 1, false},
		{lin(-half-1, 1), lin(limitCoeff, -2), 2, 1, false},
		{lin(0, 2), lin(-half, -1), 1, 2, true},
		{lin(0, 2), lin(-half-1, -1), 1, 2, false},
		{lin(4, 2), lin(-half-1, -1), 1, 2, false},
		{lin(1, 25000), lin(-25000, -40000), 8, 5, true},
		{lin(0, limitCoeff), lin(-1, -1), 1, limitCoeff, true},
		{lin(0, limitCoeff), lin(-2, -1), 1, limitCoeff, false},
		{lin(-1, 1), lin(0, -limitCoeff), limitCoeff, 1, true},
		{lin(-1, 1), lin(-1, -limitCoeff), limitCoeff, 1, false},
		// The products that cancel each other are too large.
		{lin(-1, 31622), lin(0, -31623), 31623, 31622, true},
		{lin(-1, 31623), lin(0, -31624), 31624, 31623, false},
		{lin(-1, 512), lin(0, -1953125), 1953125, 512, true},
		{lin(-1, limitCoeff), lin(0, 1-limitCoeff), 0, 0, false},
	}
	for _, c := range cases {
		if c.ok {
			wantFound(t, system(1, c.up, c.down), minusOne(1), farkas(0, c.k, c.m))
			wantFound(t, system(1, c.down, c.up), minusOne(1), farkas(0, c.m, c.k))
			wantFound(t, system(1, c.up, c.down, lin(0, 1), other), minusOne(1), farkas(0, c.k, c.m, 0, 0))
			continue
		}
		wantNotFound(t, system(1, c.up, c.down), minusOne(1))
		wantNotFound(t, system(1, c.down, c.up), minusOne(1))
		wantSearched(t, system(1, c.up, c.down, other), minusOne(1))
		wantFound(t, system(1, c.up, c.down, lin(-7, 0)), minusOne(1), farkas(0, 0, 0, 1))
	}
	// The combinations behind one that is left out stay.
	wantFound(t, system(1, lin(-half-1, 1), lin(-half, -1), lin(0, -1)), minusOne(1), farkas(0, 1, 0, 1))
	wantFound(t, system(1, lin(-half-1, 1), lin(0, 1), lin(-half, -1)), minusOne(1), farkas(0, 0, 1, 1))
	wantFound(t, system(1, lin(-half-1, 1), lin(3, 1), lin(-half, -1), lin(-half, -1), lin(-4, -1)), minusOne(1), farkas(0, 1, 0, 0, 0, 1))
	wantFound(t, system(1, lin(-half-1, 1), lin(3, 1), lin(-half, -1), lin(-half, -1)), minusOne(1), farkas(0, 0, 1, 1, 0))
	// So does one that is ahead of it.
	wantFound(t, system(1, lin(-half-1, 1), lin(0, -1), lin(-half, -1)), minusOne(1), farkas(0, 1, 1, 0))
}

// TestLargeCoefficients has combinations with a coefficient of another
// variable that is just within the limits or beyond them.
func TestLargeCoefficients(t *testing.T) {
	half := limitCoeff / 2
	for _, sign := range []int{1, -1} {
		cases := []struct {
			up, down, y int
			mult        []int
		}{
			{half, half, 1, []int{1, 1, limitCoeff}},
			{half, half + 1, 1, nil},
			{half + 1, half, 1, nil},
			{half, half, limitCoeff, []int{1, 1, 1}},
			{half + 1, half, limitCoeff, nil},
			{half + 1, half - 1, limitCoeff, []int{1, 1, 1}},
			{limitCoeff, 0, limitCoeff, []int{1, 1, 1}},
			{limitCoeff, 1, limitCoeff, nil},
			{1, limitCoeff, limitCoeff, nil},
			{limitCoeff, -limitCoeff + 1, 1, []int{1, 1, 1}},
		}
		for _, c := range cases {
			s := system(2, lin(-1, 1, sign*c.up), lin(-1, -1, sign*c.down), lin(0, 0, -sign*c.y))
			if c.mult == nil {
				wantNotFound(t, s, minusOne(2))
				// What is behind it stays.
				s = with(with(s, lin(-1, 1, 0)), lin(0, -1, 0))
				wantFound(t, s, minusOne(2), farkas(0, 0, 0, 0, 1, 1))
				continue
			}
			wantFound(t, s, minusOne(2), farkas(0, c.mult...))
		}
	}
	// The second negative row is combined although the first one is not.
	wantFound(t, system(2, lin(-1, 1, half+1), lin(-1, -1, half), lin(-1, -1, -half-1)), minusOne(2), farkas(0, 1, 0, 1))
	wantFound(t, system(2, lin(-1, 1, half+1), lin(-1, 1, -half), lin(0, -1, half)), minusOne(2), farkas(0, 0, 1, 1))
	// Also in the last of many variables.
	for n := 2; n <= limitVars; n++ {
		up, down, end := linAt(n, 0, 1, 0), linAt(n, 0, -1, 0), linAt(n, n-1, -limitCoeff, 0)
		up.Coeffs[n-1], down.Coeffs[n-1] = half, half
		up.Const = -1
		wantFound(t, system(n, up, down, end), minusOne(n), farkas(0, 1, 1, 1))
		down.Coeffs[n-1]++
		wantNotFound(t, system(n, up, down, end), minusOne(n))
	}
}

// chain returns rows of which each one but the first has the coefficient
// -factors[i] for a variable that has 1 in the row before it, and a last row
// for each of the other factors; the sum of all is -1.
func chain(factors []int, last ...int) impl.System {
	n := len(factors) + 1
	s := system(n, linAt(n, 0, 1, 0))
	for i, factor := range factors {
		l := linAt(n, i, -factor, 0)
		l.Coeffs[i+1] = 1
		s = with(s, l)
	}
	for _, factor := range last {
		s = with(s, plus(linAt(n, n-1, -factor, 0), -1))
	}
	return s
}

// TestLargeMultipliers has combinations of few digits whose multipliers are
// just within the limits or beyond them.
func TestLargeMultipliers(t *testing.T) {
	wantFound(t, chain([]int{1000, 1000}, 1000), minusOne(3), farkas(0, limitCoeff, 1000000, 1000, 1))
	wantNotFound(t, chain([]int{1000, 1000}, 1001), minusOne(3))
	wantNotFound(t, chain([]int{1000, 1001}, 1000), minusOne(3))
	wantNotFound(t, chain([]int{1001, 1000}, 1000), minusOne(3))
	wantFound(t, chain([]int{1001, 1000}, 999), minusOne(3), farkas(0, 999999000, 999000, 999, 1))
	wantFound(t, chain([]int{31250, 32000}, 1), minusOne(3), farkas(0, limitCoeff, 32000, 1, 1))
	wantFound(t, chain([]int{limitCoeff}, 1), minusOne(2), farkas(0, limitCoeff, 1, 1))
	wantNotFound(t, chain([]int{limitCoeff}, 2), minusOne(2))
	wantFound(t, chain([]int{10, 10, 10, 10, 10, 10, 10}, 100), minusOne(8), farkas(0, limitCoeff, 100000000, 10000000, 1000000, 100000, 10000, 1000, 100, 1))
	wantNotFound(t, chain([]int{10, 10, 10, 10, 10, 10, 10}, 101), minusOne(8))
	// A combination that is left out is no obstacle for the next one, and one
	// that is found first is no obstacle either.
	wantFound(t, chain([]int{1000, 1000}, 1001, 1), minusOne(3), farkas(0, 1000000, 1000, 1, 0, 1))
	wantFound(t, chain([]int{1000, 1000}, 1001, 1002, 1000), minusOne(3), farkas(0, limitCoeff, 1000000, 1000, 0, 0, 1))
	wantFound(t, chain([]int{1000, 1000}, 1, 1001), minusOne(3), farkas(0, 1000000, 1000, 1, 1, 0))
	wantFound(t, with(chain([]int{1000, 1000}, 1001), linAt(3, -1, -2, 0)), minusOne(3), farkas(0, 0, 0, 0, 0, 1))
}

// TestLargeScales has the target as the first row of a chain, whose multiplier
// is the greatest one.
func TestLargeScales(t *testing.T) {
	cases := []struct {
		factors []int
		last    []int
		want    []int
	}{
		{[]int{1000, 1000}, []int{1000}, []int{limitCoeff, 1000000, 1000, 1}},
		{[]int{1000, 1000}, []int{1001}, nil},
		{[]int{1000, 1001}, []int{1000}, nil},
		{[]int{1001, 1000}, []int{1000}, nil},
		{[]int{limitCoeff}, []int{1}, []int{limitCoeff, 1, 1}},
		{[]int{limitCoeff}, []int{2}, nil},
		{[]int{1000, 1000}, []int{1001, 1}, []int{1000000, 1000, 1, 0, 1}},
		{[]int{1000, 1000}, []int{1001, 1000}, []int{limitCoeff, 1000000, 1000, 0, 1}},
		{[]int{10, 10, 10, 10, 10, 10, 10}, []int{100}, []int{limitCoeff, 100000000, 10000000, 1000000, 100000, 10000, 1000, 100, 1}},
		{[]int{10, 10, 10, 10, 10, 10, 10}, []int{101}, nil},
	}
	for _, c := range cases {
		s := chain(c.factors, c.last...)
		// -target - 1 is the first row.
		target := plus(times(-1, s.Rows[0]), -1)
		s.Rows = s.Rows[1:]
		if c.want == nil {
			wantNotFound(t, s, target)
			continue
		}
		wantFound(t, s, target, farkas(c.want[0], c.want[1:]...))
	}
}

// wantRefused expects a search that ends with this certificate, for which
// CheckFarkas exceeds the limits.
func wantRefused(t *testing.T, s impl.System, target impl.Lin, f impl.Farkas) {
	t.Helper()
	wantNotFound(t, s, target)
	if x := wantSearched(t, s, target); x.refused == 0 || impl.CheckFarkas(s, target, f) {
		t.Errorf("%v is no certificate that is refused for %v, %v", f, s, target)
	}
}

func TestRefusedCertificates(t *testing.T) {
	// The search adds the last row to the first one before the second.
	ones := farkas(0, 1, 1, 1)
	a, b, c := lin(-limitCoeff, 1, 0), lin(-1, 0, -1), lin(limitCoeff, -1, 1)
	wantRefused(t, system(2, a, b, c), minusOne(2), ones)
	wantFound(t, system(2, a, c, b), minusOne(2), ones)
	wantFound(t, system(2, c, b, a), minusOne(2), ones)
	wantFound(t, system(2, plus(a, 1), b, plus(c, -1)), minusOne(2), ones)
	wantRefused(t, system(2, a, b), plus(times(-1, c), -1), farkas(1, 1, 1))
	// The search doesn't go on with the next negative constant, of which there
	// is a certificate.
	wantNotFound(t, system(2, a, b, c, lin(-2, 0, -1)), minusOne(2))
	wantFound(t, system(2, a, lin(0, 0, -1), c, lin(-2, 0, -1)), minusOne(2), farkas(0, 1, 0, 1, 1))
	wantFound(t, system(2, a, b, c, lin(-2, 0, 0)), minusOne(2), farkas(0, 0, 0, 0, 1))
	// The sums are 0 or 1 in pairs, but not in the order of the rows.
	for _, large := range []int{limitCoeff, -limitCoeff} {
		small := large / limitCoeff
		a, b := lin(0, 1, 0, 0, large), lin(0, 0, 1, 0, small)
		c, d := lin(0, -1, 0, 1, -large), lin(-1, 0, -1, -1, -small)
		wantRefused(t, system(4, a, b, c, d), minusOne(4), farkas(0, 1, 1, 1, 1))
		wantFound(t, system(4, a, c, b, d), minusOne(4), farkas(0, 1, 1, 1, 1))
		wantFound(t, system(4, a, d, b, c), minusOne(4), farkas(0, 1, 1, 1, 1))
		a, b = lin(large, 1, 0, 0, 0), lin(small, 0, 1, 0, 0)
		c, d = lin(-large, -1, 0, 1, 0), lin(-small-1, 0, -1, -1, 0)
		wantRefused(t, system(4, a, b, c, d), minusOne(4), farkas(0, 1, 1, 1, 1))
		wantFound(t, system(4, a, c, b, d), minusOne(4), farkas(0, 1, 1, 1, 1))
	}
}

// TestRefusedProducts has multipliers that are within the limits, but not
// their products with the rows.
func TestRefusedProducts(t *testing.T) {
	a, b := lin(0, 31622, 1), lin(0, -31623, -1)
	wantFound(t, system(2, a, b, lin(-1, 0, -1)), minusOne(2), farkas(0, 31623, 31622, 1))
	wantRefused(t, system(2, a, b, lin(-1, 0, -2)), minusOne(2), farkas(0, 63246, 63244, 1))
	wantRefused(t, system(2, a, b, lin(-1, 0, -30000)), minusOne(2), farkas(0, 948690000, 948660000, 1))
	// The same with the target in place of a row.
	wantFound(t, system(2, b, lin(-1, 0, -1)), plus(times(-1, a), -1), farkas(31623, 31622, 1))
	wantRefused(t, system(2, b, lin(-1, 0, -2)), plus(times(-1, a), -1), farkas(63246, 63244, 1))
	wantFound(t, system(2, a, lin(-1, 0, -1)), plus(times(-1, b), -1), farkas(31622, 31623, 1))
	wantRefused(t, system(2, a, lin(-1, 0, -2)), plus(times(-1, b), -1), farkas(63244, 63246, 1))
}

// crossing returns a system of rows in which one variable is positive, rows in
// which it is negative, and rows that are constants; the sum of a positive row
// and a negative one is -2.
func crossing(n int, place int, ups int, downs int, constants int) impl.System {
	up, down := plus(linAt(n, place, 1, 0), -1), plus(linAt(n, place, -1, 0), -1)
	return system(n, slices.Concat(slices.Repeat([]impl.Lin{up}, ups), slices.Repeat([]impl.Lin{linAt(n, -1, 3, 0)}, constants), slices.Repeat([]impl.Lin{down}, downs))...)
}

// crossed returns the certificate of the first positive row and the first
// negative one.
func crossed(ups int, downs int, constants int) impl.Farkas {
	f := farkas(0, make([]int, ups+constants+downs)...)
	f.Mult[0], f.Mult[ups+constants] = 1, 1
	return f
}

// TestCountsDerivedRows has all numbers of positive, negative and other rows,
// for a variable before and after which there may be others.
func TestCountsDerivedRows(t *testing.T) {
	for _, n := range []int{1, 2, 3, limitVars} {
		for _, place := range places(n) {
			for ups := range limitRows + 1 {
				for downs := range limitRows + 1 - ups {
					for constants := range limitRows + 1 - ups - downs {
						s := crossing(n, place, ups, downs, constants)
						// The negated target is one more row, 0.
						rows := ups*downs + constants + 1
						if rows > limitDerived || ups == 0 || downs == 0 {
							wantNotFound(t, s, minusOne(n))
						} else {
							wantFound(t, s, minusOne(n), crossed(ups, downs, constants))
						}
					}
				}
			}
		}
	}
}

func TestAtMostMaxDerivedRows(t *testing.T) {
	wantFound(t, crossing(1, 0, 5, 11, 4), minusOne(1), crossed(5, 11, 4))
	wantFound(t, crossing(1, 0, 11, 5, 4), minusOne(1), crossed(11, 5, 4))
	wantNotFound(t, crossing(1, 0, 6, 10, 0), minusOne(1))
	wantNotFound(t, crossing(1, 0, 10, 6, 0), minusOne(1))
	// The first derived row is a negative constant, but there are too many.
	s := crossing(1, 0, 6, 9, 1)
	s.Rows = append([]impl.Lin{lin(-5, 0)}, s.Rows...)
	wantFound(t, s, minusOne(1), farkas(0, multAt(17, 0, 1, 0)...))
	wantNotFound(t, with(s, lin(-1, -1)), minusOne(1))
	// The negated target is a positive row, a negative one, or a constant.
	wantFound(t, crossing(1, 0, 5, 10, 0), lin(-1, -1), crossed(5, 10, 0))
	wantNotFound(t, crossing(1, 0, 5, 10, 1), lin(-1, -1))
	wantFound(t, crossing(1, 0, 4, 12, 0), lin(-1, -1), crossed(4, 12, 0))
	wantFound(t, crossing(1, 0, 4, 14, 0), lin(-1, 1), crossed(4, 14, 0))
	wantNotFound(t, crossing(1, 0, 4, 15, 0), lin(-1, 1))
	wantNotFound(t, crossing(1, 0, 5, 11, 5), lin(-1, 0))
	wantFound(t, crossing(1, 0, 3, 17, 0), minusOne(1), crossed(3, 17, 0))
	// Without variables, no list is replaced, and all rows remain.
	wantFound(t, system(0, slices.Repeat([]impl.Lin{lin(0)}, limitRows)...), lin(0), farkas(1, make([]int, limitRows)...))
}

// TestRowsLeftOutAreNotCounted has one combination more than MaxDerived, which
// exceeds the limits, and then none that does.
func TestRowsLeftOutAreNotCounted(t *testing.T) {
	half := limitCoeff / 2
	for _, size := range [][2]int{{6, 10}, {10, 6}} {
		s := crossing(1, 0, size[0], size[1], 0)
		wantNotFound(t, s, minusOne(1))
		s.Rows[0].Const, s.Rows[size[0]].Const = -half, -half
		wantNotFound(t, s, minusOne(1))
		s.Rows[0].Const--
		wantFound(t, s, minusOne(1), farkas(0, slices.Concat([]int{1}, make([]int, size[0]), []int{1}, make([]int, size[1]-2))...))
		wantNotFound(t, with(s, lin(3, 0)), minusOne(1))
	}
	// The negated target is in no combination that is within the limits.
	s := crossing(1, 0, 6, 10, 0)
	for k := range s.Rows {
		s.Rows[k] = lin(-1, 2*s.Rows[k].Coeffs[0])
	}
	wantFound(t, s, lin(-1, 999999937), crossed(6, 10, 0))
	wantFound(t, s, lin(-1, -999999937), crossed(6, 10, 0))
	wantNotFound(t, s, lin(-1, 2))
	wantNotFound(t, s, lin(-1, 0))
}

// TestCountsRowsAfterEachVariable has lists that are too long after one
// variable alone.
func TestCountsRowsAfterEachVariable(t *testing.T) {
	// All combinations vanish with the second variable, and a negative constant
	// remains.
	for _, sign := range []int{1, -1} {
		short, long := crossing(2, 0, 5, 11, 0), crossing(2, 0, 6, 10, 0)
		for _, s := range []impl.System{short, long} {
			for k := range s.Rows {
				s.Rows[k].Coeffs[1] = sign
			}
		}
		short, long = with(short, lin(-4, 0, 0)), with(long, lin(-4, 0, 0))
		x := wantSearched(t, short, minusOne(2))
		if x.longest != 57 {
			t.Errorf("%d rows are derived from %v", x.longest, short)
		}
		wantFound(t, short, minusOne(2), farkas(0, multAt(17, 16, 1, 0)...))
		wantNotFound(t, long, minusOne(2))
	}
	// 21 rows after the first variable, and 55 and the constants after the
	// second one.
	s := twoSteps(2, 3, 9)
	for range 5 {
		wantFound(t, s, minusOne(2), farkas(0, slices.Concat([]int{1, 0, 1, 0, 0, 4}, make([]int, len(s.Rows)-6))...))
		s = with(s, lin(3, 0, 0))
	}
	wantFound(t, s, minusOne(2), farkas(0, slices.Concat([]int{1, 0, 1, 0, 0, 4}, make([]int, 13))...))
	if x := wantSearched(t, s, minusOne(2)); x.longest != limitDerived {
		t.Errorf("%d rows are derived from %v", x.longest, s)
	}
	wantNotFound(t, with(s, lin(3, 0, 0)), minusOne(2))
	wantNotFound(t, with(s, lin(-3, 0, 0)), minusOne(2))
	for ups := range 5 {
		for downs := range 5 {
			for more := range 9 {
				wantSearched(t, twoSteps(ups, downs, more), minusOne(2))
			}
		}
	}
}

// twoSteps returns a system whose first variable has so many combinations, in
// all of which the second one is positive; it is negative in further rows.
func twoSteps(ups int, downs int, more int) impl.System {
	s := crossing(2, 0, ups, downs, 0)
	for k := range s.Rows {
		s.Rows[k].Coeffs[1] = k + 1
	}
	for k := range more {
		s = with(s, lin(-k, 0, -1))
	}
	return s
}

// wantRightAnswer expects that what is found is accepted and holds for the
// solutions among these points, and that it is what the specification says.
func wantRightAnswer(t *testing.T, s impl.System, target impl.Lin, solutions [][]int) {
	t.Helper()
	f, ok := impl.FindFarkas(s, target)
	x := search{system: s, target: target}
	if want, wantOk := x.find(); !sameFarkas(f, want) || ok != wantOk {
		t.Fatalf("FindFarkas(%v, %v) = %v, %t, want %v, %t", s, target, f, ok, want, wantOk)
	}
	if entailed := impl.Entails(s, target); entailed != ok || impl.CheckFarkas(s, target, f) != ok {
		t.Fatalf("Entails(%v, %v) = %t, and CheckFarkas is not %t for %v", s, target, entailed, ok, f)
	}
	for _, point := range solutions {
		if ok && valueAt(target, point) < 0 {
			t.Fatalf("FindFarkas(%v, %v) = %v, but %v is a solution", s, target, f, point)
		}
	}
}

// wantRightAnswers does so for several targets, and expects that a system has
// none of the solutions if it is empty.
func wantRightAnswers(t *testing.T, s impl.System, targets []impl.Lin, points [][]int) {
	t.Helper()
	solutions := solutionsOf(s, points)
	for _, target := range targets {
		wantRightAnswer(t, s, target, solutions)
	}
	x := search{system: s, target: minusOne(s.N)}
	_, want := x.find()
	if got := impl.IsEmptySystem(s); got != want || got && len(solutions) > 0 {
		t.Fatalf("IsEmptySystem(%v) = %t with the solutions %v", s, got, solutions)
	}
}

// TestFoundCertificatesAreAccepted is the promise, for all small systems and
// targets.
func TestFoundCertificatesAreAccepted(t *testing.T) {
	cases := []struct{ n, low, high int }{{0, -3, 3}, {1, -3, 2}, {2, -1, 1}}
	for _, c := range cases {
		numbers := from(c.low, c.high)
		rows, points := linsOf(c.n, numbers, numbers), pointsOf(c.n, -4, 4)
		for _, s := range smallSystems(rows, c.n) {
			wantRightAnswers(t, s, rows, points)
		}
	}
}

// TestFoundCertificatesOfMoreRows has systems of three and four rows, many of
// which have no solution.
func TestFoundCertificatesOfMoreRows(t *testing.T) {
	rows, points := linsOf(2, []int{-1, 0}, from(-1, 1)), pointsOf(2, -4, 4)
	targets := linsOf(2, []int{-2, -1, 0}, []int{-1, 0, 2})
	for _, s := range smallSystems(rows, 2) {
		for _, row := range []impl.Lin{lin(3, -1, -1), lin(-2, 2, -1), lin(0, -2, 3), lin(-1, -3, 0)} {
			wantRightAnswers(t, with(s, row), targets, points)
			wantRightAnswers(t, with(with(s, row), lin(1, 0, -2)), targets, points)
		}
	}
	rows, points = linsOf(3, []int{-1}, from(-1, 1)), pointsOf(3, -2, 2)
	targets = linsOf(3, []int{-3, 0}, []int{-1, 0, 1})
	for _, s := range smallSystems(rows, 3) {
		wantRightAnswers(t, with(s, lin(2, -1, 2, -1)), targets[:9], points)
		wantRightAnswers(t, with(s, lin(0, 1, 1, -2)), targets[20:29], points)
	}
}

// TestNotFoundHasAFraction expects that, if no certificate is found and no
// limit matters, there are fractions that satisfy the system but not the
// target: here, multiples of a half and of a third.
func TestNotFoundHasAFraction(t *testing.T) {
	numbers := from(-2, 2)
	rows := linsOf(1, numbers, []int{-3, -2, -1, 0, 1, 2, 3})
	for _, s := range smallSystems(rows, 1) {
		for _, target := range rows {
			wantFraction(t, s, target, pointsOf(1, -24, 24), 6)
		}
	}
	rows = linsOf(2, from(-1, 1), from(-1, 1))
	for _, s := range smallSystems(rows, 2) {
		for _, target := range rows {
			wantFraction(t, s, target, pointsOf(2, -8, 8), 2)
		}
	}
}

// wantFraction takes the points as numerators of fractions.
func wantFraction(t *testing.T, s impl.System, target impl.Lin, points [][]int, denominator int) {
	t.Helper()
	if impl.Entails(s, target) {
		return
	}
	whole := system(s.N)
	for _, l := range append(slices.Clone(s.Rows), plus(times(-1, target), -1)) {
		whole = with(whole, lin(denominator*l.Const, l.Coeffs...))
	}
	if !slices.ContainsFunc(points, func(point []int) bool { return isSolution(whole, point) }) {
		t.Fatalf("Entails(%v, %v) is false, but there is no fraction", s, target)
	}
}

// drawing draws systems and targets, always the same ones.
type drawing struct{ *rand.Rand }

// number draws a coefficient of one of several kinds: few digits with many
// zeros, few digits, many digits, or a number at a limit.
func (d drawing) number(kind int) int {
	switch kind {
	case 0:
		return []int{0, 0, 0, 1, -1, 2}[d.IntN(6)]
	case 1:
		return d.IntN(9) - 4
	case 2:
		return d.IntN(60000) - 30000
	default:
		list := slices.DeleteFunc(coeffEdges(), func(x int) bool { return !withinCoeff(x) })
		return list[d.IntN(len(list))]
	}
}

// lin draws an expression; on average, one of so many coefficients is drawn as
// well, and the others are 0.
func (d drawing) lin(n int, kind int, every int) impl.Lin {
	l := linAt(n, -1, d.number(min(kind, 2))-d.IntN(3), 0)
	for i := range l.Coeffs {
		if d.IntN(every) == 0 {
			l.Coeffs[i] = d.number(kind)
		}
	}
	return l
}

func (d drawing) system(n int, rows int) impl.System {
	s, kind, every := impl.System{N: n}, d.IntN(4), 1+d.IntN(4)
	for range rows {
		s.Rows = append(s.Rows, d.lin(n, kind, every))
	}
	return s
}

// target draws a sum of rows, or any expression.
func (d drawing) target(s impl.System) impl.Lin {
	sum, ok := linAt(s.N, -1, d.IntN(3)-1, 0), len(s.Rows) > 0
	for range 1 + d.IntN(4) {
		if ok {
			sum, ok = combination(sum, d.IntN(4), s.Rows[d.IntN(len(s.Rows))])
		}
	}
	if ok && d.IntN(4) > 0 {
		return sum
	}
	return d.lin(s.N, d.IntN(4), 1+d.IntN(4))
}

// TestDrawnSystems compares with the specification for systems of all sizes
// and numbers of all kinds.
func TestDrawnSystems(t *testing.T) {
	d := drawing{rand.New(rand.NewPCG(8, 60))}
	var withTarget, rowsAlone, tooMany, leftOut, refused int
	for range 12000 {
		n := d.IntN(limitVars + 1)
		s := d.system(n, d.IntN(1+min(limitRows, 3+3*n)))
		if d.IntN(8) == 0 {
			s = d.system(n, limitRows)
		}
		target := d.target(s)
		x := wantSearched(t, s, target)
		tooMany += min(1, max(0, x.longest-limitDerived))
		leftOut += min(1, x.leftOut)
		refused += x.refused
		if f, ok := impl.FindFarkas(s, target); ok && f.Scale > 0 {
			withTarget++
		} else if ok {
			rowsAlone++
		}
		wantSearched(t, s, minusOne(n))
	}
	if min(withTarget, rowsAlone, tooMany, leftOut) < 500 || refused == 0 {
		t.Errorf("only %d and %d certificates, %d lists that are too long, %d searches that leave rows out, %d refused certificates", withTarget, rowsAlone, tooMany, leftOut, refused)
	}
}

// TestEdgeNumbersInTwoRows has all numbers at the limits in two rows and in
// the target.
func TestEdgeNumbersInTwoRows(t *testing.T) {
	for _, n := range []int{0, 1, 3} {
		for place := -1; place < n; place++ {
			for _, x := range coeffEdges() {
				for _, y := range coeffEdges() {
					for _, z := range []int{-limitCoeff, -3, -1, 0, 1, 2, limitCoeff - 1, limitCoeff, limitCoeff + 1} {
						a, b, target := linAt(n, place, x, 0), linAt(n, place, y, 0), linAt(n, place, z, 0)
						if place >= 0 {
							a.Const, b.Const, target.Const = -1, 0, -2
						}
						if withinCoeff(x) && withinCoeff(y) && withinCoeff(z) {
							wantSearched(t, system(n, a, b), target)
						} else {
							wantNotFound(t, system(n, a, b), target)
						}
					}
				}
			}
		}
	}
}

// TestDenseSystems has the greatest systems, with no coefficient that is 0.
func TestDenseSystems(t *testing.T) {
	d := drawing{rand.New(rand.NewPCG(20, 8))}
	for range 200 {
		s := impl.System{N: limitVars}
		for range limitRows {
			l := linAt(limitVars, -1, d.IntN(9)-6, 0)
			for i := range l.Coeffs {
				l.Coeffs[i] = (1 + d.IntN(3)) * (1 - 2*d.IntN(2))
			}
			s.Rows = append(s.Rows, l)
		}
		wantSearched(t, s, minusOne(limitVars))
		wantSearched(t, s, s.Rows[d.IntN(limitRows)])
	}
}

func TestSearchesKeepTheirArguments(t *testing.T) {
	h, found, empty := newStock(), 0, 0
	for _, s := range h.systems() {
		for _, target := range h.targets() {
			if _, ok := impl.FindFarkas(s, target); ok {
				found++
			}
			impl.Entails(s, target)
			if impl.IsEmptySystem(s) {
				empty++
			}
			if h.describe() != newStock().describe() {
				t.Fatalf("arguments changed to %v for %v, %v", h, s, target)
			}
		}
	}
	if found == 0 || empty == 0 {
		t.Errorf("%d certificates and %d systems without solutions", found, empty)
	}
}

// TestSearchesKeepUnusedCapacity has a target between the rows of a system in
// one memory, and numbers behind those of each expression.
func TestSearchesKeepUnusedCapacity(t *testing.T) {
	list := func() []int { return []int{1, 0, 9, 9, -1, 1, 9, 9, 0, 1, 9, 9} }
	numbers := list()
	coeffs := func(i int) []int { return numbers[4*i : 4*i+2 : 4*i+4] }
	rows := []impl.Lin{{Const: -1, Coeffs: coeffs(0)}, {Const: 0, Coeffs: coeffs(1)}, {Const: -1, Coeffs: coeffs(2)}, lin(5), lin(6)}
	s, target := impl.System{N: 2, Rows: rows[:2]}, rows[2]
	wantFound(t, s, target, farkas(1, 1, 1))
	wantNotFound(t, s, impl.Lin{Const: -2, Coeffs: coeffs(2)})
	wantNoSolution(t, s, false)
	wantNoSolution(t, impl.System{N: 2, Rows: rows[:1]}, false)
	wantFound(t, impl.System{N: 0, Rows: rows[:0]}, impl.Lin{Coeffs: numbers[2:2]}, farkas(1))
	if !slices.Equal(numbers, list()) || !sameSystem(impl.System{Rows: rows}, system(0, lin(-1, 1, 0), lin(0, -1, 1), lin(-1, 0, 1), lin(5), lin(6))) {
		t.Errorf("arguments changed to %v, %v", numbers, rows)
	}
}

// overwriteMult changes everything that can be reached from a result.
func overwriteMult(f impl.Farkas) {
	mult := f.Mult[:cap(f.Mult)]
	for i := range mult {
		mult[i] = 987654
	}
}

func TestFoundCertificatesAreSeparate(t *testing.T) {
	h, found := newStock(), 0
	for _, s := range h.systems() {
		for _, target := range h.targets() {
			first, ok := impl.FindFarkas(s, target)
			second, _ := impl.FindFarkas(s, target)
			want := farkas(first.Scale, first.Mult...)
			overwriteMult(first)
			if !sameFarkas(second, want) || h.describe() != newStock().describe() {
				t.Fatalf("a change of a result changed another one to %v, or its arguments to %v", second, h)
			}
			wantResult(t, s, target, want, ok)
			if len(want.Mult) > 1 {
				found++
			}
		}
	}
	if found == 0 {
		t.Error("there are no certificates")
	}
	// Results that have to be equal, and those of different targets.
	s := system(2, lin(-1, 1, 0), lin(0, -1, 1))
	a, _ := impl.FindFarkas(s, lin(-1, 0, 1))
	b, _ := impl.FindFarkas(system(2, s.Rows...), lin(-1, 0, 1))
	c, _ := impl.FindFarkas(s, lin(-2, 1, 1))
	overwriteMult(a)
	if !sameFarkas(b, farkas(1, 1, 1)) || !sameFarkas(c, farkas(1, 2, 1)) || !sameSystem(s, system(2, lin(-1, 1, 0), lin(0, -1, 1))) {
		t.Errorf("a change of a result changed %v, %v or %v", b, c, s)
	}
}
