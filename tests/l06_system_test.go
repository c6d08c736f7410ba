package tests

import (
	"fmt"
	"math"
	"slices"
	"testing"

	"loop.example/g00515/impl"
)

// limitRows is the limit of the specification, written out as the others are.
const limitRows = 20

// system returns the system with these rows, in memory of its own.
func system(n int, rows ...impl.Lin) impl.System {
	s := impl.System{N: n}
	for _, l := range rows {
		s.Rows = append(s.Rows, lin(l.Const, l.Coeffs...))
	}
	return s
}

// with returns the system with an additional last row, valid or not, in memory
// of its own.
func with(s impl.System, l impl.Lin) impl.System {
	return system(s.N, append(slices.Clone(s.Rows), l)...)
}

// sameSystem does not use EqualSystem, which is a subject of these tests.
func sameSystem(a impl.System, b impl.System) bool {
	return a.N == b.N && slices.EqualFunc(a.Rows, b.Rows, sameLin)
}

// systemOf returns a system of valid rows, which are all different and have
// the value 1 or more if all variables are 0.
func systemOf(n int, rows int) impl.System {
	s := impl.System{N: n}
	for i := range rows {
		s.Rows = append(s.Rows, linAt(n, -1, i+1, -i))
	}
	return s
}

// places returns the first, a middle and the last place of a list that is not
// empty.
func places(size int) []int {
	return slices.Compact([]int{0, size / 2, size - 1})
}

// numberEdges returns values of variables at and beyond the limits.
func numberEdges() []int {
	return []int{
		0, 1, -1, limitNumber - 1, limitNumber, limitNumber + 1, -limitNumber + 1, -limitNumber, -limitNumber - 1,
		limitCoeff, -limitCoeff, 1 << 32, -1 << 32, math.MaxInt, math.MinInt, math.MinInt + 1,
	}
}

func withinNumber(n int) bool { return n >= -limitNumber && n <= limitNumber }

// mostVars limits a number of variables for which expressions are written out;
// those of more variables are not valid anyway.
func mostVars(n int) int { return min(max(n, 0), limitVars+2) }

// invalidSystems returns systems that are not valid, with rows that are
// satisfied if all variables are 0.
func invalidSystems() []impl.System {
	list := []impl.System{
		{N: -1}, {N: limitVars + 1}, {N: math.MinInt}, {N: math.MaxInt}, {N: -1, Rows: []impl.Lin{}},
		system(-1, lin(1)), system(math.MinInt, lin(1), lin(2)),
		system(limitVars+1, linAt(limitVars+1, -1, 1, 0)),
		system(0, lin(1, 2)), system(1, lin(1)), system(2, lin(1, 2)), system(2, lin(1, 2, 3, 4)),
		system(2, lin(1, 2, 3), lin(4), lin(5, 6, 7)),
		system(2, lin(1, 2), lin(3, 4, 5), lin(6)),
		system(1, lin(1), lin(2, 3, 4), linAt(3*limitVars, -1, 5, 6)),
		system(1, lin(limitCoeff+1, 0)), system(1, lin(0, limitCoeff+1)), system(1, lin(0, -limitCoeff-1)),
		system(1, lin(1, 2), lin(math.MaxInt, math.MinInt), lin(3, 4)),
		system(0, lin(0), lin(math.MaxInt)),
	}
	for _, n := range []int{0, 1, limitVars} {
		list = append(list, systemOf(n, limitRows+1), systemOf(n, limitRows+2), systemOf(n, 3*limitRows))
	}
	return list
}

func TestMaxRows(t *testing.T) {
	if impl.MaxRows != limitRows {
		t.Errorf("MaxRows = %d, want %d", impl.MaxRows, limitRows)
	}
}

func wantValidSystem(t *testing.T, s impl.System, want bool) {
	t.Helper()
	if got := impl.IsValidSystem(s); got != want {
		t.Errorf("IsValidSystem(%v) = %t, want %t", s, got, want)
	}
}

func TestIsValidSystem(t *testing.T) {
	wantValidSystem(t, impl.System{}, true)
	wantValidSystem(t, impl.System{Rows: []impl.Lin{}}, true)
	wantValidSystem(t, impl.System{Rows: []impl.Lin{{}}}, true)
	wantValidSystem(t, system(0, lin(-5), lin(7)), true)
	wantValidSystem(t, system(1, lin(-2, 1)), true)
	wantValidSystem(t, system(2, lin(-2, 1, 0), lin(-2, 1, 0), lin(0, 0, 0)), true)
	wantValidSystem(t, system(8, lin(1, 2, 3, 4, 5, 6, 7, 8, 9)), true)
	wantValidSystem(t, system(9, lin(1, 2, 3, 4, 5, 6, 7, 8, 9, 10)), false)
	wantValidSystem(t, system(8, lin(1, 2, 3, 4, 5, 6, 7, 8, 9, 10)), false)
	wantValidSystem(t, system(1, lin(-2, 1), lin(3)), false)
	wantValidSystem(t, system(0, lin(-2, 1)), false)
	wantValidSystem(t, system(-1, lin(-2)), false)
	wantValidSystem(t, system(1, lin(limitCoeff, -limitCoeff), lin(-limitCoeff, limitCoeff)), true)
	for _, s := range invalidSystems() {
		wantValidSystem(t, s, false)
	}
}

func TestIsValidSystemCountsVars(t *testing.T) {
	for _, n := range countEdges() {
		within := n >= 0 && n <= limitVars
		wantValidSystem(t, impl.System{N: n}, within)
		wantValidSystem(t, impl.System{N: n, Rows: []impl.Lin{}}, within)
		for size := range limitVars + 3 {
			wantValidSystem(t, system(n, linAt(size, -1, 1, 1)), within && size == n)
		}
	}
}

func TestIsValidSystemCountsRows(t *testing.T) {
	for n := range limitVars + 1 {
		for _, rows := range append(from(0, limitRows+3), 2*limitRows, 1000) {
			wantValidSystem(t, systemOf(n, rows), rows <= limitRows)
			wantValidSystem(t, systemOf(n+1, rows), rows <= limitRows && n < limitVars)
			wantValidSystem(t, impl.System{N: n, Rows: make([]impl.Lin, rows)}, rows == 0 || n == 0 && rows <= limitRows)
		}
	}
}

func TestIsValidSystemAtEveryRow(t *testing.T) {
	for n := range limitVars + 1 {
		for rows := 1; rows <= limitRows; rows++ {
			for place := range rows {
				for size := range limitVars + 3 {
					s := systemOf(n, rows)
					s.Rows[place] = linAt(size, -1, 0, 1)
					wantValidSystem(t, s, size == n)
				}
			}
		}
	}
}

func TestIsValidSystemAtEveryNumber(t *testing.T) {
	for n := range limitVars + 1 {
		for _, rows := range []int{1, 2, 3, limitRows} {
			for _, row := range places(rows) {
				for place := -1; place < n; place++ {
					for _, x := range coeffEdges() {
						s := systemOf(n, rows)
						s.Rows[row] = linAt(n, place, x, limitCoeff)
						wantValidSystem(t, s, withinCoeff(x))
					}
				}
			}
		}
	}
}

func wantSatisfied(t *testing.T, s impl.System, values []int, want bool) {
	t.Helper()
	if got := impl.Satisfies(s, values); got != want {
		t.Errorf("Satisfies(%v, %v) = %t, want %t", s, values, got, want)
	}
}

func TestSatisfies(t *testing.T) {
	s := system(2, lin(-2, 1, 0), lin(3, 0, -1), lin(0, -1, 1))
	wantSatisfied(t, s, []int{2, 2}, true)
	wantSatisfied(t, s, []int{2, 3}, true)
	wantSatisfied(t, s, []int{3, 3}, true)
	wantSatisfied(t, s, []int{3, 2}, false)
	wantSatisfied(t, s, []int{1, 2}, false)
	wantSatisfied(t, s, []int{2, 4}, false)
	wantSatisfied(t, s, []int{4, 4}, false)
	wantSatisfied(t, s, []int{2, 1}, false)
	wantSatisfied(t, s, []int{2}, false)
	wantSatisfied(t, s, []int{2, 2, 2}, false)
	wantSatisfied(t, s, nil, false)
	wantSatisfied(t, system(1, lin(-6, 2), lin(6, -2)), []int{3}, true)
	wantSatisfied(t, system(1, lin(-6, 2), lin(6, -2)), []int{2}, false)
	wantSatisfied(t, system(1, lin(-6, 2), lin(6, -2)), []int{4}, false)
	wantSatisfied(t, system(1, lin(-1, 2), lin(1, -2)), []int{0}, false)
	wantSatisfied(t, system(1, lin(-1, 2), lin(1, -2)), []int{1}, false)
}

func TestSatisfiesWithoutVariables(t *testing.T) {
	for _, values := range [][]int{nil, {}} {
		wantSatisfied(t, impl.System{}, values, true)
		wantSatisfied(t, impl.System{Rows: []impl.Lin{}}, values, true)
		wantSatisfied(t, system(0, lin(0)), values, true)
		wantSatisfied(t, system(0, lin(limitCoeff), lin(0)), values, true)
		wantSatisfied(t, system(0, lin(1), lin(-1)), values, false)
		wantSatisfied(t, system(0, lin(-limitCoeff), lin(1)), values, false)
		wantSatisfied(t, system(1), values, false)
	}
	wantSatisfied(t, impl.System{}, []int{0}, false)
	wantSatisfied(t, system(0, lin(0)), []int{0}, false)
}

func TestSatisfiesOfInvalidSystems(t *testing.T) {
	for _, s := range invalidSystems() {
		wantSatisfied(t, s, nil, false)
		for size := range 3*limitVars + 2 {
			wantSatisfied(t, s, make([]int, size), false)
		}
	}
}

func TestSatisfiesCountsValues(t *testing.T) {
	for _, n := range countEdges() {
		for size := range limitVars + 3 {
			want := n == size && n <= limitVars
			wantSatisfied(t, impl.System{N: n}, make([]int, size), want)
			for _, rows := range []int{1, 2, limitRows} {
				wantSatisfied(t, systemOf(mostVars(n), rows), make([]int, size), mostVars(n) == size && size <= limitVars)
				s := system(n, slices.Repeat([]impl.Lin{linAt(size, -1, 1, 1)}, rows)...)
				wantSatisfied(t, s, make([]int, size), want)
			}
		}
	}
}

// TestSatisfiesAtEveryValue has values that do not fit where no row has a
// coefficient, where every row has a large value, and where there are no rows.
func TestSatisfiesAtEveryValue(t *testing.T) {
	for n := 1; n <= limitVars; n++ {
		for _, place := range places(n) {
			for _, v := range numberEdges() {
				values := slices.Repeat([]int{3}, n)
				values[place] = v
				wantSatisfied(t, impl.System{N: n}, values, withinNumber(v))
				wantSatisfied(t, impl.System{N: n, Rows: []impl.Lin{}}, values, withinNumber(v))
				for _, rows := range []int{1, 2, limitRows} {
					constant, others := impl.ConstLin(0, n), linAt(n, place, 0, 1)
					wantSatisfied(t, system(n, slices.Repeat([]impl.Lin{constant}, rows)...), values, withinNumber(v))
					wantSatisfied(t, system(n, slices.Repeat([]impl.Lin{others}, rows)...), values, withinNumber(v))
				}
				up := linAt(n, place, 1, 0)
				down := linAt(n, place, -1, 0)
				wantSatisfied(t, system(n, up), values, withinNumber(v) && v >= 0)
				wantSatisfied(t, system(n, down), values, withinNumber(v) && v <= 0)
			}
		}
	}
}

func TestSatisfiesAtEveryRow(t *testing.T) {
	for n := range limitVars + 1 {
		values := slices.Repeat([]int{2}, n)
		for rows := 1; rows <= limitRows; rows++ {
			for place := range rows {
				for _, value := range []int{-2, -1, 0, 1, 2, limitCoeff / 2, -limitCoeff / 2} {
					for _, rest := range []int{0, 1, limitCoeff / 2} {
						// The constants take away what the terms add up to.
						s := system(n, slices.Repeat([]impl.Lin{linAt(n, -1, rest-6*n, 3)}, rows)...)
						s.Rows[place] = linAt(n, -1, value+6*n, -3)
						wantSatisfied(t, s, values, value >= 0)
					}
				}
			}
		}
	}
}

func TestSatisfiesOfTheGreatestValues(t *testing.T) {
	for n := 1; n <= limitVars; n++ {
		high, low := linAt(n, -1, limitCoeff, limitCoeff), linAt(n, -1, -limitCoeff, -limitCoeff)
		most, least := slices.Repeat([]int{limitNumber}, n), slices.Repeat([]int{-limitNumber}, n)
		wantSatisfied(t, system(n, high), most, true)
		wantSatisfied(t, system(n, high), least, false)
		wantSatisfied(t, system(n, low), most, false)
		wantSatisfied(t, system(n, low), least, true)
		wantSatisfied(t, system(n, high, high), most, true)
		wantSatisfied(t, system(n, high, low), most, false)
		wantSatisfied(t, system(n, low, high), least, false)
	}
	// Values of -1 and 0 that are sums of products of 15 digits.
	wantSatisfied(t, system(2, lin(-1, limitCoeff, -limitCoeff)), []int{limitNumber, limitNumber}, false)
	wantSatisfied(t, system(2, lin(0, limitCoeff, -limitCoeff)), []int{limitNumber, limitNumber}, true)
	wantSatisfied(t, system(2, lin(-1, -limitCoeff, limitCoeff)), []int{-limitNumber, -limitNumber}, false)
	wantSatisfied(t, system(2, lin(0, -limitCoeff, limitCoeff)), []int{-limitNumber, -limitNumber}, true)
}

// smallSystems returns systems of n variables with at most two rows.
func smallSystems(rows []impl.Lin, n int) []impl.System {
	list := []impl.System{{N: n}}
	for _, a := range rows {
		list = append(list, system(n, a))
		for _, b := range rows {
			list = append(list, system(n, a, b))
		}
	}
	return list
}

// isSolution computes what Satisfies has to return for a small valid system.
func isSolution(s impl.System, point []int) bool {
	for _, l := range s.Rows {
		if valueAt(l, point) < 0 {
			return false
		}
	}
	return true
}

// TestAddedRowsMustBeSatisfied is the promise: the result has the solutions of
// the system for which the value of the row is at least 0.
func TestAddedRowsMustBeSatisfied(t *testing.T) {
	numbers := [][]int{from(-3, 3), from(-2, 2), from(-1, 1)}
	for n, coeffs := range numbers {
		rows, points := linsOf(n, coeffs, coeffs), pointsOf(n, -2, 2)
		for _, s := range smallSystems(rows, n) {
			for _, point := range points {
				if got := impl.Satisfies(s, point); got != isSolution(s, point) {
					t.Fatalf("Satisfies(%v, %v) = %t", s, point, got)
				}
			}
			for _, l := range rows {
				longer, ok := impl.AddRow(s, l)
				if !ok || !sameSystem(longer, with(s, l)) {
					t.Fatalf("AddRow(%v, %v) = %v, %t", s, l, longer, ok)
				}
				for _, point := range points {
					want := impl.Satisfies(s, point) && valueAt(l, point) >= 0
					if got := impl.Satisfies(longer, point); got != want {
						t.Fatalf("Satisfies(%v, %v) = %t after AddRow of %v", longer, point, got, l)
					}
				}
			}
		}
	}
}

// TestRowsAreAddedUpToTheLimit adds rows one by one, each of which excludes
// one more value.
func TestRowsAreAddedUpToTheLimit(t *testing.T) {
	s := impl.System{N: 1}
	for i := range limitRows {
		longer, ok := impl.AddRow(s, lin(-i, 1))
		if !ok || len(longer.Rows) != i+1 || !sameSystem(longer, with(s, lin(-i, 1))) {
			t.Fatalf("AddRow(%v) = %v, %t", s, longer, ok)
		}
		wantSatisfied(t, longer, []int{i}, true)
		wantSatisfied(t, longer, []int{i - 1}, false)
		wantSatisfied(t, s, []int{i - 1}, true)
		s = longer
	}
	longer, ok := impl.AddRow(s, lin(-limitRows, 1))
	if ok || !sameSystem(longer, s) {
		t.Errorf("AddRow(%v) = %v, %t", s, longer, ok)
	}
}

// wantAdded expects that the row is added if ok is true, and otherwise a copy
// of the system.
func wantAdded(t *testing.T, s impl.System, l impl.Lin, ok bool) {
	t.Helper()
	want := system(s.N, s.Rows...)
	if ok {
		want = with(s, l)
	}
	if got, gotOk := impl.AddRow(s, l); !sameSystem(got, want) || gotOk != ok {
		t.Errorf("AddRow(%v, %v) = %v, %t, want %v, %t", s, l, got, gotOk, want, ok)
	}
}

func TestAddRow(t *testing.T) {
	wantAdded(t, system(1), lin(-2, 1), true)
	wantAdded(t, impl.System{N: 1, Rows: []impl.Lin{}}, lin(-2, 1), true)
	wantAdded(t, system(1, lin(-2, 1)), lin(5, -1), true)
	wantAdded(t, system(1, lin(-2, 1)), lin(-2, 1), true)
	wantAdded(t, system(2, lin(1, 2, 3), lin(4, 5, 6)), lin(7, 8, 9), true)
	wantAdded(t, system(2, lin(1, 2, 3), lin(4, 5, 6)), lin(0, 0, 0), true)
	wantAdded(t, system(1, lin(-2, 1)), lin(5), false)
	wantAdded(t, system(1, lin(-2, 1)), impl.Lin{}, false)
	wantAdded(t, system(1, lin(-2, 1)), lin(5, -1, 0), false)
	wantAdded(t, system(1), lin(1, 2), true)
	wantAdded(t, system(1), lin(1, 2, 3), false)
	wantAdded(t, impl.System{}, impl.Lin{}, true)
	wantAdded(t, impl.System{}, impl.Lin{Coeffs: []int{}}, true)
	wantAdded(t, impl.System{}, lin(-1), true)
	wantAdded(t, impl.System{}, lin(-1, 0), false)
	// A row that no value satisfies is added as any other one.
	wantAdded(t, system(1, lin(-2, 1), lin(1, -1)), lin(-1, 0), true)
}

func TestAddRowCountsRows(t *testing.T) {
	for n := range limitVars + 1 {
		for _, rows := range append(from(0, limitRows+3), 2*limitRows, 1000) {
			wantAdded(t, systemOf(n, rows), linAt(n, -1, 7, -1), rows < limitRows)
			wantAdded(t, systemOf(n, rows), linAt(n, -1, limitCoeff+1, -1), false)
			wantAdded(t, systemOf(n, rows), linAt(n+1, -1, 7, -1), false)
		}
	}
}

func TestAddRowCountsVars(t *testing.T) {
	for _, n := range countEdges() {
		for size := range limitVars + 3 {
			l := linAt(size, -1, 2, 3)
			wantAdded(t, impl.System{N: n}, l, n == size && n <= limitVars)
			for _, rows := range []int{1, 2, limitRows - 1} {
				wantAdded(t, systemOf(mostVars(n), rows), l, mostVars(n) == size && size <= limitVars)
				s := system(n, slices.Repeat([]impl.Lin{l}, rows)...)
				wantAdded(t, s, l, n == size && n <= limitVars)
			}
		}
		for _, size := range []int{2 * limitVars, 2*limitVars + 1, 100} {
			wantAdded(t, impl.System{N: n}, linAt(size, -1, 2, 3), false)
			wantAdded(t, system(n, linAt(size, -1, 2, 3)), linAt(size, -1, 4, 5), false)
		}
	}
}

func TestAddRowAtEveryNumber(t *testing.T) {
	for n := range limitVars + 1 {
		for place := -1; place < n; place++ {
			for _, x := range coeffEdges() {
				l := linAt(n, place, x, -limitCoeff)
				wantAdded(t, impl.System{N: n}, l, withinCoeff(x))
				for _, rows := range []int{1, 2, 3, limitRows - 1} {
					wantAdded(t, systemOf(n, rows), l, withinCoeff(x))
					for _, row := range places(rows) {
						s := systemOf(n, rows)
						s.Rows[row] = l
						wantAdded(t, s, linAt(n, -1, 1, 1), withinCoeff(x))
					}
				}
			}
		}
	}
}

func TestAddRowToInvalidSystems(t *testing.T) {
	for _, s := range invalidSystems() {
		for size := range limitVars + 3 {
			wantAdded(t, s, linAt(size, -1, 1, 1), false)
			wantAdded(t, s, linAt(size, -1, math.MinInt, 1), false)
		}
		for _, l := range s.Rows {
			wantAdded(t, s, l, false)
		}
	}
}

// TestAddRowKeepsInvalidRows has rows of all lengths in one system, with
// numbers beyond the limits.
func TestAddRowKeepsInvalidRows(t *testing.T) {
	for _, n := range countEdges() {
		s := impl.System{N: n}
		for size := range 2*limitRows + 3 {
			wantAdded(t, s, linAt(limitVars+1, -1, size, 1), false)
			wantAdded(t, s, linAt(mostVars(n), -1, limitCoeff+1, 1), false)
			s.Rows = append(s.Rows, linAt(size%(2*limitVars+3), -1, math.MinInt+size, limitCoeff*size))
		}
	}
}

func wantEqualSystems(t *testing.T, a impl.System, b impl.System, want bool) {
	t.Helper()
	if got := impl.EqualSystem(a, b); got != want {
		t.Errorf("EqualSystem(%v, %v) = %t, want %t", a, b, got, want)
	}
	if got := impl.EqualSystem(b, a); got != want {
		t.Errorf("EqualSystem(%v, %v) = %t, want %t", b, a, got, want)
	}
}

func TestEqualSystem(t *testing.T) {
	a := system(2, lin(1, 2, 3), lin(4, 5, 6))
	wantEqualSystems(t, a, a, true)
	wantEqualSystems(t, a, system(2, lin(1, 2, 3), lin(4, 5, 6)), true)
	wantEqualSystems(t, a, system(3, lin(1, 2, 3), lin(4, 5, 6)), false)
	wantEqualSystems(t, a, system(-2, lin(1, 2, 3), lin(4, 5, 6)), false)
	wantEqualSystems(t, a, system(2, lin(4, 5, 6), lin(1, 2, 3)), false)
	wantEqualSystems(t, a, system(2, lin(1, 2, 3)), false)
	wantEqualSystems(t, a, system(2, lin(4, 5, 6)), false)
	wantEqualSystems(t, a, system(2, lin(1, 2, 3), lin(4, 5, 6), lin(4, 5, 6)), false)
	wantEqualSystems(t, a, system(2, lin(0, 0, 0), lin(1, 2, 3), lin(4, 5, 6)), false)
	wantEqualSystems(t, a, system(2, lin(1, 2, 3), lin(4, 5)), false)
	wantEqualSystems(t, a, system(2, lin(1, 2, 3), lin(4, 5, 6, 0)), false)
	wantEqualSystems(t, a, system(2, lin(1, 2), lin(4, 5, 6)), false)
	wantEqualSystems(t, a, system(2, lin(2, 4, 6), lin(4, 5, 6)), false)
	wantEqualSystems(t, a, impl.System{}, false)
	wantEqualSystems(t, a, system(2), false)
}

// TestEqualSystemOfNothing has nil and empty slices.
func TestEqualSystemOfNothing(t *testing.T) {
	for _, n := range countEdges() {
		none, empty := impl.System{N: n}, impl.System{N: n, Rows: []impl.Lin{}}
		unused := impl.System{N: n, Rows: make([]impl.Lin, 3)[:0]}
		wantEqualSystems(t, none, none, true)
		wantEqualSystems(t, none, empty, true)
		wantEqualSystems(t, unused, empty, true)
		wantEqualSystems(t, unused, none, true)
		zero := impl.System{N: n, Rows: []impl.Lin{{}}}
		wantEqualSystems(t, zero, none, false)
		wantEqualSystems(t, zero, empty, false)
		wantEqualSystems(t, zero, unused, false)
		wantEqualSystems(t, zero, impl.System{N: n, Rows: []impl.Lin{{Coeffs: []int{}}}}, true)
		wantEqualSystems(t, zero, impl.System{N: n, Rows: []impl.Lin{{Coeffs: []int{0}}}}, false)
		wantEqualSystems(t, zero, impl.System{N: n, Rows: []impl.Lin{{}, {}}}, false)
		for _, m := range countEdges() {
			wantEqualSystems(t, none, impl.System{N: m, Rows: []impl.Lin{}}, n == m)
			wantEqualSystems(t, zero, impl.System{N: m, Rows: []impl.Lin{{}}}, n == m)
		}
	}
}

func TestEqualSystemCountsRows(t *testing.T) {
	for rows := range limitRows + 4 {
		for more := range limitRows + 4 {
			wantEqualSystems(t, systemOf(2, rows), systemOf(2, more), rows == more)
			same := slices.Repeat([]impl.Lin{lin(1, 2)}, rows+more)
			wantEqualSystems(t, system(1, same[:rows]...), system(1, same...), more == 0)
		}
	}
}

// TestEqualSystemAtEveryNumber also has systems with more rows than MaxRows,
// and rows with more Coeffs than MaxVars.
func TestEqualSystemAtEveryNumber(t *testing.T) {
	pairs := [][2]int{{0, 1}, {1, -1}, {limitCoeff, limitCoeff + 1}, {0, 1 << 32}, {math.MinInt, 0}}
	for _, n := range []int{0, 1, 2, limitVars, limitVars + 1, 2*limitVars + 1} {
		for _, rows := range []int{1, 2, 3, limitRows, limitRows + 1} {
			for _, row := range places(rows) {
				for place := -1; place < n; place++ {
					for _, p := range pairs {
						a, b, c := systemOf(n, rows), systemOf(n, rows), systemOf(n, rows)
						a.Rows[row] = linAt(n, place, p[0], 5)
						b.Rows[row] = linAt(n, place, p[1], 5)
						c.Rows[row] = linAt(n, place, p[0], 5)
						wantEqualSystems(t, a, b, false)
						wantEqualSystems(t, a, c, true)
					}
				}
			}
		}
	}
}

// TestEqualSystemCountsCoeffs has one row that is longer than that of the
// other system.
func TestEqualSystemCountsCoeffs(t *testing.T) {
	for _, rows := range []int{1, 2, 3, limitRows, limitRows + 1} {
		for _, row := range places(rows) {
			for n := range 2*limitVars + 2 {
				for m := range 2*limitVars + 2 {
					a, b := systemOf(1, rows), systemOf(1, rows)
					a.Rows[row] = linAt(n, -1, 3, 0)
					b.Rows[row] = linAt(m, -1, 3, 0)
					wantEqualSystems(t, a, b, n == m)
				}
			}
		}
	}
}

func TestEqualSystemOfInvalidSystems(t *testing.T) {
	list := invalidSystems()
	for i, a := range list {
		wantEqualSystems(t, a, system(a.N, a.Rows...), true)
		wantEqualSystems(t, a, with(a, lin(0)), false)
		for _, b := range list[:i] {
			wantEqualSystems(t, a, b, sameSystem(a, b))
		}
	}
}

// shelf is memory of which tests pass only parts, so that the others are
// unused capacity or stand before them.
type shelf struct {
	numbers []int
	rows    []impl.Lin
}

// newShelf returns rows of two variables whose Coeffs overlap, many of them
// with the same Coeffs, and at the end rows that are longer or shorter.
func newShelf() shelf {
	numbers := spare()
	var rows []impl.Lin
	for i := range limitRows + 2 {
		start := i % 5
		rows = append(rows, impl.Lin{Const: 10 + i, Coeffs: numbers[start : start+2]})
	}
	for size := range limitVars + 2 {
		rows = append(rows, impl.Lin{Const: 50 + size, Coeffs: numbers[1 : 1+size]})
	}
	return shelf{numbers, append(rows, impl.Lin{Const: limitCoeff + 1, Coeffs: numbers[3:5]})}
}

// systems returns parts of the rows as systems, most of them valid.
func (h shelf) systems() []impl.System {
	list := []impl.System{{N: 0, Rows: h.rows[:0]}, {N: -1, Rows: h.rows[:3]}, {N: limitVars + 1, Rows: h.rows[:2]}}
	for start := range 4 {
		for _, end := range []int{4, 5, 7, 12, limitRows, limitRows + 1, limitRows + 2, len(h.rows) - 1, len(h.rows)} {
			list = append(list, impl.System{N: 2, Rows: h.rows[start:end]})
		}
		list = append(list, impl.System{N: 2, Rows: h.rows[start:start]}, impl.System{N: start, Rows: h.rows[6:8]})
	}
	return list
}

// describe returns everything that the shelf holds.
func (h shelf) describe() string { return fmt.Sprint(h.numbers, h.rows) }

func TestSystemFunctionsKeepTheirArguments(t *testing.T) {
	h, other := newShelf(), newShelf()
	for _, s := range h.systems() {
		impl.IsValidSystem(s)
		for start := range 3 {
			for end := start; end <= len(h.numbers); end++ {
				impl.Satisfies(s, h.numbers[start:end])
				impl.Satisfies(s, other.numbers[start:end])
			}
		}
		for _, l := range slices.Concat(h.rows, other.rows, partsOf(h.numbers), partsOf(other.numbers)) {
			impl.AddRow(s, l)
		}
		for _, more := range slices.Concat(h.systems(), other.systems()) {
			impl.EqualSystem(s, more)
		}
		if h.describe() != newShelf().describe() || other.describe() != newShelf().describe() {
			t.Fatalf("arguments changed to %v, %v for %v", h, other, s)
		}
	}
}

// overwriteRows changes all rows that can be reached from a result, but not
// the memory of their Coeffs.
func overwriteRows(s impl.System) {
	rows := s.Rows[:cap(s.Rows)]
	for i := range rows {
		rows[i] = lin(987654, 3, 2, 1)
	}
}

// wantRowsApart expects that no two results of the call, rows of one result,
// and parts of the shelf share memory.
func wantRowsApart(t *testing.T, h shelf, call func() impl.System) {
	t.Helper()
	want, second := call(), call()
	want = system(want.N, want.Rows...)
	for i := range want.Rows {
		changed := call()
		overwriteLin(changed.Rows[i])
		for j, l := range changed.Rows {
			if j != i && !sameLin(l, want.Rows[j]) {
				t.Errorf("a change of row %d changed row %d of %v to %v", i, j, want, l)
			}
		}
	}
	overwriteRows(call())
	if !sameSystem(second, want) || h.describe() != newShelf().describe() {
		t.Fatalf("a change of a result changed another one to %v, or its arguments to %v", second, h)
	}
	if again := call(); !sameSystem(again, want) {
		t.Errorf("a change of a result changed the next one to %v", again)
	}
}

func TestSystemResultsAreSeparate(t *testing.T) {
	h := newShelf()
	for _, s := range h.systems() {
		for _, l := range h.rows {
			wantRowsApart(t, h, func() impl.System {
				longer, _ := impl.AddRow(s, l)
				return longer
			})
		}
	}
}

// TestAddRowToResults adds different rows to the same result, which must not
// meet in its unused capacity.
func TestAddRowToResults(t *testing.T) {
	for rows := range limitRows - 2 {
		s, ok := impl.AddRow(systemOf(2, rows), lin(1, 2, 3))
		if !ok {
			t.Fatalf("AddRow fails for %d rows", rows)
		}
		a, okA := impl.AddRow(s, lin(4, 5, 6))
		b, okB := impl.AddRow(s, lin(7, 8, 9))
		if !okA || !okB || !sameSystem(a, with(s, lin(4, 5, 6))) || !sameSystem(b, with(s, lin(7, 8, 9))) {
			t.Errorf("different rows added to %v: %v, %t and %v, %t", s, a, okA, b, okB)
		}
	}
}

// TestAddOwnRow adds a row of the system itself, whose Coeffs are also those
// of other rows.
func TestAddOwnRow(t *testing.T) {
	shared := []int{2, -1, 5}
	l := impl.Lin{Const: 1, Coeffs: shared[:2]}
	s := impl.System{N: 2, Rows: []impl.Lin{l, {Const: 4, Coeffs: shared[:2]}, {Const: 6, Coeffs: shared[1:]}}}
	longer, ok := impl.AddRow(s, s.Rows[0])
	if !ok || !sameSystem(longer, system(2, lin(1, 2, -1), lin(4, 2, -1), lin(6, -1, 5), lin(1, 2, -1))) {
		t.Fatalf("AddRow(%v, %v) = %v, %t", s, l, longer, ok)
	}
	overwriteLin(longer.Rows[3])
	overwriteLin(longer.Rows[1])
	if !slices.Equal(shared, []int{2, -1, 5}) || !sameLin(longer.Rows[0], lin(1, 2, -1)) || !sameLin(longer.Rows[2], lin(6, -1, 5)) {
		t.Errorf("a change of the result changed %v or %v", shared, longer)
	}
}
