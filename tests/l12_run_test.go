package tests

import (
	"fmt"
	"math"
	"math/big"
	"math/rand/v2"
	"reflect"
	"slices"
	"strconv"
	"strings"
	"testing"

	"loop.example/g00515/impl"
)

// The limits of the specification, written out as the others are.
const (
	limitFuel  = 300
	limitItems = 40
)

func numberValue(n int) impl.Value { return impl.Value{N: n} }

// listValue returns the list of these items, in memory of its own.
func listValue(items ...int) impl.Value {
	return impl.Value{List: true, Items: slices.Clone(items)}
}

// listOf returns a list of so many items: 1, 2, 3, ...
func listOf(size int) impl.Value {
	v := listValue()
	for i := range size {
		v.Items = append(v.Items, i+1)
	}
	return v
}

// listAt returns a list of so many items with x at a place; the others are 0.
func listAt(size int, place int, x int) impl.Value {
	v := listValue(make([]int, size)...)
	v.Items[place] = x
	return v
}

// valuesOf reads values with spaces in between: integers like -3, and lists
// like [1,2].
func valuesOf(text string) []impl.Value {
	var list []impl.Value
	for _, word := range strings.Fields(text) {
		v := impl.Value{List: word[0] == '['}
		for _, number := range strings.FieldsFunc(word, func(r rune) bool { return strings.ContainsRune("[,]", r) }) {
			n, err := strconv.Atoi(number)
			if err != nil {
				panic("the test is wrong: " + text)
			}
			if v.List {
				v.Items = append(v.Items, n)
			} else {
				v.N = n
			}
		}
		list = append(list, v)
	}
	return list
}

// source returns the program with these lines.
func source(lines ...string) impl.Program {
	p, line := impl.ParseProgram(textOfLines(lines...))
	if line >= 0 {
		panic("the test is wrong: " + strconv.Itoa(line) + " of " + strings.Join(lines, "; "))
	}
	return p
}

func ended(value impl.Value, calls int, conses int) impl.Outcome {
	return impl.Outcome{Status: 1, Value: value, Calls: calls, Conses: conses}
}

func stuck(calls int, conses int) impl.Outcome {
	return impl.Outcome{Status: 2, Calls: calls, Conses: conses}
}

func outOfFuel(calls int, conses int) impl.Outcome {
	return impl.Outcome{Status: 3, Calls: calls, Conses: conses}
}

func sameValue(a impl.Value, b impl.Value) bool {
	return a.List == b.List && a.N == b.N && slices.Equal(a.Items, b.Items)
}

// sameOutcome does not use EqualOutcome, which is a subject of these tests.
func sameOutcome(a impl.Outcome, b impl.Outcome) bool {
	return a.Status == b.Status && sameValue(a.Value, b.Value) && a.Calls == b.Calls && a.Conses == b.Conses
}

// The following functions say what the document requires, in other ways than
// the program.

func isValue(v impl.Value) bool {
	numbers := append(slices.Clone(v.Items), v.N)
	if slices.Max(numbers) > limitNumber || slices.Min(numbers) < -limitNumber {
		return false
	}
	if v.List {
		return v.N == 0 && len(v.Items) <= limitItems
	}
	return len(v.Items) == 0
}

// areArgs reports whether a function of a valid program may be given these
// arguments.
func areArgs(p impl.Program, name string, args []impl.Value) bool {
	k := functionIndex(p, name)
	if len(faultsOfProgram(p)) > 0 || k < 0 || len(args) != len(p.Functions[k].Params) {
		return false
	}
	for i, param := range p.Functions[k].Params {
		if !isValue(args[i]) || args[i].List != strings.HasSuffix(param, "s") {
			return false
		}
	}
	return true
}

// exactValue returns the value of a sum for these values of these names, in
// which it does not matter what the sum is on the way.
func exactValue(s impl.Sum, names []string, values []impl.Value) (int, bool) {
	sum := big.NewInt(int64(s.Const))
	for _, x := range s.Terms {
		n := values[slices.Index(names, x.Name)].N
		sum.Add(sum, new(big.Int).Mul(big.NewInt(int64(x.Coeff)), big.NewInt(int64(n))))
	}
	fits := sum.CmpAbs(big.NewInt(limitNumber)) <= 0
	return int(sum.Int64()), fits
}

// frame is a call that has not ended: its rule, the names and values that are
// visible, in the order of ScopeOf, and how many calls it has made.
type frame struct {
	rule   impl.Rule
	names  []string
	values []impl.Value
	made   int
}

// firstFrame returns the frame of a call with the first rule that applies.
func firstFrame(p impl.Program, name string, args []impl.Value) (frame, bool) {
	params := p.Functions[functionIndex(p, name)].Params
rules:
	for _, r := range p.Rules {
		if r.Func != name {
			continue
		}
		x := frame{rule: r, names: scopeAfter(p, r, len(r.Calls)), values: slices.Clone(args)}
		for _, pattern := range r.Patterns {
			items := args[slices.Index(params, pattern.List)].Items
			if pattern.Cons == (len(items) == 0) {
				continue rules
			}
			if pattern.Cons {
				x.values = append(x.values, numberValue(items[0]), listValue(items[1:]...))
			}
		}
		for _, guard := range r.Guards {
			n, fits := exactValue(guard, x.names, x.values)
			if !fits {
				return frame{}, false
			}
			if n < 0 {
				continue rules
			}
		}
		return x, true
	}
	return frame{}, false
}

// built returns the value of an argument, and how many conses it takes.
func (x frame) built(a impl.Arg) (v impl.Value, conses int, ok bool) {
	v.List = a.List
	for _, head := range a.Heads {
		n, fits := exactValue(head, x.names, x.values)
		if !fits {
			return v, 0, false
		}
		v.Items = append(v.Items, n)
	}
	if !a.List {
		return numberValue(v.Items[0]), 0, true
	}
	if a.Base != "" {
		v.Items = append(v.Items, x.values[slices.Index(x.names, a.Base)].Items...)
	}
	return v, len(a.Heads), len(v.Items) <= limitItems
}

// machine has a stack of its own for the calls that have not ended, the conses
// so far, and the result of the call that has ended last.
type machine struct {
	stack  []frame
	conses int
	result impl.Value
}

func (m *machine) top() *frame { return &m.stack[len(m.stack)-1] }

// unwind ends the calls at the top of the stack that have made all of theirs,
// and reports whether none of their results is stuck.
func (m *machine) unwind() bool {
	for len(m.stack) > 0 && m.top().made == len(m.top().rule.Calls) {
		v, conses, ok := m.top().built(m.top().rule.Result)
		if !ok {
			return false
		}
		m.stack, m.conses, m.result = m.stack[:len(m.stack)-1], m.conses+conses, v
		if len(m.stack) > 0 {
			m.top().values = append(m.top().values, v)
			m.top().made++
		}
	}
	return true
}

// next returns the call that the function at the top of the stack makes next,
// and reports whether none of its arguments is stuck.
func (m *machine) next() (string, []impl.Value, bool) {
	c := m.top().rule.Calls[m.top().made]
	var args []impl.Value
	for _, a := range c.Args {
		v, conses, ok := m.top().built(a)
		if !ok {
			return "", nil, false
		}
		args, m.conses = append(args, v), m.conses+conses
	}
	return c.Func, args, true
}

// history is a run with as much fuel as it needs, but for one call more than
// there may be: the conses in front of each call, and how it ends.
type history struct {
	before []int
	end    impl.Outcome
}

func historyOf(p impl.Program, name string, args []impl.Value) history {
	var h history
	var m machine
	for len(h.before) <= limitFuel {
		h.before = append(h.before, m.conses)
		x, ok := firstFrame(p, name, args)
		m.stack = append(m.stack, x)
		ok = ok && m.unwind()
		if ok && len(m.stack) == 0 {
			h.end = ended(m.result, len(h.before), m.conses)
			return h
		}
		if ok {
			name, args, ok = m.next()
		}
		if !ok {
			h.end = stuck(len(h.before), m.conses)
			return h
		}
	}
	return h
}

// with returns what the run has to return with this fuel.
func (h history) with(fuel int) impl.Outcome {
	if fuel < len(h.before) {
		return outOfFuel(fuel, h.before[fuel])
	}
	return h.end
}

// outcomeOf returns what RunFunction has to return.
func outcomeOf(p impl.Program, name string, args []impl.Value, fuel int) impl.Outcome {
	if !areArgs(p, name, args) || fuel < 0 || fuel > limitFuel {
		return impl.Outcome{}
	}
	return historyOf(p, name, args).with(fuel)
}

// meetsAll returns what MeetsPre has to return.
func meetsAll(p impl.Program, name string, args []impl.Value) bool {
	if !areArgs(p, name, args) {
		return false
	}
	for _, l := range p.Functions[functionIndex(p, name)].Pre {
		sum := big.NewInt(int64(l.Const))
		for i, c := range l.Coeffs {
			size := args[i].N + len(args[i].Items)
			sum.Add(sum, new(big.Int).Mul(big.NewInt(int64(c)), big.NewInt(int64(size))))
		}
		if sum.Sign() < 0 {
			return false
		}
	}
	return true
}

func wantOutcome(t *testing.T, p impl.Program, name string, args []impl.Value, fuel int, want impl.Outcome) {
	t.Helper()
	if expected := outcomeOf(p, name, args, fuel); !sameOutcome(expected, want) {
		t.Errorf("the test is wrong: %+v for %s of %v with the fuel %d in %+v", expected, name, args, fuel, p)
	}
	if got := impl.RunFunction(p, name, args, fuel); !sameOutcome(got, want) {
		t.Errorf("RunFunction(%+v, %q, %v, %d) = %+v, want %+v", p, name, args, fuel, got, want)
	}
}

// wantRun expects the outcome of a call, written like "f 3 [1,2]", with all
// fuel that there may be, and checks the run with less fuel as well.
func wantRun(t *testing.T, p impl.Program, call string, want impl.Outcome) {
	t.Helper()
	name, args, _ := strings.Cut(call, " ")
	wantRunOf(t, p, name, valuesOf(args), want)
}

func wantRunOf(t *testing.T, p impl.Program, name string, args []impl.Value, want impl.Outcome) {
	t.Helper()
	wantOutcome(t, p, name, args, limitFuel, want)
	wantHistory(t, p, name, args, []int{0, 1, want.Calls - 1, want.Calls, want.Calls + 1})
}

// wantHistory checks a run with each fuel.
func wantHistory(t *testing.T, p impl.Program, name string, args []impl.Value, fuels []int) {
	t.Helper()
	h := historyOf(p, name, args)
	for _, fuel := range fuels {
		if fuel < 0 || fuel > limitFuel {
			continue
		}
		want, got := h.with(fuel), impl.RunFunction(p, name, args, fuel)
		if !sameOutcome(got, want) || got.Calls > fuel {
			t.Fatalf("RunFunction(%+v, %q, %v, %d) = %+v, want %+v", p, name, args, fuel, got, want)
		}
	}
}

func TestLimitsOfRuns(t *testing.T) {
	if impl.MaxFuel != limitFuel || impl.MaxItems != limitItems {
		t.Errorf("MaxFuel = %d, MaxItems = %d, want %d, %d", impl.MaxFuel, impl.MaxItems, limitFuel, limitItems)
	}
	if got := []int{impl.RunBad, impl.RunEnded, impl.RunStuck, impl.RunFuel}; !slices.Equal(got, []int{0, 1, 2, 3}) {
		t.Errorf("the reasons for the end of a run are %v", got)
	}
}

func wantValid(t *testing.T, v impl.Value, want bool) {
	t.Helper()
	if isValue(v) != want {
		t.Errorf("the test is wrong: %+v", v)
	}
	if got := impl.IsValidValue(v); got != want {
		t.Errorf("IsValidValue(%+v) = %t", v, got)
	}
}

func TestIsValidValue(t *testing.T) {
	wantValid(t, impl.Value{}, true)
	for _, v := range valuesOf("0 1 -1 7 -250 [] [0] [1] [-1] [3,3,-4] [0,0]") {
		wantValid(t, v, true)
	}
	for _, v := range []impl.Value{{List: true}, {List: true, Items: []int{}}, {List: false, Items: []int{}}, {N: 5, Items: []int{}}} {
		wantValid(t, v, true)
	}
	for _, n := range []int{1, -1, limitNumber, limitNumber + 1, math.MinInt} {
		wantValid(t, impl.Value{List: true, N: n}, false)
		wantValid(t, impl.Value{List: true, N: n, Items: []int{1}}, false)
		wantValid(t, impl.Value{Items: []int{n}}, false)
		wantValid(t, impl.Value{N: 3, Items: []int{0, n}}, false)
	}
	wantValid(t, impl.Value{Items: []int{0}}, false)
	wantValid(t, impl.Value{N: 1, Items: []int{0}}, false)
	wantValid(t, impl.Value{Items: make([]int, limitItems+1)}, false)
}

func TestIsValidValueAtEveryNumber(t *testing.T) {
	for _, n := range append(numberEdges(), 0, 1, -1) {
		wantValid(t, numberValue(n), withinNumber(n))
		for _, size := range []int{1, 2, 3, limitItems - 1, limitItems} {
			for place := range size {
				wantValid(t, listAt(size, place, n), withinNumber(n))
			}
		}
	}
	for _, n := range []int{limitNumber, -limitNumber} {
		wantValid(t, numberValue(n), true)
		wantValid(t, listAt(limitItems, limitItems-1, n), true)
	}
	for _, n := range []int{limitNumber + 1, -limitNumber - 1, math.MaxInt, math.MinInt} {
		wantValid(t, numberValue(n), false)
		wantValid(t, listAt(limitItems, limitItems-1, n), false)
	}
}

func TestIsValidValueCountsItems(t *testing.T) {
	for size := range limitItems + 5 {
		wantValid(t, listOf(size), size <= limitItems)
		wantValid(t, impl.Value{Items: make([]int, size)}, size == 0)
	}
	wantValid(t, listOf(100000), false)
}

func TestSizeOf(t *testing.T) {
	for _, n := range append(numberEdges(), 0, 1, -1, 5, math.MaxInt, math.MinInt) {
		for _, items := range [][]int{nil, {}, {n}, {1, 2, 3}, make([]int, limitItems+1)} {
			if got := impl.SizeOf(impl.Value{N: n, Items: items}); got != n {
				t.Errorf("SizeOf the integer %d is %d", n, got)
			}
			if got := impl.SizeOf(impl.Value{List: true, N: n, Items: items}); got != len(items) {
				t.Errorf("SizeOf a list of %d items and the N %d is %d", len(items), n, got)
			}
		}
	}
	for size := range limitItems + 5 {
		if got := impl.SizeOf(listOf(size)); got != size {
			t.Errorf("SizeOf a list of %d items is %d", size, got)
		}
	}
}

// badFuels are no fuels.
func badFuels() []int {
	return []int{-1, -2, limitFuel + 1, limitFuel + 2, math.MaxInt, math.MinInt}
}

// wantBad expects that no function may be given these arguments.
func wantBad(t *testing.T, p impl.Program, name string, args []impl.Value) {
	t.Helper()
	for _, fuel := range append(badFuels(), 0, 1, limitFuel) {
		wantOutcome(t, p, name, args, fuel, impl.Outcome{})
	}
	if impl.MeetsPre(p, name, args) || meetsAll(p, name, args) {
		t.Errorf("MeetsPre(%+v, %q, %v) is true", p, name, args)
	}
}

func TestRunsOfPrograms(t *testing.T) {
	args := [][]impl.Value{nil, valuesOf("[1,2] []"), valuesOf("2 [4]"), valuesOf("3"), valuesOf("[1]")}
	for _, p := range append(somePrograms()[1:], variants()...) {
		if len(faultsOfProgram(p)) == 0 {
			continue
		}
		for _, list := range args {
			for _, name := range []string{"rev", "len", "zero", "f", ""} {
				wantBad(t, p, name, list)
			}
		}
	}
	// The function that is called is fine, but another one is not.
	p := source("fun f : int", "fun g : int", "rule f | return 1", "rule g | return 2")
	wantRun(t, p, "f", ended(numberValue(1), 1, 0))
	p.Functions[1].Params = []string{"n", "n"}
	wantBad(t, p, "f", nil)
	p = source("fun f : int", "fun g : int", "rule f | return 1", "rule g | return 2")
	p.Functions[1].Name = "f"
	wantBad(t, p, "f", nil)
	p = source("fun f : int", "rule f | return 1", "rule f | return 2")
	p.Rules[1].Result = integer(0, "n")
	wantBad(t, p, "f", nil)
}

func TestRunsOfFunctionsThatDoNotExist(t *testing.T) {
	for _, name := range []string{"", "re", "reve", "Rev", "rev ", "n", "xs", "h", "ys", "m", "nil", "\xff"} {
		for _, args := range []string{"", "1", "[]", "[] []", "1 []"} {
			wantBad(t, mixed(), name, valuesOf(args))
		}
	}
}

func TestArgumentsOfRuns(t *testing.T) {
	wantRun(t, mixed(), "zero", ended(numberValue(0), 1, 0))
	wantRun(t, mixed(), "len 5 []", ended(numberValue(5), 1, 0))
	wantRun(t, mixed(), "rev [] [7]", ended(listValue(7), 1, 0))
	bad := map[string][]string{
		"zero": {"0", "[]", "0 0"},
		"len":  {"", "5", "[]", "[] 5", "5 5", "[] []", "5 [] 1", "5 [] []", "[5] []"},
		"rev":  {"", "[]", "[] 1", "1 []", "0 []", "[] 0", "0 0", "[] [] []", "[] [] 0"},
	}
	for name, list := range bad {
		for _, args := range list {
			wantBad(t, mixed(), name, valuesOf(args))
		}
	}
	for _, empty := range []impl.Value{{List: true}, {List: true, Items: []int{}}} {
		wantRunOf(t, mixed(), "rev", []impl.Value{empty, empty}, ended(listValue(), 1, 0))
	}
	wantRunOf(t, mixed(), "zero", []impl.Value{}, ended(numberValue(0), 1, 0))
}

func TestInvalidArgumentsOfRuns(t *testing.T) {
	same := source("fun f n m : int", "fun g xs ys : list", "rule f | return n", "rule g | return xs")
	for _, n := range append(numberEdges(), math.MaxInt, math.MinInt) {
		for _, pair := range [][]impl.Value{{numberValue(n), numberValue(1)}, {numberValue(1), numberValue(n)}} {
			if withinNumber(n) {
				wantRunOf(t, same, "f", pair, ended(pair[0], 1, 0))
			} else {
				wantBad(t, same, "f", pair)
			}
		}
		for place := range limitItems {
			for _, pair := range [][]impl.Value{{listAt(limitItems, place, n), listOf(1)}, {listOf(1), listAt(limitItems, place, n)}} {
				if withinNumber(n) {
					wantRunOf(t, same, "g", pair, ended(pair[0], 1, 0))
				} else {
					wantBad(t, same, "g", pair)
				}
			}
		}
	}
	for _, pair := range [][]impl.Value{
		{listOf(limitItems + 1), listOf(1)}, {listOf(1), listOf(limitItems + 1)}, {listOf(1), listOf(100000)},
		{{List: true, N: 1}, listOf(1)}, {listOf(1), {List: true, N: -1, Items: []int{2}}}, {{Items: []int{1}}, listOf(1)},
	} {
		wantBad(t, same, "g", pair)
	}
	wantBad(t, same, "f", []impl.Value{{N: 1, Items: []int{1}}, numberValue(1)})
	wantBad(t, same, "f", []impl.Value{numberValue(1), {Items: []int{0}}})
	wantRunOf(t, same, "f", []impl.Value{{N: 4, Items: []int{}}, numberValue(1)}, ended(numberValue(4), 1, 0))
}

func TestFuelOfRuns(t *testing.T) {
	for _, fuel := range badFuels() {
		for _, args := range []string{"[1,2] []", "[] []"} {
			wantOutcome(t, mixed(), "rev", valuesOf(args), fuel, impl.Outcome{})
		}
		wantOutcome(t, mixed(), "zero", nil, fuel, impl.Outcome{})
	}
	wantOutcome(t, mixed(), "zero", nil, 0, outOfFuel(0, 0))
	wantOutcome(t, mixed(), "zero", nil, 1, ended(numberValue(0), 1, 0))
	wantOutcome(t, mixed(), "zero", nil, limitFuel, ended(numberValue(0), 1, 0))
	loop := source("fun f : int", "rule f | r := f | return r")
	for fuel := range limitFuel + 1 {
		wantOutcome(t, loop, "f", nil, fuel, outOfFuel(fuel, 0))
	}
	// Fuel is what the first call lacks, even if it would be stuck.
	nothing := source("fun f n : int", "rule f | n >= 0 | return n")
	wantOutcome(t, nothing, "f", valuesOf("-1"), 0, outOfFuel(0, 0))
	wantOutcome(t, nothing, "f", valuesOf("-1"), 1, stuck(1, 0))
}

func TestRulesOfRuns(t *testing.T) {
	p := source("fun f n : int", "fun g n : int",
		"rule g | return 9", "rule f | n - 5 >= 0 | return 1", "rule g | return 8", "rule f | n - 3 >= 0 | return 2", "rule g | return 7", "rule f | n - 1 >= 0 | return 3")
	for n := -3; n <= 8; n++ {
		want := ended(numberValue(3), 1, 0)
		switch {
		case n >= 5:
			want.Value.N = 1
		case n >= 3:
			want.Value.N = 2
		case n < 1:
			want = stuck(1, 0)
		}
		wantRunOf(t, p, "f", []impl.Value{numberValue(n)}, want)
		wantRunOf(t, p, "g", []impl.Value{numberValue(n)}, ended(numberValue(9), 1, 0))
	}
	wantRun(t, source("fun f : int"), "f", stuck(1, 0))
	wantRun(t, source("fun f xs : list"), "f [1]", stuck(1, 0))
	wantRun(t, source("fun f : int", "fun g : int", "rule g | return 1"), "f", stuck(1, 0))
	wantRun(t, source("fun f : int", "fun g : int", "rule f | return 0", "rule f | return 1"), "f", ended(numberValue(0), 1, 0))
}

func TestPatternsOfRuns(t *testing.T) {
	p := source("fun f xs ys : int",
		"rule f | xs = nil | ys = nil | return 100",
		"rule f | ys = k : us | xs = nil | return k + 200",
		"rule f | xs = h : ts | ys = nil | return h + 300",
		"rule f | ys = k : us | xs = h : ts | return 400h + 500k")
	wantRun(t, p, "f [] []", ended(numberValue(100), 1, 0))
	wantRun(t, p, "f [] [3]", ended(numberValue(203), 1, 0))
	wantRun(t, p, "f [5] []", ended(numberValue(305), 1, 0))
	wantRun(t, p, "f [1] [2]", ended(numberValue(1400), 1, 0))
	wantRun(t, p, "f [-1,7,7] [3,8]", ended(numberValue(1100), 1, 0))
	tails := source("fun f xs ys : list", "rule f | xs = h : ts | ys = k : us | return k : h : ts", "rule f | xs = h : ts | return ts", "rule f | ys = nil | return 4 : ys", "rule f | return ys")
	wantRun(t, tails, "f [1,2,3] []", ended(listValue(2, 3), 1, 0))
	wantRun(t, tails, "f [1] []", ended(listValue(), 1, 0))
	wantRun(t, tails, "f [1] [2]", ended(listValue(2, 1), 1, 2))
	wantRun(t, tails, "f [1,5,6] [2,7,8]", ended(listValue(2, 1, 5, 6), 1, 2))
	wantRun(t, tails, "f [] []", ended(listValue(4), 1, 1))
	wantRun(t, tails, "f [] [9,8]", ended(listValue(9, 8), 1, 0))
	// The list itself stays visible beside its parts.
	whole := source("fun f xs : list", "rule f | xs = h : ts | return h + 1 : xs", "rule f | xs = nil | return xs")
	wantRun(t, whole, "f [5,6]", ended(listValue(6, 5, 6), 1, 1))
	wantRun(t, whole, "f []", ended(listValue(), 1, 0))
	// Only one of the patterns matches, or none.
	one := source("fun f xs ys : int", "rule f | xs = nil | ys = nil | return 0", "rule f | xs = h : ts | ys = k : us | return 1")
	for args, want := range map[string]impl.Outcome{
		"f [] []": ended(numberValue(0), 1, 0), "f [1] [1]": ended(numberValue(1), 1, 0), "f [] [1]": stuck(1, 0), "f [1] []": stuck(1, 0),
	} {
		wantRun(t, one, args, want)
	}
}

// TestGuardsBehindOthers has a guard that would be stuck behind patterns and
// guards that decide before, and in front of them.
func TestGuardsBehindOthers(t *testing.T) {
	const large, less = "999999n >= 0", "-999999n >= 0"
	no, yes := ended(numberValue(0), 1, 0), ended(numberValue(1), 1, 0)
	cases := []struct {
		rule string
		call string
		want impl.Outcome
	}{
		{"xs = nil | " + large, "f 9 [1]", no},
		{"xs = nil | " + large, "f 9 []", stuck(1, 0)},
		{"xs = nil | " + less, "f 9 [1]", no},
		{"xs = nil | " + less, "f 9 []", stuck(1, 0)},
		{"xs = h : ts | " + large, "f 9 []", no},
		{"xs = h : ts | " + large, "f 9 [1]", stuck(1, 0)},
		{"n - 10 >= 0 | " + large, "f 9 []", no},
		{"n - 9 >= 0 | " + large, "f 9 []", stuck(1, 0)},
		{large + " | n - 10 >= 0", "f 9 []", stuck(1, 0)},
		{large + " | n - 9 >= 0", "f 9 []", stuck(1, 0)},
		{less + " | n - 10 >= 0", "f 9 []", stuck(1, 0)},
		{"n >= 0 | " + less, "f 9 []", stuck(1, 0)},
		{"-n >= 0 | " + less, "f 9 []", no},
		{large, "f 1 []", yes},
		{less, "f 1 []", no},
		{less, "f 0 []", yes},
		{"xs = h : ts | h - n >= 0 | -h + 2n >= 0", "f 3 [5]", yes},
		{"xs = h : ts | h - n >= 0 | -h + 2n >= 0", "f 3 [2]", no},
		{"xs = h : ts | h - n >= 0 | -h + 2n >= 0", "f 3 [7]", no},
	}
	for _, c := range cases {
		p := source("fun f n xs : int", "rule f | "+c.rule+" | return 1", "rule f | return 0")
		wantRun(t, p, c.call, c.want)
		// The rule behind decides about nothing if the run is stuck before.
		p = source("fun f n xs : int", "rule f | "+c.rule+" | return 1")
		if sameOutcome(c.want, no) {
			wantRun(t, p, c.call, stuck(1, 0))
		} else {
			wantRun(t, p, c.call, c.want)
		}
	}
}

// wantSumValue runs programs in which a sum is a guard, an argument, a head of an
// argument, a result or a head of a result.
func wantSumValue(t *testing.T, s impl.Sum, n int, m int, want int, fits bool) {
	t.Helper()
	args := []impl.Value{numberValue(n), numberValue(m)}
	outcome := func(value impl.Value, calls int, conses int, stuckCalls int) impl.Outcome {
		if fits {
			return ended(value, calls, conses)
		}
		return stuck(stuckCalls, 0)
	}
	run := func(p impl.Program, want impl.Outcome) {
		t.Helper()
		wantProgram(t, p, true)
		wantRunOf(t, p, "f", args, want)
	}
	p := source("fun f n m : int", "rule f | return n", "rule f | return 100")
	p.Rules[0].Guards, p.Rules[0].Result = []impl.Sum{s}, integer(50)
	if want >= 0 {
		run(p, outcome(numberValue(50), 1, 0, 1))
	} else {
		run(p, outcome(numberValue(100), 1, 0, 1))
	}
	p = source("fun f n m : int", "rule f | return n")
	p.Rules[0].Result = integerArg(s)
	run(p, outcome(numberValue(want), 1, 0, 1))
	p = source("fun f n m : int", "fun g x : int", "rule f | r := g n | return r", "rule g | return x")
	p.Rules[0].Calls[0].Args[0] = integerArg(s)
	run(p, outcome(numberValue(want), 2, 0, 1))
	p = source("fun f n m : int", "fun g xs : int", "rule f | r := g 0 : nil | return r", "rule g | xs = h : ts | return h")
	p.Rules[0].Calls[0].Args[0] = listArg("", s)
	run(p, outcome(numberValue(want), 2, 1, 1))
	p = source("fun f n m : list", "rule f | return 1 : nil")
	p.Rules[0].Result = listArg("", sumOf(7), s, sumOf(8))
	run(p, outcome(listValue(7, want, 8), 1, 3, 1))
}

func TestNumbersOfRuns(t *testing.T) {
	for _, sign := range []int{1, -1} {
		top := sign * limitNumber
		n, m := sumOf(0, term(1, "n")), sumOf(0, term(1, "m"), term(1, "n"))
		wantSumValue(t, n, top, 0, top, true)
		wantSumValue(t, sumOf(top), 0, 0, top, true)
		wantSumValue(t, m, top, 0, top, true)
		wantSumValue(t, m, top, sign, 0, false)
		wantSumValue(t, m, top, -sign, top-sign, true)
		wantSumValue(t, m, top-sign, sign, top, true)
		wantSumValue(t, sumOf(sign, term(1, "n")), top, 0, 0, false)
		wantSumValue(t, sumOf(sign, term(1, "n")), top-sign, 0, top, true)
		wantSumValue(t, sumOf(-sign, term(1, "n")), top, 0, top-sign, true)
		wantSumValue(t, sumOf(top, term(1, "n")), 0, 0, top, true)
		wantSumValue(t, sumOf(top, term(1, "n")), sign, 0, 0, false)
		wantSumValue(t, sumOf(0, term(top, "n")), 1, 0, top, true)
		wantSumValue(t, sumOf(0, term(top, "n")), -1, 0, -top, true)
		wantSumValue(t, sumOf(0, term(top, "n")), 2, 0, 0, false)
		wantSumValue(t, sumOf(0, term(sign, "n")), -limitNumber, 0, -top, true)
	}
}

// TestIntermediateSums has terms whose values are far beyond the limits.
func TestIntermediateSums(t *testing.T) {
	const most = limitNumber
	for _, sign := range []int{1, -1} {
		wantSumValue(t, sumOf(0, term(sign*most, "m"), term(-sign*most, "n")), most, most, 0, true)
		wantSumValue(t, sumOf(most, term(sign*most, "m"), term(-sign*most, "n")), most, most, most, true)
		wantSumValue(t, sumOf(-most, term(sign*most, "m"), term(-sign*most, "n")), most, most, -most, true)
		wantSumValue(t, sumOf(0, term(sign*most, "m"), term(sign*most, "n")), most, -most, 0, true)
		wantSumValue(t, sumOf(0, term(sign*most, "m"), term(-sign*most, "n")), most-1, most, sign*most, true)
		wantSumValue(t, sumOf(sign, term(sign*most, "m"), term(-sign*most, "n")), most-1, most, 0, false)
		wantSumValue(t, sumOf(-most, term(2, "m")), 0, most, most, true)
		wantSumValue(t, sumOf(-most, term(3, "m")), 0, most, 0, false)
		wantSumValue(t, sumOf(most, term(-2, "m")), 0, most, -most, true)
		wantSumValue(t, sumOf(most, term(-3, "m")), 0, most, 0, false)
		wantSumValue(t, sumOf(most, term(1, "m"), term(-1, "n")), most, most, most, true)
		wantSumValue(t, sumOf(most, term(most, "m"), term(most, "n")), sign*most, sign*most, 0, false)
	}
	// 4294967296 is 0 if only 32 bits are looked at.
	wantSumValue(t, sumOf(0, term(65536, "n")), 65536, 0, 0, false)
	wantSumValue(t, sumOf(1, term(65536, "n")), -65536, 0, 0, false)
}

// TestGreatestSums has four terms with the greatest coefficients and values.
func TestGreatestSums(t *testing.T) {
	const most = limitNumber
	p := source("fun f n m : int", "fun id x : int", "rule f | q := id n | r := id m | return q", "rule id | return x")
	for mask := range 32 {
		s, want := sumOf(most), most
		for i, name := range []string{"m", "n", "q", "r"} {
			coeff := most - 2*most*(mask>>i&1)
			s.Terms = append(s.Terms, term(coeff, name))
			want += coeff * most
		}
		if mask >= 16 {
			s.Const, want = -most, want-2*most
		}
		p.Rules[0].Result = integerArg(s)
		outcome := stuck(3, 0)
		if withinNumber(want) {
			outcome = ended(numberValue(want), 3, 0)
		}
		wantRunOf(t, p, "f", []impl.Value{numberValue(most), numberValue(most)}, outcome)
	}
}

// TestLongLists builds lists of all sizes near the limit, from heads and a
// base, in an argument and in a result.
func TestLongLists(t *testing.T) {
	for heads := range limitHeads + 1 {
		sums := []impl.Sum{sumOf(-1), sumOf(-2), sumOf(-3)}[:heads]
		result := source("fun f xs : list", "rule f | return xs")
		result.Rules[0].Result = listArg("xs", sums...)
		arg := source("fun f xs : int", "fun g ys : int", "rule f | r := g xs | return r", "rule g | return 5")
		arg.Rules[0].Calls[0].Args[0] = listArg("xs", sums...)
		tail := source("fun f xs : list", "rule f | xs = h : ts | return ts")
		tail.Rules[0].Result = listArg("ts", sums...)
		for size := limitItems - 5; size <= limitItems; size++ {
			xs := listOf(size)
			longer := listValue(slices.Concat([]int{-1, -2, -3}[:heads], xs.Items)...)
			if size+heads <= limitItems {
				wantRunOf(t, result, "f", []impl.Value{xs}, ended(longer, 1, heads))
				wantRunOf(t, arg, "f", []impl.Value{xs}, ended(numberValue(5), 2, heads))
			} else {
				wantRunOf(t, result, "f", []impl.Value{xs}, stuck(1, 0))
				wantRunOf(t, arg, "f", []impl.Value{xs}, stuck(1, 0))
			}
			if size-1+heads <= limitItems {
				moved := listValue(slices.Concat([]int{-1, -2, -3}[:heads], xs.Items[1:])...)
				wantRunOf(t, tail, "f", []impl.Value{xs}, ended(moved, 1, heads))
			} else {
				wantRunOf(t, tail, "f", []impl.Value{xs}, stuck(1, 0))
			}
		}
	}
	grow := source("fun f n xs : list", "rule f | -n >= 0 | return xs", "rule f | rs := f n - 1 , n : xs | return rs")
	for n := range limitItems + 3 {
		want := stuck(limitItems+1, limitItems)
		if n <= limitItems {
			want = ended(listOf(n), n+1, n)
		}
		wantRunOf(t, grow, "f", []impl.Value{numberValue(n), listValue()}, want)
	}
}

// TestHeadsThatDoNotFit has such a head at each place, in an argument and in a
// result: nothing of the list is counted.
func TestHeadsThatDoNotFit(t *testing.T) {
	for size := 1; size <= limitHeads; size++ {
		for place := range size {
			sums := []impl.Sum{sumOf(1), sumOf(2), sumOf(3)}[:size]
			sums[place] = sumOf(0, term(2, "n"))
			result := source("fun f n : list", "rule f | return nil")
			result.Rules[0].Result = listArg("", sums...)
			arg := source("fun f n : int", "fun g xs : int", "rule f | r := g nil | return r", "rule g | return 5")
			arg.Rules[0].Calls[0].Args[0] = listArg("", sums...)
			items := []int{1, 2, 3}[:size]
			for _, n := range []int{limitNumber / 2, -limitNumber / 2} {
				items[place] = 2 * n
				wantRunOf(t, result, "f", []impl.Value{numberValue(n)}, ended(listValue(items...), 1, size))
				wantRunOf(t, arg, "f", []impl.Value{numberValue(n)}, ended(numberValue(5), 2, size))
			}
			for _, n := range []int{limitNumber/2 + 1, -limitNumber/2 - 1, limitNumber} {
				wantRunOf(t, result, "f", []impl.Value{numberValue(n)}, stuck(1, 0))
				wantRunOf(t, arg, "f", []impl.Value{numberValue(n)}, stuck(1, 0))
			}
		}
	}
}

// TestConsesOfRuns counts heads of lists, of which some are built before the
// run is stuck or out of fuel.
func TestConsesOfRuns(t *testing.T) {
	head := []string{"fun f n xs : list", "fun g ys us : list", "rule g | return 1 : 2 : ys"}
	with := func(rule string) impl.Program { return source(append(slices.Clone(head), "rule f | "+rule)...) }
	p := with("as := g n : xs , 1 : 2 : nil | return 1 : 2 : 3 : as")
	wantRun(t, p, "f 7 [8]", ended(listValue(1, 2, 3, 1, 2, 7, 8), 2, 8))
	wantOutcome(t, p, "f", valuesOf("7 [8]"), 0, outOfFuel(0, 0))
	wantOutcome(t, p, "f", valuesOf("7 [8]"), 1, outOfFuel(1, 3))
	p = with("as := g n : xs , xs | bs := g 1 : as , 2 : 3 : nil | return bs")
	wantRun(t, p, "f 7 []", ended(listValue(1, 2, 1, 1, 2, 7), 3, 8))
	for fuel, conses := range []int{0, 1, 6} {
		wantOutcome(t, p, "f", valuesOf("7 []"), fuel, outOfFuel(fuel, conses))
	}
	// A list without heads costs nothing, and neither does an integer.
	p = source("fun f n xs : list", "fun g m ys : int", "rule f | r := g n + 1 , xs | k := g r , nil | return xs", "rule g | return m + 1")
	wantRun(t, p, "f 1 [4,5]", ended(listValue(4, 5), 3, 0))
	// The first argument counts if the second one is stuck, but not the other way
	// round.
	p = with("as := g 1 : 2 : nil , 999999n : nil | return as")
	wantRun(t, p, "f 1 []", ended(listValue(1, 2, 1, 2), 2, 5))
	wantRun(t, p, "f 2 []", stuck(1, 2))
	p = with("as := g 1 : 999999n : nil , 1 : 2 : nil | return as")
	wantRun(t, p, "f 2 []", stuck(1, 0))
	wantOutcome(t, p, "f", valuesOf("2 []"), 1, stuck(1, 0))
	p = with("as := g 1 : xs , 1 : 2 : 3 : xs | return as")
	wantRunOf(t, p, "f", []impl.Value{numberValue(0), listOf(limitItems - 2)}, stuck(1, 1))
	wantRunOf(t, p, "f", []impl.Value{numberValue(0), listOf(limitItems - 1)}, stuck(1, 1))
	wantRunOf(t, p, "f", []impl.Value{numberValue(0), listOf(limitItems)}, stuck(1, 0))
	longest := listValue(append([]int{1, 2, 1}, listOf(limitItems-3).Items...)...)
	wantRunOf(t, p, "f", []impl.Value{numberValue(0), listOf(limitItems - 3)}, ended(longest, 2, 6))
}

// TestResultsOfCalls uses the result of a call in the next one, and both in the
// result.
func TestResultsOfCalls(t *testing.T) {
	head := []string{"fun f n : int", "fun twice m : int", "fun copy k : list", "rule twice | return 2m", "rule copy | -k >= 0 | return nil", "rule copy | xs := copy k - 1 | return k : xs"}
	with := func(rule string) impl.Program { return source(append(slices.Clone(head), "rule f | "+rule)...) }
	p := with("q := twice n + 1 | r := twice n + q | return 100q + r")
	wantRun(t, p, "f 3", ended(numberValue(822), 3, 0))
	wantRun(t, p, "f 0", ended(numberValue(204), 3, 0))
	p = with("q := twice n | r := twice n + 1 | return q - r")
	wantRun(t, p, "f 5", ended(numberValue(-2), 3, 0))
	// A result may be used only once more, or not at all.
	p = with("q := twice n | r := twice 7 | return q")
	wantRun(t, p, "f 5", ended(numberValue(10), 3, 0))
	p = with("xs := copy n | ys := copy n - 1 | return n")
	wantRun(t, p, "f 3", ended(numberValue(3), 8, 5))
	// The second call is not made if the first one is stuck.
	p = with("q := twice n | ys := copy 3 | return q")
	wantRun(t, p, "f 3", ended(numberValue(6), 6, 3))
	wantRun(t, p, "f 500000", ended(numberValue(1000000), 6, 3))
	wantRun(t, p, "f 500001", stuck(2, 0))
	// The argument of the second call is evaluated after the first call.
	p = with("xs := copy 3 | q := twice 999999n | return q")
	wantRun(t, p, "f 2", stuck(5, 3))
	wantRun(t, p, "f 1", stuck(6, 3))
	for fuel := range 5 {
		wantOutcome(t, p, "f", valuesOf("2"), fuel, outOfFuel(fuel, 0))
	}
}

// TestNamesOfRuns has the same names with different values in the caller, in
// the called function, and in another rule of it.
func TestNamesOfRuns(t *testing.T) {
	p := source("fun f n m : int",
		"rule f | -n >= 0 | return m",
		"rule f | r := f n - 1 , n | q := f n - 2 , m | return m + 100n + q + 10r")
	wantRun(t, p, "f 1 5", ended(numberValue(100+10*1+5+5), 3, 0))
	wantRun(t, p, "f 2 3", ended(numberValue(200+10*(100+10+2+2)+3+3), 5, 0))
	// What a pattern or a call of another rule names is not visible in this one.
	p = source("fun f xs ys : int",
		"rule f | xs = h : ts | ys = k : us | h - k - 1 >= 0 | return h",
		"rule f | ys = h : us | xs = k : ts | h - k - 1 >= 0 | return h",
		"rule f | xs = k : us | ys = h : ts | r := f us , ts | return h + k + r",
		"rule f | xs = nil | return 1000")
	wantRun(t, p, "f [3] [2]", ended(numberValue(3), 1, 0))
	wantRun(t, p, "f [2] [3]", ended(numberValue(3), 1, 0))
	wantRun(t, p, "f [4] [4]", ended(numberValue(1008), 2, 0))
	wantRun(t, p, "f [4,1] [4]", stuck(2, 0))
	wantRun(t, p, "f [4,1,7] [4,1,9]", ended(numberValue(8+2+9), 3, 0))
}

func TestRunsOfExamples(t *testing.T) {
	list := sources()
	program := func(k int) impl.Program {
		p, _ := impl.ParseProgram(list[k])
		return p
	}
	wantRun(t, program(1), "rev [1,2,3] [9]", ended(listValue(3, 2, 1, 9), 4, 3))
	backwards := listOf(20)
	slices.Reverse(backwards.Items)
	longest := listValue(slices.Concat(backwards.Items, listOf(20).Items)...)
	wantRunOf(t, program(1), "rev", []impl.Value{listOf(20), listOf(20)}, ended(longest, 21, 20))
	wantRunOf(t, program(1), "rev", []impl.Value{listOf(20), listOf(21)}, stuck(20, 19))
	wantRun(t, program(2), "ack 0 3", ended(numberValue(4), 1, 0))
	wantRun(t, program(2), "ack 1 1", ended(numberValue(3), 4, 0))
	wantRun(t, program(2), "ack 2 2", ended(numberValue(7), 27, 0))
	wantRun(t, program(2), "ack 2 -1", ended(numberValue(3), 5, 0))
	wantRun(t, program(2), "ack 3 3", outOfFuel(300, 0))
	wantRun(t, program(3), "put 3 [1,2,4,5]", ended(listValue(1, 2, 3, 4, 5), 3, 4))
	wantRun(t, program(3), "sort [3,1,2]", ended(listValue(1, 2, 3), 9, 6))
	wantRun(t, program(4), "f -1", ended(numberValue(0), 1, 0))
	wantRun(t, program(4), "f 0", outOfFuel(300, 0))
	wantRun(t, program(4), "f 1", stuck(20, 0))
	wantRun(t, program(5), "mix [1,2] [3]", ended(numberValue(0), 4, 0))
	wantRun(t, program(6), "up -3", ended(numberValue(5), 9, 0))
	wantRun(t, program(6), "up 7", ended(numberValue(7), 1, 0))
}

func TestMutualRecursion(t *testing.T) {
	p := source("fun even xs : int", "fun odd ys : int",
		"rule even | xs = nil | return 1", "rule odd | ys = nil | return 0",
		"rule even | xs = h : ts | r := odd ts | return r", "rule odd | ys = h : ts | r := even ts | return r")
	for size := range limitItems + 1 {
		wantRunOf(t, p, "even", []impl.Value{listOf(size)}, ended(numberValue(1-size%2), size+1, 0))
		wantRunOf(t, p, "odd", []impl.Value{listOf(size)}, ended(numberValue(size%2), size+1, 0))
	}
	three := source("fun a n : list", "fun b m : list", "fun c k : list",
		"rule c | k - 1 >= 0 | xs := a k - 1 | return 3 : xs", "rule b | xs := c m | ys := c m - 5 | return 2 : xs",
		"rule a | n - 1 >= 0 | xs := b n | return 1 : xs", "rule a | return nil", "rule c | return 0 : nil")
	wantRun(t, three, "a 0", ended(listValue(), 1, 0))
	wantRun(t, three, "a 1", ended(listValue(1, 2, 3), 5, 4))
	wantRun(t, three, "a 3", ended(listValue(1, 2, 3, 1, 2, 3, 1, 2, 3), 13, 12))
}

// TestEndsDeepInside has runs that are stuck or out of fuel in a call of a call
// of a call.
func TestEndsDeepInside(t *testing.T) {
	p := source("fun f n xs : list", "fun g m : int",
		"rule f | n - 1 >= 0 | rs := f n - 1 , n : xs | return n : rs", "rule f | -n >= 0 | k := g n | return xs", "rule g | m >= 0 | return m")
	wantRun(t, p, "f 3 []", ended(listValue(3, 2, 1, 1, 2, 3), 5, 6))
	wantRun(t, p, "f -1 []", stuck(2, 0))
	for n := range 20 {
		up := listOf(n)
		down := slices.Clone(up.Items)
		slices.Reverse(down)
		wantRunOf(t, p, "f", []impl.Value{numberValue(n), listValue()}, ended(listValue(append(down, up.Items...)...), n+2, 2*n))
		wantHistory(t, p, "f", []impl.Value{numberValue(n), listValue()}, from(0, limitFuel))
		for fuel := range n + 2 {
			wantOutcome(t, p, "f", []impl.Value{numberValue(n), listValue()}, fuel, outOfFuel(fuel, min(fuel, n)))
		}
	}
	// The innermost call has no rule.
	p.Rules = p.Rules[:1]
	for n := range 20 {
		wantRunOf(t, p, "f", []impl.Value{numberValue(n), listValue()}, stuck(n+1, n))
	}
	// The value on the way back is too large, or the list is too long.
	p = source("fun f n : int", "rule f | -n >= 0 | return 500", "rule f | r := f n - 1 | return 10r")
	wantRun(t, p, "f 3", ended(numberValue(500000), 4, 0))
	wantRun(t, p, "f 4", stuck(5, 0))
	wantRun(t, p, "f 40", stuck(41, 0))
	p = source("fun f n : list", "rule f | -n >= 0 | return nil", "rule f | rs := f n - 1 | return 1 : n : rs")
	wantOutcome(t, p, "f", valuesOf("21"), 22, stuck(22, 40))
	wantOutcome(t, p, "f", valuesOf("20"), 20, outOfFuel(20, 0))
	// As many calls as there may be, and one more.
	p = source("fun f n : int", "rule f | n - 2 >= 0 | r := f n - 1 | return r + 1", "rule f | return n")
	for n := 1; n <= limitFuel+1; n++ {
		want := outOfFuel(limitFuel, 0)
		if n <= limitFuel {
			want = ended(numberValue(n), n, 0)
		}
		wantRunOf(t, p, "f", []impl.Value{numberValue(n)}, want)
	}
}

func TestPreconditionsAreNotChecked(t *testing.T) {
	p := source("fun f n xs : int", "pre f n - 3 >= 0", "pre f xs - 2 >= 0", "fun g m : int", "pre g -1 >= 0",
		"rule f | n - 1 >= 0 | r := f n - 1 , xs | return r", "rule f | r := g n - 5 | return r", "rule g | return m")
	for n := -3; n < 6; n++ {
		for size := range 4 {
			args := []impl.Value{numberValue(n), listOf(size)}
			wantRunOf(t, p, "f", args, ended(numberValue(min(n, 0)-5), max(n, 0)+2, 0))
			if got := impl.MeetsPre(p, "f", args); got != (n >= 3 && size >= 2) {
				t.Errorf("MeetsPre for f of %v is %t", args, got)
			}
		}
		wantRunOf(t, p, "g", []impl.Value{numberValue(n)}, ended(numberValue(n), 1, 0))
	}
}

// sampleValues returns arguments for a parameter.
func sampleValues(param string) []impl.Value {
	if isListName(param) {
		return append(valuesOf("[] [2,1] [1,2,3,-4]"), listOf(limitItems))
	}
	return valuesOf("-1 0 1 2 3 70 1000000")
}

// sampleArgs returns combinations of arguments.
func sampleArgs(params []string) [][]impl.Value {
	list := [][]impl.Value{nil}
	for _, param := range params {
		var longer [][]impl.Value
		for _, args := range list {
			for _, v := range sampleValues(param) {
				longer = append(longer, append(slices.Clone(args), v))
			}
		}
		list = longer
	}
	return list
}

// wantMoreFuel makes a run with all fuel that there is: with less than the calls
// that it needs, it is out of fuel, and then nothing changes any more.
func wantMoreFuel(t *testing.T, p impl.Program, name string, args []impl.Value) {
	t.Helper()
	last := impl.RunFunction(p, name, args, limitFuel)
	h := historyOf(p, name, args)
	for fuel := range limitFuel + 1 {
		got := impl.RunFunction(p, name, args, fuel)
		if fuel >= last.Calls && !sameOutcome(got, last) || got.Calls > fuel || got.Conses > last.Conses {
			t.Fatalf("RunFunction(%+v, %q, %v, %d) = %+v, but with more fuel %+v", p, name, args, fuel, got, last)
		}
		if fuel < last.Calls && (got.Status != 3 || got.Calls != fuel || !sameValue(got.Value, impl.Value{})) {
			t.Fatalf("RunFunction(%+v, %q, %v, %d) = %+v, but it needs %d calls", p, name, args, fuel, got, last.Calls)
		}
		if want := h.with(fuel); !sameOutcome(got, want) {
			t.Fatalf("RunFunction(%+v, %q, %v, %d) = %+v, want %+v", p, name, args, fuel, got, want)
		}
	}
}

func TestMoreFuel(t *testing.T) {
	statuses := map[int]int{}
	for _, s := range sources() {
		p, _ := impl.ParseProgram(s)
		for _, f := range p.Functions {
			for _, args := range sampleArgs(f.Params) {
				statuses[outcomeOf(p, f.Name, args, limitFuel).Status]++
				wantMoreFuel(t, p, f.Name, args)
			}
		}
	}
	if statuses[1] < 50 || statuses[2] < 10 || statuses[3] < 5 {
		t.Errorf("the runs end in these ways: %v", statuses)
	}
}

func wantEqualOutcomes(t *testing.T, a impl.Outcome, b impl.Outcome, want bool) {
	t.Helper()
	if got := impl.EqualOutcome(a, b); got != want {
		t.Errorf("EqualOutcome(%+v, %+v) = %t", a, b, got)
	}
	if got := impl.EqualOutcome(b, a); got != want {
		t.Errorf("EqualOutcome(%+v, %+v) = %t", b, a, got)
	}
}

// outcomeVariants returns an outcome, and others that differ from it at one
// place: in a field, in an item, or in that an item is missing or one is added.
func outcomeVariants(first func() impl.Outcome) []impl.Outcome {
	list := []impl.Outcome{first()}
	for k := 0; ; k++ {
		x, place := first(), k
		if !changed(reflect.ValueOf(&x).Elem(), &place) {
			return list
		}
		list = append(list, x)
	}
}

func TestEqualOutcome(t *testing.T) {
	for _, first := range []func() impl.Outcome{
		func() impl.Outcome { return impl.Outcome{} },
		func() impl.Outcome { return ended(listValue(5, 7, 9), 4, 6) },
		func() impl.Outcome { return ended(numberValue(3), 1, 1) },
		func() impl.Outcome { return stuck(2, 2) },
		func() impl.Outcome {
			return impl.Outcome{Status: -7, Value: listAt(limitItems+1, 0, 3), Calls: -1, Conses: 3}
		},
	} {
		list, again := outcomeVariants(first), outcomeVariants(first)
		if size := len(first().Value.Items); len(list) != 7+2*size {
			t.Errorf("there are %d variants of %+v", len(list), first())
		}
		for i, a := range list {
			for j, b := range again {
				wantEqualOutcomes(t, a, b, sameOutcome(a, b))
				if i == 0 && j > 0 || i == j {
					wantEqualOutcomes(t, a, b, i == j)
				}
			}
		}
	}
	a, b := ended(listValue(1, 2), 3, 4), ended(listValue(2, 1), 3, 4)
	wantEqualOutcomes(t, a, b, false)
	wantEqualOutcomes(t, ended(listValue(1), 3, 4), ended(listValue(1), 4, 3), false)
	wantEqualOutcomes(t, ended(listValue(), 3, 4), ended(numberValue(0), 3, 4), false)
	wantEqualOutcomes(t, stuck(3, 4), outOfFuel(3, 4), false)
	for _, items := range [][]int{nil, {}, make([]int, 0, 5), []int{1}[:0]} {
		for _, isList := range []bool{false, true} {
			a, b := ended(impl.Value{List: isList}, 1, 2), ended(impl.Value{List: isList, Items: items}, 1, 2)
			wantEqualOutcomes(t, a, b, true)
			wantEqualOutcomes(t, b, b, true)
			wantEqualOutcomes(t, b, ended(impl.Value{List: isList, Items: []int{0}}, 1, 2), false)
		}
	}
}

// withPre returns a program of a function f with these preconditions.
func withPre(params []string, rows ...impl.Lin) impl.Program {
	p := withFunctions(function("f", false, params...))
	p.Functions[0].Pre = rows
	return p
}

func wantMet(t *testing.T, p impl.Program, name string, args []impl.Value, want bool) {
	t.Helper()
	if meetsAll(p, name, args) != want {
		t.Errorf("the test is wrong: %s of %v in %+v", name, args, p)
	}
	if got := impl.MeetsPre(p, name, args); got != want {
		t.Errorf("MeetsPre(%+v, %q, %v) = %t", p, name, args, got)
	}
}

func TestMeetsPre(t *testing.T) {
	for n := -4; n <= 4; n++ {
		one := []impl.Value{numberValue(n)}
		wantMet(t, withPre([]string{"n"}), "f", one, true)
		wantMet(t, withPre([]string{"n"}, lin(0, 1)), "f", one, n >= 0)
		wantMet(t, withPre([]string{"n"}, lin(-2, 1)), "f", one, n >= 2)
		wantMet(t, withPre([]string{"n"}, lin(2, -1)), "f", one, n <= 2)
		wantMet(t, withPre([]string{"n"}, lin(1, 1), lin(1, -1)), "f", one, n >= -1 && n <= 1)
		wantMet(t, withPre([]string{"n"}, lin(1, -1), lin(1, 1)), "f", one, n >= -1 && n <= 1)
		wantMet(t, withPre([]string{"n"}, lin(n)), "f", one, false)
		wantMet(t, withPre([]string{"n"}, lin(n, 0)), "f", one, n >= 0)
		wantMet(t, withPre(nil, lin(n)), "f", nil, n >= 0)
		wantMet(t, withPre(nil, lin(0), lin(n)), "f", nil, n >= 0)
		wantMet(t, withPre(nil, lin(n), lin(3)), "f", nil, n >= 0)
		for m := -4; m <= 4; m++ {
			wantMet(t, withPre([]string{"n", "m"}, lin(-1, 1, -2)), "f", []impl.Value{numberValue(n), numberValue(m)}, n-2*m-1 >= 0)
		}
		for size := range 6 {
			pair := []impl.Value{listAt(size+1, 0, 1000), numberValue(n)}
			pair[0].Items = pair[0].Items[1:]
			wantMet(t, withPre([]string{"xs", "n"}), "f", pair, true)
			wantMet(t, withPre([]string{"xs", "n"}, lin(-3, 1, 0)), "f", pair, size >= 3)
			wantMet(t, withPre([]string{"xs", "n"}, lin(0, 1, -1)), "f", pair, size >= n)
			wantMet(t, withPre([]string{"xs", "n"}, lin(3, -1, 0), lin(0, 0, 1)), "f", pair, size <= 3 && n >= 0)
			slices.Reverse(pair)
			wantMet(t, withPre([]string{"n", "xs"}, lin(0, 0, 1), lin(0, -1, 1)), "f", pair, size >= n)
		}
	}
	wantMet(t, withPre(nil), "f", nil, true)
	wantMet(t, withPre(nil), "f", []impl.Value{}, true)
	// The items do not matter, only their number does.
	wantMet(t, withPre([]string{"xs"}, lin(0, 1)), "f", valuesOf("[-1]"), true)
	wantMet(t, withPre([]string{"xs"}, lin(0, -1)), "f", valuesOf("[-1]"), false)
	wantMet(t, withPre([]string{"xs"}, lin(-limitItems, 1)), "f", []impl.Value{listOf(limitItems)}, true)
	wantMet(t, withPre([]string{"xs"}, lin(-limitItems, 1)), "f", []impl.Value{listOf(limitItems - 1)}, false)
}

// TestGreatPreconditions has values of expressions far beyond the limits.
func TestGreatPreconditions(t *testing.T) {
	const most, large = limitNumber, limitCoeff
	two := []string{"n", "m"}
	for _, c := range []struct {
		row  impl.Lin
		n, m int
		want bool
	}{
		{lin(large, large, large), most, most, true},
		{lin(-large, large, large), most, most, true},
		{lin(large, large, large), -most, -most, false},
		{lin(large, -large, -large), most, most, false},
		{lin(0, large, -large), most, most, true},
		{lin(-1, large, -large), most, most, false},
		{lin(0, large, large), most, -most, true},
		{lin(0, large, large), most - 1, -most, false},
		{lin(large, large, large), most - 1, -most, true},
		{lin(large-1, large, large), most - 1, -most, false},
		{lin(0, large, 0), 3, 0, true},
		{lin(0, -large, 0), 3, 0, false},
		{lin(large, 0, 0), 0, 0, true},
		{lin(-large, 0, 0), 0, 0, false},
	} {
		args := []impl.Value{numberValue(c.n), numberValue(c.m)}
		wantMet(t, withPre(two, c.row), "f", args, c.want)
		wantMet(t, withPre(two, lin(0, 0, 0), c.row), "f", args, c.want)
		wantMet(t, withPre(two, c.row, lin(0, 0, 0)), "f", args, c.want)
		wantMet(t, withPre(two, c.row, lin(-1, 0, 0)), "f", args, false)
		c.row.Coeffs[1] = large + 1
		wantBad(t, withPre(two, c.row), "f", args)
	}
}

// TestPreconditionsOfOthers has other functions, whose preconditions say
// nothing, and programs that are not valid.
func TestPreconditionsOfOthers(t *testing.T) {
	p := source("fun f n : int", "pre f n - 1 >= 0", "fun g n : int", "pre g -n >= 0", "fun h n : int")
	for n := -3; n <= 3; n++ {
		args := []impl.Value{numberValue(n)}
		wantMet(t, p, "f", args, n >= 1)
		wantMet(t, p, "g", args, n <= 0)
		wantMet(t, p, "h", args, true)
		wantMet(t, p, "none", args, false)
		wantMet(t, p, "f", append(args, args...), false)
	}
	p.Functions[2].Pre = []impl.Lin{lin(0)}
	for _, name := range []string{"f", "g", "h"} {
		wantBad(t, p, name, []impl.Value{numberValue(1)})
	}
	p.Functions[2].Pre = []impl.Lin{lin(0, 0), lin(0, 0), lin(0, 0)}
	for _, name := range []string{"f", "g", "h"} {
		wantBad(t, p, name, []impl.Value{numberValue(1)})
	}
	wantMet(t, mixed(), "len", valuesOf("9 []"), true)
	wantMet(t, mixed(), "len", valuesOf("10 []"), false)
	wantMet(t, mixed(), "len", valuesOf("10 [4]"), true)
	wantMet(t, mixed(), "len", valuesOf("-1 [4]"), false)
}

// visibleSum draws a sum that uses visible names.
func (d drawing) visibleSum(names []string) impl.Sum {
	s := sumOf(d.IntN(5) - 2)
	if d.IntN(40) == 0 {
		s.Const = limitNumber - d.IntN(2)
	}
	for _, name := range slices.Sorted(slices.Values(names)) {
		if isIntegerName(name) && d.IntN(2) == 0 {
			s.Terms = append(s.Terms, term([]int{1, 1, 1, -1, 2, -3}[d.IntN(6)], name))
			if d.IntN(30) == 0 {
				s.Terms[len(s.Terms)-1].Coeff = limitNumber
			}
		}
	}
	return s
}

// visibleArg draws an argument that uses visible names.
func (d drawing) visibleArg(names []string, isList bool) impl.Arg {
	if !isList {
		return integerArg(d.visibleSum(names))
	}
	bases := append(slices.DeleteFunc(slices.Clone(names), isIntegerName), "")
	a := listArg(bases[d.IntN(len(bases))])
	for range []int{0, 0, 0, 1, 1, 2, 3}[d.IntN(7)] {
		a.Heads = append(a.Heads, d.visibleSum(names))
	}
	return a
}

// smaller draws an argument that is often smaller than the parameter.
func (d drawing) smaller(names []string, param string, same []string) impl.Arg {
	switch {
	case d.IntN(4) == 0 || !slices.Contains(same, param):
		return d.visibleArg(names, isListName(param))
	case slices.Contains(names, param[:1]+"ts"):
		return listArg(param[:1] + "ts")
	case isListName(param):
		return listArg(param)
	}
	return integer(-1-d.IntN(2), param)
}

// runnable draws a valid program whose runs are of many kinds.
func (d drawing) runnable() impl.Program {
	var p impl.Program
	for _, name := range []string{"f", "g", "k"}[:1+d.IntN(limitFunctions)] {
		params := [][]string{{"n"}, {"xs"}, {"n", "xs"}, {"ys", "n"}, {"xs", "ys"}, {"n", "m"}, nil}[d.IntN(7)]
		p.Functions = append(p.Functions, function(name, d.IntN(2) == 0, params...))
	}
	for len(p.Rules) < 2+d.IntN(limitRules-len(p.Functions)-1) {
		f := p.Functions[d.IntN(len(p.Functions))]
		r := impl.Rule{Func: f.Name}
		for _, name := range f.Params {
			if isListName(name) && d.IntN(3) > 0 {
				r.Patterns = append(r.Patterns, []impl.Pattern{isNil(name), isCons(name, name[:1]+"h", name[:1]+"ts")}[d.IntN(2)])
			}
		}
		names := scopeAfter(p, r, 0)
		for range d.IntN(limitGuards + 1) {
			r.Guards = append(r.Guards, d.visibleSum(names))
			if slices.Contains(names, "n") && d.IntN(3) > 0 {
				r.Guards[0] = sumOfNames(-1, "n")
			}
		}
		for i := range []int{0, 1, 1, 1, 2}[d.IntN(5)] {
			g := p.Functions[d.IntN(len(p.Functions))]
			c := callOf("r"+strconv.Itoa(i), g.Name)
			if g.ListResult {
				c.Bind += "s"
			}
			for _, param := range g.Params {
				c.Args = append(c.Args, d.smaller(names, param, f.Params))
			}
			r.Calls = append(r.Calls, c)
			names = scopeAfter(p, r, i+1)
		}
		r.Result = d.visibleArg(names, f.ListResult)
		p.Rules = append(p.Rules, r)
	}
	// Without a last rule that always applies, most runs would be stuck.
	for _, f := range p.Functions {
		if d.IntN(5) > 0 {
			p.Rules = append(p.Rules, impl.Rule{Func: f.Name, Result: d.visibleArg(f.Params, f.ListResult)})
		}
	}
	return p
}

// drawnArgs draws arguments for these parameters.
func (d drawing) drawnArgs(params []string) []impl.Value {
	var args []impl.Value
	for _, param := range params {
		v := impl.Value{List: isListName(param), N: d.IntN(12) - 2}
		if v.List {
			v.N = 0
			for range []int{d.IntN(5), d.IntN(5), limitItems - d.IntN(3)}[d.IntN(3)] {
				v.Items = append(v.Items, d.IntN(9)-3)
			}
		}
		args = append(args, v)
	}
	return args
}

// TestDrawnRuns compares runs of drawn programs with the document, with fuel
// near the number of calls that they need, and expects runs of many kinds.
func TestDrawnRuns(t *testing.T) {
	d := drawing{rand.New(rand.NewPCG(12, 1))}
	kinds := map[string]int{}
	for range 6000 {
		p := d.runnable()
		if faults := faultsOfProgram(p); len(faults) > 0 {
			t.Fatalf("the test is wrong: %+v has the faults %v", p, faults)
		}
		f := p.Functions[d.IntN(len(p.Functions))]
		args := d.drawnArgs(f.Params)
		end := historyOf(p, f.Name, args).with(limitFuel)
		wantHistory(t, p, f.Name, args, []int{0, 1, d.IntN(limitFuel + 1), end.Calls - 1, end.Calls, end.Calls + 1, limitFuel})
		kind := []string{"bad", "ended", "stuck", "fuel"}[end.Status]
		kinds[kind]++
		if end.Calls > 3 {
			kinds["long "+kind]++
		}
		if end.Calls > 1 && end.Conses > 2 {
			kinds["conses "+kind]++
		}
	}
	for _, kind := range []string{"ended", "stuck", "fuel"} {
		if kinds[kind] < 500 || kinds["long "+kind] < 150 || kinds["conses "+kind] < 80 {
			t.Errorf("the drawn runs are of these kinds: %v", kinds)
		}
	}
	if kinds["bad"] > 0 {
		t.Errorf("%d runs are bad", kinds["bad"])
	}
}

func TestDrawnPreconditions(t *testing.T) {
	d := drawing{rand.New(rand.NewPCG(12, 2))}
	met := map[bool]int{}
	for range 20000 {
		params := [][]string{nil, {"n"}, {"xs"}, {"n", "xs"}, {"ys", "m"}, {"n", "m"}, {"xs", "ys"}}[d.IntN(7)]
		var rows []impl.Lin
		for range d.IntN(limitPre + 1) {
			rows = append(rows, d.lin(len(params), d.IntN(4), 1))
		}
		p, args := withPre(params, rows...), d.drawnArgs(params)
		want := meetsAll(p, "f", args)
		wantMet(t, p, "f", args, want)
		met[want]++
	}
	if met[true] < 3000 || met[false] < 3000 {
		t.Errorf("the preconditions are met so often: %v", met)
	}
}

// roomyArgs returns the arguments with unused capacity behind every slice.
func roomyArgs(args []impl.Value) []impl.Value {
	list := roomy(args, numberValue(5), listValue(6))
	for i, v := range list {
		if v.List {
			list[i].Items = roomy(v.Items, 987654, 876543, 765432)
		}
	}
	return list
}

// describeArgs returns everything that arguments hold, the unused capacity of
// every slice included.
func describeArgs(args []impl.Value) string {
	var parts []any
	for _, v := range args[:cap(args)] {
		parts = append(parts, v.List, v.N, v.Items[:cap(v.Items)])
	}
	return fmt.Sprint(parts...)
}

// overlap reports whether two pieces of memory, one of each list, have bytes in
// common.
func overlap(list []span, others []span) bool {
	return slices.ContainsFunc(list, func(a span) bool {
		return slices.ContainsFunc(others, func(b span) bool { return a.first < b.end && b.first < a.end })
	})
}

// returning returns programs whose runs return lists that are arguments as
// they stand, or parts of them, of this function or of a called one.
func returning() []impl.Program {
	var list []impl.Program
	for _, rules := range [][]string{
		{"rule f | return xs"},
		{"rule f | return ys"},
		{"rule f | xs = h : ts | return ts", "rule f | return xs"},
		{"rule f | return 1 : xs"},
		{"rule f | return nil"},
		{"rule f | rs := g xs | return rs", "rule g | return us"},
		{"rule f | rs := g 1 : 2 : ys | return xs", "rule g | return us"},
		{"rule f | rs := g xs | qs := g rs | return qs", "rule g | return us"},
		{"rule f | rs := g xs | return rs", "rule g | us = h : ts | return ts", "rule g | return us"},
		{"rule f | rs := g xs | qs := g xs | return 1 : rs", "rule g | return 5 : us"},
		{"rule f | xs = h : ts | rs := f ts , h : ys | return rs", "rule f | return ys"},
		{"rule f | xs = h : ts | rs := f ts , ts | return h : rs", "rule f | rs := g ys | return rs", "rule g | return 4 : us"},
		{"rule f | xs = h : ts | ys = k : us | rs := f us , ts | return rs"},
		{"rule f | rs := f 1 : xs , ys | return rs"},
	} {
		list = append(list, source(append([]string{"fun f xs ys : list", "fun g us : list"}, rules...)...))
	}
	return list
}

func TestRunsKeepTheirArguments(t *testing.T) {
	for i, p := range append(returning(), somePrograms()...) {
		p = roomyProgram(p)
		before := describeProgram(p)
		for _, text := range []string{"[] []", "[1] [2]", "[1,2,3] []", "[] [4,5,6]", "[1,2,3] [4,5]", "3 [4]", "3", "", "[] [] []"} {
			args := roomyArgs(valuesOf(text))
			described := describeArgs(args)
			for _, name := range []string{"f", "g", "rev", "len", "zero", "none"} {
				for _, fuel := range []int{-1, 0, 1, 2, 3, limitFuel, limitFuel + 1} {
					impl.RunFunction(p, name, args, fuel)
				}
				impl.MeetsPre(p, name, args)
			}
			for _, v := range args {
				impl.IsValidValue(v)
				impl.SizeOf(v)
				impl.EqualOutcome(ended(v, 1, 2), impl.Outcome{Status: 1, Value: args[0], Calls: 1, Conses: 2})
			}
			if after := describeArgs(args); after != described {
				t.Errorf("the arguments changed from %s to %s", described, after)
			}
			if after := describeProgram(p); after != before {
				t.Fatalf("program %d changed from %s to %s", i, before, after)
			}
		}
	}
}

// TestRunsOfSharedMemory has arguments that are parts of the same memory.
func TestRunsOfSharedMemory(t *testing.T) {
	for _, p := range returning() {
		memory := []int{1, 2, 3, 4, 5, 6, 7, 8}
		for first := range 5 {
			for second := range 5 {
				xs, ys := memory[first:first+3], memory[second:second+2]
				args := []impl.Value{{List: true, Items: xs}, {List: true, Items: ys}}
				apart := []impl.Value{listValue(xs...), listValue(ys...)}
				wantOutcome(t, p, "f", args, limitFuel, outcomeOf(p, "f", apart, limitFuel))
				if fmt.Sprint(memory) != "[1 2 3 4 5 6 7 8]" {
					t.Fatalf("a run of %+v changed its arguments: %v", p, memory)
				}
			}
		}
	}
}

func TestResultsOfRunsAreSeparate(t *testing.T) {
	for _, p := range returning() {
		for _, text := range []string{"[] []", "[1] [2]", "[1,2,3] []", "[] [4,5,6]", "[1,2,3] [4,5]"} {
			args := roomyArgs(valuesOf(text))
			before := describeArgs(args)
			want := outcomeOf(p, "f", args, limitFuel)
			first, second := impl.RunFunction(p, "f", args, limitFuel), impl.RunFunction(p, "f", args, limitFuel)
			given := append(spansOf(reflect.ValueOf(args)), spansOf(reflect.ValueOf(p))...)
			one, other := spansOf(reflect.ValueOf(first)), spansOf(reflect.ValueOf(second))
			if overlap(one, given) || overlap(other, given) || overlap(one, other) {
				t.Fatalf("a result of %+v for %s shares memory with an argument or another result", p, text)
			}
			for i := range first.Value.Items {
				first.Value.Items[i] = 987
			}
			first.Value.Items = append(first.Value.Items, 986, 985)
			if !sameOutcome(second, want) || describeArgs(args) != before || !sameOutcome(impl.RunFunction(p, "f", args, limitFuel), want) {
				t.Fatalf("a change of a result of %+v for %s changed another one or the arguments: %+v", p, text, second)
			}
		}
	}
}
