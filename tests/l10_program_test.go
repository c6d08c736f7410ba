package tests

import (
	"fmt"
	"maps"
	"math"
	"math/rand/v2"
	"slices"
	"strconv"
	"strings"
	"testing"

	"loop.example/g00515/impl"
)

// The limits of the specification, written out as the others are.
const (
	limitFunctions = 3
	limitParams    = 2
	limitPre       = 2
	limitRules     = 8
	limitGuards    = 2
	limitCalls     = 2
)

func function(name string, listResult bool, params ...string) impl.Function {
	return impl.Function{Name: name, ListResult: listResult, Params: slices.Clone(params)}
}

func isNil(list string) impl.Pattern { return impl.Pattern{List: list} }

func isCons(list string, head string, tail string) impl.Pattern {
	return impl.Pattern{List: list, Cons: true, Head: head, Tail: tail}
}

func callOf(bind string, name string, args ...impl.Arg) impl.Call {
	return impl.Call{Bind: bind, Func: name, Args: slices.Clone(args)}
}

// sumOfNames returns the constant plus the names, which must ascend.
func sumOfNames(constant int, names ...string) impl.Sum {
	s := impl.Sum{Const: constant}
	for _, name := range names {
		s.Terms = append(s.Terms, term(1, name))
	}
	return s
}

// integer returns the constant plus the names as an argument.
func integer(constant int, names ...string) impl.Arg {
	return integerArg(sumOfNames(constant, names...))
}

// mixed returns the following valid program, in memory of its own. Its rule
// number 1 has as many patterns, guards and calls as there may be.
//
//	fun rev xs ys : list
//	fun len n xs : int
//	pre len n >= 0
//	pre len -n + xs + 9 >= 0
//	fun zero : int
//	rule rev | xs = nil | return ys
//	rule rev | xs = h : ts | ys = k : us | h - k >= 0 | h + k - 1 >= 0 | m := len h , ts | qs := rev m : ts , us | return h + m : k : qs
//	rule len | xs = nil | return n
//	rule len | xs = h : ts | z := zero | m := len n + z , h : ts | return m + 1
//	rule zero | return 0
func mixed() impl.Program {
	length := function("len", false, "n", "xs")
	length.Pre = []impl.Lin{lin(0, 1, 0), lin(9, -1, 1)}
	return impl.Program{
		Functions: []impl.Function{function("rev", true, "xs", "ys"), length, function("zero", false)},
		Rules: []impl.Rule{
			{Func: "rev", Patterns: []impl.Pattern{isNil("xs")}, Result: listArg("ys")},
			{
				Func:     "rev",
				Patterns: []impl.Pattern{isCons("xs", "h", "ts"), isCons("ys", "k", "us")},
				Guards:   []impl.Sum{sumOf(0, term(1, "h"), term(-1, "k")), sumOfNames(-1, "h", "k")},
				Calls:    []impl.Call{callOf("m", "len", integer(0, "h"), listArg("ts")), callOf("qs", "rev", listArg("ts", sumOfNames(0, "m")), listArg("us"))},
				Result:   listArg("qs", sumOfNames(0, "h", "m"), sumOfNames(0, "k")),
			},
			{Func: "len", Patterns: []impl.Pattern{isNil("xs")}, Result: integer(0, "n")},
			{
				Func:     "len",
				Patterns: []impl.Pattern{isCons("xs", "h", "ts")},
				Calls:    []impl.Call{callOf("z", "zero"), callOf("m", "len", integer(0, "n", "z"), listArg("ts", sumOfNames(0, "h")))},
				Result:   integer(1, "m"),
			},
			{Func: "zero", Result: integer(0)},
		},
	}
}

// withFunctions returns a program without rules.
func withFunctions(list ...impl.Function) impl.Program {
	return impl.Program{Functions: slices.Clone(list)}
}

func sameFunction(a impl.Function, b impl.Function) bool {
	return a.Name == b.Name && a.ListResult == b.ListResult && slices.Equal(a.Params, b.Params) && slices.EqualFunc(a.Pre, b.Pre, sameLin)
}

// The following functions say what the document requires, in other ways than
// the program.

// introduced is a name that a rule introduces, and the number of calls after
// which it is visible.
type introduced struct {
	name  string
	after int
}

// introductionsOf returns the names in the order of ScopeOf, or false if the
// function of the rule does not exist.
func introductionsOf(p impl.Program, r impl.Rule) ([]introduced, bool) {
	k := functionIndex(p, r.Func)
	if k < 0 {
		return nil, false
	}
	var list []introduced
	for _, name := range p.Functions[k].Params {
		list = append(list, introduced{name, 0})
	}
	for _, x := range r.Patterns {
		if x.Cons {
			list = append(list, introduced{x.Head, 0}, introduced{x.Tail, 0})
		}
	}
	for i, c := range r.Calls {
		list = append(list, introduced{c.Bind, i + 1})
	}
	return list, true
}

func functionIndex(p impl.Program, name string) int {
	return slices.IndexFunc(p.Functions, func(f impl.Function) bool { return f.Name == name })
}

// scopeAfter returns what ScopeOf has to return.
func scopeAfter(p impl.Program, r impl.Rule, n int) []string {
	list, ok := introductionsOf(p, r)
	if !ok || n < 0 || n > len(r.Calls) {
		return nil
	}
	var names []string
	for _, x := range list {
		if x.after <= n {
			names = append(names, x.name)
		}
	}
	return names
}

// ruleFaults are the ways in which a rule may be wrong.
func ruleFaults() []string {
	return []string{
		"function", "list of a pattern", "same list", "names of an empty pattern", "head", "tail",
		"number of guards", "guard", "names of a guard", "number of calls", "called function", "bind",
		"number of arguments", "argument", "kind of an argument", "names of an argument",
		"result", "kind of the result", "names of the result", "same names",
	}
}

// faultsOf returns everything that is wrong with a rule.
func faultsOf(p impl.Program, r impl.Rule) map[string]bool {
	faults := map[string]bool{}
	names, ok := introductionsOf(p, r)
	if !ok {
		return map[string]bool{"function": true}
	}
	unseen := func(used []string, after int) bool {
		return slices.ContainsFunc(used, func(name string) bool {
			return !slices.ContainsFunc(names, func(x introduced) bool { return x.name == name && x.after <= after })
		})
	}
	note := func(fault string, wrong bool) {
		if wrong {
			faults[fault] = true
		}
	}
	for i, x := range names {
		note("same names", slices.ContainsFunc(names[:i], func(y introduced) bool { return y.name == x.name }))
	}
	f := p.Functions[functionIndex(p, r.Func)]
	for i, x := range r.Patterns {
		note("list of a pattern", !slices.Contains(f.Params, x.List) || !isListName(x.List))
		note("same list", slices.ContainsFunc(r.Patterns[:i], func(y impl.Pattern) bool { return y.List == x.List }))
		note("names of an empty pattern", !x.Cons && x.Head+x.Tail != "")
		note("head", x.Cons && !isIntegerName(x.Head))
		note("tail", x.Cons && !isListName(x.Tail))
	}
	note("number of guards", len(r.Guards) > limitGuards)
	for _, g := range r.Guards {
		note("guard", !isSum(g))
		note("names of a guard", unseen(usedNames(impl.Arg{Heads: []impl.Sum{g}}), 0))
	}
	note("number of calls", len(r.Calls) > limitCalls)
	for i, c := range r.Calls {
		noteCall(p, c, note, func(used []string) bool { return unseen(used, i) })
	}
	note("result", !isArg(r.Result))
	note("kind of the result", r.Result.List != f.ListResult)
	note("names of the result", unseen(usedNames(r.Result), len(r.Calls)))
	return faults
}

// noteCall notes everything that is wrong with a call.
func noteCall(p impl.Program, c impl.Call, note func(string, bool), unseen func([]string) bool) {
	for _, a := range c.Args {
		note("argument", !isArg(a))
		note("names of an argument", unseen(usedNames(a)))
	}
	k := functionIndex(p, c.Func)
	if k < 0 {
		note("called function", true)
		return
	}
	g := p.Functions[k]
	if g.ListResult {
		note("bind", !isListName(c.Bind))
	} else {
		note("bind", !isIntegerName(c.Bind))
	}
	note("number of arguments", len(c.Args) != len(g.Params))
	for i := range min(len(c.Args), len(g.Params)) {
		note("kind of an argument", c.Args[i].List != isListName(g.Params[i]))
	}
}

// usedNames returns the names that occur in an argument, as often as they do.
func usedNames(a impl.Arg) []string {
	var names []string
	for _, s := range a.Heads {
		for _, x := range s.Terms {
			names = append(names, x.Name)
		}
	}
	if a.Base != "" {
		names = append(names, a.Base)
	}
	return names
}

func isRule(p impl.Program, r impl.Rule) bool { return len(faultsOf(p, r)) == 0 }

// programFaults are the ways in which a program may be wrong.
func programFaults() []string {
	return []string{
		"number of functions", "name", "same functions", "number of parameters", "parameter", "same parameters",
		"number of preconditions", "precondition", "number of rules", "rule",
	}
}

// faultsOfProgram returns everything that is wrong with a program.
func faultsOfProgram(p impl.Program) map[string]bool {
	faults := map[string]bool{}
	note := func(fault string, wrong bool) {
		if wrong {
			faults[fault] = true
		}
	}
	note("number of functions", len(p.Functions) < 1 || len(p.Functions) > limitFunctions)
	for i, f := range p.Functions {
		note("name", !isIntegerName(f.Name))
		note("same functions", functionIndex(p, f.Name) != i)
		note("number of parameters", len(f.Params) > limitParams)
		for j, name := range f.Params {
			note("parameter", !isName(name))
			note("same parameters", slices.Index(f.Params, name) != j)
		}
		note("number of preconditions", len(f.Pre) > limitPre)
		for _, l := range f.Pre {
			numbers := append(slices.Clone(l.Coeffs), l.Const)
			note("precondition", len(l.Coeffs) != len(f.Params) || !withinCoeff(slices.Max(numbers)) || !withinCoeff(slices.Min(numbers)))
		}
	}
	note("number of rules", len(p.Rules) > limitRules)
	for _, r := range p.Rules {
		note("rule", !isRule(p, r))
	}
	return faults
}

func wantProgram(t *testing.T, p impl.Program, want bool) {
	t.Helper()
	if faults := faultsOfProgram(p); (len(faults) == 0) != want {
		t.Errorf("the test is wrong: %v has the faults %v", p, faults)
	}
	if got := impl.IsValidProgram(p); got != want {
		t.Errorf("IsValidProgram(%+v) = %t", p, got)
	}
}

func wantRule(t *testing.T, p impl.Program, r impl.Rule, want bool) {
	t.Helper()
	if faults := faultsOf(p, r); (len(faults) == 0) != want {
		t.Errorf("the test is wrong: %v has the faults %v", r, faults)
	}
	if got := impl.IsValidRule(p, r); got != want {
		t.Errorf("IsValidRule(%+v, %+v) = %t", p, r, got)
	}
	if alone := withFunctions(p.Functions...); len(faultsOfProgram(alone)) == 0 {
		alone.Rules = []impl.Rule{r}
		wantProgram(t, alone, want)
	}
}

// wantChanged expects that a rule of mixed is valid or not after a change.
func wantChanged(t *testing.T, k int, want bool, change func(r *impl.Rule)) {
	t.Helper()
	p := mixed()
	change(&p.Rules[k])
	wantRule(t, mixed(), p.Rules[k], want)
	wantProgram(t, p, want)
}

// wantAltered expects that mixed is valid or not after a change.
func wantAltered(t *testing.T, want bool, change func(p *impl.Program)) {
	t.Helper()
	p := mixed()
	change(&p)
	wantProgram(t, p, want)
}

func TestLimitsOfPrograms(t *testing.T) {
	got := []int{impl.MaxFunctions, impl.MaxParams, impl.MaxPre, impl.MaxRules, impl.MaxGuards, impl.MaxCalls}
	if want := []int{limitFunctions, limitParams, limitPre, limitRules, limitGuards, limitCalls}; !slices.Equal(got, want) {
		t.Errorf("the limits are %v, want %v", got, want)
	}
}

func wantFunction(t *testing.T, p impl.Program, name string, want impl.Function, ok bool) {
	t.Helper()
	if got, gotOk := impl.FindFunction(p, name); !sameFunction(got, want) || gotOk != ok {
		t.Errorf("FindFunction(%v, %q) = %v, %t, want %v, %t", p, name, got, gotOk, want, ok)
	}
}

func TestFindFunction(t *testing.T) {
	for _, f := range mixed().Functions {
		wantFunction(t, mixed(), f.Name, f, true)
	}
	for _, name := range []string{"", "re", "reve", "revs", "Rev", "rev ", " rev", "rev\x00", "n", "xs", "h", "ys", "nil", "\xff"} {
		wantFunction(t, mixed(), name, impl.Function{}, false)
	}
	for _, name := range []string{"", "rev", "xs", "nil"} {
		wantFunction(t, impl.Program{}, name, impl.Function{}, false)
		wantFunction(t, impl.Program{Functions: []impl.Function{}, Rules: mixed().Rules}, name, impl.Function{}, false)
	}
}

func TestFindFunctionOfSeveral(t *testing.T) {
	a, b, c := function("f", true, "xs"), function("f", false, "n", "m"), function("g", false)
	b.Pre = []impl.Lin{lin(1, 2, 3)}
	wantFunction(t, withFunctions(a, b), "f", a, true)
	wantFunction(t, withFunctions(b, a), "f", b, true)
	wantFunction(t, withFunctions(c, b, a, b), "f", b, true)
	wantFunction(t, withFunctions(c, a, b), "f", a, true)
	wantFunction(t, withFunctions(a, b, c), "g", c, true)
	wantFunction(t, withFunctions(a, b, c), "h", impl.Function{}, false)
}

// oddFunctions returns functions that are not valid.
func oddFunctions() []impl.Function {
	list := []impl.Function{
		function("", true), function("fs", false, "n"), function("nil", true, "xs"), function("F", false), function("abcdefghi", true),
		function("a", true, "n", "n"), function("b", false, "n", "m", "k"), function("c", true, ""), function("d", false, "N", "nil"),
	}
	pre := [][]impl.Lin{
		{lin(1)}, {lin(1, 2), lin(3, 4), lin(5, 6)}, {lin(limitCoeff+1, 0)}, {lin(0, math.MinInt)}, {lin(1, 2, 3, 4)}, {lin(0, 1), {}},
	}
	for i, rows := range pre {
		f := function("p"+strconv.Itoa(i), i%2 == 0, "n")
		f.Pre = rows
		list = append(list, f)
	}
	return list
}

// TestFindOddFunctions finds functions in a program that is not valid.
func TestFindOddFunctions(t *testing.T) {
	list := oddFunctions()
	for i, f := range list {
		wantFunction(t, withFunctions(list...), f.Name, f, true)
		wantFunction(t, withFunctions(list[:i]...), f.Name, impl.Function{}, false)
		wantFunction(t, withFunctions(slices.Concat(list[i:], list[:i])...), f.Name, f, true)
		wantProgram(t, withFunctions(f), false)
	}
}

func wantScope(t *testing.T, p impl.Program, r impl.Rule, n int, want ...string) {
	t.Helper()
	if expected := scopeAfter(p, r, n); !slices.Equal(expected, want) {
		t.Errorf("the test is wrong: %q after %d calls of %v", expected, n, r)
	}
	if got := impl.ScopeOf(p, r, n); !slices.Equal(got, want) {
		t.Errorf("ScopeOf(%v, %v, %d) = %q, want %q", p, r, n, got, want)
	}
}

// wantScopes checks the scopes after every number of calls, and after numbers
// that there are not.
func wantScopes(t *testing.T, p impl.Program, r impl.Rule) {
	t.Helper()
	for n := range len(r.Calls) + 1 {
		wantScope(t, p, r, n, scopeAfter(p, r, n)...)
	}
	for _, n := range []int{-1, len(r.Calls) + 1, -2, len(r.Calls) + 2, limitCalls + 1, 100, math.MinInt, math.MaxInt} {
		if n < 0 || n > len(r.Calls) {
			wantScope(t, p, r, n)
		}
	}
}

func TestScopeOf(t *testing.T) {
	p := mixed()
	wantScope(t, p, p.Rules[0], -1)
	wantScope(t, p, p.Rules[0], 0, "xs", "ys")
	wantScope(t, p, p.Rules[0], 1)
	wantScope(t, p, p.Rules[1], -1)
	wantScope(t, p, p.Rules[1], 0, "xs", "ys", "h", "ts", "k", "us")
	wantScope(t, p, p.Rules[1], 1, "xs", "ys", "h", "ts", "k", "us", "m")
	wantScope(t, p, p.Rules[1], 2, "xs", "ys", "h", "ts", "k", "us", "m", "qs")
	wantScope(t, p, p.Rules[1], 3)
	wantScope(t, p, p.Rules[2], 0, "n", "xs")
	wantScope(t, p, p.Rules[3], 1, "n", "xs", "h", "ts", "z")
	wantScope(t, p, p.Rules[3], 2, "n", "xs", "h", "ts", "z", "m")
	wantScope(t, p, p.Rules[4], 0)
	for _, r := range p.Rules {
		wantScopes(t, p, r)
	}
}

func TestScopeOfFunctionsThatDoNotExist(t *testing.T) {
	for _, name := range []string{"", "re", "revs", "Rev", "xs", "nil", "\xff"} {
		for _, r := range mixed().Rules {
			r.Func = name
			for n := -1; n <= len(r.Calls)+1; n++ {
				wantScope(t, mixed(), r, n)
				wantScope(t, impl.Program{}, r, n)
			}
		}
	}
}

func TestScopeOfTheFirstFunction(t *testing.T) {
	r := impl.Rule{Func: "f", Patterns: []impl.Pattern{isCons("xs", "h", "ts")}, Calls: []impl.Call{callOf("r", "f")}}
	a, b := function("f", true, "xs"), function("f", true, "n", "ys")
	wantScope(t, withFunctions(a, b), r, 1, "xs", "h", "ts", "r")
	wantScope(t, withFunctions(b, a), r, 1, "n", "ys", "h", "ts", "r")
	wantScope(t, withFunctions(function("g", true, "k"), b, a), r, 0, "n", "ys", "h", "ts")
}

// TestScopeOfPatterns has patterns of both kinds in each order.
func TestScopeOfPatterns(t *testing.T) {
	choices := []impl.Pattern{isNil("xs"), isNil("ys"), isCons("xs", "h", "ts"), isCons("ys", "k", "us"), isCons("n", "", ""), {List: "ys", Head: "g", Tail: "gs"}}
	added := [][]string{nil, nil, {"h", "ts"}, {"k", "us"}, {"", ""}, nil}
	for size := range 4 {
		for _, point := range pointsOf(size, 0, len(choices)-1) {
			r := impl.Rule{Func: "rev", Calls: []impl.Call{callOf("m", "zero")}}
			want := []string{"xs", "ys"}
			for _, i := range point {
				r.Patterns = append(r.Patterns, choices[i])
				want = append(want, added[i]...)
			}
			wantScope(t, mixed(), r, 0, want...)
			wantScope(t, mixed(), r, 1, append(want, "m")...)
		}
	}
}

// TestScopeOfInvalidRules has rules and functions with all kinds of faults,
// which have scopes all the same.
func TestScopeOfInvalidRules(t *testing.T) {
	names := []string{"", "n", "xs", "nil", "N", "\xff", "xs xs", "abcdefghi"}
	for _, a := range names {
		for _, b := range names {
			f := function("f", true, a, b, a)
			r := impl.Rule{
				Func:     "f",
				Patterns: []impl.Pattern{isCons(a, b, a), {List: b, Head: a, Tail: b}, isCons(a, a, b)},
				Guards:   make([]impl.Sum, limitGuards+1),
				Calls:    []impl.Call{callOf(b, a), callOf(a, b, integer(0)), callOf(a, "f"), callOf(b, "")},
				Result:   impl.Arg{Base: a},
			}
			wantScope(t, withFunctions(f), r, 0, a, b, a, b, a, a, b)
			wantScope(t, withFunctions(f), r, 1, a, b, a, b, a, a, b, b)
			wantScope(t, withFunctions(f), r, 4, a, b, a, b, a, a, b, b, a, a, b)
			wantScopes(t, withFunctions(f), r)
			wantRule(t, withFunctions(f), r, false)
		}
	}
	for _, f := range oddFunctions() {
		wantScopes(t, withFunctions(f), impl.Rule{Func: f.Name, Patterns: []impl.Pattern{isCons("xs", "h", "ts")}, Calls: []impl.Call{callOf("m", "g")}})
	}
}

// TestScopeOfLargeRules has more patterns and calls than one would write.
func TestScopeOfLargeRules(t *testing.T) {
	const size = 200000
	p, r := mixed(), impl.Rule{Func: "rev", Patterns: make([]impl.Pattern, size), Calls: make([]impl.Call, size)}
	for i := range size {
		r.Patterns[i].Cons = i%2 == 0
		r.Calls[i].Bind = "m" + strconv.Itoa(i)
	}
	for _, n := range []int{0, 1, size - 1, size} {
		if got := impl.ScopeOf(p, r, n); len(got) != 2+size+n || n > 0 && got[1+size+n] != r.Calls[n-1].Bind {
			t.Errorf("ScopeOf returns %d names after %d calls", len(got), n)
		}
	}
	if len(impl.ScopeOf(p, r, size+1)) != 0 || impl.IsValidRule(p, r) {
		t.Errorf("a rule with %d calls", size)
	}
}

func TestRulesOfMixed(t *testing.T) {
	p := mixed()
	wantProgram(t, p, true)
	for _, r := range p.Rules {
		wantRule(t, p, r, true)
		for _, name := range []string{"", "re", "revs", "Rev", "xs", "nil", "\xff"} {
			r.Func = name
			wantRule(t, p, r, false)
		}
		r.Func = "rev"
		wantRule(t, impl.Program{}, r, false)
		wantRule(t, impl.Program{Rules: p.Rules}, r, false)
	}
}

func TestPatternsOfRules(t *testing.T) {
	lists := func(want bool, patterns ...impl.Pattern) {
		t.Helper()
		wantChanged(t, 0, want, func(r *impl.Rule) { r.Patterns = patterns })
	}
	lists(true)
	lists(true, isNil("xs"))
	lists(true, isNil("ys"))
	lists(true, isNil("xs"), isNil("ys"))
	lists(true, isNil("ys"), isNil("xs"))
	lists(true, isCons("xs", "h", "ts"))
	lists(true, isCons("ys", "h", "ts"), isNil("xs"))
	lists(true, isNil("xs"), isCons("ys", "h", "ts"))
	lists(true, isCons("ys", "h", "ts"), isCons("xs", "k", "us"))
	lists(true, isCons("xs", "rev", "s"))
	lists(true, isCons("xs", "a1234567", "a123456s"))
	lists(false, isNil("xs"), isNil("xs"))
	lists(false, isNil("xs"), isCons("xs", "h", "ts"))
	lists(false, isCons("xs", "h", "ts"), isNil("xs"))
	lists(false, isCons("xs", "h", "ts"), isCons("xs", "k", "us"))
	lists(false, isNil("xs"), isNil("ys"), isNil("xs"))
	lists(false, isNil("xs"), isNil("ys"), isNil("ys"))
	lists(false, isCons("xs", "h", "ts"), isNil("ts"))
	lists(false, isCons("xs", "h", "ts"), isCons("ts", "k", "us"))
	for _, list := range []string{"", "x", "n", "zs", "rev", "nil", "Xs", "xs ", "xs\x00", "\xff"} {
		lists(false, isNil(list))
		lists(false, isCons(list, "h", "ts"))
		lists(false, isNil("xs"), isNil(list))
		lists(false, isNil(list), isNil("ys"))
	}
	wantChanged(t, 2, false, func(r *impl.Rule) { r.Patterns[0].List = "n" })
	wantChanged(t, 2, false, func(r *impl.Rule) { r.Patterns[0] = isCons("n", "h", "ts") })
	wantChanged(t, 2, false, func(r *impl.Rule) { r.Patterns[0].List = "ys" })
	wantChanged(t, 2, false, func(r *impl.Rule) { r.Patterns = append(r.Patterns, isNil("n")) })
	wantChanged(t, 4, false, func(r *impl.Rule) { r.Patterns = []impl.Pattern{isNil("xs")} })
}

// TestPatternsOfInvalidFunctions has parameters that no valid function has.
func TestPatternsOfInvalidFunctions(t *testing.T) {
	p := withFunctions(function("f", false, "XS", "s", "", "nil", "toolongns", "as", "bs", "n"))
	rule := func(want bool, lists ...string) {
		t.Helper()
		r := impl.Rule{Func: "f", Result: integer(0)}
		for _, list := range lists {
			r.Patterns = append(r.Patterns, isNil(list))
		}
		wantRule(t, p, r, want)
	}
	rule(true)
	rule(true, "s")
	rule(true, "bs", "as", "s")
	for _, list := range []string{"XS", "", "nil", "toolongns", "n"} {
		rule(false, list)
		rule(false, "as", list)
	}
	rule(false, "bs", "as", "s", "bs")
}

func TestNamesOfPatterns(t *testing.T) {
	for _, name := range []string{"h", "ts", "nil", "H", " ", "\xff", "xs", "n"} {
		wantChanged(t, 0, false, func(r *impl.Rule) { r.Patterns[0].Head = name })
		wantChanged(t, 0, false, func(r *impl.Rule) { r.Patterns[0].Tail = name })
		wantChanged(t, 0, false, func(r *impl.Rule) { r.Patterns = []impl.Pattern{isNil("ys"), {List: "xs", Head: name, Tail: name}} })
		wantChanged(t, 0, false, func(r *impl.Rule) { r.Patterns = []impl.Pattern{{List: "xs", Head: name}, isCons("ys", "k", "us")} })
	}
	for _, name := range []string{"", "hs", "s", "nil", "H", "1", "h ", "\xff", "abcdefghi", "fun", "rule", "h-"} {
		wantChanged(t, 0, false, func(r *impl.Rule) { r.Patterns[0] = isCons("xs", name, "ts") })
		wantChanged(t, 0, false, func(r *impl.Rule) { r.Patterns = []impl.Pattern{isNil("xs"), isCons("ys", name, "ts")} })
	}
	for _, name := range []string{"", "t", "n1", "nil", "TS", "1s", "ts ", "\xff", "abcdefghs", "pre", "return", "t-s"} {
		wantChanged(t, 0, false, func(r *impl.Rule) { r.Patterns[0] = isCons("xs", "h", name) })
		wantChanged(t, 0, false, func(r *impl.Rule) { r.Patterns = []impl.Pattern{isCons("ys", "h", name), isNil("xs")} })
	}
	wantChanged(t, 0, false, func(r *impl.Rule) { r.Patterns[0].Cons = true })
	wantChanged(t, 1, false, func(r *impl.Rule) { r.Patterns[1].Cons = false })
}

func TestGuardsOfRules(t *testing.T) {
	guards := func(want bool, list ...impl.Sum) {
		t.Helper()
		wantChanged(t, 1, want, func(r *impl.Rule) { r.Guards = list })
		wantChanged(t, 3, want, func(r *impl.Rule) {
			r.Guards = headsOf(list)
			for _, g := range r.Guards {
				for j := range g.Terms {
					if g.Terms[j].Name == "k" {
						g.Terms[j].Name = "n"
					}
				}
			}
		})
	}
	guards(true)
	for size := range limitGuards + 3 {
		guards(size <= limitGuards, make([]impl.Sum, size)...)
		guards(size <= limitGuards, slices.Repeat([]impl.Sum{sumOfNames(1, "h", "k")}, size)...)
	}
	guards(true, sumOf(limitNumber))
	guards(true, sumOf(0, term(-limitNumber, "h")))
	guards(true, sumOf(7, term(3, "h"), term(-2, "k")), sumOf(-1))
	for _, s := range invalidSums() {
		guards(false, s)
		guards(false, sumOfNames(0, "h"), s)
		guards(false, s, sumOfNames(0, "h"))
	}
	for _, name := range []string{"xs", "ts", "us", "rev", "zero", "m", "qs", "z", "x", "g", "hh", "nil", "", "H", "\xff"} {
		guards(false, sumOfNames(0, name))
		guards(false, sumOfNames(0, "h"), sumOfNames(0, name))
		guards(false, sumOfNames(0, name), sumOfNames(0, "h"))
		guards(false, sumOf(0, term(1, "h"), term(1, name)))
		guards(false, sumOf(0, term(1, name), term(1, "k")))
	}
}

// TestNamesOfGuards has names that are parameters, heads, results of calls,
// which are not visible yet, or unknown.
func TestNamesOfGuards(t *testing.T) {
	for _, name := range []string{"n", "h", "m", "z", "k", "len", "zero"} {
		visible := name == "n" || name == "h"
		wantChanged(t, 3, visible, func(r *impl.Rule) { r.Guards = []impl.Sum{sumOfNames(0, name)} })
		wantChanged(t, 3, visible, func(r *impl.Rule) { r.Guards = []impl.Sum{sumOfNames(0, "h", "n"), sumOfNames(0, name)} })
		wantChanged(t, 2, name == "n", func(r *impl.Rule) { r.Guards = []impl.Sum{sumOfNames(0, name)} })
		wantChanged(t, 4, false, func(r *impl.Rule) { r.Guards = []impl.Sum{sumOfNames(0, name)} })
	}
	// The pattern that introduces a name may stand behind another one, but the
	// pattern for the empty list introduces none.
	wantChanged(t, 0, true, func(r *impl.Rule) {
		r.Patterns, r.Guards = []impl.Pattern{isNil("xs"), isCons("ys", "h", "ts")}, []impl.Sum{sumOfNames(0, "h")}
	})
	wantChanged(t, 0, false, func(r *impl.Rule) {
		r.Patterns, r.Guards = []impl.Pattern{isNil("xs"), isNil("ys")}, []impl.Sum{sumOfNames(0, "h")}
	})
	wantChanged(t, 0, false, func(r *impl.Rule) {
		r.Patterns, r.Guards = []impl.Pattern{{List: "xs", Head: "h"}}, []impl.Sum{sumOfNames(0, "h")}
	})
}

func TestNumberOfCalls(t *testing.T) {
	for size := range limitCalls + 3 {
		wantChanged(t, 4, size <= limitCalls, func(r *impl.Rule) {
			r.Calls = nil
			for i := range size {
				r.Calls = append(r.Calls, callOf("z"+strconv.Itoa(i), "zero"))
			}
		})
	}
	wantChanged(t, 1, true, func(r *impl.Rule) { r.Calls, r.Result = r.Calls[:1], listArg("us", sumOfNames(0, "m")) })
	wantChanged(t, 1, false, func(r *impl.Rule) { r.Calls = append(r.Calls, callOf("z", "zero")) })
}

func TestCalledFunctions(t *testing.T) {
	for _, name := range []string{"", "re", "lens", "Len", "m", "xs", "h", "nil", "fun", "\xff"} {
		for i := range 2 {
			wantChanged(t, 1, false, func(r *impl.Rule) { r.Calls[i].Func = name })
			wantChanged(t, 3, false, func(r *impl.Rule) { r.Calls[i].Func = name })
		}
		wantChanged(t, 4, false, func(r *impl.Rule) { r.Calls = []impl.Call{callOf("z", name)} })
	}
	wantChanged(t, 1, false, func(r *impl.Rule) { r.Calls[0].Func = "rev" })
	wantChanged(t, 1, false, func(r *impl.Rule) { r.Calls[1].Func = "len" })
	wantChanged(t, 1, false, func(r *impl.Rule) { r.Calls[0].Func = "zero" })
	wantChanged(t, 4, true, func(r *impl.Rule) { r.Calls = []impl.Call{callOf("z", "zero")} })
	wantChanged(t, 4, true, func(r *impl.Rule) { r.Calls = []impl.Call{callOf("zero", "zero")} })
	wantChanged(t, 4, true, func(r *impl.Rule) { r.Calls = []impl.Call{callOf("z", "len", integer(1), listArg("", sumOf(2)))} })
	wantChanged(t, 4, true, func(r *impl.Rule) { r.Calls = []impl.Call{callOf("zs", "rev", listArg(""), listArg(""))} })
}

// TestCallsOfTheFirstFunction has two functions of one name.
func TestCallsOfTheFirstFunction(t *testing.T) {
	a, b := function("g", true, "xs"), function("g", false, "n", "m")
	f := function("f", false)
	first := impl.Rule{Func: "f", Calls: []impl.Call{callOf("rs", "g", listArg(""))}, Result: integer(0)}
	second := impl.Rule{Func: "f", Calls: []impl.Call{callOf("r", "g", integer(0), integer(1))}, Result: integer(0)}
	wantRule(t, withFunctions(f, a, b), first, true)
	wantRule(t, withFunctions(f, a, b), second, false)
	wantRule(t, withFunctions(b, f, a), first, false)
	wantRule(t, withFunctions(b, f, a), second, true)
	wantRule(t, withFunctions(a, b), impl.Rule{Func: "g", Result: listArg("xs")}, true)
	wantRule(t, withFunctions(a, b), impl.Rule{Func: "g", Result: integer(0, "n")}, false)
	wantRule(t, withFunctions(b, a), impl.Rule{Func: "g", Result: integer(0, "n")}, true)
}

func TestBindsOfCalls(t *testing.T) {
	bind := func(want bool, name string, bind string, args ...impl.Arg) {
		t.Helper()
		wantChanged(t, 0, want, func(r *impl.Rule) { r.Calls = []impl.Call{callOf(bind, name, args...)} })
		wantChanged(t, 0, want, func(r *impl.Rule) { r.Calls = []impl.Call{callOf("g1", "zero"), callOf(bind, name, args...)} })
		wantChanged(t, 0, want, func(r *impl.Rule) { r.Calls = []impl.Call{callOf(bind, name, args...), callOf("g1", "zero")} })
	}
	for _, name := range []string{"r", "m", "rev", "len", "zero", "a", "z9", "abcdefgh", "nil1"} {
		bind(true, "zero", name)
		bind(true, "len", name, integer(0), listArg("xs"))
		bind(false, "rev", name, listArg("xs"), listArg("ys"))
	}
	for _, name := range []string{"rs", "s", "qs", "lens", "abcdefgs", "nils"} {
		bind(false, "zero", name)
		bind(false, "len", name, integer(0), listArg("xs"))
		bind(true, "rev", name, listArg("xs"), listArg("ys"))
	}
	for _, name := range []string{"", "nil", "fun", "R", "RS", "rS", "1", "1s", "r ", " rs", "rs\x00", "\xff", "abcdefghi", "abcdefghs"} {
		bind(false, "zero", name)
		bind(false, "len", name, integer(0), listArg("xs"))
		bind(false, "rev", name, listArg("xs"), listArg("ys"))
	}
}

func TestNumberOfArguments(t *testing.T) {
	for size := range 5 {
		lists := slices.Repeat([]impl.Arg{listArg("xs")}, size)
		wantChanged(t, 0, size == 2, func(r *impl.Rule) { r.Calls = []impl.Call{callOf("rs", "rev", lists...)} })
		numbers := append([]impl.Arg{integer(0)}, lists...)
		wantChanged(t, 0, size == 1, func(r *impl.Rule) { r.Calls = []impl.Call{callOf("r", "len", numbers...)} })
		wantChanged(t, 0, size == 0, func(r *impl.Rule) { r.Calls = []impl.Call{callOf("r", "zero", lists...)} })
		wantChanged(t, 0, false, func(r *impl.Rule) { r.Calls = []impl.Call{callOf("r", "zero", numbers...)} })
	}
	for i := range 2 {
		wantChanged(t, 1, false, func(r *impl.Rule) { r.Calls[i].Args = r.Calls[i].Args[:1] })
		wantChanged(t, 1, false, func(r *impl.Rule) { r.Calls[i].Args = r.Calls[i].Args[1:] })
		wantChanged(t, 1, false, func(r *impl.Rule) { r.Calls[i].Args = nil })
		wantChanged(t, 1, false, func(r *impl.Rule) { r.Calls[i].Args = append(r.Calls[i].Args, integer(0)) })
		wantChanged(t, 1, false, func(r *impl.Rule) { r.Calls[i].Args = append(r.Calls[i].Args, listArg("")) })
	}
}

// visibleArgs returns valid arguments of both forms that use only xs and ys.
func visibleArgs() (integers []impl.Arg, lists []impl.Arg) {
	integers = []impl.Arg{integer(0), integer(limitNumber), integer(-limitNumber)}
	lists = []impl.Arg{
		listArg(""), listArg("xs"), listArg("ys"), listArg("", sumOf(1)), listArg("xs", sumOf(1), sumOf(-2)), listArg("ys", make([]impl.Sum, limitHeads)...),
	}
	return integers, lists
}

// invalidArgs returns arguments of both forms that are not valid.
func invalidArgs() []impl.Arg {
	list := []impl.Arg{
		{}, {Base: "xs"}, {Heads: make([]impl.Sum, 1), Base: "xs"}, {Heads: make([]impl.Sum, 2)}, {Heads: make([]impl.Sum, 1), Base: "nil"},
		{List: true, Heads: make([]impl.Sum, limitHeads+1)}, {List: true, Heads: make([]impl.Sum, limitHeads+1), Base: "xs"},
		{List: true, Base: "n"}, {List: true, Base: "nil"}, {List: true, Base: "XS"}, {List: true, Base: "toolongns"}, {List: true, Base: "\xff"},
	}
	for _, s := range invalidSums() {
		list = append(list, integerArg(s), listArg("", s), listArg("xs", s), listArg("xs", sumOf(0), s))
	}
	return list
}

func TestKindsOfArguments(t *testing.T) {
	integers, lists := visibleArgs()
	arguments := func(want bool, bind string, name string, args ...impl.Arg) {
		t.Helper()
		wantChanged(t, 0, want, func(r *impl.Rule) { r.Calls = []impl.Call{callOf(bind, name, args...)} })
		wantChanged(t, 0, want, func(r *impl.Rule) { r.Calls = []impl.Call{callOf("g1", "zero"), callOf(bind, name, args...)} })
	}
	for _, n := range integers {
		for _, xs := range lists {
			arguments(true, "r", "len", n, xs)
			arguments(false, "r", "len", xs, n)
			arguments(false, "r", "len", xs, xs)
			arguments(false, "r", "len", n, n)
			arguments(true, "rs", "rev", xs, xs)
			arguments(false, "rs", "rev", n, xs)
			arguments(false, "rs", "rev", xs, n)
			arguments(false, "rs", "rev", n, n)
		}
	}
	for _, a := range invalidArgs() {
		arguments(false, "r", "len", a, listArg("xs"))
		arguments(false, "r", "len", integer(0), a)
		arguments(false, "rs", "rev", a, listArg("xs"))
		arguments(false, "rs", "rev", listArg("xs"), a)
		arguments(false, "r", "zero", a)
	}
}

// TestKindsOfOddParameters calls a function whose parameters are not valid.
func TestKindsOfOddParameters(t *testing.T) {
	for _, name := range []string{"", "nil", "N", "XS", "toolongns", "\xff", "n", "xs"} {
		p := withFunctions(function("f", false), function("g", false, name))
		rule := func(a impl.Arg) impl.Rule {
			return impl.Rule{Func: "f", Calls: []impl.Call{callOf("r", "g", a)}, Result: integer(0)}
		}
		wantRule(t, p, rule(integer(0)), name != "xs")
		wantRule(t, p, rule(listArg("")), name == "xs")
	}
}

// twins returns a program with two functions that differ in their results:
//
//	fun f n xs : int
//	fun g n xs : list
func twins() impl.Program {
	return withFunctions(function("f", false, "n", "xs"), function("g", true, "n", "xs"))
}

// twinRule returns a valid rule of one of the twins, in which the other calls
// are bound to these names, one after the other.
func twinRule(owner string, binds ...string) impl.Rule {
	r := impl.Rule{Func: owner, Patterns: []impl.Pattern{isCons("xs", "h", "ts")}, Result: integer(0)}
	if owner == "g" {
		r.Result = listArg("")
	}
	for _, name := range binds {
		callee := "f"
		if isListName(name) {
			callee = "g"
		}
		r.Calls = append(r.Calls, callOf(name, callee, integer(0), listArg("")))
	}
	return r
}

// TestNamesOfArguments uses, in both arguments of each call and in the result,
// names that are visible, that are not visible yet, and that are unknown.
func TestNamesOfArguments(t *testing.T) {
	names := []string{"n", "h", "xs", "ts", "a", "as", "b", "bs", "k", "ks", "f", "g", "nn", "xxs"}
	for _, binds := range [][]string{{}, {"a"}, {"as"}, {"a", "b"}, {"a", "bs"}, {"as", "b"}, {"as", "bs"}} {
		for _, owner := range []string{"f", "g"} {
			wantRule(t, twins(), twinRule(owner, binds...), true)
			for _, name := range names {
				after := slices.Index(binds, name) + 1
				known := after > 0 || slices.Contains([]string{"n", "h", "xs", "ts"}, name)
				for place := range binds {
					for _, a := range argsOfName(name) {
						r := twinRule(owner, binds...)
						if a.List {
							r.Calls[place].Args[1] = a
						} else {
							r.Calls[place].Args[0] = a
						}
						wantRule(t, twins(), r, known && after <= place)
					}
				}
				for _, a := range argsOfName(name) {
					if r := twinRule(owner, binds...); a.List == r.Result.List {
						r.Result = a
						wantRule(t, twins(), r, known)
					}
				}
			}
		}
	}
}

// argsOfName returns valid arguments that use a name.
func argsOfName(name string) []impl.Arg {
	if isListName(name) {
		return []impl.Arg{listArg(name), listArg(name, sumOf(1)), listArg(name, sumOfNames(0, "n"))}
	}
	s := sumOf(2, term(-3, name))
	list := []impl.Arg{integerArg(s), listArg("", s), listArg("xs", s), listArg("xs", sumOf(1), s), listArg("xs", s, sumOfNames(0, "n"))}
	switch {
	case name < "n":
		list = append(list, integer(0, name, "n"))
	case name > "n":
		list = append(list, integer(0, "n", name))
	}
	return list
}

func TestResultsOfRules(t *testing.T) {
	integers, lists := visibleArgs()
	for _, a := range integers {
		wantChanged(t, 4, true, func(r *impl.Rule) { r.Result = a })
		wantChanged(t, 2, true, func(r *impl.Rule) { r.Result = a })
		wantChanged(t, 0, false, func(r *impl.Rule) { r.Result = a })
		wantChanged(t, 1, false, func(r *impl.Rule) { r.Result = a })
	}
	for _, a := range lists {
		wantChanged(t, 2, false, func(r *impl.Rule) { r.Result = a })
		wantChanged(t, 0, true, func(r *impl.Rule) { r.Result = a })
		wantChanged(t, 1, true, func(r *impl.Rule) { r.Result = a })
	}
	for _, a := range invalidArgs() {
		for k := range mixed().Rules {
			wantChanged(t, k, false, func(r *impl.Rule) { r.Result = a })
		}
	}
	for _, name := range []string{"x", "h", "m", "xs", "zero", "nil", ""} {
		wantChanged(t, 4, false, func(r *impl.Rule) { r.Result = integer(0, name) })
	}
	// The result of a pattern for the empty list may be this list.
	wantChanged(t, 0, true, func(r *impl.Rule) { r.Result = listArg("xs", sumOf(1)) })
	wantChanged(t, 2, false, func(r *impl.Rule) { r.Result = integer(0, "xs") })
	wantChanged(t, 2, false, func(r *impl.Rule) { r.Result = integer(0, "h", "n") })
}

// TestNamesThatOccurTwice has all pairs of introduced names alike that are of
// the same kind.
func TestNamesThatOccurTwice(t *testing.T) {
	introduce := func(want bool, head string, tail string, binds ...string) {
		t.Helper()
		for _, owner := range []string{"f", "g"} {
			r := twinRule(owner, binds...)
			r.Patterns[0] = isCons("xs", head, tail)
			wantRule(t, twins(), r, want)
		}
	}
	introduce(true, "h", "ts")
	introduce(true, "h", "ts", "a", "b")
	introduce(true, "h", "ts", "as", "bs")
	introduce(false, "n", "ts")
	introduce(false, "n", "ts", "a", "bs")
	introduce(false, "h", "xs")
	introduce(false, "h", "xs", "as")
	for _, bind := range []string{"n", "h", "xs", "ts"} {
		introduce(false, "h", "ts", bind)
		introduce(false, "h", "ts", bind, "b")
		introduce(false, "h", "ts", "b", bind)
		introduce(false, "h", "ts", "bs", bind)
		introduce(false, "h", "ts", bind, bind)
	}
	introduce(false, "h", "ts", "a", "a")
	introduce(false, "h", "ts", "as", "as")
	introduce(true, "h", "ts", "a", "as")
	introduce(true, "f", "fs", "g", "gs")
	pair := func(want bool, a impl.Pattern, b impl.Pattern) {
		t.Helper()
		wantChanged(t, 0, want, func(r *impl.Rule) { r.Patterns = []impl.Pattern{a, b} })
	}
	pair(true, isCons("xs", "h", "ts"), isCons("ys", "k", "us"))
	pair(false, isCons("xs", "h", "ts"), isCons("ys", "h", "us"))
	pair(false, isCons("xs", "h", "ts"), isCons("ys", "k", "ts"))
	pair(false, isCons("xs", "h", "ts"), isCons("ys", "k", "xs"))
	pair(false, isCons("xs", "h", "ys"), isCons("ys", "k", "us"))
	pair(false, isCons("xs", "h", "ts"), isCons("ys", "k", "ys"))
	pair(false, isNil("xs"), isCons("ys", "h", "xs"))
	pair(true, isNil("xs"), isCons("ys", "h", "ts"))
	// Names of the rule of one function may be those of another one.
	wantChanged(t, 0, true, func(r *impl.Rule) { r.Calls = []impl.Call{callOf("n", "zero")} })
	wantRule(t, withFunctions(function("f", false, "n", "n")), impl.Rule{Func: "f", Result: integer(0)}, false)
	wantRule(t, withFunctions(function("f", false, "n", "xs", "ys", "n")), impl.Rule{Func: "f", Result: integer(0)}, false)
	wantRule(t, withFunctions(function("f", false, "", "xs", "")), impl.Rule{Func: "f", Result: integer(0)}, false)
}

// TestRulesOfInvalidPrograms has valid rules in programs that are not valid.
func TestRulesOfInvalidPrograms(t *testing.T) {
	p := mixed()
	p.Functions = append(p.Functions, oddFunctions()...)
	p.Rules = slices.Repeat(p.Rules, limitRules)
	wantProgram(t, p, false)
	for _, r := range p.Rules {
		wantRule(t, p, r, true)
	}
	wantRule(t, p, impl.Rule{Func: "F", Result: integer(0)}, true)
	wantRule(t, p, impl.Rule{Func: "F", Result: listArg("")}, false)
	wantRule(t, p, impl.Rule{Func: "", Result: listArg("")}, true)
	wantRule(t, p, impl.Rule{Func: "b", Result: integer(0, "k", "m", "n")}, true)
	wantRule(t, p, impl.Rule{Func: "p1", Result: integer(0, "n")}, true)
	wantRule(t, p, impl.Rule{Func: "F", Calls: []impl.Call{callOf("r", "b", integer(0), integer(1), integer(2))}, Result: integer(0)}, true)
	wantRule(t, p, impl.Rule{Func: "F", Calls: []impl.Call{callOf("r", "b", integer(0), integer(1))}, Result: integer(0)}, false)
	wantRule(t, p, impl.Rule{Func: "F", Calls: []impl.Call{callOf("rs", "")}, Result: integer(0)}, true)
	wantRule(t, p, impl.Rule{Func: "F", Calls: []impl.Call{callOf("r", "")}, Result: integer(0)}, false)
	wantRule(t, p, impl.Rule{Func: "a", Result: listArg("")}, false)
}

func TestNumberOfFunctions(t *testing.T) {
	wantProgram(t, impl.Program{}, false)
	wantProgram(t, impl.Program{Functions: []impl.Function{}, Rules: []impl.Rule{}}, false)
	wantProgram(t, impl.Program{Rules: mixed().Rules}, false)
	var list []impl.Function
	for i := range limitFunctions + 3 {
		list = append(list, function("f"+strconv.Itoa(i), i%2 == 0, "n", "xs"))
		wantProgram(t, withFunctions(list...), i < limitFunctions)
		wantProgram(t, withFunctions(list[i]), true)
	}
	wantAltered(t, false, func(p *impl.Program) { p.Functions = append(p.Functions, function("more", false)) })
	wantAltered(t, false, func(p *impl.Program) { p.Functions = p.Functions[:2] })
}

func TestNamesOfFunctions(t *testing.T) {
	rejected := []string{"", "revs", "s", "as", "abcdefgs", "abcdefghi", "Rev", "1", "1a", "f-", "f ", " f", "f\n", "f\x00", "\xff", "\u00e9"}
	for i := range limitFunctions {
		rename := func(name string) impl.Program {
			p := withFunctions(function("f0", false, "n"), function("f1", true, "xs"), function("f2", false))
			p.Functions[i].Name = name
			return p
		}
		for _, name := range slices.Concat(rejected, reserved()) {
			wantProgram(t, rename(name), false)
		}
		for _, name := range []string{"f", "n", "xsx", "list", "int", "abcdefgh", "a1234567", "nil1", "sa"} {
			wantProgram(t, rename(name), true)
		}
		for j := range limitFunctions {
			wantProgram(t, rename("f"+strconv.Itoa(j)), j == i)
		}
	}
	same := function("f", true, "n")
	wantProgram(t, withFunctions(same, same), false)
	wantProgram(t, withFunctions(same, function("f", false)), false)
	wantProgram(t, withFunctions(function("a", true), same, function("f", false)), false)
	// Functions, parameters and other names may be alike.
	wantProgram(t, withFunctions(function("n", false, "n", "m"), function("m", false, "n")), true)
}

func TestParametersOfFunctions(t *testing.T) {
	params := func(want bool, list ...string) {
		t.Helper()
		for i := range limitFunctions {
			p := withFunctions(function("f0", false, "n"), function("f1", true, "xs"), function("f2", false))
			p.Functions[i].Params = list
			wantProgram(t, p, want)
		}
	}
	params(true)
	params(true, "n")
	params(true, "xs")
	params(true, "n", "m")
	params(true, "m", "n")
	params(true, "xs", "n")
	params(true, "xs", "ys")
	params(true, "f0", "abcdefgh")
	params(false, "n", "n")
	params(false, "xs", "xs")
	params(false, "n", "m", "k")
	params(false, "n", "m", "n")
	params(false, "xs", "ys", "zs")
	for _, name := range slices.Concat([]string{"", "N", "1", "n ", " n", "n\x00", "\xff", "\u00e9", "abcdefghi", "a_b", "Xs"}, reserved()) {
		params(false, name)
		params(false, "n", name)
		params(false, name, "n")
		params(false, name, name)
	}
}

func TestPreconditionsOfFunctions(t *testing.T) {
	names := []string{"n", "xs", "m"}
	for size := range limitParams + 1 {
		pre := func(want bool, rows ...impl.Lin) {
			t.Helper()
			for i := range limitFunctions {
				p := withFunctions(function("f0", false), function("f1", true), function("f2", false))
				p.Functions[i].Params, p.Functions[i].Pre = names[:size], rows
				wantProgram(t, p, want)
			}
		}
		for rows := range limitPre + 3 {
			pre(rows <= limitPre, slices.Repeat([]impl.Lin{linAt(size, -1, 7, 1)}, rows)...)
		}
		good := linAt(size, -1, -1, 2)
		for n := range limitVars + 2 {
			pre(n == size, linAt(n, -1, 1, 0))
			pre(n == size, good, linAt(n, -1, 1, 0))
			pre(n == size, linAt(n, -1, 1, 0), good)
		}
		for place := -1; place < size; place++ {
			for _, x := range coeffEdges() {
				l := linAt(size, place, x, 1)
				pre(withinCoeff(x), l)
				pre(withinCoeff(x), good, l)
				pre(withinCoeff(x), l, good)
			}
		}
		for _, x := range beyondCoeff() {
			pre(false, linAt(size, -1, x, 1))
		}
	}
	wantAltered(t, true, func(p *impl.Program) { p.Functions[1].Pre = nil })
	wantAltered(t, false, func(p *impl.Program) { p.Functions[1].Pre = append(p.Functions[1].Pre, lin(0, 0, 0)) })
	wantAltered(t, false, func(p *impl.Program) { p.Functions[2].Pre = []impl.Lin{lin(0, 1)} })
}

func TestNumberOfRules(t *testing.T) {
	wantAltered(t, true, func(p *impl.Program) { p.Rules = nil })
	wantAltered(t, true, func(p *impl.Program) { p.Rules = []impl.Rule{} })
	for k := range mixed().Rules {
		for size := range limitRules + 3 {
			wantAltered(t, size <= limitRules, func(p *impl.Program) { p.Rules = slices.Repeat(p.Rules[k:k+1], size) })
		}
	}
}

// changes returns changes of a rule of mixed after which it is not valid, one
// for every fault of a rule but the first.
func changes() map[string]func(r *impl.Rule) {
	return map[string]func(r *impl.Rule){
		"list of a pattern":         func(r *impl.Rule) { r.Patterns[0].List = "zs" },
		"same list":                 func(r *impl.Rule) { r.Patterns = append(r.Patterns, isNil("xs")) },
		"names of an empty pattern": func(r *impl.Rule) { r.Patterns = []impl.Pattern{{List: "xs", Head: "h"}, r.Patterns[1]} },
		"head":                      func(r *impl.Rule) { r.Patterns[0].Head = "H" },
		"tail":                      func(r *impl.Rule) { r.Patterns[0].Tail = "t" },
		"number of guards":          func(r *impl.Rule) { r.Guards = append(r.Guards, sumOf(0)) },
		"guard":                     func(r *impl.Rule) { r.Guards[1].Const = limitNumber + 1 },
		"names of a guard":          func(r *impl.Rule) { r.Guards[1] = sumOfNames(0, "m") },
		"number of calls":           func(r *impl.Rule) { r.Calls = append(r.Calls, callOf("z", "zero")) },
		"called function":           func(r *impl.Rule) { r.Calls[1].Func = "reverse" },
		"bind":                      func(r *impl.Rule) { r.Calls[0].Bind = "ms" },
		"number of arguments":       func(r *impl.Rule) { r.Calls[1].Args = r.Calls[1].Args[:1] },
		"argument":                  func(r *impl.Rule) { r.Calls[1].Args[1].Heads = make([]impl.Sum, limitHeads+1) },
		"kind of an argument":       func(r *impl.Rule) { r.Calls[0].Args[1] = integer(0) },
		"names of an argument":      func(r *impl.Rule) { r.Calls[0].Args[0] = integer(0, "m") },
		"result":                    func(r *impl.Rule) { r.Result.Heads = make([]impl.Sum, limitHeads+1) },
		"kind of the result":        func(r *impl.Rule) { r.Result = integer(0) },
		"names of the result":       func(r *impl.Rule) { r.Result.Base = "zs" },
		"same names":                func(r *impl.Rule) { r.Patterns[1].Head = "h" },
	}
}

// TestOneInvalidRule has one rule that is not valid at each place of programs
// of each size.
func TestOneInvalidRule(t *testing.T) {
	faults := changes()
	faults["function"] = func(r *impl.Rule) { r.Func = "reverse" }
	for _, fault := range ruleFaults() {
		wrong := mixed()
		faults[fault](&wrong.Rules[1])
		if found := faultsOf(mixed(), wrong.Rules[1]); !found[fault] {
			t.Errorf("the test is wrong: %q has the faults %v", fault, found)
		}
		wantRule(t, mixed(), wrong.Rules[1], false)
		for size := range limitRules {
			for place := range size + 1 {
				p := mixed()
				p.Rules = slices.Insert(slices.Repeat(mixed().Rules[1:2], size), place, wrong.Rules[1])
				wantProgram(t, p, false)
			}
		}
	}
}

// pool returns the names of drawn rules and programs.
func pool() []string {
	return []string{"n", "m", "h", "k", "xs", "ys", "ts", "us", "qs", "z", "rev", "len", "zero", "", "nil", "N", "s", "x"}
}

func (d drawing) name() string {
	names := pool()
	if d.IntN(8) > 0 {
		names = names[:10]
	}
	return names[d.IntN(len(names))]
}

func (d drawing) sum() impl.Sum {
	s := impl.Sum{Const: d.IntN(5) - 2}
	for range d.IntN(3) {
		s.Terms = append(s.Terms, term(d.IntN(7)-2, d.name()))
	}
	if d.IntN(4) > 0 {
		slices.SortFunc(s.Terms, func(a impl.Term, b impl.Term) int { return strings.Compare(a.Name, b.Name) })
	}
	return s
}

func (d drawing) arg() impl.Arg {
	if d.IntN(2) == 0 {
		return integerArg(d.sum())
	}
	if d.IntN(4) == 0 {
		return impl.Arg{List: true, Heads: make([]impl.Sum, limitHeads+d.IntN(2))}
	}
	a := impl.Arg{List: d.IntN(10) > 0, Base: d.name()}
	for range d.IntN(limitHeads + 2) {
		a.Heads = append(a.Heads, d.sum())
	}
	return a
}

func (d drawing) call() impl.Call {
	if d.IntN(4) == 0 {
		return callOf("z", "zero")
	}
	c := callOf(d.name(), []string{"rev", "len", "zero", "none"}[d.IntN(4)])
	for range d.IntN(4) {
		c.Args = append(c.Args, d.arg())
	}
	return c
}

func (d drawing) pattern() impl.Pattern {
	if d.IntN(2) == 0 {
		return isNil(d.name())
	}
	return isCons(d.name(), d.name(), d.name())
}

// replaced returns the list with an element more, less or changed.
func replaced[T any](d drawing, list []T, drawn T) []T {
	place := d.IntN(len(list) + 1)
	switch d.IntN(3) {
	case 0:
		return slices.Insert(list, place, drawn)
	case 1:
		return slices.Delete(list, min(place, len(list)), min(place+1, len(list)))
	}
	if place < len(list) {
		list[place] = drawn
	}
	return list
}

// alter changes a rule a little.
func (d drawing) alter(r *impl.Rule) {
	switch d.IntN(7) {
	case 0:
		r.Func = d.name()
	case 1:
		r.Patterns = replaced(d, r.Patterns, d.pattern())
	case 2:
		r.Guards = replaced(d, r.Guards, d.sum())
	case 3:
		r.Calls = replaced(d, r.Calls, d.call())
	case 4:
		r.Result = d.arg()
	case 5:
		if len(r.Patterns) > 0 {
			x := &r.Patterns[d.IntN(len(r.Patterns))]
			*[]*string{&x.List, &x.Head, &x.Tail}[d.IntN(3)] = d.name()
			x.Cons = x.Cons != (d.IntN(5) == 0)
		}
	default:
		if len(r.Calls) > 0 {
			c := &r.Calls[d.IntN(len(r.Calls))]
			switch d.IntN(3) {
			case 0:
				c.Bind = d.name()
			case 1:
				c.Func = []string{"rev", "len", "zero", d.name()}[d.IntN(4)]
			default:
				c.Args = replaced(d, c.Args, d.arg())
			}
		}
	}
}

// TestDrawnRules changes the rules of mixed at drawn places and compares the
// results with the document, and expects every fault to occur alone.
func TestDrawnRules(t *testing.T) {
	d := drawing{rand.New(rand.NewPCG(10, 1))}
	alone, valid := map[string]int{}, 0
	for range 100000 {
		p := mixed()
		k := d.IntN(len(p.Rules))
		for range 1 + d.IntN(3) {
			d.alter(&p.Rules[k])
		}
		r, faults := p.Rules[k], faultsOf(p, p.Rules[k])
		switch len(faults) {
		case 0:
			valid++
		case 1:
			for fault := range faults {
				alone[fault]++
			}
		}
		if got := impl.IsValidRule(p, r); got != (len(faults) == 0) {
			t.Fatalf("IsValidRule(mixed, %+v) = %t, with the faults %v", r, got, faults)
		}
		if got := impl.IsValidProgram(p); got != (len(faults) == 0) {
			t.Fatalf("IsValidProgram = %t with the rule %+v, with the faults %v", got, r, faults)
		}
		if n := d.IntN(len(r.Calls)+3) - 1; !slices.Equal(impl.ScopeOf(p, r, n), scopeAfter(p, r, n)) {
			t.Fatalf("ScopeOf(mixed, %+v, %d) = %q", r, n, impl.ScopeOf(p, r, n))
		}
	}
	if valid < 5000 {
		t.Errorf("only %d rules are valid", valid)
	}
	for _, fault := range ruleFaults() {
		if alone[fault] < 20 {
			t.Errorf("the fault %q occurs alone %d times", fault, alone[fault])
		}
	}
	if keys := slices.Sorted(maps.Keys(alone)); len(keys) != len(ruleFaults()) {
		t.Errorf("the faults are %q", keys)
	}
}

// function returns a function that is often valid.
func (d drawing) function() impl.Function {
	f := function([]string{"f", "g", "rev", "n", "fs", "nil"}[d.IntN(6)], d.IntN(2) == 0)
	for range d.IntN(limitParams + 2) {
		f.Params = append(f.Params, []string{"n", "xs", "m", "ys", "nil", "N"}[d.IntN(6)])
	}
	for range d.IntN(limitPre + 2) {
		f.Pre = append(f.Pre, lin(d.IntN(3), slices.Repeat([]int{1}, len(f.Params))...))
		if d.IntN(8) == 0 {
			f.Pre[0].Coeffs = append(f.Pre[0].Coeffs, 1)
		}
	}
	return f
}

// TestDrawnPrograms also draws functions, so that valid rules occur in
// programs that are not valid and the other way round, and expects every fault
// to occur alone. All rules of a valid program are valid.
func TestDrawnPrograms(t *testing.T) {
	d := drawing{rand.New(rand.NewPCG(10, 2))}
	alone, valid := map[string]int{}, 0
	for range 100000 {
		var p impl.Program
		for range d.IntN(limitFunctions + 2) {
			p.Functions = append(p.Functions, d.function())
		}
		if d.IntN(2) == 0 {
			p.Functions = mixed().Functions[:d.IntN(limitFunctions+1)]
		}
		for _, r := range mixed().Rules {
			for range d.IntN(3) {
				p.Rules = append(p.Rules, r)
			}
		}
		p.Rules = p.Rules[d.IntN(len(p.Rules)+1):]
		faults := faultsOfProgram(p)
		if len(faults) == 1 {
			for fault := range faults {
				alone[fault]++
			}
		}
		got := impl.IsValidProgram(p)
		if got != (len(faults) == 0) {
			t.Fatalf("IsValidProgram(%+v) = %t, with the faults %v", p, got, faults)
		}
		for _, r := range p.Rules {
			if ok := impl.IsValidRule(p, r); ok != isRule(p, r) || got && !ok {
				t.Fatalf("IsValidRule(%+v, %+v) = %t", p, r, ok)
			}
		}
		if got && len(p.Rules) > 0 {
			valid++
		}
	}
	if valid < 500 {
		t.Errorf("only %d programs with rules are valid", valid)
	}
	for _, fault := range programFaults() {
		if alone[fault] < 20 {
			t.Errorf("the fault %q occurs alone %d times", fault, alone[fault])
		}
	}
}

// roomy returns the list in memory of its own, with unused capacity behind it
// that holds these elements.
func roomy[T any](list []T, unused ...T) []T {
	return append(slices.Clone(list), unused...)[:len(list)]
}

func roomySum(s impl.Sum) impl.Sum {
	return impl.Sum{Const: s.Const, Terms: roomy(s.Terms, term(5, "unused"), term(6, "other"))}
}

func roomyArg(a impl.Arg) impl.Arg {
	a.Heads = roomy(a.Heads, sumOf(5), sumOf(6))
	for i, s := range a.Heads {
		a.Heads[i] = roomySum(s)
	}
	return a
}

func roomyRule(r impl.Rule) impl.Rule {
	r.Patterns = roomy(r.Patterns, isNil("unused"), isNil("other"))
	r.Guards = roomy(r.Guards, sumOf(5), sumOf(6))
	for i, s := range r.Guards {
		r.Guards[i] = roomySum(s)
	}
	r.Calls = roomy(r.Calls, callOf("unused", "other"), callOf("more", "other"))
	for i, c := range r.Calls {
		r.Calls[i].Args = roomy(c.Args, integer(5), integer(6))
		for j, a := range c.Args {
			r.Calls[i].Args[j] = roomyArg(a)
		}
	}
	r.Result = roomyArg(r.Result)
	return r
}

// roomyProgram returns the program with unused capacity behind every slice.
func roomyProgram(p impl.Program) impl.Program {
	p.Functions = roomy(p.Functions, function("unused", true), function("other", true))
	for i, f := range p.Functions {
		f.Params, f.Pre = roomy(f.Params, "unused", "other", "more", "names"), roomy(f.Pre, lin(5), lin(6))
		for j, l := range f.Pre {
			f.Pre[j].Coeffs = roomy(l.Coeffs, 5, 6)
		}
		p.Functions[i] = f
	}
	p.Rules = roomy(p.Rules, impl.Rule{Func: "unused"}, impl.Rule{Func: "other"})
	for i, r := range p.Rules {
		p.Rules[i] = roomyRule(r)
	}
	return p
}

func wholeSum(s impl.Sum) impl.Sum {
	return impl.Sum{Const: s.Const, Terms: s.Terms[:cap(s.Terms)]}
}

func wholeSums(list []impl.Sum) []impl.Sum {
	var whole []impl.Sum
	for _, s := range list[:cap(list)] {
		whole = append(whole, wholeSum(s))
	}
	return whole
}

// describeProgram returns everything that a program holds, the unused capacity
// of every slice included.
func describeProgram(p impl.Program) string {
	var parts []any
	for _, f := range p.Functions[:cap(p.Functions)] {
		parts = append(parts, f.Name, f.ListResult, f.Params[:cap(f.Params)])
		for _, l := range f.Pre[:cap(f.Pre)] {
			parts = append(parts, l.Const, l.Coeffs[:cap(l.Coeffs)])
		}
	}
	for _, r := range p.Rules[:cap(p.Rules)] {
		parts = append(parts, r.Func, r.Patterns[:cap(r.Patterns)], wholeSums(r.Guards))
		for _, c := range r.Calls[:cap(r.Calls)] {
			parts = append(parts, c.Bind, c.Func)
			for _, a := range c.Args[:cap(c.Args)] {
				parts = append(parts, a.List, a.Base, wholeSums(a.Heads))
			}
		}
		parts = append(parts, r.Result.List, r.Result.Base, wholeSums(r.Result.Heads))
	}
	return fmt.Sprintf("%q", parts)
}

// somePrograms returns programs that are valid and programs that are not.
func somePrograms() []impl.Program {
	list := []impl.Program{mixed(), {}, withFunctions(oddFunctions()...), {Rules: mixed().Rules}, {Functions: mixed().Functions[:2], Rules: mixed().Rules}}
	faults := changes()
	for _, fault := range ruleFaults()[1:] {
		p := mixed()
		faults[fault](&p.Rules[1])
		list = append(list, p)
	}
	return list
}

func TestProgramFunctionsKeepTheirArguments(t *testing.T) {
	for i, p := range somePrograms() {
		p = roomyProgram(p)
		before := describeProgram(p)
		if again := describeProgram(roomyProgram(somePrograms()[i])); again != before {
			t.Fatalf("the test is wrong: %s is %s", before, again)
		}
		impl.IsValidProgram(p)
		for _, name := range pool() {
			impl.FindFunction(p, name)
		}
		other := roomyProgram(mixed())
		for _, r := range slices.Concat(p.Rules, other.Rules) {
			impl.IsValidRule(p, r)
			for n := -1; n <= len(r.Calls)+1; n++ {
				impl.ScopeOf(p, r, n)
			}
		}
		if after := describeProgram(p); after != before {
			t.Errorf("a program changed from %s to %s", before, after)
		}
		if after := describeProgram(other); after != describeProgram(roomyProgram(mixed())) {
			t.Errorf("rules of another program changed to %s", after)
		}
	}
}

// TestFunctionsOfSharedMemory has parameters and rows that are parts of the
// same memory, one behind the other.
func TestFunctionsOfSharedMemory(t *testing.T) {
	names, numbers := []string{"xs", "n", "ys", "m"}, []int{1, 2, 3, 4}
	rows := []impl.Lin{{Const: 7, Coeffs: numbers[:2]}, {Const: 8, Coeffs: numbers[1:3]}, {Const: 9, Coeffs: numbers[2:]}}
	f := impl.Function{Name: "f", Params: names[:2], Pre: rows[:2]}
	g := impl.Function{Name: "g", Params: names[2:], Pre: rows[1:], ListResult: true}
	p := withFunctions(f, g)
	wantProgram(t, p, true)
	r := impl.Rule{Func: "f", Patterns: []impl.Pattern{isCons("xs", "h", "ts")}, Calls: []impl.Call{callOf("rs", "g", listArg("ts"), integer(0, "h"))}, Result: integer(0)}
	wantScopes(t, p, r)
	wantRule(t, p, r, true)
	found, _ := impl.FindFunction(p, "f")
	overwrite(found.Params)
	overwriteLin(found.Pre[0])
	overwriteLin(found.Pre[1])
	found.Pre[0] = lin(0)
	if fmt.Sprint(names, numbers, rows) != "[xs n ys m] [1 2 3 4] [{7 [1 2]} {8 [2 3]} {9 [3 4]}]" {
		t.Errorf("the arguments changed to %q, %v, %v", names, numbers, rows)
	}
}

// TestFoundFunctionsAreSeparate changes all that can be reached from a result,
// one slice after the other.
func TestFoundFunctionsAreSeparate(t *testing.T) {
	for _, p := range []impl.Program{mixed(), withFunctions(oddFunctions()...)} {
		p = roomyProgram(p)
		before := describeProgram(p)
		for k, want := range p.Functions {
			find := func() impl.Function {
				f, _ := impl.FindFunction(p, want.Name)
				return f
			}
			second := find()
			overwrite(find().Params)
			for j := range want.Pre {
				changed := find()
				overwriteLin(changed.Pre[j])
				for i, l := range changed.Pre {
					if i != j && !sameLin(l, want.Pre[i]) {
						t.Errorf("a change of row %d changed row %d to %v", j, i, l)
					}
				}
			}
			overwriteRows(impl.System{Rows: find().Pre})
			if !sameFunction(second, want) || !sameFunction(find(), want) || describeProgram(p) != before {
				t.Fatalf("a change of a result changed function %d or another result to %v", k, second)
			}
		}
	}
}

func TestScopesAreSeparate(t *testing.T) {
	for _, p := range somePrograms() {
		p = roomyProgram(p)
		before := describeProgram(p)
		for _, r := range p.Rules {
			for n := range len(r.Calls) + 1 {
				want := scopeAfter(p, r, n)
				first, second := impl.ScopeOf(p, r, n), impl.ScopeOf(p, r, n)
				overwrite(first)
				if !slices.Equal(second, want) || !slices.Equal(impl.ScopeOf(p, r, n), want) || describeProgram(p) != before {
					t.Fatalf("a change of a result changed %q to %q, or %v", want, second, p)
				}
				// What is appended to a result must not be met by another one.
				longer := append(second, "longer")
				impl.ScopeOf(p, r, len(r.Calls))
				if longer[len(want)] != "longer" || describeProgram(p) != before {
					t.Fatalf("results of ScopeOf meet in their unused capacity: %q", longer)
				}
			}
		}
	}
}
