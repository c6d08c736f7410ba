package tests

import (
	"fmt"
	"math"
	"math/rand/v2"
	"reflect"
	"slices"
	"strings"
	"testing"

	"loop.example/g00515/impl"
)

func sameLins(a []impl.Lin, b []impl.Lin) bool { return slices.EqualFunc(a, b, sameLin) }

// sameModel does not use EqualModel, which is a subject of these tests.
func sameModel(a impl.Model, b impl.Model) bool {
	return sameSystem(a.System, b.System) && sameLins(a.Params, b.Params) &&
		slices.EqualFunc(a.Args, b.Args, sameLins) && sameLin(a.Result, b.Result)
}

// readLins reads expressions like "xs - 1, ys + 1", in which the variables have
// these names.
func readLins(text string, names []string) []impl.Lin {
	var list []impl.Lin
	for _, part := range strings.Split(text, ", ") {
		if text == "" {
			break
		}
		l, ok := impl.ParseLin(part, names)
		if !ok {
			panic("the test is wrong: " + text)
		}
		list = append(list, l)
	}
	return list
}

// written is a model in which the variables have names. The arguments of each
// call are followed by a semicolon.
type written struct{ names, rows, params, args, result string }

func (w written) model() impl.Model {
	names := strings.Fields(w.names)
	m := impl.Model{System: system(len(names), readLins(w.rows, names)...), Params: readLins(w.params, names)}
	for _, args := range strings.SplitAfter(w.args, ";") {
		if text, ok := strings.CutSuffix(args, ";"); ok {
			m.Args = append(m.Args, readLins(strings.TrimPrefix(text, " "), names))
		}
	}
	m.Result = readLins(w.result, names)[0]
	return m
}

// The following functions say what the document requires, in other ways than
// the program: they compute numbers for values of the variables, and find the
// expressions by the differences that each variable makes.

// sized is a rule with the number that each of its names stands for.
type sized struct {
	rule   impl.Rule
	owner  impl.Function
	number map[string]int
}

func variableCount(f impl.Function, r impl.Rule) int {
	n := len(f.Params) + len(r.Calls)
	for _, x := range r.Patterns {
		if x.Cons {
			n++
		}
	}
	return n
}

// sizedRule returns a rule of a valid program at a point.
func sizedRule(p impl.Program, r impl.Rule, point []int) sized {
	x := sized{rule: r, owner: p.Functions[functionIndex(p, r.Func)], number: map[string]int{"": 0}}
	next := func(name string) {
		x.number[name] = point[0]
		point = point[1:]
	}
	for _, name := range x.owner.Params {
		next(name)
	}
	for _, pattern := range r.Patterns {
		if pattern.Cons {
			next(pattern.Head)
			x.number[pattern.Tail] = x.number[pattern.List] - 1
		}
	}
	for _, c := range r.Calls {
		next(c.Bind)
	}
	return x
}

func (x sized) sum(s impl.Sum) int {
	n := s.Const
	for _, part := range s.Terms {
		n += part.Coeff * x.number[part.Name]
	}
	return n
}

func (x sized) arg(a impl.Arg) int {
	if a.List {
		return len(a.Heads) + x.number[a.Base]
	}
	return x.sum(a.Heads[0])
}

// rows returns what has to be at least 0, in order.
func (x sized) rows(p impl.Program) []int {
	var rows, point []int
	for _, name := range x.owner.Params {
		point = append(point, x.number[name])
		if isListName(name) {
			rows = append(rows, x.number[name])
		}
	}
	for _, l := range x.owner.Pre {
		rows = append(rows, valueAt(l, point))
	}
	for _, pattern := range x.rule.Patterns {
		row := -x.number[pattern.List]
		if pattern.Cons {
			row = x.number[pattern.List] - 1
		}
		rows = append(rows, row)
	}
	for _, g := range x.rule.Guards {
		rows = append(rows, x.sum(g))
	}
	for _, c := range x.rule.Calls {
		if p.Functions[functionIndex(p, c.Func)].ListResult {
			rows = append(rows, x.number[c.Bind])
		}
	}
	return rows
}

// byValues returns the expression of n variables with these values.
func byValues(n int, value func(point []int) int) impl.Lin {
	point := make([]int, n)
	l := lin(value(point), point...)
	for i := range n {
		point[i] = 1
		l.Coeffs[i] = value(point) - l.Const
		point[i] = 0
	}
	return l
}

// modelFor returns what ModelOf has to return.
func modelFor(p impl.Program, k int) (impl.Model, bool) {
	if len(faultsOfProgram(p)) > 0 || k < 0 || k >= len(p.Rules) {
		return impl.Model{}, false
	}
	r := p.Rules[k]
	f := p.Functions[functionIndex(p, r.Func)]
	n := variableCount(f, r)
	find := func(value func(x sized) int) impl.Lin {
		return byValues(n, func(point []int) int { return value(sizedRule(p, r, point)) })
	}
	m := impl.Model{System: impl.System{N: n}, Result: find(func(x sized) int { return x.arg(r.Result) })}
	for i := range sizedRule(p, r, make([]int, n)).rows(p) {
		m.System.Rows = append(m.System.Rows, find(func(x sized) int { return x.rows(p)[i] }))
	}
	for _, name := range f.Params {
		m.Params = append(m.Params, find(func(x sized) int { return x.number[name] }))
	}
	for _, c := range r.Calls {
		var args []impl.Lin
		for _, a := range c.Args {
			args = append(args, find(func(x sized) int { return x.arg(a) }))
		}
		m.Args = append(m.Args, args)
	}
	return m, true
}

// domainFor returns what DomainOf has to return.
func domainFor(p impl.Program, name string) (impl.System, bool) {
	k := functionIndex(p, name)
	if len(faultsOfProgram(p)) > 0 || k < 0 {
		return impl.System{}, false
	}
	f := p.Functions[k]
	s := impl.System{N: len(f.Params)}
	for i, param := range f.Params {
		if isListName(param) {
			s.Rows = append(s.Rows, byValues(s.N, func(point []int) int { return point[i] }))
		}
	}
	for _, l := range f.Pre {
		s.Rows = append(s.Rows, lin(l.Const, l.Coeffs...))
	}
	return s, true
}

// isValidModel reports whether all parts of a model are expressions of its
// variables.
func isValidModel(m impl.Model) bool {
	for _, l := range slices.Concat(m.Params, slices.Concat(m.Args...), []impl.Lin{m.Result}) {
		if !impl.IsValidLin(l, m.System.N) {
			return false
		}
	}
	return impl.IsValidSystem(m.System)
}

func wantModel(t *testing.T, p impl.Program, k int, want impl.Model, ok bool) {
	t.Helper()
	if expected, expectedOk := modelFor(p, k); !sameModel(expected, want) || expectedOk != ok {
		t.Errorf("the test is wrong: %+v for rule %d of %+v", expected, k, p)
	}
	got, gotOk := impl.ModelOf(p, k)
	if !sameModel(got, want) || gotOk != ok {
		t.Errorf("ModelOf(%+v, %d) = %+v, %t, want %+v, %t", p, k, got, gotOk, want, ok)
	}
	if ok && !isValidModel(got) {
		t.Errorf("the model of rule %d of %+v is not valid: %+v", k, p, got)
	}
}

// wantModels compares the models of all rules of a program, valid or not, and
// of rules that it does not have, with the document.
func wantModels(t *testing.T, p impl.Program) {
	t.Helper()
	for k := range p.Rules {
		want, ok := modelFor(p, k)
		wantModel(t, p, k, want, ok)
	}
	for _, k := range []int{-1, len(p.Rules), -2, len(p.Rules) + 1, math.MinInt, math.MaxInt} {
		wantModel(t, p, k, impl.Model{}, false)
	}
}

func wantDomain(t *testing.T, p impl.Program, name string, want impl.System, ok bool) {
	t.Helper()
	if expected, expectedOk := domainFor(p, name); !sameSystem(expected, want) || expectedOk != ok {
		t.Errorf("the test is wrong: %+v for %q of %+v", expected, name, p)
	}
	got, gotOk := impl.DomainOf(p, name)
	if !sameSystem(got, want) || gotOk != ok {
		t.Errorf("DomainOf(%+v, %q) = %+v, %t, want %+v, %t", p, name, got, gotOk, want, ok)
	}
	if ok && !impl.IsValidSystem(got) {
		t.Errorf("the domain of %q in %+v is not valid: %+v", name, p, got)
	}
}

// wantDomains compares the domains of all functions of a program, valid or not,
// and of names that it may not have, with the document.
func wantDomains(t *testing.T, p impl.Program) {
	t.Helper()
	for _, name := range namesToTry(p) {
		want, ok := domainFor(p, name)
		wantDomain(t, p, name, want, ok)
	}
}

// wantRuleModel expects the model of the last rule, which is given in front of
// the model, in a program with these other lines.
func wantRuleModel(t *testing.T, lines []string, rule string, want written) {
	t.Helper()
	p := source(append(slices.Clone(lines), "rule "+rule)...)
	wantModel(t, p, len(p.Rules)-1, want.model(), true)
	wantModels(t, p)
	wantDomains(t, p)
}

// ruleCase is a program of one function and one rule, with its model.
type ruleCase struct {
	function, rule string
	want           written
}

func wantRuleModels(t *testing.T, list []ruleCase) {
	t.Helper()
	for _, c := range list {
		wantRuleModel(t, []string{"fun " + c.function}, c.rule, c.want)
	}
}

func TestModelOfReversal(t *testing.T) {
	p, _ := impl.ParseProgram(sources()[1])
	wantModel(t, p, 0, impl.Model{
		System: system(2, lin(0, 1, 0), lin(0, 0, 1), lin(0, -1, 0)),
		Params: []impl.Lin{lin(0, 1, 0), lin(0, 0, 1)},
		Result: lin(0, 0, 1),
	}, true)
	wantModel(t, p, 1, impl.Model{
		System: system(4, lin(0, 1, 0, 0, 0), lin(0, 0, 1, 0, 0), lin(-1, 1, 0, 0, 0), lin(0, 0, 0, 0, 1)),
		Params: []impl.Lin{lin(0, 1, 0, 0, 0), lin(0, 0, 1, 0, 0)},
		Args:   [][]impl.Lin{{lin(-1, 1, 0, 0, 0), lin(1, 0, 1, 0, 0)}},
		Result: lin(0, 0, 0, 0, 1),
	}, true)
	wantModel(t, p, 2, impl.Model{}, false)
	wantModel(t, p, -1, impl.Model{}, false)
	wantDomain(t, p, "rev", system(2, lin(0, 1, 0), lin(0, 0, 1)), true)
}

func TestModelOfMixed(t *testing.T) {
	for k, want := range []written{
		{"xs ys", "xs, ys, -xs", "xs, ys", "", "ys"},
		{
			"xs ys h k m qs", "xs, ys, xs - 1, ys - 1, h - k, h + k - 1, qs", "xs, ys",
			"h, xs - 1; xs, ys - 1;", "qs + 2",
		},
		{"n xs", "xs, n, -n + xs + 9, -xs", "n, xs", "", "n"},
		{"n xs h z m", "xs, n, -n + xs + 9, xs - 1", "n, xs", "; n + z, xs;", "m + 1"},
		{"", "", "", "", "0"},
	} {
		wantModel(t, mixed(), k, want.model(), true)
	}
	wantModels(t, mixed())
	wantDomain(t, mixed(), "rev", system(2, lin(0, 1, 0), lin(0, 0, 1)), true)
	wantDomain(t, mixed(), "len", system(2, lin(0, 0, 1), lin(0, 1, 0), lin(9, -1, 1)), true)
	wantDomain(t, mixed(), "zero", system(0), true)
	wantDomains(t, mixed())
}

// TestModelsOfSmallRules has rules without patterns, guards or calls, of
// functions with no, one and two parameters of both kinds.
func TestModelsOfSmallRules(t *testing.T) {
	wantRuleModels(t, []ruleCase{
		{"f : int", "f | return -7", written{"", "", "", "", "-7"}},
		{"f : int", "f | 0 >= 0 | -3 >= 0 | return 0", written{"", "0, -3", "", "", "0"}},
		{"f : list", "f | return nil", written{"", "", "", "", "0"}},
		{"f : list", "f | return 1 : 2 : nil", written{"", "", "", "", "2"}},
		{"f n : int", "f | return 0", written{"n", "", "n", "", "0"}},
		{"f n : int", "f | return n", written{"n", "", "n", "", "n"}},
		{"f n : int", "f | return -2n + 3", written{"n", "", "n", "", "-2n + 3"}},
		{"f n : list", "f | return n : nil", written{"n", "", "n", "", "1"}},
		{"f xs : int", "f | return 5", written{"xs", "xs", "xs", "", "5"}},
		{"f xs : list", "f | return xs", written{"xs", "xs", "xs", "", "xs"}},
		{"f xs : list", "f | return 1 : 2 : 3 : xs", written{"xs", "xs", "xs", "", "xs + 3"}},
		{"f xs : list", "f | return 1 : 2 : 3 : nil", written{"xs", "xs", "xs", "", "3"}},
		{"f n m : int", "f | return m - n", written{"n m", "", "n, m", "", "-n + m"}},
		{"f m n : int", "f | return m - n", written{"m n", "", "m, n", "", "m - n"}},
		{"f n xs : list", "f | return n : xs", written{"n xs", "xs", "n, xs", "", "xs + 1"}},
		{"f xs n : list", "f | return n : xs", written{"xs n", "xs", "xs, n", "", "xs + 1"}},
		{"f xs ys : list", "f | return xs", written{"xs ys", "xs, ys", "xs, ys", "", "xs"}},
		{"f ys xs : list", "f | return xs", written{"ys xs", "ys, xs", "ys, xs", "", "xs"}},
		{"f xs ys : int", "f | return 1000", written{"xs ys", "xs, ys", "xs, ys", "", "1000"}},
	})
}

// TestModelsOfPatterns has patterns of both kinds in both orders. Their heads
// are variables in the order of the patterns, not of the parameters.
func TestModelsOfPatterns(t *testing.T) {
	wantRuleModels(t, []ruleCase{
		{"f xs : int", "f | xs = nil | return 0", written{"xs", "xs, -xs", "xs", "", "0"}},
		{"f xs : int", "f | xs = h : ts | return h", written{"xs h", "xs, xs - 1", "xs", "", "h"}},
		{"f xs : list", "f | xs = h : ts | return ts", written{"xs h", "xs, xs - 1", "xs", "", "xs - 1"}},
		{"f xs : list", "f | xs = h : ts | return h : ts", written{"xs h", "xs, xs - 1", "xs", "", "xs"}},
		{"f xs : list", "f | xs = h : ts | return h : h + 1 : ts", written{"xs h", "xs, xs - 1", "xs", "", "xs + 1"}},
		{"f xs : list", "f | xs = h : ts | return xs", written{"xs h", "xs, xs - 1", "xs", "", "xs"}},
		{"f xs : list", "f | xs = h : ts | return h : nil", written{"xs h", "xs, xs - 1", "xs", "", "1"}},
		{"f n xs : int", "f | xs = h : ts | return h - n", written{"n xs h", "xs, xs - 1", "n, xs", "", "-n + h"}},
		{"f xs n : int", "f | xs = h : ts | return h - n", written{"xs n h", "xs, xs - 1", "xs, n", "", "-n + h"}},
		{"f xs ys : list", "f | xs = nil | ys = nil | return xs", written{"xs ys", "xs, ys, -xs, -ys", "xs, ys", "", "xs"}},
		{"f xs ys : list", "f | ys = nil | xs = nil | return xs", written{"xs ys", "xs, ys, -ys, -xs", "xs, ys", "", "xs"}},
		{"f xs ys : list", "f | xs = nil | ys = k : us | return us", written{"xs ys k", "xs, ys, -xs, ys - 1", "xs, ys", "", "ys - 1"}},
		{"f xs ys : list", "f | ys = k : us | xs = nil | return k : us", written{"xs ys k", "xs, ys, ys - 1, -xs", "xs, ys", "", "ys"}},
		{"f xs ys : list", "f | ys = nil | xs = h : ts | return ts", written{"xs ys h", "xs, ys, -ys, xs - 1", "xs, ys", "", "xs - 1"}},
		{"f xs ys : list", "f | ys = k : us | return us", written{"xs ys k", "xs, ys, ys - 1", "xs, ys", "", "ys - 1"}},
		{"f xs ys : int", "f | xs = h : ts | ys = k : us | return h - 2k", written{"xs ys h k", "xs, ys, xs - 1, ys - 1", "xs, ys", "", "h - 2k"}},
		{"f xs ys : int", "f | ys = k : us | xs = h : ts | return h - 2k", written{"xs ys k h", "xs, ys, ys - 1, xs - 1", "xs, ys", "", "-2k + h"}},
		{"f ys xs : int", "f | xs = h : ts | ys = k : us | return h - 2k", written{"ys xs h k", "ys, xs, xs - 1, ys - 1", "ys, xs", "", "h - 2k"}},
		{"f xs ys : list", "f | ys = k : us | xs = h : ts | return h : k : us", written{"xs ys k h", "xs, ys, ys - 1, xs - 1", "xs, ys", "", "ys + 1"}},
		{"f xs ys : list", "f | ys = k : us | xs = h : ts | return h : k : ts", written{"xs ys k h", "xs, ys, ys - 1, xs - 1", "xs, ys", "", "xs + 1"}},
		// The names do not say which list is meant.
		{"f xs ys : list", "f | xs = k : us | ys = h : ts | return us", written{"xs ys k h", "xs, ys, xs - 1, ys - 1", "xs, ys", "", "xs - 1"}},
		{"f xs ys : list", "f | ys = a : as | xs = z : zs | return zs", written{"xs ys a z", "xs, ys, ys - 1, xs - 1", "xs, ys", "", "xs - 1"}},
	})
}

// TestModelsOfGuards has guards on parameters and heads.
func TestModelsOfGuards(t *testing.T) {
	wantRuleModels(t, []ruleCase{
		{"f n : int", "f | n >= 0 | return 0", written{"n", "n", "n", "", "0"}},
		{"f n : int", "f | -n >= 0 | return 0", written{"n", "-n", "n", "", "0"}},
		{"f n : int", "f | 5 >= 0 | 3n - 70 >= 0 | return 0", written{"n", "5, 3n - 70", "n", "", "0"}},
		{"f n : int", "f | 3n - 70 >= 0 | 5 >= 0 | return 0", written{"n", "3n - 70, 5", "n", "", "0"}},
		{"f n : int", "f | n - 1 >= 0 | n - 1 >= 0 | return 0", written{"n", "n - 1, n - 1", "n", "", "0"}},
		{"f n m : int", "f | 2m - n + 1 >= 0 | -m >= 0 | return 0", written{"n m", "-n + 2m + 1, -m", "n, m", "", "0"}},
		{"f xs n : int", "f | n - 4 >= 0 | return 0", written{"xs n", "xs, n - 4", "xs, n", "", "0"}},
		{"f xs n : int", "f | xs = h : ts | h - n >= 0 | return 0", written{"xs n h", "xs, xs - 1, -n + h", "xs, n", "", "0"}},
		{"f n xs : int", "f | xs = nil | n - 2 >= 0 | -n + 9 >= 0 | return 0", written{"n xs", "xs, -xs, n - 2, -n + 9", "n, xs", "", "0"}},
		{"f xs ys : int", "f | ys = k : us | xs = h : ts | h - 1 >= 0 | h - k >= 0 | return 0", written{"xs ys k h", "xs, ys, ys - 1, xs - 1, h - 1, -k + h", "xs, ys", "", "0"}},
	})
}

// TestModelsOfCalls has calls of functions with integers and lists as
// parameters and results, whose results are used by the second call and by the
// result of the rule.
func TestModelsOfCalls(t *testing.T) {
	lines := []string{
		"fun f n xs : list", "fun g as m : int", "fun k bs : list",
		"rule g | return m", "rule k | return bs",
	}
	for _, c := range []struct {
		rule string
		want written
	}{
		{"f | r := g nil , 7 | return nil", written{"n xs r", "xs", "n, xs", "0, 7;", "0"}},
		{"f | r := g xs , n | return r : xs", written{"n xs r", "xs", "n, xs", "xs, n;", "xs + 1"}},
		{"f | r := g 1 : 2 : 3 : nil , 2n - 5 | return r : n : nil", written{"n xs r", "xs", "n, xs", "3, 2n - 5;", "2"}},
		{"f | rs := k xs | return rs", written{"n xs rs", "xs, rs", "n, xs", "xs;", "rs"}},
		{"f | rs := k n : xs | return n : rs", written{"n xs rs", "xs, rs", "n, xs", "xs + 1;", "rs + 1"}},
		{"f | rs := f -n , n : 1 : 2 : xs | return xs", written{"n xs rs", "xs, rs", "n, xs", "-n, xs + 3;", "xs"}},
		{"f | rs := k nil | qs := k nil | return nil", written{"n xs rs qs", "xs, rs, qs", "n, xs", "0; 0;", "0"}},
		{"f | rs := k xs | qs := k rs | return qs", written{"n xs rs qs", "xs, rs, qs", "n, xs", "xs; rs;", "qs"}},
		{"f | rs := k xs | qs := k 4 : rs | return 5 : 6 : qs", written{"n xs rs qs", "xs, rs, qs", "n, xs", "xs; rs + 1;", "qs + 2"}},
		{"f | rs := k xs | qs := k xs | return rs", written{"n xs rs qs", "xs, rs, qs", "n, xs", "xs; xs;", "rs"}},
		{"f | r := g xs , n | q := g xs , n + r | return -q + r : q : xs", written{"n xs r q", "xs", "n, xs", "xs, n; xs, n + r;", "xs + 2"}},
		{"f | r := g xs , n | qs := f n - r , r : xs | return r : qs", written{"n xs r qs", "xs, qs", "n, xs", "xs, n; n - r, xs + 1;", "qs + 1"}},
		{"f | qs := f n , xs | r := g 1 : qs , n - 1 | return r : qs", written{"n xs qs r", "xs, qs", "n, xs", "n, xs; qs + 1, n - 1;", "qs + 1"}},
		{"g | r := g as , m - 1 | q := g nil , 2r | return 3m + q - r", written{"as m r q", "as", "as, m", "as, m - 1; 0, 2r;", "3m - r + q"}},
		{"g | r := g as , 0 | q := g as , 1 | return r", written{"as m r q", "as", "as, m", "as, 0; as, 1;", "r"}},
		{"g | q := g as , 0 | r := g as , 1 | return r", written{"as m q r", "as", "as, m", "as, 0; as, 1;", "r"}},
		{"g | as = h : cs | r := g cs , h + m | ds := k cs | return h - r", written{"as m h r ds", "as, as - 1, ds", "as, m", "as - 1, m + h; as - 1;", "h - r"}},
		{"g | as = h : cs | ds := k as | r := g ds , h | return m + r", written{"as m h ds r", "as, as - 1, ds", "as, m", "as; ds, h;", "m + r"}},
		{"g | as = nil | m - 1 >= 0 | ds := f m , as | return 0", written{"as m ds", "as, -as, m - 1, ds", "as, m", "m, as;", "0"}},
		{"k | bs = h : cs | h >= 0 | -h + 9 >= 0 | rs := f h , cs | qs := k h : bs | return h : 1 : cs", written{"bs h rs qs", "bs, bs - 1, h, -h + 9, rs, qs", "bs", "h, bs - 1; bs + 1;", "bs + 1"}},
	} {
		wantRuleModel(t, lines, c.rule, c.want)
	}
	none := []string{"fun f n : int", "fun z : int", "fun zero : list", "rule z | return 1"}
	wantRuleModel(t, none, "f | r := z | return r", written{"n r", "", "n", ";", "r"})
	wantRuleModel(t, none, "f | r := z | q := z | return n + q + r", written{"n r q", "", "n", "; ;", "n + r + q"})
	wantRuleModel(t, none, "f | rs := zero | return n", written{"n rs", "rs", "n", ";", "n"})
	wantRuleModel(t, none, "z | rs := zero | r := z | return r", written{"rs r", "rs", "", "; ;", "r"})
	wantRuleModel(t, none, "zero | r := f 5 | qs := zero | return r : qs", written{"r qs", "qs", "", "5; ;", "qs + 1"})
}

// TestModelsOfPre has functions with no, one and two preconditions, which are
// behind the lists and in front of the patterns. Those of a function that is
// called do not count.
func TestModelsOfPre(t *testing.T) {
	const rule = "f | xs = h : ts | n - 3 >= 0 | rs := f h , ts | return rs"
	rows := func(text string) written {
		return written{"n xs h rs", "xs, " + text + "xs - 1, n - 3, rs", "n, xs", "h, xs - 1;", "rs"}
	}
	wantRuleModel(t, []string{"fun f n xs : list"}, rule, rows(""))
	wantRuleModel(t, []string{"fun f n xs : list", "pre f n - 2 >= 0"}, rule, rows("n - 2, "))
	wantRuleModel(t, []string{"fun f n xs : list", "pre f n - 2 >= 0", "pre f -n + 3xs + 4 >= 0"}, rule, rows("n - 2, -n + 3xs + 4, "))
	wantRuleModel(t, []string{"fun f n xs : list", "pre f -n + 3xs + 4 >= 0", "pre f n - 2 >= 0"}, rule, rows("-n + 3xs + 4, n - 2, "))
	wantRuleModel(t, []string{"fun f n xs : list", "pre f 0 >= 0", "pre f -1 >= 0"}, rule, rows("0, -1, "))
	wantRuleModel(t, []string{"fun f n xs : list", "pre f xs >= 0", "pre f xs >= 0"}, rule, rows("xs, xs, "))
	two := []string{"fun f n xs : list", "pre f xs - 5 >= 0", "fun g m : int", "pre g m - 6 >= 0", "pre g 7 >= 0"}
	wantRuleModel(t, two, rule, rows("xs - 5, "))
	wantRuleModel(t, two, "f | r := g n | return nil", written{"n xs r", "xs, xs - 5", "n, xs", "n;", "0"})
	wantRuleModel(t, two, "g | rs := f m , nil | return m", written{"m rs", "m - 6, 7, rs", "m", "m, 0;", "m"})
	// Without parameters, they are constants, but the rows are expressions of
	// all variables of the rule.
	none := []string{"fun z : int", "pre z 4 >= 0", "pre z -3 >= 0"}
	wantRuleModel(t, none, "z | return 2", written{"", "4, -3", "", "", "2"})
	wantRuleModel(t, none, "z | r := z | q := z | return r", written{"r q", "4, -3", "", "; ;", "r"})
}

// fullRule has as many of everything as there may be.
func fullRule() (impl.Program, written) {
	p := source("fun f xs ys : list", "pre f xs - ys >= 0", "pre f -2ys + 100 >= 0", "fun g n as : list",
		"rule f | ys = k : us | xs = h : ts | h - 3k + 1 >= 0 | k - 1 >= 0 | rs := g h + k , 1 : h : us | qs := f h : k : 0 : rs , ts | return 2h : k : 7 : qs")
	return p, written{
		"xs ys k h rs qs", "xs, ys, xs - ys, -2ys + 100, ys - 1, xs - 1, -3k + h + 1, k - 1, rs, qs",
		"xs, ys", "k + h, ys + 1; rs + 3, xs - 1;", "qs + 3",
	}
}

func TestModelOfAFullRule(t *testing.T) {
	p, want := fullRule()
	wantModel(t, p, 0, want.model(), true)
	wantModels(t, p)
	wantDomain(t, p, "f", system(2, lin(0, 1, 0), lin(0, 0, 1), lin(0, 1, -1), lin(100, 0, -2)), true)
	if m, _ := impl.ModelOf(p, 0); m.System.N != 6 || len(m.System.Rows) != 10 {
		t.Errorf("the model of a full rule is %+v", m)
	}
	for len(p.Rules) < limitRules {
		p.Rules = append(p.Rules, p.Rules[0])
	}
	for k := range limitRules {
		wantModel(t, p, k, want.model(), true)
	}
	wantModel(t, p, limitRules, impl.Model{}, false)
	p.Rules = append(p.Rules, p.Rules[0])
	wantModels(t, p)
}

// TestModelsOfEveryBase has every list that is visible, and none, behind every
// number of heads, in an argument of each call and in the result, for patterns
// in each order.
func TestModelsOfEveryBase(t *testing.T) {
	patterns := [][]impl.Pattern{
		{isCons("xs", "h", "ts"), isCons("ys", "k", "us")}, {isCons("ys", "k", "us"), isCons("xs", "h", "ts")},
		{isCons("xs", "k", "us"), isCons("ys", "h", "ts")}, {isCons("ys", "h", "ts"), isCons("xs", "k", "us")},
		{isCons("xs", "h", "ts"), isNil("ys")}, {isNil("ys"), isCons("xs", "h", "ts")}, {isCons("ys", "h", "ts")},
		{isNil("ys"), isNil("xs")}, {isNil("xs")}, nil,
	}
	count := 0
	for _, list := range patterns {
		for heads := range limitHeads + 1 {
			for _, base := range []string{"", "xs", "ys", "ts", "us", "rs", "qs"} {
				a, rest := listArg(base, make([]impl.Sum, heads)...), listArg("")
				for place := range 4 {
					args := []impl.Arg{rest, rest, rest, rest}
					args[place] = a
					p := withFunctions(function("f", true, "xs", "ys"), function("g", true, "bs"))
					p.Rules = []impl.Rule{{Func: "f", Patterns: list, Calls: []impl.Call{callOf("rs", "f", args[0], args[1]), callOf("qs", "g", args[2])}, Result: args[3]}}
					if isRule(p, p.Rules[0]) {
						wantModels(t, p)
						count++
					}
				}
			}
		}
	}
	// xs, ys and "" everywhere, each rest as well, rs and qs where they are known.
	if want := 4 * (10*(3*4) + 11*4 + 10*(2+1)); count != want {
		t.Errorf("%d rules are valid, want %d", count, want)
	}
}

// TestModelsAtTheLimits has the greatest numbers that guards, arguments and
// preconditions may have.
func TestModelsAtTheLimits(t *testing.T) {
	for _, n := range []int{1, -1, limitNumber - 1, limitNumber, -limitNumber + 1, -limitNumber} {
		s := sumOf(n, term(n, "h"), term(-n, "k"), term(n, "n"), term(-n, "r"))
		for _, pre := range []int{n, limitCoeff, -limitCoeff} {
			f := function("f", true, "n", "xs")
			f.Pre = []impl.Lin{lin(pre, -pre, pre), lin(-pre, pre, pre)}
			p := withFunctions(f, function("g", false, "ys"))
			p.Rules = []impl.Rule{{
				Func: "f", Patterns: []impl.Pattern{isCons("xs", "h", "ts")},
				Guards: []impl.Sum{sumOf(n, term(n, "h"), term(n, "n")), sumOf(-n, term(-n, "h"))},
				Calls:  []impl.Call{callOf("r", "g", listArg("ts")), callOf("k", "g", listArg("ts", sumOf(n, term(n, "r"))))},
				Result: listArg("xs", s),
			}, {
				Func: "f", Calls: []impl.Call{callOf("ks", "f", integer(n), listArg("xs")), callOf("rs", "f", integerArg(sumOf(-n, term(n, "n"))), listArg("ks"))},
				Result: listArg("rs"),
			}}
			want := impl.Model{
				System: system(5, lin(0, 0, 1, 0, 0, 0), lin(pre, -pre, pre, 0, 0, 0), lin(-pre, pre, pre, 0, 0, 0), lin(-1, 0, 1, 0, 0, 0), lin(n, n, 0, n, 0, 0), lin(-n, 0, 0, -n, 0, 0)),
				Params: []impl.Lin{lin(0, 1, 0, 0, 0, 0), lin(0, 0, 1, 0, 0, 0)},
				Args:   [][]impl.Lin{{lin(-1, 0, 1, 0, 0, 0)}, {lin(0, 0, 1, 0, 0, 0)}},
				Result: lin(1, 0, 1, 0, 0, 0),
			}
			wantModel(t, p, 0, want, true)
			want = impl.Model{
				System: system(4, lin(0, 0, 1, 0, 0), lin(pre, -pre, pre, 0, 0), lin(-pre, pre, pre, 0, 0), lin(0, 0, 0, 1, 0), lin(0, 0, 0, 0, 1)),
				Params: []impl.Lin{lin(0, 1, 0, 0, 0), lin(0, 0, 1, 0, 0)},
				Args:   [][]impl.Lin{{lin(n, 0, 0, 0, 0), lin(0, 0, 1, 0, 0)}, {lin(-n, n, 0, 0, 0), lin(0, 0, 0, 1, 0)}},
				Result: lin(0, 0, 0, 0, 1),
			}
			wantModel(t, p, 1, want, true)
			wantDomain(t, p, "f", system(2, lin(0, 0, 1), lin(pre, -pre, pre), lin(-pre, pre, pre)), true)
			wantModels(t, p)
			wantDomains(t, p)
		}
	}
}

// TestModelsOfSums has sums of as many terms as there may be, of parameters,
// heads and results, in an argument and in the result.
func TestModelsOfSums(t *testing.T) {
	lines := []string{"fun f n xs : int", "fun g m as : int", "rule g | return m"}
	const start = "f | xs = h : ts | 7h - 8n + 9 >= 0 | k := f 2h - 3n + 1 , ts | r := g 4h + 5k - 6n - 2 , nil | return "
	want := written{"n xs h k r", "xs, xs - 1, -8n + 7h + 9", "n, xs", "-3n + 2h + 1, xs - 1; -6n + 4h + 5k - 2, 0;", ""}
	for text, result := range map[string]string{
		"0": "0", "2h - k + 3n - 4r + 5": "3n + 2h - k - 4r + 5", "h": "h", "k": "k", "n": "n", "r": "r", "-r": "-r",
		"k + r": "k + r", "k - r - 1": "k - r - 1", "h - 999999n": "-999999n + h", "-h - k - n - r": "-n - h - k - r",
	} {
		want.result = result
		wantRuleModel(t, lines, start+text, want)
	}
}

func TestModelsOfSources(t *testing.T) {
	for _, s := range sources() {
		p, _ := impl.ParseProgram(s)
		wantModels(t, p)
		wantDomains(t, p)
	}
	sort, _ := impl.ParseProgram(sources()[3])
	for k, want := range []written{
		{"n xs", "xs, -xs", "n, xs", "", "1"},
		{"n xs h", "xs, xs - 1, -n + h", "n, xs", "", "xs + 1"},
		{"n xs h rs", "xs, xs - 1, rs", "n, xs", "n, xs - 1;", "rs + 1"},
		{"ys", "ys, -ys", "ys", "", "0"},
		{"ys k rs qs", "ys, ys - 1, rs, qs", "ys", "ys - 1; k, rs;", "qs"},
	} {
		wantModel(t, sort, k, want.model(), true)
	}
	for _, p := range returning() {
		wantModels(t, p)
	}
}

// modeled draws a valid program with preconditions, and with patterns in any
// order.
func (d drawing) modeled() impl.Program {
	p := d.runnable()
	for i, f := range p.Functions {
		for range d.IntN(limitPre + 1) {
			p.Functions[i].Pre = append(p.Functions[i].Pre, d.lin(len(f.Params), d.IntN(4), 1))
		}
	}
	for _, r := range p.Rules {
		d.Shuffle(len(r.Patterns), func(i int, j int) { r.Patterns[i], r.Patterns[j] = r.Patterns[j], r.Patterns[i] })
	}
	return p
}

// TestDrawnModels compares with the document, and expects rules of many kinds.
func TestDrawnModels(t *testing.T) {
	d := drawing{rand.New(rand.NewPCG(14, 1))}
	kinds := map[string]int{}
	for range 3000 {
		p := d.modeled()
		wantProgram(t, p, true)
		wantModels(t, p)
		wantDomains(t, p)
		for _, r := range p.Rules {
			f := p.Functions[functionIndex(p, r.Func)]
			kinds[fmt.Sprintf("%d parameters, %d Pre", len(f.Params), len(f.Pre))]++
			kinds[fmt.Sprintf("%d patterns, %d heads", len(r.Patterns), variableCount(f, r)-len(f.Params)-len(r.Calls))]++
			kinds[fmt.Sprintf("%d guards, %d calls", len(r.Guards), len(r.Calls))]++
		}
	}
	if len(kinds) != 9+6+9 {
		t.Errorf("the rules are of these kinds: %v", kinds)
	}
	for kind, count := range kinds {
		if count < 100 {
			t.Errorf("%d rules have %s", count, kind)
		}
	}
}

// application is a rule with the values of the parameters, heads and results
// of calls of a run, and with those of its arguments and of its result.
type application struct {
	rule   int
	point  []int
	args   [][]impl.Value
	result impl.Value
}

// applied returns what happens in a call of a function whose run ends.
func applied(p impl.Program, name string, args []impl.Value) (application, bool) {
	x, ok := firstFrame(p, name, args)
	if !ok {
		return application{}, false
	}
	a := application{rule: slices.IndexFunc(p.Rules, func(r impl.Rule) bool { return sameRule(r, x.rule) })}
	for _, c := range x.rule.Calls {
		var given []impl.Value
		for _, arg := range c.Args {
			v, _, fits := x.built(arg)
			ok = ok && fits
			given = append(given, v)
		}
		end := impl.RunFunction(p, c.Func, given, limitFuel)
		if !ok || end.Status != impl.RunEnded {
			return application{}, false
		}
		x.values, a.args = append(x.values, end.Value), append(a.args, given)
	}
	tails := []string{""}
	for _, pattern := range x.rule.Patterns {
		tails = append(tails, pattern.Tail)
	}
	for i, v := range x.values {
		if !slices.Contains(tails, x.names[i]) {
			a.point = append(a.point, v.N+len(v.Items))
		}
	}
	a.result, _, ok = x.built(x.rule.Result)
	return a, ok
}

// TestSizesOfRuns is the promise, stated for runs: the sizes of all values are
// those that the model says, and they satisfy its rows exactly if the
// precondition is met.
func TestSizesOfRuns(t *testing.T) {
	d := drawing{rand.New(rand.NewPCG(14, 2))}
	met, calls := map[bool]int{}, map[int]int{}
	for range 6000 {
		p := d.modeled()
		f := p.Functions[d.IntN(len(p.Functions))]
		args := d.drawnArgs(f.Params)
		x, ok := applied(p, f.Name, args)
		if !ok {
			continue
		}
		m, ok := impl.ModelOf(p, x.rule)
		if !ok {
			t.Fatalf("ModelOf(%+v, %d) fails", p, x.rule)
		}
		lins := slices.Concat(m.Params, slices.Concat(m.Args...), []impl.Lin{m.Result})
		for i, v := range slices.Concat(args, slices.Concat(x.args...), []impl.Value{x.result}) {
			if got, ok := impl.EvalLin(lins[i], x.point); !ok || got != impl.SizeOf(v) {
				t.Fatalf("size %d is %d, %t for %s of %v in %+v: %+v", i, got, ok, f.Name, args, p, x)
			}
		}
		want := meetsAll(p, f.Name, args)
		if got := impl.Satisfies(m.System, x.point); got != want {
			t.Fatalf("%v satisfies %+v: %t, for %s of %v in %+v", x.point, m.System, got, f.Name, args, p)
		}
		s, ok := impl.DomainOf(p, f.Name)
		if got := impl.Satisfies(s, x.point[:len(args)]); !ok || got != want {
			t.Fatalf("%v satisfies %+v: %t, for %s of %v in %+v", x.point, s, got, f.Name, args, p)
		}
		met[want]++
		calls[len(x.args)]++
	}
	if met[true] < 400 || met[false] < 400 || calls[0] < 400 || calls[1] < 200 || calls[2] < 50 {
		t.Errorf("the precondition is met so often: %v, and there are so many calls: %v", met, calls)
	}
}

func TestModelsOfInvalidPrograms(t *testing.T) {
	none := func(p impl.Program) {
		t.Helper()
		wantProgram(t, p, false)
		wantModels(t, p)
		wantDomains(t, p)
		for k := range 3 {
			wantModel(t, p, k, impl.Model{}, false)
		}
		for _, name := range []string{"rev", "len", "zero", "f"} {
			wantDomain(t, p, name, impl.System{}, false)
		}
	}
	none(impl.Program{})
	none(impl.Program{Functions: []impl.Function{}, Rules: []impl.Rule{}})
	none(impl.Program{Rules: mixed().Rules})
	none(withFunctions(oddFunctions()...))
	for _, f := range oddFunctions() {
		none(withFunctions(f))
		none(withFunctions(f, function("f", false)))
		none(withFunctions(function("f", false), f))
	}
	count := 0
	for _, p := range append(somePrograms(), variants()...) {
		if len(faultsOfProgram(p)) == 0 {
			wantModels(t, p)
			wantDomains(t, p)
			continue
		}
		count++
		none(p)
	}
	if count < 50 {
		t.Errorf("only %d programs are not valid", count)
	}
	// A program without rules has domains, but no models.
	for k := -1; k <= 1; k++ {
		wantModel(t, withFunctions(mixed().Functions...), k, impl.Model{}, false)
	}
	wantDomains(t, withFunctions(mixed().Functions...))
}

// TestOneFaultOfAModel changes a valid program with a full rule at one place
// that has nothing to do with this rule.
func TestOneFaultOfAModel(t *testing.T) {
	for _, change := range []func(p *impl.Program){
		func(p *impl.Program) { p.Functions[2].Name = "ks" },
		func(p *impl.Program) { p.Functions[2].Name = "f" },
		func(p *impl.Program) { p.Functions = append(p.Functions, function("more", false)) },
		func(p *impl.Program) { p.Functions[2].Params = []string{"n", "n"} },
		func(p *impl.Program) { p.Functions[2].Pre = []impl.Lin{lin(1, 1)} },
		func(p *impl.Program) { p.Functions[2].Pre = []impl.Lin{lin(0), lin(0), lin(0)} },
		func(p *impl.Program) { p.Functions[2].Pre = []impl.Lin{lin(limitCoeff + 1)} },
		func(p *impl.Program) { p.Rules[1].Result = integer(0, "n") },
		func(p *impl.Program) { p.Rules[1].Func = "none" },
		func(p *impl.Program) { p.Rules[1].Guards = make([]impl.Sum, limitGuards+1) },
		func(p *impl.Program) { p.Rules = slices.Repeat(p.Rules, 5) },
		func(p *impl.Program) { p.Rules = slices.Repeat(p.Rules, 10000) },
	} {
		p, want := fullRule()
		p.Functions = append(p.Functions, function("k", false))
		p.Rules = append(p.Rules, impl.Rule{Func: "k", Result: integer(0)})
		wantModel(t, p, 0, want.model(), true)
		wantDomain(t, p, "g", system(2, lin(0, 0, 1)), true)
		change(&p)
		wantProgram(t, p, false)
		for _, k := range []int{-1, 0, 1, 2, len(p.Rules) - 1, len(p.Rules)} {
			wantModel(t, p, k, impl.Model{}, false)
		}
		for _, name := range []string{"f", "g", "k", "none"} {
			wantDomain(t, p, name, impl.System{}, false)
		}
	}
}

func TestDomainOf(t *testing.T) {
	pres := [][]impl.Lin{
		nil, {lin(-2, 1, 3)}, {lin(4, -1, 0), lin(0, 0, 1)}, {lin(0, 0, 1), lin(4, -1, 0)}, {lin(-1, 0, 0), lin(-1, 0, 0)},
		{lin(limitCoeff, -limitCoeff, limitCoeff), lin(-limitCoeff, limitCoeff, -limitCoeff)},
	}
	first, second := lin(0, 1, 0), lin(0, 0, 1)
	for _, c := range []struct {
		params []string
		rows   []impl.Lin
	}{
		{[]string{"n", "m"}, nil},
		{[]string{"n", "xs"}, []impl.Lin{second}},
		{[]string{"xs", "n"}, []impl.Lin{first}},
		{[]string{"xs", "ys"}, []impl.Lin{first, second}},
		{[]string{"ys", "xs"}, []impl.Lin{first, second}},
		{[]string{"s", "a"}, []impl.Lin{first}},
		{[]string{"s1", "as"}, []impl.Lin{second}},
	} {
		for _, pre := range pres {
			for _, listResult := range []bool{false, true} {
				f := function("f", listResult, c.params...)
				f.Pre = pre
				want := system(2, append(slices.Clone(c.rows), pre...)...)
				for _, p := range []impl.Program{
					withFunctions(f), withFunctions(f, function("g", true, "ks")), withFunctions(function("g", true, "ks"), f, function("k", false)),
				} {
					wantDomain(t, p, "f", want, true)
					wantDomains(t, p)
				}
			}
		}
	}
	small := func(f impl.Function, want impl.System, pre ...impl.Lin) {
		t.Helper()
		f.Pre = pre
		wantDomain(t, withFunctions(f), "f", want, true)
		wantDomain(t, withFunctions(f), "g", impl.System{}, false)
	}
	small(function("f", true), system(0))
	small(function("f", true), system(0, lin(-5)), lin(-5))
	small(function("f", true), system(0, lin(0), lin(3)), lin(0), lin(3))
	small(function("f", true, "n"), system(1))
	small(function("f", true, "n"), system(1, lin(1, 2)), lin(1, 2))
	small(function("f", true, "xs"), system(1, lin(0, 1)))
	small(function("f", true, "xs"), system(1, lin(0, 1), lin(-4, 1), lin(7, -1)), lin(-4, 1), lin(7, -1))
}

// TestDomainsOfFunctionsThatDoNotExist has names of other things.
func TestDomainsOfFunctionsThatDoNotExist(t *testing.T) {
	for _, name := range []string{"", "re", "reve", "revs", "Rev", "rev ", " rev", "rev\x00", "n", "xs", "h", "ys", "m", "qs", "nil", "fun", "\xff"} {
		wantDomain(t, mixed(), name, impl.System{}, false)
	}
}

// instance returns what InstantiateLin has to return.
func instance(l impl.Lin, args []impl.Lin) (impl.Lin, bool) {
	n := 0
	if len(args) > 0 {
		n = len(args[0].Coeffs)
	}
	if len(l.Coeffs) != len(args) || len(args) > limitVars || n > limitVars || !withinCoeff(l.Const) {
		return impl.Lin{}, false
	}
	sum, ok := linAt(n, -1, l.Const, 0), true
	for i, arg := range args {
		if sum, ok = combination(sum, l.Coeffs[i], arg); !ok {
			return impl.Lin{}, false
		}
	}
	return sum, true
}

func wantInstance(t *testing.T, l impl.Lin, args []impl.Lin, want impl.Lin, ok bool) {
	t.Helper()
	if expected, expectedOk := instance(l, args); !sameLin(expected, want) || expectedOk != ok {
		t.Errorf("the test is wrong: %v, %t for %v of %v", expected, expectedOk, l, args)
	}
	got, gotOk := impl.InstantiateLin(l, args)
	if !sameLin(got, want) || gotOk != ok {
		t.Errorf("InstantiateLin(%v, %v) = %v, %t, want %v, %t", l, args, got, gotOk, want, ok)
	}
	if ok && len(args) > 0 && !impl.IsValidLin(got, len(args[0].Coeffs)) || ok && len(args) == 0 && !impl.IsValidLin(got, 0) {
		t.Errorf("InstantiateLin(%v, %v) = %v, which is not valid", l, args, got)
	}
}

func wantNoInstance(t *testing.T, l impl.Lin, args ...impl.Lin) {
	t.Helper()
	wantInstance(t, l, args, impl.Lin{}, false)
}

func TestInstantiateLin(t *testing.T) {
	is := func(want impl.Lin, l impl.Lin, args ...impl.Lin) {
		t.Helper()
		wantInstance(t, l, args, want, true)
	}
	is(lin(2, 1, 2), lin(1, 1, 2), lin(-1, 1, 0), lin(1, 0, 1))
	is(lin(7, 5), lin(7, 1), lin(0, 5))
	is(lin(13, -5), lin(7, -1), lin(-6, 5))
	is(lin(7, 0), lin(7, 0), lin(-6, 5))
	is(lin(7, 0, 0, 0), lin(7, 0), lin(-6, 5, 8, 9))
	is(lin(25, 15, 24, 27), lin(7, 3), lin(6, 5, 8, 9))
	is(lin(-5, 15, 24, -27), lin(-7, 3, -1), lin(1, 6, 8, -9), lin(1, 3, 0, 0))
	is(lin(7, -1), lin(7, 0, -1), lin(5, 1), lin(0, 1))
	is(lin(12, 1), lin(7, 1, 0), lin(5, 1), lin(0, 1))
	is(lin(0, 0, 1), lin(0, 0, 1), lin(0, 1, 0), lin(0, 0, 1))
	is(lin(0, 1, 0), lin(0, 0, 1), lin(0, 0, 1), lin(0, 1, 0))
	// Args that cancel each other out.
	is(lin(4, 0, 0), lin(4, 1, -1), lin(5, 2, 3), lin(5, 2, 3))
	is(lin(4, 0, 0), lin(4, 2, 3), lin(6, -3, 9), lin(-4, 2, -6))
	is(lin(0, 0), lin(4, 1), lin(-4, 0))
	is(lin(1, 2, 0), lin(1, 1, 1), lin(0, 1, 1), lin(0, 1, -1))
	// Args without variables, and variables without args.
	is(lin(17), lin(7, 2), lin(5))
	is(lin(-2), lin(7, 2, -3), lin(3), lin(5))
	is(lin(7), lin(7))
	is(lin(0), impl.Lin{})
	is(lin(-limitCoeff), lin(-limitCoeff))
	one := linAt(limitVars, -1, 1, 1)
	is(linAt(limitVars, -1, 5+limitVars, limitVars), linAt(limitVars, -1, 5, 1), slices.Repeat([]impl.Lin{one}, limitVars)...)
	is(lin(5+limitVars), linAt(limitVars, -1, 5, 1), slices.Repeat([]impl.Lin{lin(1)}, limitVars)...)
	is(linAt(limitVars, -1, 3, 2), lin(1, 2), one)
	// Each variable for itself.
	for n := range limitVars + 1 {
		l, args := lin(6), []impl.Lin(nil)
		for i := range n {
			l.Coeffs, args = append(l.Coeffs, 3*i-7), append(args, linAt(n, i, 1, 0))
		}
		is(l, l, args...)
	}
}

// TestInstantiateLinWithoutArgs has no args, as nil and as an empty slice.
func TestInstantiateLinWithoutArgs(t *testing.T) {
	for _, args := range [][]impl.Lin{nil, {}, make([]impl.Lin, 3)[:0]} {
		for _, x := range coeffEdges() {
			for _, l := range []impl.Lin{{Const: x}, {Const: x, Coeffs: []int{}}, {Const: x, Coeffs: make([]int, 2)[:0]}} {
				want := impl.Lin{}
				if withinCoeff(x) {
					want = lin(x)
				}
				wantInstance(t, l, args, want, withinCoeff(x))
			}
			wantInstance(t, lin(x, 0), args, impl.Lin{}, false)
			wantInstance(t, lin(x, 1, 2), args, impl.Lin{}, false)
		}
	}
}

// TestInstantiateLinCountsArgs has expressions of all numbers of variables and
// args of all numbers, of all numbers of variables.
func TestInstantiateLinCountsArgs(t *testing.T) {
	for size := range limitVars + 3 {
		for count := range limitVars + 3 {
			for n := range limitVars + 3 {
				for _, rest := range []int{0, 1} {
					l, args := linAt(size, -1, 5, rest), slices.Repeat([]impl.Lin{linAt(n, -1, 2, 3)}, count)
					if size != count || count > limitVars || n > limitVars && count > 0 {
						wantNoInstance(t, l, args...)
						continue
					}
					if count == 0 {
						wantInstance(t, l, args, lin(5), true)
						continue
					}
					wantInstance(t, l, args, linAt(n, -1, 5+2*rest*count, 3*rest*count), true)
				}
			}
		}
	}
	for _, n := range []int{2 * limitVars, 2*limitVars + 1, 100} {
		wantNoInstance(t, linAt(n, -1, 5, 0), slices.Repeat([]impl.Lin{lin(1, 2)}, n)...)
		wantNoInstance(t, lin(5, 0), linAt(n, -1, 1, 0))
		wantNoInstance(t, lin(5, 0, 0), linAt(n, -1, 1, 0), linAt(n, -1, 1, 0))
	}
}

// TestInstantiateLinOfDifferentArgs has one arg, at each place, of another
// number of variables than the others.
func TestInstantiateLinOfDifferentArgs(t *testing.T) {
	for count := 2; count <= limitVars; count++ {
		for place := range count {
			for n := range limitVars + 2 {
				for m := range limitVars + 2 {
					args := slices.Repeat([]impl.Lin{linAt(n, -1, 2, 3)}, count)
					args[place] = linAt(m, -1, 2, 3)
					// The arg does not count less if its coefficient is 0.
					for _, l := range []impl.Lin{linAt(count, -1, 5, 0), linAt(count, -1, 5, 1), linAt(count, place, 0, 1)} {
						want, ok := instance(l, args)
						if ok != (n == m && n <= limitVars) {
							t.Fatalf("the test is wrong: %v of %v", l, args)
						}
						wantInstance(t, l, args, want, ok)
					}
				}
			}
		}
	}
}

// TestInstantiateLinAtEveryNumber has each number at the limits and beyond
// them at each place of the expression and of one arg.
func TestInstantiateLinAtEveryNumber(t *testing.T) {
	for _, count := range []int{0, 1, 2, 3, limitVars} {
		for place := -1; place < count; place++ {
			for _, x := range coeffEdges() {
				l := linAt(count, place, x, 0)
				zeros := slices.Repeat([]impl.Lin{linAt(2, -1, 0, 0)}, count)
				for _, args := range [][]impl.Lin{zeros, slices.Repeat([]impl.Lin{lin(0, 1, -1)}, count), slices.Repeat([]impl.Lin{lin(1, 0, 2)}, count)} {
					want, ok := instance(l, args)
					wantInstance(t, l, args, want, ok)
				}
				if place < 0 {
					continue
				}
				for number := -1; number < 2; number++ {
					for _, k := range []int{0, 1, -1, 2, -3, limitCoeff, limitCoeff + 1} {
						args := slices.Clone(zeros)
						args[place] = linAt(2, number, x, 0)
						l = linAt(count, place, k, 1)
						want, ok := instance(l, args)
						if k == 0 && ok != withinCoeff(x) {
							t.Fatalf("the test is wrong: %v of %v", l, args)
						}
						wantInstance(t, l, args, want, ok)
					}
				}
			}
		}
	}
}

// TestInstantiateLinInOrder has sums that exceed a limit at the first, a middle
// or the last step, some of them although the last one would fit.
func TestInstantiateLinInOrder(t *testing.T) {
	const most = limitCoeff
	for n := range 3 {
		for place := -1; place < n; place++ {
			for _, sign := range []int{1, -1} {
				at := func(list ...int) []impl.Lin {
					var args []impl.Lin
					for _, x := range list {
						args = append(args, linAt(n, place, sign*x, 0))
					}
					return args
				}
				fits := func(want int, coeffs []int, args ...int) {
					t.Helper()
					wantInstance(t, lin(0, coeffs...), at(args...), linAt(n, place, sign*want, 0), true)
				}
				exceeds := func(coeffs []int, args ...int) {
					t.Helper()
					wantNoInstance(t, lin(0, coeffs...), at(args...)...)
				}
				ones := []int{1, 1, 1, 1}
				fits(most, ones, most, 0, 0, 0)
				fits(most, ones, 0, 0, 0, most)
				fits(most, ones, most-3, 1, 1, 1)
				fits(most, ones, most, -1, 1, 0)
				fits(most, ones, -1, most, 1, 0)
				fits(most, ones, 1, -1, 0, most)
				fits(0, ones, most, -most, most, -most)
				fits(0, []int{1, -1, 1, -1}, most, most, -most, -most)
				exceeds(ones, most, 1, 0, 0)
				exceeds(ones, most-1, 1, 1, 0)
				exceeds(ones, most-2, 1, 1, 1)
				exceeds(ones, most, 1, -1, 0)
				exceeds(ones, most, 1, -most, -1)
				exceeds(ones, 0, most, 1, -1)
				exceeds(ones, 1, 0, most, -1)
				exceeds(ones, 1, most-1, 1, -1)
				exceeds(ones, most, most, -most, -most)
				// Products that exceed a limit, whatever the others are.
				fits(most, []int{2, 1}, most/2, 0)
				fits(most-7, []int{40000, -7}, 25000, 1)
				exceeds([]int{2}, most/2+1)
				exceeds([]int{2, -1}, most, most)
				exceeds([]int{2, -2}, most, most)
				exceeds([]int{1, 2}, -most, most)
				exceeds([]int{1, 1, 2}, -most, 0, most)
				exceeds([]int{7, -1}, 142857143, 1)
				exceeds([]int{1, 0, 7}, -1, 5, 142857143)
				exceeds([]int{most, 0}, 2, 0)
				exceeds([]int{0, most, -most}, 1, 2, 2)
			}
		}
	}
}

// TestInstantiateLinStartsWithTheConstant has constants that decide whether a
// sum exceeds a limit on the way.
func TestInstantiateLinStartsWithTheConstant(t *testing.T) {
	const most = limitCoeff
	for n := range 3 {
		for _, sign := range []int{1, -1} {
			arg := func(x int) impl.Lin { return linAt(n, -1, sign*x, 0) }
			wantInstance(t, lin(sign*-1, 1, 1), []impl.Lin{arg(most), arg(1)}, arg(most), true)
			wantInstance(t, lin(sign*-5, 1, 1, 1), []impl.Lin{arg(most), arg(3), arg(2)}, arg(most), true)
			wantInstance(t, lin(sign*most, 1), []impl.Lin{arg(0)}, arg(most), true)
			wantInstance(t, lin(sign*most, -1), []impl.Lin{arg(1)}, arg(most-1), true)
			wantInstance(t, lin(sign*most, 0, 0), []impl.Lin{arg(1), arg(most)}, arg(most), true)
			wantInstance(t, lin(sign*most, 1, 1), []impl.Lin{arg(-most), arg(most)}, arg(most), true)
			wantNoInstance(t, lin(sign*most, 1), arg(1))
			wantNoInstance(t, lin(sign, 1), arg(most))
			wantNoInstance(t, lin(sign, 1, 1), arg(most), arg(-1))
			wantNoInstance(t, lin(sign*2, 1, 1), arg(most-1), arg(-1))
			wantNoInstance(t, lin(sign*most, 1, 1), arg(1), arg(-1))
			wantNoInstance(t, lin(sign*(most+1), 1), arg(-1))
			wantNoInstance(t, lin(sign*(most+1), 1, 0), arg(-most), arg(1))
		}
	}
}

// TestValuesOfInstances has all small expressions and args: the value of the
// instance is that of the expression for the values of the args.
func TestValuesOfInstances(t *testing.T) {
	args := linsOf(2, []int{-1, 0, 2}, []int{-1, 0, 2})
	points := pointsOf(2, -2, 2)
	for count := range 3 {
		for _, l := range linsOf(count, []int{-3, 0, 1}, []int{-2, -1, 0, 1, 3}) {
			for _, choice := range pointsOf(count, 0, len(args)-1) {
				var list []impl.Lin
				for _, i := range choice {
					list = append(list, args[i])
				}
				got, ok := impl.InstantiateLin(l, list)
				if count == 0 {
					wantInstance(t, l, list, l, true)
					continue
				}
				for _, point := range points {
					var values []int
					for _, arg := range list {
						values = append(values, valueAt(arg, point))
					}
					if !ok || len(got.Coeffs) != 2 || valueAt(got, point) != valueAt(l, values) {
						t.Fatalf("InstantiateLin(%v, %v) = %v, %t", l, list, got, ok)
					}
				}
			}
		}
	}
}

// TestDrawnInstances compares with the document for numbers of all kinds.
func TestDrawnInstances(t *testing.T) {
	d := drawing{rand.New(rand.NewPCG(14, 3))}
	found := map[bool]int{}
	for range 30000 {
		count, n, kind := d.IntN(limitVars+1), d.IntN(limitVars+1), d.IntN(4)
		l := d.lin(count, d.IntN(4), 1+d.IntN(3))
		var args []impl.Lin
		for range count {
			args = append(args, d.lin(n, kind, 1+d.IntN(3)))
		}
		if count > 0 && d.IntN(10) == 0 {
			args[d.IntN(count)] = d.lin(d.IntN(limitVars+2), kind, 1)
		}
		want, ok := instance(l, args)
		wantInstance(t, l, args, want, ok)
		found[ok]++
	}
	if found[true] < 5000 || found[false] < 5000 {
		t.Errorf("there are so many instances: %v", found)
	}
}

// someModel returns a model, in memory of its own, with parts that are all
// different. It is not a valid one.
func someModel() impl.Model {
	return impl.Model{
		System: system(3, lin(1, 2, 3, 4), lin(5, 6), lin(7)),
		Params: []impl.Lin{lin(8, 9, 10), lin(11)},
		Args:   [][]impl.Lin{{lin(12, 13, 14), lin(15, 16), lin(17)}, {}, {lin(18)}},
		Result: lin(19, 20, 21, 22),
	}
}

// modelVariants returns someModel and models that differ from it at one place:
// in a number, or in that an element is missing or one is added.
func modelVariants() []impl.Model {
	list := []impl.Model{someModel()}
	for k := 0; ; k++ {
		m, place := someModel(), k
		if !changed(reflect.ValueOf(&m).Elem(), &place) {
			return list
		}
		list = append(list, m)
	}
}

func wantEqualModels(t *testing.T, a impl.Model, b impl.Model, want bool) {
	t.Helper()
	if sameModel(a, b) != want {
		t.Errorf("the test is wrong: %+v and %+v", a, b)
	}
	if got := impl.EqualModel(a, b); got != want {
		t.Errorf("EqualModel(%+v, %+v) = %t", a, b, got)
	}
	if got := impl.EqualModel(b, a); got != want {
		t.Errorf("EqualModel(%+v, %+v) = %t", b, a, got)
	}
}

func TestEqualModel(t *testing.T) {
	list, again := modelVariants(), modelVariants()
	if len(list) < 60 {
		t.Errorf("there are only %d variants", len(list))
	}
	for i, a := range list {
		for j, b := range again {
			wantEqualModels(t, a, b, i == j)
		}
		wantEqualModels(t, a, a, true)
		wantEqualModels(t, a, impl.Model{}, false)
	}
	wantEqualModels(t, impl.Model{}, impl.Model{}, true)
	swapped := func(change func(m *impl.Model)) {
		t.Helper()
		m := someModel()
		change(&m)
		wantEqualModels(t, m, someModel(), false)
	}
	swapped(func(m *impl.Model) { slices.Reverse(m.System.Rows) })
	swapped(func(m *impl.Model) { slices.Reverse(m.System.Rows[0].Coeffs) })
	swapped(func(m *impl.Model) { slices.Reverse(m.Params) })
	swapped(func(m *impl.Model) { slices.Reverse(m.Params[0].Coeffs) })
	swapped(func(m *impl.Model) { slices.Reverse(m.Args) })
	swapped(func(m *impl.Model) { slices.Reverse(m.Args[0]) })
	swapped(func(m *impl.Model) { slices.Reverse(m.Args[0][0].Coeffs) })
	swapped(func(m *impl.Model) { slices.Reverse(m.Result.Coeffs) })
	swapped(func(m *impl.Model) { m.Params, m.Args[0] = m.Args[0], m.Params })
	swapped(func(m *impl.Model) { m.Params, m.System.Rows = m.System.Rows, m.Params })
	swapped(func(m *impl.Model) { m.Params[1], m.Result = m.Result, m.Params[1] })
	// The same args in other calls.
	swapped(func(m *impl.Model) { m.Args = [][]impl.Lin{slices.Concat(m.Args...)} })
	swapped(func(m *impl.Model) { m.Args[0], m.Args[1] = m.Args[0][:2], m.Args[0][2:] })
	swapped(func(m *impl.Model) { m.Args[1], m.Args[2] = m.Args[2], m.Args[1] })
}

// TestEqualModelOfNothing has nil and empty slices at all places.
func TestEqualModelOfNothing(t *testing.T) {
	bare := impl.Model{System: impl.System{Rows: make([]impl.Lin, 2)}, Params: make([]impl.Lin, 1), Args: make([][]impl.Lin, 2)}
	bare.Args[1] = make([]impl.Lin, 1)
	var list []impl.Model
	for _, m := range []impl.Model{{}, bare, someModel(), {Args: make([][]impl.Lin, 1)}, {Args: make([][]impl.Lin, 2)}, {Params: make([]impl.Lin, 1)}} {
		a, b := roomyModel(m), roomyModel(m)
		withEmpty(reflect.ValueOf(&a).Elem(), true)
		withEmpty(reflect.ValueOf(&b).Elem(), false)
		if !sameModel(a, m) || !sameModel(b, m) {
			t.Fatalf("the test is wrong: %+v became %+v and %+v", m, a, b)
		}
		list = append(list, m, a, b)
	}
	for i, a := range list {
		for j, b := range list {
			wantEqualModels(t, a, b, i/3 == j/3)
		}
	}
}

func TestEqualModelAtEveryNumber(t *testing.T) {
	pairs := [][2]int{{0, 1}, {1, -1}, {limitCoeff, limitCoeff + 1}, {0, 1 << 32}, {math.MinInt, 0}, {math.MinInt, math.MaxInt}}
	for _, n := range []int{0, 1, limitVars, limitVars + 1, 2*limitVars + 1} {
		for place := -1; place < n; place++ {
			for _, pair := range pairs {
				for part := range 5 {
					model := func(x int) impl.Model {
						m, l := someModel(), linAt(n, place, x, 5)
						*[]*impl.Lin{&m.System.Rows[2], &m.Params[1], &m.Args[0][2], &m.Args[2][0], &m.Result}[part] = l
						return m
					}
					wantEqualModels(t, model(pair[0]), model(pair[1]), false)
					wantEqualModels(t, model(pair[0]), model(pair[0]), true)
				}
			}
		}
	}
}

// TestEqualModelOfModels compares the models of different rules, and of the
// same ones computed again.
func TestEqualModelOfModels(t *testing.T) {
	var list []impl.Model
	for _, s := range sources() {
		p, _ := impl.ParseProgram(s)
		for k := range p.Rules {
			m, _ := impl.ModelOf(p, k)
			again, _ := impl.ModelOf(p, k)
			wantEqualModels(t, m, again, true)
			list = append(list, m)
		}
	}
	for _, a := range list {
		for _, b := range list {
			wantEqualModels(t, a, b, sameModel(a, b))
		}
	}
}

func TestEqualModelCountsParts(t *testing.T) {
	for size := range 30 {
		for more := range 30 {
			rows := func(count int) []impl.Lin { return slices.Repeat([]impl.Lin{lin(1, 2)}, count) }
			wantEqualModels(t, impl.Model{System: impl.System{Rows: rows(size)}}, impl.Model{System: impl.System{Rows: rows(more)}}, size == more)
			wantEqualModels(t, impl.Model{Params: rows(size)}, impl.Model{Params: rows(more)}, size == more)
			wantEqualModels(t, impl.Model{Args: [][]impl.Lin{{}, rows(size)}}, impl.Model{Args: [][]impl.Lin{{}, rows(more)}}, size == more)
			wantEqualModels(t, impl.Model{Args: slices.Repeat([][]impl.Lin{rows(2)}, size)}, impl.Model{Args: slices.Repeat([][]impl.Lin{rows(2)}, more)}, size == more)
		}
	}
}

func roomyLin(l impl.Lin) impl.Lin { return impl.Lin{Const: l.Const, Coeffs: roomy(l.Coeffs, 5, 6, 7)} }

func roomyLins(list []impl.Lin) []impl.Lin {
	more := roomy(list, lin(5, 6), lin(7))
	for i, l := range list {
		more[i] = roomyLin(l)
	}
	return more
}

// roomyModel returns the model with unused capacity behind every slice.
func roomyModel(m impl.Model) impl.Model {
	more := impl.Model{System: impl.System{N: m.System.N, Rows: roomyLins(m.System.Rows)}, Params: roomyLins(m.Params), Result: roomyLin(m.Result)}
	more.Args = roomy(m.Args, []impl.Lin{lin(5, 6)}, nil)
	for i, args := range m.Args {
		more.Args[i] = roomyLins(args)
	}
	return more
}

// describeAll returns everything that can be reached from a value, the unused
// capacity of every slice included.
func describeAll(v reflect.Value) string {
	switch v.Kind() {
	case reflect.Struct:
		text := "{"
		for i := range v.NumField() {
			text += describeAll(v.Field(i)) + " "
		}
		return text + "}"
	case reflect.Slice:
		text := "["
		for i := range v.Cap() {
			text += describeAll(v.Slice(0, v.Cap()).Index(i)) + " "
		}
		return text + "]"
	}
	return fmt.Sprint(v)
}

// modelPrograms returns programs that are valid and programs that are not.
func modelPrograms() []impl.Program {
	full, _ := fullRule()
	list := append(somePrograms(), full)
	for _, s := range sources()[1:] {
		p, _ := impl.ParseProgram(s)
		list = append(list, p)
	}
	d := drawing{rand.New(rand.NewPCG(14, 4))}
	for range 100 {
		list = append(list, d.modeled())
	}
	return append(list, returning()...)
}

// modelResults calls all functions with a program, and returns their results.
func modelResults(p impl.Program) []any {
	var results []any
	for k := -1; k <= min(len(p.Rules), limitRules); k++ {
		m, _ := impl.ModelOf(p, k)
		results = append(results, m)
	}
	for _, name := range namesToTry(p) {
		s, _ := impl.DomainOf(p, name)
		results = append(results, s)
	}
	return results
}

func TestModelFunctionsKeepTheirArguments(t *testing.T) {
	for i, p := range modelPrograms() {
		p = roomyProgram(p)
		before := describeProgram(p)
		modelResults(p)
		if after := describeProgram(p); after != before {
			t.Errorf("program %d changed from %s to %s", i, before, after)
		}
	}
	var list []impl.Model
	for _, m := range modelVariants() {
		list = append(list, roomyModel(m))
	}
	before := describeAll(reflect.ValueOf(list))
	for _, a := range list {
		for _, b := range list {
			impl.EqualModel(a, b)
		}
	}
	if after := describeAll(reflect.ValueOf(list)); after != before {
		t.Errorf("models changed from %s to %s", before, after)
	}
}

func TestModelResultsAreSeparate(t *testing.T) {
	for _, p := range modelPrograms() {
		p = roomyProgram(p)
		wantResultsApart(t, spansOf(reflect.ValueOf(p)), func() string { return describeProgram(p) }, func() []any { return modelResults(p) })
	}
}

// TestInstancesOfSharedMemory has expressions and args whose Coeffs are parts of
// the same numbers, with unused capacity behind them, and expressions whose
// instances are equal to an arg.
func TestInstancesOfSharedMemory(t *testing.T) {
	list := spare()
	for count := range limitVars + 2 {
		for n := range limitVars + 2 {
			args, lins := []impl.Lin(nil), []impl.Lin{{Const: 3, Coeffs: list[:count]}, {Const: -3, Coeffs: list[2 : 2+count]}}
			for i := range count {
				args = append(args, impl.Lin{Const: i, Coeffs: list[i : i+n]})
				lins = append(lins, linAt(count, i, 1, 0))
			}
			args = roomy(args, impl.Lin{Const: 5, Coeffs: list[:3]}, impl.Lin{Const: 6})
			for _, l := range lins {
				want, ok := instance(l, args)
				wantInstance(t, l, args, want, ok)
			}
			given := slices.Concat(spansOf(reflect.ValueOf(list)), spansOf(reflect.ValueOf(args)), spansOf(reflect.ValueOf(lins)))
			describe := func() string {
				return fmt.Sprint(list, describeAll(reflect.ValueOf(args)), describeAll(reflect.ValueOf(lins)))
			}
			wantResultsApart(t, given, describe, func() []any {
				var results []any
				for _, l := range lins {
					got, _ := impl.InstantiateLin(l, args)
					results = append(results, got)
				}
				return results
			})
		}
	}
}

// TestModelsOfSharedMemory has functions and rules whose slices are parts of
// the same memory.
func TestModelsOfSharedMemory(t *testing.T) {
	names, numbers := []string{"xs", "ys", "n"}, []int{1, -2, 3}
	rows := []impl.Lin{{Const: 7, Coeffs: numbers[:2]}, {Const: 8, Coeffs: numbers[1:]}, {Const: 9, Coeffs: numbers[:2]}}
	sums := []impl.Sum{sumOfNames(-1, "h"), sumOf(2, term(-1, "k")), sumOfNames(0, "h", "k")}
	args := []impl.Arg{listArg("ts", sums[:1]...), listArg("us"), integerArg(sums[2])}
	patterns := []impl.Pattern{isCons("xs", "h", "ts"), isCons("ys", "k", "us"), isNil("xs")}
	f := impl.Function{Name: "f", Params: names[:2], Pre: rows[:2], ListResult: true}
	g := impl.Function{Name: "g", Params: names[1:], Pre: rows[1:]}
	p := withFunctions(f, g)
	p.Rules = []impl.Rule{
		{Func: "f", Patterns: patterns[:2], Guards: sums[:2], Calls: []impl.Call{callOf("rs", "f"), callOf("r", "g")}, Result: impl.Arg{List: true, Heads: sums[:2], Base: "us"}},
		{Func: "g", Patterns: patterns[1:2], Guards: sums[1:2], Result: args[2]},
		{Func: "f", Patterns: patterns[1:], Result: impl.Arg{List: true, Heads: make([]impl.Sum, 1), Base: "us"}},
	}
	p.Rules[1].Result = impl.Arg{Heads: sums[1:2]}
	p.Rules[0].Calls[0].Args, p.Rules[0].Calls[1].Args = args[:2], args[1:]
	before := fmt.Sprint(names, numbers, rows, sums, args, patterns)
	wantProgram(t, p, true)
	wantModels(t, p)
	wantDomains(t, p)
	wantModel(t, p, 0, written{
		"xs ys h k rs r", "xs, ys, xs - 2ys + 7, -2xs + 3ys + 8, xs - 1, ys - 1, h - 1, -k + 2, rs",
		"xs, ys", "xs, ys - 1; ys - 1, h + k;", "ys + 1",
	}.model(), true)
	wantModel(t, p, 1, written{"ys n k", "ys, -2ys + 3n + 8, ys - 2n + 9, ys - 1, -k + 2", "ys, n", "", "-k + 2"}.model(), true)
	wantModel(t, p, 2, written{"xs ys k", "xs, ys, xs - 2ys + 7, -2xs + 3ys + 8, ys - 1, -xs", "xs, ys", "", "ys"}.model(), true)
	for _, result := range modelResults(p) {
		overwriteAll(reflect.ValueOf(result))
	}
	if got := fmt.Sprint(names, numbers, rows, sums, args, patterns); got != before {
		t.Errorf("the arguments changed from %s to %s", before, got)
	}
}
