package tests

import (
	"fmt"
	"math/rand/v2"
	"reflect"
	"slices"
	"strconv"
	"strings"
	"testing"

	"loop.example/g00515/impl"
)

// edgesAt reads calls like "2.1": the call 1 of rule 2.
func edgesAt(text string) []impl.Edge {
	var edges []impl.Edge
	for _, word := range strings.Fields(text) {
		first, second, _ := strings.Cut(word, ".")
		rule, err := strconv.Atoi(first)
		call, more := strconv.Atoi(second)
		if err != nil || more != nil {
			panic("the test is wrong: " + text)
		}
		edges = append(edges, impl.Edge{Rule: rule, Call: call})
	}
	return edges
}

// groupsOf reads lists of names like "f g, k".
func groupsOf(text string) [][]string {
	var groups [][]string
	for _, part := range strings.Split(text, ",") {
		if words := strings.Fields(part); len(words) > 0 {
			groups = append(groups, words)
		}
	}
	return groups
}

func sameGroups(a [][]string, b [][]string) bool { return slices.EqualFunc(a, b, slices.Equal) }

// network returns the program with these functions, without parameters, and a
// rule for each word: "f>g,k" is a rule of f that calls g, then k.
func network(names string, rules string) impl.Program {
	var p impl.Program
	for _, name := range strings.Fields(names) {
		p.Functions = append(p.Functions, function(name, false))
	}
	for _, word := range strings.Fields(rules) {
		name, called, _ := strings.Cut(word, ">")
		r := impl.Rule{Func: name, Result: integer(0)}
		for i, other := range strings.FieldsFunc(called, func(c rune) bool { return c == ',' }) {
			r.Calls = append(r.Calls, callOf("r"+strconv.Itoa(i), other))
		}
		p.Rules = append(p.Rules, r)
	}
	if faults := faultsOfProgram(p); len(faults) > 0 {
		panic(fmt.Sprint("the test is wrong: ", names, ", ", rules, ": ", faults))
	}
	return p
}

// The following functions say what the document requires, in other ways than
// the program: with a matrix of the functions that call each other, and with
// all orders of the components.

func namesOfFunctions(p impl.Program) []string {
	var names []string
	for _, f := range p.Functions {
		names = append(names, f.Name)
	}
	return names
}

// edgesWithin returns the calls by functions of a list of functions of this
// list; nil for a program that is not valid.
func edgesWithin(p impl.Program, list []string) []impl.Edge {
	if len(faultsOfProgram(p)) > 0 {
		return nil
	}
	var edges []impl.Edge
	for i := range p.Rules {
		for j := range p.Rules[i].Calls {
			if slices.Contains(list, p.Rules[i].Func) && slices.Contains(list, p.Rules[i].Calls[j].Func) {
				edges = append(edges, impl.Edge{Rule: i, Call: j})
			}
		}
	}
	return edges
}

// matrix says of functions, by their indices, which one leads to which one.
type matrix [limitFunctions][limitFunctions]bool

// callMatrix returns the direct calls of a valid program.
func callMatrix(p impl.Program) matrix {
	var m matrix
	for _, r := range p.Rules {
		for _, c := range r.Calls {
			m[functionIndex(p, r.Func)][functionIndex(p, c.Func)] = true
		}
	}
	return m
}

// withPaths returns the matrix of the paths of no, one or more steps of m.
func (m matrix) withPaths() matrix {
	for i := range m {
		m[i][i] = true
	}
	for k := range m {
		for i := range m {
			for j := range m {
				m[i][j] = m[i][j] || m[i][k] && m[k][j]
			}
		}
	}
	return m
}

func reachedFrom(p impl.Program, name string) []string {
	k := functionIndex(p, name)
	if len(faultsOfProgram(p)) > 0 || k < 0 {
		return nil
	}
	var names []string
	for i, other := range namesOfFunctions(p) {
		if callMatrix(p).withPaths()[k][i] {
			names = append(names, other)
		}
	}
	return names
}

// circle returns the component of a function of a valid program.
func circle(p impl.Program, k int) []string {
	paths := callMatrix(p).withPaths()
	var names []string
	for i, name := range namesOfFunctions(p) {
		if paths[k][i] && paths[i][k] {
			names = append(names, name)
		}
	}
	return names
}

// callsOnlyBack reports whether no function calls one of a later component.
func callsOnlyBack(p impl.Program, components [][]string) bool {
	place := map[string]int{}
	for i, component := range components {
		for _, name := range component {
			place[name] = i
		}
	}
	for _, r := range p.Rules {
		for _, c := range r.Calls {
			if place[c.Func] > place[r.Func] {
				return false
			}
		}
	}
	return true
}

// componentsIn returns the first order of the components, by the places of
// their first functions in the program, in which each component is behind the
// others that it calls.
func componentsIn(p impl.Program) [][]string {
	if len(faultsOfProgram(p)) > 0 {
		return nil
	}
	var keys []string
	for k := range p.Functions {
		if key := strings.Join(circle(p, k), " "); !slices.Contains(keys, key) {
			keys = append(keys, key)
		}
	}
	// The keys are in the order of the first functions, and so the orders are, too.
	for _, order := range orders(keys) {
		if components := groupsOf(strings.Join(order, ",")); callsOnlyBack(p, components) {
			return components
		}
	}
	return nil
}

func isRecursiveIn(p impl.Program, name string) bool {
	k := functionIndex(p, name)
	return len(faultsOfProgram(p)) == 0 && k >= 0 && len(edgesWithin(p, circle(p, k))) > 0
}

// namesToTry returns the functions of a program, and names that it may not have.
func namesToTry(p impl.Program) []string {
	return append(namesOfFunctions(p), "none", "", "f ", "F", "nil", "h", "xs", "\xff")
}

// listsToTry returns the lists of up to three functions, in all orders and also
// more than once.
func listsToTry(p impl.Program) [][]string {
	lists := [][]string{nil}
	for i := 0; i < len(lists) && len(lists[i]) < 3; i++ {
		for _, name := range append(namesOfFunctions(p), "none") {
			lists = append(lists, append(slices.Clone(lists[i]), name))
		}
	}
	return lists
}

func wantEdges(t *testing.T, p impl.Program, want []impl.Edge) {
	t.Helper()
	if expected := edgesWithin(p, namesOfFunctions(p)); !slices.Equal(expected, want) {
		t.Errorf("the test is wrong: the calls %v in %+v", expected, p)
	}
	if got := impl.EdgesOf(p); !slices.Equal(got, want) {
		t.Errorf("EdgesOf(%+v) = %v, want %v", p, got, want)
	}
}

func wantReached(t *testing.T, p impl.Program, name string, want []string) {
	t.Helper()
	if expected := reachedFrom(p, name); !slices.Equal(expected, want) {
		t.Errorf("the test is wrong: %q from %q in %+v", expected, name, p)
	}
	if got := impl.ReachableFrom(p, name); !slices.Equal(got, want) {
		t.Errorf("ReachableFrom(%+v, %q) = %q, want %q", p, name, got, want)
	}
}

func wantComponents(t *testing.T, p impl.Program, want [][]string) {
	t.Helper()
	if expected := componentsIn(p); !sameGroups(expected, want) {
		t.Errorf("the test is wrong: the components %q of %+v", expected, p)
	}
	if got := impl.ComponentsOf(p); !sameGroups(got, want) {
		t.Errorf("ComponentsOf(%+v) = %q, want %q", p, got, want)
	}
}

func wantRecursive(t *testing.T, p impl.Program, name string, want bool) {
	t.Helper()
	if isRecursiveIn(p, name) != want {
		t.Errorf("the test is wrong: %q in %+v", name, p)
	}
	if got := impl.IsRecursive(p, name); got != want {
		t.Errorf("IsRecursive(%+v, %q) = %t", p, name, got)
	}
}

func wantInner(t *testing.T, p impl.Program, list []string, want []impl.Edge) {
	t.Helper()
	if expected := edgesWithin(p, list); !slices.Equal(expected, want) {
		t.Errorf("the test is wrong: the calls %v within %q in %+v", expected, list, p)
	}
	if got := impl.InnerEdges(p, list); !slices.Equal(got, want) {
		t.Errorf("InnerEdges(%+v, %q) = %v, want %v", p, list, got, want)
	}
}

// wantGraph compares everything that is to be known about the calls of a
// program, valid or not, with the document.
func wantGraph(t *testing.T, p impl.Program) {
	t.Helper()
	wantEdges(t, p, edgesWithin(p, namesOfFunctions(p)))
	wantComponents(t, p, componentsIn(p))
	for _, name := range namesToTry(p) {
		wantReached(t, p, name, reachedFrom(p, name))
		wantRecursive(t, p, name, isRecursiveIn(p, name))
	}
	for _, list := range listsToTry(p) {
		wantInner(t, p, list, edgesWithin(p, list))
	}
}

// wantNoGraph expects that a program is not valid and has no results.
func wantNoGraph(t *testing.T, p impl.Program) {
	t.Helper()
	wantProgram(t, p, false)
	edges, components, inner := impl.EdgesOf(p), impl.ComponentsOf(p), impl.InnerEdges(p, namesOfFunctions(p))
	if len(edges)+len(components)+len(inner) > 0 {
		t.Errorf("%+v has the calls %v, the components %q, the inner calls %v", p, edges, components, inner)
	}
	for _, name := range namesToTry(p) {
		if reached := impl.ReachableFrom(p, name); len(reached) > 0 || impl.IsRecursive(p, name) {
			t.Errorf("%q reaches %q or is recursive in %+v", name, reached, p)
		}
	}
}

func TestEdgesOf(t *testing.T) {
	for _, c := range []struct{ names, rules, want string }{
		{"f", "", ""},
		{"f", "f>", ""},
		{"f", "f> f> f>", ""},
		{"f", "f>f", "0.0"},
		{"f", "f>f,f", "0.0 0.1"},
		{"f", "f> f>f", "1.0"},
		{"f", "f>f f>", "0.0"},
		{"f", "f> f>f f> f>f,f f>", "1.0 3.0 3.1"},
		{"f g", "f>g", "0.0"},
		{"f g", "g>f", "0.0"},
		{"f g", "g>g,f", "0.0 0.1"},
		{"f g", "g>f f>g", "0.0 1.0"},
		{"f g", "f>g g>f", "0.0 1.0"},
		{"f g", "g>f,f f> f>g g>f", "0.0 0.1 2.0 3.0"},
		{"f g k", "k>f g>k,g f>f,f", "0.0 1.0 1.1 2.0 2.1"},
		{"k g f", "k>f g>k,g f>f,f", "0.0 1.0 1.1 2.0 2.1"},
		{"f g k", "g>k,f g> k>f k> f>g,k f> f>f", "0.0 0.1 2.0 4.0 4.1 6.0"},
		{"f g k", "g>k k>g g>g,k k> g>k", "0.0 1.0 2.0 2.1 4.0"},
		{"f g k", "f> f> f> g> g> g> k> k>k", "7.0"},
		{"f", "f>f f>f f>f f>f f>f f>f f>f f>f", "0.0 1.0 2.0 3.0 4.0 5.0 6.0 7.0"},
		{"f", "f>f,f f>f,f f>f,f f>f,f f>f,f f>f,f f>f,f f>f,f", "0.0 0.1 1.0 1.1 2.0 2.1 3.0 3.1 4.0 4.1 5.0 5.1 6.0 6.1 7.0 7.1"},
	} {
		p := network(c.names, c.rules)
		wantEdges(t, p, edgesAt(c.want))
		wantGraph(t, p)
	}
	wantEdges(t, mixed(), edgesAt("1.0 1.1 3.0 3.1"))
	wantEdges(t, source("fun f xs : list", "rule f | xs = h : ts | h >= 0 | rs := f ts | return h : rs", "rule f | return nil"), edgesAt("0.0"))
}

func TestReachableFrom(t *testing.T) {
	for _, c := range []struct{ names, rules, want string }{
		{"f", "", "f"},
		{"f", "f>f", "f"},
		{"f g", "", "f, g"},
		{"f g", "f>g", "f g, g"},
		{"f g", "g>f", "f, f g"},
		{"g f", "f>g", "g, g f"},
		{"f g", "f>f", "f, g"},
		{"f g", "f>f,g", "f g, g"},
		{"f g", "g>g,f", "f, f g"},
		{"f g", "f>g g>f", "f g, f g"},
		{"f g k", "", "f, g, k"},
		{"f g k", "f>g g>k", "f g k, g k, k"},
		{"f g k", "g>k f>g", "f g k, g k, k"},
		{"f g k", "k>g g>f", "f, f g, f g k"},
		{"f g k", "g>f k>g", "f, f g, f g k"},
		{"f g k", "g>k k>f", "f, f g k, f k"},
		{"f g k", "k>f g>k", "f, f g k, f k"},
		{"k f g", "k>f g>k", "k f, f, k f g"},
		{"f g k", "f>k,k", "f k, g, k"},
		{"f g k", "f>k,g", "f g k, g, k"},
		{"f g k", "g>k,f", "f, f g k, k"},
		{"f g k", "k>g,f", "f, g, f g k"},
		{"f g k", "k>f k>g", "f, g, f g k"},
		{"f g k", "f>k k>f", "f k, g, f k"},
		{"f g k", "f>g g>f", "f g, f g, k"},
		{"f g k", "f>g g>f k>g", "f g, f g, f g k"},
		{"f g k", "f>g g>f,k", "f g k, f g k, k"},
		{"f g k", "f>g g>k k>f", "f g k, f g k, f g k"},
		{"f g k", "f>k k>g g>f", "f g k, f g k, f g k"},
		{"f g k", "g>k k>g,g k>f", "f, f g k, f g k"},
		{"f g k", "f>f g>g k>k", "f, g, k"},
		// A rule that another one makes superfluous still counts.
		{"f g", "f> f>g", "f g, g"},
	} {
		p := network(c.names, c.rules)
		for i, f := range p.Functions {
			wantReached(t, p, f.Name, groupsOf(c.want)[i])
		}
		for _, name := range []string{"", "none", "F", "f ", "ff", "r0", "nil", "\x00"} {
			wantReached(t, p, name, nil)
		}
		wantGraph(t, p)
	}
	wantReached(t, mixed(), "rev", []string{"rev", "len", "zero"})
	wantReached(t, mixed(), "len", []string{"len", "zero"})
	wantReached(t, mixed(), "zero", []string{"zero"})
	for _, name := range []string{"xs", "n", "h", "ts", "m", "re", "revs"} {
		wantReached(t, mixed(), name, nil)
	}
}

func TestComponentsOf(t *testing.T) {
	for _, c := range []struct{ names, rules, want string }{
		{"f", "", "f"},
		{"f", "f>f", "f"},
		{"f g", "", "f, g"},
		{"g f", "", "g, f"},
		{"f g", "f>g", "g, f"},
		{"g f", "f>g", "g, f"},
		{"f g", "g>f", "f, g"},
		{"f g", "f>g,f g>g", "g, f"},
		{"f g", "f>g g>f", "f g"},
		{"g f", "f>g g>f", "g f"},
		{"f g k", "", "f, g, k"},
		{"k g f", "", "k, g, f"},
		{"f g k", "f>f g>g k>k", "f, g, k"},
		{"f g k", "f>g", "g, f, k"},
		{"f g k", "f>k", "g, k, f"},
		{"f g k", "g>k", "f, k, g"},
		{"f g k", "g>f k>f", "f, g, k"},
		{"f g k", "f>g,k", "g, k, f"},
		{"f g k", "f>k,g", "g, k, f"},
		{"f g k", "f>k g>k", "k, f, g"},
		{"f g k", "g>f,k", "f, k, g"},
		{"f g k", "f>g g>k", "k, g, f"},
		{"f g k", "f>k k>g", "g, k, f"},
		{"f g k", "g>k k>f", "f, k, g"},
		{"f g k", "k>g g>f", "f, g, k"},
		{"f g k", "f>g f>k g>k", "k, g, f"},
		{"f g k", "f>g g>f", "f g, k"},
		{"f g k", "f>k k>f", "f k, g"},
		{"f g k", "g>k k>g", "f, g k"},
		{"f g k", "f>g g>f,k", "k, f g"},
		{"f g k", "f>g,k g>f", "k, f g"},
		{"f g k", "f>k,g k>f", "g, f k"},
		{"f g k", "f>k k>f,g", "g, f k"},
		{"f g k", "f>k k>f g>k", "f k, g"},
		{"f g k", "g>k k>g f>g", "g k, f"},
		{"f g k", "g>k k>g,f", "f, g k"},
		{"f g k", "f>g g>k k>f", "f g k"},
		{"f g k", "f>k k>g g>f", "f g k"},
		{"k g f", "f>k k>g g>f", "k g f"},
		{"f g k", "f>g g>f,k k>g", "f g k"},
		{"f g k", "f>f,g f>k g>f,g g>k k>f,g k>k", "f g k"},
	} {
		p := network(c.names, c.rules)
		wantComponents(t, p, groupsOf(c.want))
		wantGraph(t, p)
	}
	wantComponents(t, mixed(), groupsOf("zero, len, rev"))
	wantComponents(t, withFunctions(mixed().Functions...), groupsOf("rev, len, zero"))
	wantComponents(t, source("fun put n xs : list", "fun sort ys : list", "rule sort | ys = k : us | rs := sort us | qs := put k , rs | return qs"), groupsOf("put, sort"))
	wantComponents(t, source("fun sort ys : list", "fun put n xs : list", "rule sort | ys = k : us | rs := sort us | qs := put k , rs | return qs"), groupsOf("put, sort"))
}

func TestIsRecursive(t *testing.T) {
	for _, c := range []struct{ names, rules, want string }{
		{"f", "", ""},
		{"f", "f>", ""},
		{"f", "f>f", "f"},
		{"f", "f> f>f", "f"},
		{"f g", "f>g", ""},
		{"f g", "g>f", ""},
		{"f g", "f>f", "f"},
		{"f g", "g>g", "g"},
		{"f g", "f>g g>g", "g"},
		{"f g", "f>f f>g", "f"},
		{"f g", "f>f,g g>g", "f g"},
		{"f g", "f>g g>f", "f g"},
		{"f g k", "f>g g>k f>k", ""},
		{"f g k", "f>g g>f", "f g"},
		{"f g k", "f>g g>f k>f", "f g"},
		{"f g k", "k>g f>g g>f", "f g"},
		{"f g k", "f>g g>f,k", "f g"},
		{"f g k", "f>k,g g>f", "f g"},
		{"f g k", "f>k k>f g>k", "f k"},
		{"f g k", "g>k k>g f>g", "g k"},
		{"f g k", "g>k k>g,f", "g k"},
		{"f g k", "f>g g>k k>f", "f g k"},
		{"f g k", "f>g g>k k>k", "k"},
		{"f g k", "f>f f>g g>k", "f"},
		{"f g k", "f>g g>g,k", "g"},
		{"f g k", "f>g g>f k>k", "f g k"},
	} {
		p := network(c.names, c.rules)
		for _, name := range []string{"f", "g", "k", "none", "", "F", "f ", "r0", "nil"} {
			wantRecursive(t, p, name, slices.Contains(strings.Fields(c.want), name))
		}
		wantGraph(t, p)
	}
	for name, want := range map[string]bool{"rev": true, "len": true, "zero": false, "xs": false, "m": false, "revs": false} {
		wantRecursive(t, mixed(), name, want)
	}
}

func TestInnerEdges(t *testing.T) {
	p := network("f g k", "g>f,g k> f>g,k f> k>k,f g>k f>f")
	for _, c := range []struct{ list, want string }{
		{"", ""},
		{"f", "6.0"},
		{"g", "0.1"},
		{"k", "4.0"},
		{"f g", "0.0 0.1 2.0 6.0"},
		{"g f", "0.0 0.1 2.0 6.0"},
		{"f k", "2.1 4.0 4.1 6.0"},
		{"k f", "2.1 4.0 4.1 6.0"},
		{"g k", "0.1 4.0 5.0"},
		{"k g", "0.1 4.0 5.0"},
		{"f g k", "0.0 0.1 2.0 2.1 4.0 4.1 5.0 6.0"},
		{"k g f", "0.0 0.1 2.0 2.1 4.0 4.1 5.0 6.0"},
		{"g k f", "0.0 0.1 2.0 2.1 4.0 4.1 5.0 6.0"},
		{"f f", "6.0"},
		{"f f f f", "6.0"},
		{"g f g", "0.0 0.1 2.0 6.0"},
		{"f g f g k k", "0.0 0.1 2.0 2.1 4.0 4.1 5.0 6.0"},
		{"none", ""},
		{"none f", "6.0"},
		{"f none", "6.0"},
		{"none none g none f none", "0.0 0.1 2.0 6.0"},
		{"F ff r0 nil", ""},
	} {
		wantInner(t, p, strings.Fields(c.list), edgesAt(c.want))
	}
	wantInner(t, p, []string{}, nil)
	wantInner(t, p, []string{"", "f", ""}, edgesAt("6.0"))
	wantInner(t, p, []string{"f g", "f,g", "f\x00"}, nil)
	wantInner(t, p, slices.Repeat([]string{"none", "f", "g"}, 1000), edgesAt("0.0 0.1 2.0 6.0"))
	// Only one end of the call is in the list.
	one := network("f g", "f>g")
	wantInner(t, one, []string{"f"}, nil)
	wantInner(t, one, []string{"g"}, nil)
	wantInner(t, one, []string{"g", "f"}, edgesAt("0.0"))
	for _, list := range listsToTry(p) {
		wantInner(t, network("f g k", ""), list, nil)
		wantInner(t, network("f g k", "f> g> k> f>"), list, nil)
	}
	wantInner(t, mixed(), []string{"len", "zero"}, edgesAt("3.0 3.1"))
	wantInner(t, mixed(), []string{"rev", "zero"}, edgesAt("1.1"))
	wantInner(t, mixed(), []string{"xs", "n", "m"}, nil)
}

// wiring has a bit for each pair of so many functions: whether the first one
// calls the second one.
type wiring struct{ functions, bits int }

func (w wiring) calls(i int, j int) bool { return w.bits>>(i*w.functions+j)&1 > 0 }

func wirings() []wiring {
	var list []wiring
	for n := 1; n <= limitFunctions; n++ {
		for bits := range 1 << (n * n) {
			list = append(list, wiring{n, bits})
		}
	}
	return list
}

// program returns a program in which functions with these names call each
// other. A rule has at most two calls.
func (w wiring) program(names []string) impl.Program {
	var rules []string
	for i := range w.functions {
		count := 0
		for j := range w.functions {
			if !w.calls(i, j) {
				continue
			}
			if count%limitCalls == 0 {
				rules = append(rules, names[i]+">")
			}
			count++
			rules[len(rules)-1] += names[j] + ","
		}
	}
	return network(strings.Join(names[:w.functions], " "), strings.Join(rules, " "))
}

// TestAllCallGraphs has every way in which up to three functions can call each
// other. Each function has each name, so that the order of the names does not
// agree with the order of the functions.
func TestAllCallGraphs(t *testing.T) {
	list := wirings()
	if len(list) != 2+16+512 {
		t.Errorf("there are %d ways to call each other", len(list))
	}
	shapes := map[int]int{}
	for _, w := range list {
		for _, names := range orders([]string{"k", "b", "z"}) {
			p := w.program(names)
			for i := range w.functions {
				for j := range w.functions {
					if callMatrix(p)[i][j] != w.calls(i, j) {
						t.Fatalf("the test is wrong: %+v in %+v", w, p)
					}
				}
			}
			wantGraph(t, p)
			wantInOrder(t, p)
			backwards := p
			backwards.Rules = slices.Clone(p.Rules)
			slices.Reverse(backwards.Rules)
			wantGraph(t, backwards)
		}
		shapes[10*w.functions+len(impl.ComponentsOf(w.program([]string{"f", "g", "k"})))]++
	}
	// As many as there are directed graphs of three vertices that are strongly
	// connected (18), or that have no circle (25), times 8 for the loops.
	if want := map[int]int{11: 2, 21: 4, 22: 12, 31: 144, 32: 168, 33: 200}; !reflect.DeepEqual(shapes, want) {
		t.Errorf("by functions and components, there are %v programs", shapes)
	}
}

// wantInOrder states the promise itself: each function is in one component,
// which is in the order of the functions and behind those that it calls.
func wantInOrder(t *testing.T, p impl.Program) {
	t.Helper()
	components := impl.ComponentsOf(p)
	all := slices.Concat(components...)
	slices.Sort(all)
	if !slices.Equal(all, slices.Sorted(slices.Values(namesOfFunctions(p)))) {
		t.Errorf("the components of %+v are %q", p, components)
	}
	if !callsOnlyBack(p, components) {
		t.Errorf("%+v has components in front of ones that they call: %q", p, components)
	}
	for _, component := range components {
		for i, name := range component {
			if i > 0 && functionIndex(p, component[i-1]) >= functionIndex(p, name) {
				t.Errorf("%+v has a component out of order: %q", p, component)
			}
			if !slices.Equal(impl.ReachableFrom(p, name), impl.ReachableFrom(p, component[0])) {
				t.Errorf("functions of the component %q of %+v reach different ones", component, p)
			}
		}
	}
}

// rewired draws another program in which the same functions call each other:
// with calls more than once, with rules without calls, in any order.
func (d drawing) rewired(w wiring, names []string) impl.Program {
	p := w.program(names)
	for len(p.Rules) < limitRules && d.IntN(4) > 0 {
		r := impl.Rule{Func: names[d.IntN(w.functions)], Result: integer(0)}
		if len(p.Rules) > 0 && d.IntN(2) == 0 {
			r = p.Rules[d.IntN(len(p.Rules))]
		}
		p.Rules = append(p.Rules, r)
	}
	d.Shuffle(len(p.Rules), func(i int, j int) { p.Rules[i], p.Rules[j] = p.Rules[j], p.Rules[i] })
	for i, r := range p.Rules {
		if len(r.Calls) == 2 && d.IntN(2) == 0 {
			p.Rules[i].Calls = []impl.Call{callOf("r0", r.Calls[1].Func), callOf("r1", r.Calls[0].Func)}
		}
	}
	return p
}

func TestRewiredCallGraphs(t *testing.T) {
	d := drawing{rand.New(rand.NewPCG(13, 1))}
	names := orders([]string{"f", "g", "c"})
	for _, w := range wirings() {
		for range 4 {
			p := d.rewired(w, names[d.IntN(len(names))])
			wantProgram(t, p, true)
			wantGraph(t, p)
			wantInOrder(t, p)
		}
	}
}

// TestDrawnCallGraphs has drawn programs with parameters, patterns and guards,
// and expects all kinds of components.
func TestDrawnCallGraphs(t *testing.T) {
	d := drawing{rand.New(rand.NewPCG(13, 2))}
	kinds := map[string]int{}
	for range 3000 {
		p := d.runnable()
		wantProgram(t, p, true)
		wantGraph(t, p)
		wantInOrder(t, p)
		kind := ""
		for _, component := range impl.ComponentsOf(p) {
			kind += strconv.Itoa(len(component))
		}
		kinds[kind]++
	}
	for _, kind := range []string{"1", "11", "2", "111", "12", "21", "3"} {
		if kinds[kind] < 30 {
			t.Errorf("the components have these sizes: %v", kinds)
		}
	}
}

// TestTheOrderOfTheMap calls the functions very often, because open functions
// are in a map, whose order changes.
func TestTheOrderOfTheMap(t *testing.T) {
	for _, order := range orders([]string{"f", "g", "k"}) {
		for _, rules := range []string{"f>g g>k", "f>k", "f>g g>f", "", "f>g g>k k>f", "k>g"} {
			p := network(strings.Join(order, " "), rules)
			for range 300 {
				for _, name := range order {
					wantReached(t, p, name, reachedFrom(p, name))
				}
				wantComponents(t, p, componentsIn(p))
			}
		}
	}
}

func TestGraphsOfInvalidPrograms(t *testing.T) {
	wantNoGraph(t, impl.Program{})
	wantNoGraph(t, impl.Program{Functions: []impl.Function{}, Rules: []impl.Rule{}})
	wantNoGraph(t, impl.Program{Rules: mixed().Rules})
	wantNoGraph(t, withFunctions(oddFunctions()...))
	for _, f := range oddFunctions() {
		wantNoGraph(t, withFunctions(f))
		wantNoGraph(t, withFunctions(f, function("f", false)))
		wantNoGraph(t, withFunctions(function("f", false), f))
	}
	count := 0
	for _, p := range append(somePrograms(), variants()...) {
		if len(faultsOfProgram(p)) == 0 {
			wantGraph(t, p)
			continue
		}
		count++
		wantNoGraph(t, p)
		for _, list := range listsToTry(p) {
			wantInner(t, p, list, nil)
		}
	}
	if count < 50 {
		t.Errorf("only %d programs are not valid", count)
	}
}

// TestOneFaultOfAGraph changes a valid program with all kinds of calls at one
// place that has nothing to do with them.
func TestOneFaultOfAGraph(t *testing.T) {
	const names, rules = "f g k", "f>g,f g>f g>k k>k k> f>"
	wantGraph(t, network(names, rules))
	for _, change := range []func(p *impl.Program){
		func(p *impl.Program) { p.Functions[2].Name = "ks" },
		func(p *impl.Program) { p.Functions[2].Name = "f" },
		func(p *impl.Program) { p.Functions[2].Name = "nil" },
		func(p *impl.Program) { p.Functions = append(p.Functions, function("more", false)) },
		func(p *impl.Program) { p.Functions = p.Functions[:2] },
		func(p *impl.Program) { p.Functions[1].Pre = []impl.Lin{lin(1, 1)} },
		func(p *impl.Program) { p.Functions[1].Pre = []impl.Lin{lin(0), lin(0), lin(0)} },
		func(p *impl.Program) { p.Functions[2].Params = []string{"n"} },
		func(p *impl.Program) { p.Functions[2].ListResult = true },
		func(p *impl.Program) { p.Rules[4].Result = integer(0, "n") },
		func(p *impl.Program) { p.Rules[4].Func = "none" },
		func(p *impl.Program) { p.Rules[3].Calls[0].Func = "none" },
		func(p *impl.Program) { p.Rules[3].Calls[0].Bind = "rs" },
		func(p *impl.Program) { p.Rules[0].Calls[1].Bind = "r0" },
		func(p *impl.Program) { p.Rules[0].Calls = append(p.Rules[0].Calls, callOf("r2", "k")) },
		func(p *impl.Program) { p.Rules[5].Guards = []impl.Sum{sumOfNames(0, "n")} },
		func(p *impl.Program) { p.Rules = append(p.Rules, network("f", "f> f> f>").Rules...) },
		func(p *impl.Program) { p.Rules = slices.Repeat(p.Rules, 1000) },
	} {
		p := network(names, rules)
		change(&p)
		wantNoGraph(t, p)
		for _, list := range listsToTry(network(names, rules)) {
			wantInner(t, p, list, nil)
		}
	}
}

// graphResults calls all functions with a program and returns their results.
func graphResults(p impl.Program, lists [][]string) []any {
	results := []any{impl.EdgesOf(p), impl.ComponentsOf(p)}
	for _, name := range namesToTry(p) {
		results = append(results, impl.ReachableFrom(p, name), impl.IsRecursive(p, name))
	}
	for _, list := range lists {
		results = append(results, impl.InnerEdges(p, list))
	}
	return results
}

// roomyLists returns the lists with unused capacity behind each one.
func roomyLists(lists [][]string) [][]string {
	list := roomy(lists, []string{"unused"}, nil)
	for i := range lists {
		list[i] = roomy(lists[i], "f", "g", "k", "rev")
	}
	return list
}

func describeLists(lists [][]string) string {
	var parts []any
	for _, list := range lists[:cap(lists)] {
		parts = append(parts, list[:cap(list)])
	}
	return fmt.Sprintf("%q", parts)
}

// graphPrograms returns programs that are valid and programs that are not.
func graphPrograms() []impl.Program {
	list := somePrograms()
	for _, w := range wirings() {
		list = append(list, w.program([]string{"f", "g", "k"}))
	}
	return list
}

func TestGraphFunctionsKeepTheirArguments(t *testing.T) {
	for i, p := range graphPrograms() {
		p = roomyProgram(p)
		lists := roomyLists(listsToTry(p))
		before, listed := describeProgram(p), describeLists(lists)
		graphResults(p, lists)
		if after := describeProgram(p); after != before {
			t.Errorf("program %d changed from %s to %s", i, before, after)
		}
		if after := describeLists(lists); after != listed {
			t.Errorf("the lists for program %d changed from %s to %s", i, listed, after)
		}
	}
}

// overwriteAll changes everything that can be reached from a result through a
// slice, the unused capacity of slices included.
func overwriteAll(v reflect.Value) {
	switch v.Kind() {
	case reflect.Struct:
		for i := range v.NumField() {
			overwriteAll(v.Field(i))
		}
	case reflect.Slice:
		for i := range v.Cap() {
			overwriteAll(v.Slice(0, v.Cap()).Index(i))
		}
		if v.CanSet() {
			v.SetZero()
		}
	case reflect.Int:
		if v.CanSet() {
			v.SetInt(987654)
		}
	case reflect.String:
		if v.CanSet() {
			v.SetString("changed")
		}
	}
}

// wantResultsApart compares the memory of all results of two rounds, slice by
// slice, with each other and with the arguments, and changes one round.
func wantResultsApart(t *testing.T, args []span, describe func() string, call func() []any) {
	t.Helper()
	before, first, second := describe(), call(), call()
	spans := slices.Clone(args)
	for _, result := range slices.Concat(first, second) {
		for _, x := range spansOf(reflect.ValueOf(result)) {
			// One by one, since the slices of one result must not share memory either.
			if overlap([]span{x}, spans) {
				t.Fatalf("a result shares memory with %s or another result: %v", before, result)
			}
			spans = append(spans, x)
		}
	}
	want := fmt.Sprint(second)
	for _, result := range first {
		overwriteAll(reflect.ValueOf(result))
	}
	if got := fmt.Sprint(second); got != want || describe() != before {
		t.Fatalf("a change of results changed others from %s to %s, or %s", want, got, before)
	}
	if got := fmt.Sprint(call()); got != want {
		t.Fatalf("a change of results for %s changed later ones from %s to %s", before, want, got)
	}
}

func TestGraphResultsAreSeparate(t *testing.T) {
	for i, p := range graphPrograms() {
		if i%3 > 0 && i > 60 {
			continue
		}
		p = roomyProgram(p)
		lists := listsToTry(p)
		lists = roomyLists(lists[:min(len(lists), 21)])
		args := append(spansOf(reflect.ValueOf(p)), spansOf(reflect.ValueOf(lists))...)
		describe := func() string { return describeProgram(p) + describeLists(lists) }
		wantResultsApart(t, args, describe, func() []any { return graphResults(p, lists) })
	}
}

// TestListsOfComponentsAreSeparate appends to each list of a result.
func TestListsOfComponentsAreSeparate(t *testing.T) {
	for _, p := range graphPrograms() {
		want := componentsIn(p)
		for k := range want {
			components := impl.ComponentsOf(p)
			_ = append(components[k], "longer", "longest")
			if !sameGroups(components, want) {
				t.Fatalf("what is appended to component %d changes another one: %q", k, components)
			}
			overwrite(components[k])
			for i := range want {
				if i != k && !slices.Equal(components[i], want[i]) {
					t.Fatalf("a change of component %d changes component %d: %q", k, i, components)
				}
			}
		}
	}
}

// TestGraphOfSharedMemory has rules whose calls are parts of the same memory.
func TestGraphOfSharedMemory(t *testing.T) {
	calls := []impl.Call{callOf("r0", "f"), callOf("r1", "g"), callOf("r2", "k")}
	p := network("f g k", "f> g> k>")
	p.Rules[0].Calls, p.Rules[1].Calls, p.Rules[2].Calls = calls[:2], calls[1:], calls[2:]
	want := fmt.Sprint(calls)
	wantProgram(t, p, true)
	wantGraph(t, p)
	wantEdges(t, p, edgesAt("0.0 0.1 1.0 1.1 2.0"))
	wantComponents(t, p, groupsOf("k, g, f"))
	list := namesOfFunctions(p)
	wantInner(t, p, list[:2], edgesAt("0.0 0.1 1.0"))
	wantInner(t, p, list[1:], edgesAt("1.0 1.1 2.0"))
	if got := fmt.Sprint(calls); got != want || !slices.Equal(list, []string{"f", "g", "k"}) {
		t.Errorf("the arguments changed: %s, %q", got, list)
	}
}
