package tests

import (
	"fmt"
	"math/rand/v2"
	"reflect"
	"regexp"
	"slices"
	"strings"
	"testing"

	"loop.example/g00515/impl"
)

func samePattern(a impl.Pattern, b impl.Pattern) bool {
	return a.List == b.List && a.Cons == b.Cons && a.Head == b.Head && a.Tail == b.Tail
}

func sameCall(a impl.Call, b impl.Call) bool {
	return a.Bind == b.Bind && a.Func == b.Func && slices.EqualFunc(a.Args, b.Args, sameArg)
}

func sameRule(a impl.Rule, b impl.Rule) bool {
	return a.Func == b.Func && slices.EqualFunc(a.Patterns, b.Patterns, samePattern) && slices.EqualFunc(a.Guards, b.Guards, sameSum) &&
		slices.EqualFunc(a.Calls, b.Calls, sameCall) && sameArg(a.Result, b.Result)
}

// sameProgram does not use EqualProgram, which is a subject of these tests.
func sameProgram(a impl.Program, b impl.Program) bool {
	return slices.EqualFunc(a.Functions, b.Functions, sameFunction) && slices.EqualFunc(a.Rules, b.Rules, sameRule)
}

// textOfLines returns the lines with a newline behind each.
func textOfLines(lines ...string) string {
	text := ""
	for _, line := range lines {
		text += line + "\n"
	}
	return text
}

// mixedLines returns the source code of mixed, line by line.
func mixedLines() []string {
	return []string{
		"fun rev xs ys : list",
		"fun len n xs : int",
		"pre len n >= 0",
		"pre len -n + xs + 9 >= 0",
		"fun zero : int",
		"rule rev | xs = nil | return ys",
		"rule rev | xs = h : ts | ys = k : us | h - k >= 0 | h + k - 1 >= 0 | m := len h , ts | qs := rev m : ts , us | return h + m : k : qs",
		"rule len | xs = nil | return n",
		"rule len | xs = h : ts | z := zero | m := len n + z , h : ts | return m + 1",
		"rule zero | return 0",
	}
}

// withLines returns the lines with others inserted at a place.
func withLines(lines []string, place int, more ...string) []string {
	return slices.Concat(lines[:place], more, lines[place:])
}

// headLines is the number of lines of mixed in front of its rules.
const headLines = 5

// sources returns source codes of valid programs: mixed, and the examples of
// the document.
func sources() []string {
	return []string{
		textOfLines(mixedLines()...),
		textOfLines("fun rev xs ys : list", "rule rev | xs = nil | return ys", "rule rev | xs = h : ts | rs := rev ts , h : ys | return rs"),
		textOfLines("fun ack m n : int", "rule ack | -m >= 0 | return n + 1", "rule ack | m - 1 >= 0 | -n >= 0 | r := ack m - 1 , 1 | return r",
			"rule ack | m - 1 >= 0 | n - 1 >= 0 | r := ack m , n - 1 | q := ack m - 1 , r | return q"),
		textOfLines("fun put n xs : list", "fun sort ys : list", "rule put | xs = nil | return n : nil", "rule put | xs = h : ts | h - n >= 0 | return n : h : ts",
			"rule put | xs = h : ts | rs := put n , ts | return h : rs", "rule sort | ys = nil | return nil",
			"rule sort | ys = k : us | rs := sort us | qs := put k , rs | return qs"),
		textOfLines("fun f n : int", "rule f | n >= 0 | r := f 2n | return r", "rule f | return 0"),
		textOfLines("fun mix xs ys : int", "rule mix | xs = nil | return 0", "rule mix | xs = h : ts | r := mix ys , ts | return r"),
		textOfLines("fun up n : int", "rule up | -n + 4 >= 0 | r := up n + 1 | return r", "rule up | return n"),
		textOfLines("fun zero : int"),
		textOfLines("fun a : list", "fun b n : int", "pre b 999999n - 999999 >= 0", "fun c s : int", "pre c 0 >= 0", "pre c -1 >= 0"),
		textOfLines("fun f n : int", "pre f n - 1 >= 0", "rule f | n - 2 >= 0 | r := f n - 1 | return r + 1", "rule f | return 0"),
	}
}

// The following functions say what the document requires, in other ways than
// the program.

// ruleText returns what FormatRule has to return.
func ruleText(r impl.Rule) string {
	text := "rule " + r.Func
	for _, x := range r.Patterns {
		text += " | " + x.List + " = "
		if x.Cons {
			text += x.Head + " : " + x.Tail
		} else {
			text += "nil"
		}
	}
	for _, g := range r.Guards {
		text += " | " + sumText(g) + " >= 0"
	}
	for _, c := range r.Calls {
		text += " | " + c.Bind + " := " + c.Func
		for i, a := range c.Args {
			if i > 0 {
				text += " ,"
			}
			text += " " + argText(a)
		}
	}
	return text + " | return " + argText(r.Result)
}

// programText returns what FormatProgram has to return.
func programText(p impl.Program) string {
	if len(faultsOfProgram(p)) > 0 {
		return ""
	}
	var lines []string
	for _, f := range p.Functions {
		kind := "int"
		if f.ListResult {
			kind = "list"
		}
		lines = append(lines, strings.Join(slices.Concat([]string{"fun", f.Name}, f.Params, []string{":", kind}), " "))
		for _, l := range f.Pre {
			lines = append(lines, "pre "+f.Name+" "+textOf(l, f.Params)+" >= 0")
		}
	}
	for _, r := range p.Rules {
		lines = append(lines, ruleText(r))
	}
	return textOfLines(lines...)
}

// isWrittenProgram reports whether ParseSum and ParseLin accept the numbers of
// a program.
func isWrittenProgram(p impl.Program) bool {
	var heads []impl.Sum
	for _, f := range p.Functions {
		for _, l := range f.Pre {
			for _, c := range append(slices.Clone(l.Coeffs), l.Const) {
				heads = append(heads, sumOf(c))
			}
		}
	}
	for _, r := range p.Rules {
		heads = slices.Concat(heads, r.Guards, r.Result.Heads)
		for _, c := range r.Calls {
			for _, a := range c.Args {
				heads = append(heads, a.Heads...)
			}
		}
	}
	return len(heads) == 0 || isWritten(heads...)
}

// Forms of source code. They leave open which words are names and which
// expressions are valid.
var (
	sourceForm  = regexp.MustCompile(`^(?:fun [^\n]*\n(?:pre [^\n]*\n)*)+(?:rule [^\n]*\n)*$`)
	funForm     = regexp.MustCompile(`^fun ([a-z0-9]+)((?: [a-z0-9]+)*) : (list|int)$`)
	preForm     = regexp.MustCompile(`^pre ([a-z0-9]+) (.*) >= 0$`)
	ruleForm    = regexp.MustCompile(`^rule ([a-z0-9]+)((?: \| [a-z0-9]+ = [a-z0-9: ]+)*)((?: \| [-+a-z0-9 ]+ >= 0)*)((?: \| [a-z0-9]+ := [-+:,a-z0-9 ]+)*) \| return ([-+:a-z0-9 ]+)$`)
	patternForm = regexp.MustCompile(`^([a-z0-9]+) = (nil|([a-z0-9]+) : ([a-z0-9]+))$`)
	callForm    = regexp.MustCompile(`^([a-z0-9]+) := ([a-z0-9]+)(?: (.*))?$`)
)

// readRule returns the rule of a line that is FormatRule of one whose names are
// valid and whose expressions are parsed.
func readRule(line string) (impl.Rule, bool) {
	match := ruleForm.FindStringSubmatch(line)
	if match == nil || !isName(match[1]) {
		return impl.Rule{}, false
	}
	r := impl.Rule{Func: match[1]}
	for _, text := range strings.Split(match[2], " | ")[1:] {
		x := patternForm.FindStringSubmatch(text)
		if x == nil || !isName(x[1]) || x[2] != "nil" && (!isName(x[3]) || !isName(x[4])) {
			return impl.Rule{}, false
		}
		r.Patterns = append(r.Patterns, impl.Pattern{List: x[1], Cons: x[2] != "nil", Head: x[3], Tail: x[4]})
	}
	for _, text := range strings.Split(match[3], " | ")[1:] {
		s, ok := readSum(strings.TrimSuffix(text, " >= 0"))
		if !ok {
			return impl.Rule{}, false
		}
		r.Guards = append(r.Guards, s)
	}
	for _, text := range strings.Split(match[4], " | ")[1:] {
		c, ok := readCall(text)
		if !ok {
			return impl.Rule{}, false
		}
		r.Calls = append(r.Calls, c)
	}
	result, ok := readArg(match[5])
	r.Result = result
	return r, ok
}

func readCall(text string) (impl.Call, bool) {
	match := callForm.FindStringSubmatch(text)
	if match == nil || !isName(match[1]) || !isName(match[2]) {
		return impl.Call{}, false
	}
	c := impl.Call{Bind: match[1], Func: match[2]}
	if text == match[1]+" := "+match[2] {
		return c, true
	}
	for _, part := range strings.Split(match[3], " , ") {
		a, ok := readArg(part)
		if !ok {
			return impl.Call{}, false
		}
		c.Args = append(c.Args, a)
	}
	return c, true
}

// readers has a reader of preconditions for each list of parameters that has
// been met, because it is expensive to make one.
var readers = map[string]reader{}

func readerFor(params []string) reader {
	key := strings.Join(params, " ")
	if _, ok := readers[key]; !ok {
		readers[key] = newReader(params...)
	}
	return readers[key]
}

// readFunctions returns the functions of a text of the right form.
func readFunctions(lines []string) ([]impl.Function, bool) {
	var list []impl.Function
	for _, line := range lines {
		switch line[:3] {
		case "fun":
			match := funForm.FindStringSubmatch(line)
			if match == nil {
				return nil, false
			}
			list = append(list, function(match[1], match[3] == "list", strings.Fields(match[2])...))
		case "pre":
			f := &list[len(list)-1]
			match := preForm.FindStringSubmatch(line)
			if match == nil || match[1] != f.Name || len(f.Params) > limitParams {
				return nil, false
			}
			l, ok := readerFor(f.Params).read(match[2])
			if !ok {
				return nil, false
			}
			f.Pre = append(f.Pre, l)
		}
	}
	return list, true
}

// The reasons for which a text may be no source code.
const (
	reasonNone = iota
	reasonWord
	reasonRule
	reasonProgram
)

// readSource returns what ParseProgram has to return, and the reason.
func readSource(s string) (impl.Program, int, int) {
	lines := strings.Split(s, "\n")
	if lines[len(lines)-1] == "" {
		lines = lines[:len(lines)-1]
	}
	for i, line := range lines {
		if !slices.Contains([]string{"fun", "pre", "rule"}, strings.Split(line, " ")[0]) {
			return impl.Program{}, i, reasonWord
		}
	}
	var p impl.Program
	for i, line := range lines {
		if strings.HasPrefix(line, "rule") {
			r, ok := readRule(line)
			if !ok {
				return impl.Program{}, i, reasonRule
			}
			p.Rules = append(p.Rules, r)
		}
	}
	if sourceForm.MatchString(s) {
		if list, ok := readFunctions(lines); ok {
			p.Functions = list
			if len(faultsOfProgram(p)) == 0 {
				return p, -1, reasonNone
			}
		}
	}
	return impl.Program{}, len(lines), reasonProgram
}

// wantParsedProgram expects that a text is parsed as a program, or that a line
// is reported.
func wantParsedProgram(t *testing.T, s string, want impl.Program, line int) {
	t.Helper()
	if got, gotLine := impl.ParseProgram(s); gotLine != line || !sameProgram(got, want) {
		t.Errorf("ParseProgram(%q) = %+v, %d, want %+v, %d", s, got, gotLine, want, line)
	}
}

// wantSource expects that a text is the source code of a program.
func wantSource(t *testing.T, s string, want impl.Program) {
	t.Helper()
	wantParsedProgram(t, s, want, -1)
	if got := impl.FormatProgram(want); got != s {
		t.Errorf("FormatProgram(%+v) = %q, want %q", want, got, s)
	}
	if text := programText(want); text != s {
		t.Errorf("the test is wrong: %+v is written %q, not %q", want, text, s)
	}
}

// wantLine expects that a text is not parsed and that a line is reported.
func wantLine(t *testing.T, s string, want int) {
	t.Helper()
	wantParsedProgram(t, s, impl.Program{}, want)
	if _, line, _ := readSource(s); line != want {
		t.Errorf("the test is wrong: line %d of %q is reported, not %d", line, s, want)
	}
}

// wantReadSource expects what the document requires, and returns the reason for
// which the text is no source code.
func wantReadSource(t *testing.T, s string) int {
	t.Helper()
	want, line, reason := readSource(s)
	if reason == reasonNone {
		wantSource(t, s, want)
	} else {
		wantParsedProgram(t, s, want, line)
	}
	return reason
}

func wantRuleText(t *testing.T, r impl.Rule, want string) {
	t.Helper()
	if got := impl.FormatRule(r); got != want {
		t.Errorf("FormatRule(%+v) = %q, want %q", r, got, want)
	}
	if text := ruleText(r); text != want {
		t.Errorf("the test is wrong: %+v is written %q, not %q", r, text, want)
	}
}

func TestFormatRule(t *testing.T) {
	for i, r := range mixed().Rules {
		wantRuleText(t, r, mixedLines()[headLines+i])
	}
	one, two := integer(-1, "n"), listArg("ts", sumOfNames(0, "h"))
	cases := []struct {
		r    impl.Rule
		want string
	}{
		{impl.Rule{Func: "f", Result: integer(0)}, "rule f | return 0"},
		{impl.Rule{Func: "f", Result: integer(-1, "n")}, "rule f | return n - 1"},
		{impl.Rule{Func: "f", Result: listArg("")}, "rule f | return nil"},
		{impl.Rule{Func: "f", Result: listArg("xs", sumOf(1), sumOfNames(2, "n"))}, "rule f | return 1 : n + 2 : xs"},
		{impl.Rule{Func: "f", Patterns: []impl.Pattern{}, Guards: []impl.Sum{}, Calls: []impl.Call{}, Result: integer(0)}, "rule f | return 0"},
		{impl.Rule{Func: "f", Patterns: []impl.Pattern{isNil("xs")}, Result: integer(0)}, "rule f | xs = nil | return 0"},
		{impl.Rule{Func: "f", Patterns: []impl.Pattern{isCons("xs", "h", "ts")}, Result: two}, "rule f | xs = h : ts | return h : ts"},
		{impl.Rule{Func: "f", Patterns: []impl.Pattern{isNil("xs"), isCons("ys", "h", "ts")}, Result: two}, "rule f | xs = nil | ys = h : ts | return h : ts"},
		{impl.Rule{Func: "f", Patterns: []impl.Pattern{isCons("ys", "h", "ts"), isNil("xs")}, Result: two}, "rule f | ys = h : ts | xs = nil | return h : ts"},
		{impl.Rule{Func: "f", Patterns: []impl.Pattern{isNil("ys"), isNil("xs")}, Result: one}, "rule f | ys = nil | xs = nil | return n - 1"},
		{impl.Rule{Func: "f", Guards: []impl.Sum{sumOf(0)}, Result: one}, "rule f | 0 >= 0 | return n - 1"},
		{impl.Rule{Func: "f", Guards: []impl.Sum{sumOf(-limitNumber, term(-2, "n")), sumOf(1)}, Result: one}, "rule f | -2n - 1000000 >= 0 | 1 >= 0 | return n - 1"},
		{impl.Rule{Func: "f", Calls: []impl.Call{callOf("r", "g")}, Result: one}, "rule f | r := g | return n - 1"},
		{impl.Rule{Func: "f", Calls: []impl.Call{{Bind: "r", Func: "g", Args: []impl.Arg{}}}, Result: one}, "rule f | r := g | return n - 1"},
		{impl.Rule{Func: "f", Calls: []impl.Call{callOf("r", "g", one)}, Result: one}, "rule f | r := g n - 1 | return n - 1"},
		{impl.Rule{Func: "f", Calls: []impl.Call{callOf("rs", "g", one, two)}, Result: one}, "rule f | rs := g n - 1 , h : ts | return n - 1"},
		{impl.Rule{Func: "f", Calls: []impl.Call{callOf("r", "g", two, one), callOf("q", "f")}, Result: one}, "rule f | r := g h : ts , n - 1 | q := f | return n - 1"},
		{impl.Rule{Func: "f", Calls: []impl.Call{callOf("q", "f"), callOf("r", "g", listArg(""))}, Result: one}, "rule f | q := f | r := g nil | return n - 1"},
		{
			impl.Rule{Func: "f", Patterns: []impl.Pattern{isNil("xs")}, Guards: []impl.Sum{sumOfNames(0, "n")}, Calls: []impl.Call{callOf("r", "f", one)}, Result: integer(0, "r")},
			"rule f | xs = nil | n >= 0 | r := f n - 1 | return r",
		},
	}
	for _, c := range cases {
		wantRuleText(t, c.r, c.want)
	}
}

// TestFormatInvalidRules has rules that are not valid in any program.
func TestFormatInvalidRules(t *testing.T) {
	n := integer(0, "n")
	cases := []struct {
		r    impl.Rule
		want string
	}{
		{impl.Rule{}, "rule  | return "},
		{impl.Rule{Func: "fun", Result: integer(0)}, "rule fun | return 0"},
		{impl.Rule{Func: "A b\n|\xff", Result: integer(0)}, "rule A b\n|\xff | return 0"},
		{impl.Rule{Func: "f", Result: impl.Arg{}}, "rule f | return "},
		{impl.Rule{Func: "f", Result: listArg("n")}, "rule f | return "},
		{impl.Rule{Func: "f", Result: listArg("", make([]impl.Sum, limitHeads+1)...)}, "rule f | return "},
		{impl.Rule{Func: "f", Patterns: []impl.Pattern{{}}, Result: n}, "rule f |  = nil | return n"},
		{impl.Rule{Func: "f", Patterns: []impl.Pattern{{Cons: true}}, Result: n}, "rule f |  =  :  | return n"},
		{impl.Rule{Func: "f", Patterns: []impl.Pattern{{List: "xs", Head: "h", Tail: "ts"}}, Result: n}, "rule f | xs = nil | return n"},
		{impl.Rule{Func: "f", Patterns: []impl.Pattern{isCons("n", "N", "nil")}, Result: n}, "rule f | n = N : nil | return n"},
		{impl.Rule{Func: "f", Patterns: []impl.Pattern{isCons("a = b", "c : d", "e | f")}, Result: n}, "rule f | a = b = c : d : e | f | return n"},
		{impl.Rule{Func: "f", Guards: []impl.Sum{sumOfNames(0, "xs")}, Result: n}, "rule f |  >= 0 | return n"},
		{impl.Rule{Func: "f", Guards: []impl.Sum{sumOf(1), sumOf(limitNumber + 1), sumOf(2), sumOf(3)}, Result: n}, "rule f | 1 >= 0 |  >= 0 | 2 >= 0 | 3 >= 0 | return n"},
		{impl.Rule{Func: "f", Calls: []impl.Call{{}}, Result: n}, "rule f |  :=  | return n"},
		{impl.Rule{Func: "f", Calls: []impl.Call{callOf("R", "G h", impl.Arg{})}, Result: n}, "rule f | R := G h  | return n"},
		{impl.Rule{Func: "f", Calls: []impl.Call{callOf("r", "g", impl.Arg{}, n, impl.Arg{}, n)}, Result: n}, "rule f | r := g  , n ,  , n | return n"},
		{impl.Rule{Func: "f", Calls: []impl.Call{callOf("r", "g", n, n, n), callOf("r", "g"), callOf("r", "g")}, Result: n}, "rule f | r := g n , n , n | r := g | r := g | return n"},
	}
	for _, c := range cases {
		wantRuleText(t, c.r, c.want)
	}
	faults := changes()
	for _, fault := range ruleFaults()[1:] {
		p := mixed()
		faults[fault](&p.Rules[1])
		wantRuleText(t, p.Rules[1], ruleText(p.Rules[1]))
	}
	for _, a := range invalidArgs() {
		wantRuleText(t, impl.Rule{Func: "f", Calls: []impl.Call{callOf("r", "f", a, a)}, Result: a}, "rule f | r := f  ,  | return ")
	}
	for _, s := range invalidSums() {
		wantRuleText(t, impl.Rule{Func: "f", Guards: []impl.Sum{s, s}, Result: n}, "rule f |  >= 0 |  >= 0 | return n")
	}
}

func TestFormatProgram(t *testing.T) {
	wantSource(t, textOfLines(mixedLines()...), mixed())
	cases := []struct {
		f    impl.Function
		want string
	}{
		{function("f", false), "fun f : int"},
		{function("f", true), "fun f : list"},
		{function("f", false, "n"), "fun f n : int"},
		{function("f", true, "xs"), "fun f xs : list"},
		{function("f", true, "n", "m"), "fun f n m : list"},
		{function("int", false, "list", "ints"), "fun int list ints : int"},
		{function("list", true, "lists", "int"), "fun list lists int : list"},
	}
	for _, c := range cases {
		lines := []string{c.want}
		wantSource(t, textOfLines(lines...), withFunctions(c.f))
		for k := range limitPre {
			l := linAt(len(c.f.Params), -1, k-1, 2)
			c.f.Pre = append(c.f.Pre, l)
			lines = append(lines, "pre "+c.f.Name+" "+textOf(l, c.f.Params)+" >= 0")
			wantSource(t, textOfLines(lines...), withFunctions(c.f))
		}
	}
}

// TestFormatFunctions has preconditions behind the lines of some functions.
func TestFormatFunctions(t *testing.T) {
	f, g, h := function("f", false), function("g", true, "n"), function("h", false, "xs", "n")
	f.Pre = []impl.Lin{lin(-1), lin(0)}
	h.Pre = []impl.Lin{lin(limitWritten, -1, 2)}
	cases := []struct {
		p    impl.Program
		want []string
	}{
		{withFunctions(f), []string{"fun f : int", "pre f -1 >= 0", "pre f 0 >= 0"}},
		{withFunctions(f, g), []string{"fun f : int", "pre f -1 >= 0", "pre f 0 >= 0", "fun g n : list"}},
		{withFunctions(g, f), []string{"fun g n : list", "fun f : int", "pre f -1 >= 0", "pre f 0 >= 0"}},
		{withFunctions(h, g, f), []string{"fun h xs n : int", "pre h -xs + 2n + 999999 >= 0", "fun g n : list", "fun f : int", "pre f -1 >= 0", "pre f 0 >= 0"}},
		{withFunctions(f, h, g), []string{"fun f : int", "pre f -1 >= 0", "pre f 0 >= 0", "fun h xs n : int", "pre h -xs + 2n + 999999 >= 0", "fun g n : list"}},
	}
	for _, c := range cases {
		wantSource(t, textOfLines(c.want...), c.p)
		c.p.Rules = []impl.Rule{{Func: c.p.Functions[0].Name, Result: integer(7)}}
		if c.p.Functions[0].ListResult {
			c.p.Rules[0].Result = listArg("", sumOf(7))
		}
		wantSource(t, textOfLines(append(c.want, ruleText(c.p.Rules[0]))...), c.p)
	}
}

func TestFormatRulesOfPrograms(t *testing.T) {
	for k, r := range mixed().Rules {
		for size := range limitRules + 1 {
			p := mixed()
			p.Rules = slices.Repeat([]impl.Rule{r}, size)
			lines := append(mixedLines()[:headLines], slices.Repeat(mixedLines()[headLines+k:headLines+k+1], size)...)
			wantSource(t, textOfLines(lines...), p)
		}
	}
}

func TestFormatInvalidPrograms(t *testing.T) {
	list := somePrograms()
	for _, f := range oddFunctions() {
		list = append(list, withFunctions(f))
	}
	long := mixed()
	long.Rules = slices.Repeat(long.Rules[:1], limitRules+1)
	wide := mixed()
	wide.Functions = append(wide.Functions, function("more", false))
	late := mixed()
	late.Rules[4].Func = "one"
	pre := mixed()
	pre.Functions[2].Pre = []impl.Lin{lin(0, 1)}
	list = append(list, long, wide, late, pre, withFunctions(function("f", false, "n"), function("f", true)))
	empty := 0
	for _, p := range list {
		want := programText(p)
		if got := impl.FormatProgram(p); got != want {
			t.Errorf("FormatProgram(%+v) = %q, want %q", p, got, want)
		}
		if want == "" {
			empty++
		}
	}
	if empty != len(list)-1 {
		t.Errorf("the test is wrong: %d of %d programs are not valid", empty, len(list))
	}
}

func TestSources(t *testing.T) {
	for _, s := range sources() {
		if reason := wantReadSource(t, s); reason != reasonNone {
			t.Errorf("%q is no source code: %d", s, reason)
		}
	}
}

func TestTextsThatAreNoSourceCode(t *testing.T) {
	cases := map[string]int{
		"":                       0,
		"\n":                     0,
		"\n\n":                   0,
		" ":                      0,
		" \n":                    0,
		"\x00":                   0,
		"\xff\n":                 0,
		"hm":                     0,
		"fun f n : int":          1,
		"fun f n : int\n\n":      1,
		"fun f n : int\n\n\n":    1,
		"\nfun f n : int\n":      0,
		"fun f n : int\nhm\n":    1,
		"fun f n : int\nhm":      1,
		"fun f n : int\n ":       1,
		"fun f n : int\r\n":      1,
		"fun f n : int\n\r\n":    1,
		"fun f n : int\r":        1,
		"fun\tf n : int\n":       0,
		"fun f\tn : int\n":       1,
		" fun f n : int\n":       0,
		"fun":                    1,
		"fun\n":                  1,
		"fun \n":                 1,
		"pre\n":                  1,
		"pre \n":                 1,
		"pre f n >= 0\n":         1,
		"rule\n":                 0,
		"rule":                   0,
		"rule \n":                0,
		"rule f | return 0":      1,
		"rule f | return 0\n":    1,
		"rule f | return 0\nhm":  1,
		"rule\nhm\n":             1,
		"rule\nrule\n":           0,
		"fun f n : int\nrule\n":  1,
		"Fun f n : int\n":        0,
		"FUN f n : int\n":        0,
		"fun f n : int\nRule\n":  1,
		"fun f n : int\nr\nrule": 1,

		"fun f n : int\nrule f | return\n":                         1,
		"fun f n : int\nrule g | return 0\n":                       2,
		"fun f n : int\nrule f | return 0":                         2,
		"fun f n : int\nrule f | return 0\n\n":                     2,
		"fun f n : int\nrule f | return 0\n \n":                    2,
		"fun f n : int\n\nrule f | return 0\n":                     1,
		"fun f n : int\nrule f | return 0\r\n":                     1,
		"fun f n : int\r\nrule f | return 0\n":                     2,
		"fun f n : int\r\nrule f | return 0\r\n":                   1,
		"fun f n : int\nrule\tf | return 0\n":                      1,
		"fun f n : int\nrule f |\treturn 0\n":                      1,
		"fun f n : int\npre f n >= 0\r\n":                          2,
		"fun f n : int\npre\tf n >= 0\n":                           1,
		"fun f n : int\npre f\tn >= 0\n":                           2,
		"fun f n : int\nrule f | return\nhm\n":                     2,
		"fun f n : int\nhm\nrule f | return\n":                     1,
		"fun f n : int\nrule f | return\nrule\nrule\n":             1,
		"fun f n : int\nrule f | return 0\nrule\nrule f\n":         2,
		"fun F n : int\nrule f | return 0\nrule\n":                 2,
		"rule f | return 0\nfun f n : int\n":                       2,
		"rule f | return 0\nfun f n : int\nrule f | return 1\n":    3,
		"fun f n : int\nrule f | return 0\npre f n >= 0\n":         3,
		"fun f n : int\nrule f | return 0\nfun g n : int\n":        3,
		"pre f n >= 0\nfun f n : int\n":                            2,
		"fun f n : int\nfun g m : int\npre f n >= 0\n":             3,
		"fun f n : int\nfun g n : int\npre f n >= 0\n":             3,
		"fun f n : int\npre g n >= 0\nfun g n : int\n":             3,
		"fun f n : int\npre f n >= 0\nfun f n : int\n":             3,
		"fun f n : int\npre f 1000000 >= 0\n":                      2,
		"fun f n : int\npre f 1000000n >= 0\n":                     2,
		"fun f n : int\nrule f | 1000000 >= 0 | return 0\n":        1,
		"fun f n : int\nrule f | n - 1000000 >= 0 | return 0\n":    1,
		"fun f n : int\nrule f | return 1000000\n":                 1,
		"fun f n : int\nrule f | return -1000000n\n":               1,
		"fun f n : int\nrule f | r := f 1000000 | return 0\n":      1,
		"fun f n : int\npre f 1000000 >= 0\nrule f | return 007\n": 2,
	}
	for s, line := range cases {
		wantLine(t, s, line)
	}
}

// TestProgramsWithLongNumbers has programs that are valid, but whose source
// code has numbers of 7 digits, at each place of them.
func TestProgramsWithLongNumbers(t *testing.T) {
	count := 0
	for _, number := range []int{limitWritten, limitNumber, -limitNumber} {
		for place := 0; ; place++ {
			p, left := mixed(), place
			if !setNumber(reflect.ValueOf(&p).Elem(), number, &left) {
				break
			}
			s := impl.FormatProgram(p)
			if s == "" || s != programText(p) {
				t.Fatalf("FormatProgram(%+v) = %q", p, s)
			}
			if number == limitWritten {
				wantSource(t, s, p)
				continue
			}
			line := strings.Count(s[:strings.Index(s, "1000000")], "\n")
			if line < headLines {
				line = len(mixedLines())
			}
			wantLine(t, s, line)
			count++
		}
	}
	if count < 60 {
		t.Errorf("%d programs have a number of 7 digits", count)
	}
}

// setNumber sets one of the numbers in v, and reports whether there is one at
// this place.
func setNumber(v reflect.Value, number int, place *int) bool {
	switch v.Kind() {
	case reflect.Struct:
		for i := range v.NumField() {
			if setNumber(v.Field(i), number, place) {
				return true
			}
		}
	case reflect.Slice:
		for i := range v.Len() {
			if setNumber(v.Index(i), number, place) {
				return true
			}
		}
	case reflect.Int:
		*place--
		if *place < 0 {
			v.SetInt(int64(number))
			return true
		}
	}
	return false
}

// wantAtEachPlace expects that a line among the rules of mixed is reported
// itself, or the number of lines if whole is true.
func wantAtEachPlace(t *testing.T, line string, whole bool) {
	t.Helper()
	for place := headLines; place <= len(mixedLines()); place++ {
		lines := withLines(mixedLines(), place, line)
		want := place
		if whole {
			want = len(lines)
		}
		wantLine(t, textOfLines(lines...), want)
		wantLine(t, strings.TrimSuffix(textOfLines(lines...), "\n"), want)
	}
}

// malformedRules returns lines that are no rules, in groups.
func malformedRules() []string {
	return slices.Concat(
		// The function.
		[]string{"rule", "rule ", "rule  ", "rule  | return 0", "rule | return 0", "rule zero", "rule zero ", "rule zero |", "rule zero | ", "rule F | return 0", "rule fun | return 0", "rule nil | return 0",
			"rule rule | return 0", "rule 1 | return 0", "rule f_g | return 0", "rule abcdefghi | return 0", "rule abcdefghs | return 0", "rule zero zero | return 0", "rule rule zero | return 0",
			"rule zero, | return 0", "rule \xff | return 0", "rule f\x00 | return 0", "rule return 0", "rule zero return 0"},
		// Patterns.
		inRules("xs", "xs =", "xs = ", "= nil", " = nil", "xs = nil nil", "xs == nil", "xs=nil", "xs =nil", "xs= nil", "xs  = nil", "xs =  nil", "xs = []", "xs = 0", "xs = n", "xs = ts", "xs = NIL", "xs := nil", "xs = nil = nil",
			"nil = nil", "fun = nil", "Xs = nil", "abcdefghs = nil", "xs ys = nil", "xs + 1 = nil", "nil = h : ts", "x_s = h : ts",
			"xs = h :ts", "xs = h: ts", "xs = h:ts", "xs = h  : ts", "xs = h :  ts", "xs = h : ts : us", "xs = h : k : ts", "xs = h : nil", "xs = nil : ts", "xs = 1 : ts", "xs = h + 1 : ts",
			"xs = 2h : ts", "xs = -h : ts", "xs = h : ", "xs = h :", "xs = : ts", "xs =  : ts", "xs = h", "xs = H : ts", "xs = h : TS", "xs = abcdefghi : ts", "xs = h : abcdefghs", "xs = pre : ts", "xs = h ts", "xs = h , ts"),
		// Guards.
		inRules("n", "0", "n > 0", "n >= 1", "n >= 00", "n >= -0", "n>= 0", "n >=0", "n>=0", "n  >= 0", "n >=  0", "n >= 0 >= 0", ">= 0", " >= 0", "  >= 0", "n >= m", "n <= 0", "0 <= n", "n = 0", "n => 0",
			"xs >= 0", "xs - 1 >= 0", "n + xs >= 0", "nil >= 0", "h : ts >= 0", "n + m >= 0", "n + n >= 0", "0n >= 0", "1n >= 0", "01 >= 0", "n + 0 >= 0", "-0 >= 0", "+n >= 0", "a + b + c + d + e >= 0",
			"1000000 >= 0", "-1000000n >= 0", "N >= 0", "return >= 0", "abcdefghi >= 0", "n >= 0 , n >= 0", "n - -1 >= 0", "n-1 >= 0"),
		// Calls.
		inRules("r := ", "r :=", ":= zero", " := zero", "r = zero", "r : = zero", "r:= zero", "r :=zero", "r:=zero", "r  := zero", "r :=  zero", "r := zero := zero", "r := r := zero", "r := zero ", "r := zero  0", "zero", "zero 0",
			"R := zero", "nil := zero", "1 := zero", "abcdefghi := zero", "r q := zero", "r , q := zero", "2r := zero", "\xff := zero",
			"r := F", "r := fun", "r := nil", "r := 0", "r := n + 1", "r := zero + 1", "r := abcdefghi 0", "r := zero_", "r := -zero",
			"r := zero 0,0", "r := zero 0 ,0", "r := zero 0, 0", "r := zero 0  , 0", "r := zero 0 ,  0", "r := zero 0 , ", "r := zero 0 ,", "r := zero , 0", "r := zero  , 0", "r := zero , ", "r := zero ,", "r := zero 0 , , 0", "r := zero 0 0", "r := zero n m",
			"r := zero (n)", "r := zero(n)", "r := zero h : t", "r := zero nil : nil", "r := zero xs : ys", "r := zero xs + 1", "r := zero n + m", "r := zero 01", "r := zero 1000000", "r := zero 0 , 1000000", "r := zero 0 : 0 : 0 : 0 : nil", "r := zero a + b + c + d + e",
			"r := zero N", "r := zero return", "r := zero 0 ; 0"),
		// The return.
		[]string{"rule zero | 0", "rule zero | return", "rule zero | return ", "rule zero | return  0", "rule zero | returns 0", "rule zero | return0", "rule zero | Return 0", "rule zero | return return 0", "rule zero | return 0 ", "rule zero | return 0 |", "rule zero | return 0 | ",
			"rule zero | return 0 | return 0", "rule zero | return 0 , 1", "rule zero | return 0 0", "rule zero | return h : t", "rule zero | return nil + 1", "rule zero | return nil nil", "rule zero | return 1000000", "rule zero | return 1 : 1000000 : nil",
			"rule zero | return 01", "rule zero | return n + 0", "rule zero | return n + m", "rule zero | return 0 : 0 : 0 : 0 : nil", "rule zero | return N", "rule zero | return rule", "rule zero | return xs ys", "rule zero | return r := zero", "rule zero | return n >= 0",
			"rule zero | return (0)", "rule zero | return abcdefghi", "rule zero | return abcdefghs", "rule zero | return \xff", "rule zero | nil", "rule zero | xs"},
		// Parts out of order.
		inRules("n >= 0 | xs = nil", "r := zero | xs = nil", "r := zero | n >= 0", "xs = nil | r := zero | n >= 0", "n >= 0 | r := zero | xs = nil", "xs = nil | n >= 0 | ys = nil", "r := zero | n >= 0 | q := zero", "return 0", "return 0 | n >= 0", "return 0 | r := zero", "return 0 | xs = nil",
			"rule zero", "zero", "", " ", "|", "| n >= 0", "n >= 0 |"),
		[]string{"rule return 0 | zero", "rule zero | return 0 | n >= 0", "rule zero | return 0 | xs = nil", "rule zero | return 0 | r := zero", "rule | zero | return 0", "rule n >= 0 | return 0", "rule xs = nil | return 0", "rule r := zero | return 0"},
		// Other spaces.
		[]string{"rule  zero | return 0", "rule zero  | return 0", "rule zero |  return 0", "rule zero| return 0", "rule zero |return 0", "rule zero|return 0", "rule zero || return 0", "rule zero |  | return 0", "rule zero | return 0\t", "rule zero |\treturn 0", "rule zero\t| return 0",
			"rule zero | return\t0", "rule zero | return 0\r", "rule zero | return 0\x00", "rule zero | return 0\xff", "rule zero | return\u00a00", "rule zero\u00a0| return 0", "rule zero \u00a6 return 0", "rule zero \uff5c return 0"},
	)
}

// inRules returns rules of the function zero with these parts in front of the
// return.
func inRules(parts ...string) []string {
	var list []string
	for _, part := range parts {
		list = append(list, "rule zero | "+part+" | return 0")
	}
	return list
}

func TestMalformedRules(t *testing.T) {
	for _, line := range malformedRules() {
		wantAtEachPlace(t, line, false)
	}
	// The first one counts, and the functions don't matter.
	for i, line := range malformedRules() {
		other := malformedRules()[(7*i+3)%len(malformedRules())]
		wantLine(t, textOfLines("fun zero : int", "rule zero | return 0", line, other), 2)
		wantLine(t, textOfLines("fun zero : int", other, line, "rule zero | return 0"), 1)
		wantLine(t, textOfLines(line, "fun zero : int"), 0)
		wantLine(t, textOfLines("fun ZERO :: int", "pre x", "rule one | return nil", line), 3)
	}
}

// TestPartsOfMalformedRules puts what is wrong behind and in front
// of what is right.
func TestPartsOfMalformedRules(t *testing.T) {
	cases := map[string][]string{
		"rule rev | xs = nil | %s | return ys":                                      {"1 = nil", "xs = h : T", "n >= 1", "xs >= 0", "r := ZERO", "r := zero 0 0", "0", "return 0", ""},
		"rule rev | %s | xs = nil | return ys":                                      {"1 = nil", "xs = h : T", "n >= 1", "xs >= 0", "r := zero", "n >= 0", "0", "return 0", ""},
		"rule rev | n >= 0 | %s | return ys":                                        {"xs = nil", "xs = h : ts", "n >= 1", "xs >= 0", "r := ZERO", "0", ""},
		"rule rev | r := zero | %s | return ys":                                     {"xs = nil", "xs = h : ts", "n >= 0", "xs >= 0", "r := ZERO", "zero", ""},
		"rule rev | xs = nil | n >= 0 | r := zero | %s | return ys":                 {"xs = nil", "n >= 0", "q := zero ,", "return ys", ""},
		"rule rev | xs = %s | return ys":                                            {"h : T", "H : ts", "nil : ts", "h : nil", "NIL", "nil ", " nil", "h : ts ", "", "h", "ts"},
		"rule rev | %s - k >= 0 | r := zero | return ys":                            {"n", "xs", "H", "1", "", "h +", "1000000h", "k", "z"},
		"rule rev | r := len %s , ts | return ys":                                   {"h ,", ", h", "H", "h : h", "", "h +", "1000000h", "n + m", "ts ,"},
		"rule rev | r := len h , %s | q := zero | return r : ys":                    {"ts ,", ", ts", "h : h", "", "h +", "1000000h", "n + m", "ts ts"},
		"rule rev | xs = nil | h >= 0 | h - 1 >= 0 | r := len h , ts | return %s":   {"ys :", ": ys", "h : h", "", "h +", "1000000h", "n + m", "ys ys"},
		"rule %s | xs = nil | h >= 0 | h - 1 >= 0 | r := len h , ts | return h : s": {"rev rev", "Revs", "REV", "", "h +", "1", "nil", "rev ", " rev"},
	}
	for form, list := range cases {
		for _, part := range list {
			wantAtEachPlace(t, strings.Replace(form, "%s", part, 1), false)
		}
	}
}

// invalidRules returns lines that are rules, but of no program that has the
// functions of mixed.
func invalidRules() []string {
	return slices.Concat(
		[]string{"rule one | return 0", "rule zero | return nil", "rule zero | return 0 : nil", "rule zero | return xs", "rule zero | return n", "rule rev | return 0", "rule len | return ys", "rule len | return h", "rule rev | return n : ys",
			"rule len | xs = nil | xs = nil | return 0", "rule len | xs = nil | xs = h : ts | return 0", "rule rev | xs = nil | ys = nil | xs = nil | return xs", "rule len | xs = n : ts | return n", "rule len | xs = h : xs | return n", "rule rev | xs = h : ts | ys = h : us | return xs",
			"rule rev | xs = h : ts | ys = k : ts | return xs", "rule len | ys = nil | return 0", "rule len | m >= 0 | return 0", "rule len | h >= 0 | return 0", "rule len | m >= 0 | m := zero | return 0", "rule len | n := zero | return 0", "rule len | xs = h : ts | h := zero | return 0",
			"rule zero | n := zero | return m", "rule zero | m := zero | n := zero | return m + n + z", "rule len | q := len q , xs | return 0", "rule len | q := len r , xs | r := zero | return 0", "rule zero | r := zero | r := zero | return 0"},
		inRules("xs = nil", "xs = h : ts", "n >= 0", "0 >= 0 | 1 >= 0 | 2 >= 0", "r := one", "r := zero 0", "r := zero nil", "r := zero 0 , 1 , 2 , 3", "rs := zero", "r := rev nil , nil", "rs := len 0 , nil", "r := len 0", "r := len nil , 0", "r := len 0 , 0", "r := len 0 , nil , nil",
			"r := len 0 , xs", "r := len n , nil", "r := len r , nil", "r := zero | q := zero | p := zero", "rs := rev nil , 0", "xs = nil | ys = nil | zs = nil | as = nil"),
		// Names of the wrong kind.
		[]string{"rule zeros | return 0", "rule s | return 0", "rule revs | xs = nil | return ys", "rule xs | return 0", "rule len | n = nil | return 0", "rule len | n = h : ts | return 0", "rule len | xs = h : t | return 0", "rule len | xs = hs : ts | return 0", "rule len | xs = ts : h | return 0",
			"rule len | xs = nils : ts | return 0", "rule rev | xs = nil | y = nil | return nil", "rule rev | xs = h : ts | ys = ks : u | return nil", "rule lens | n = hs : t | ms := revs h | return 0"},
		inRules("n = nil", "h = h : ts", "rev = nil", "xsf = nil", "xs = h : tsf", "xs = hs : ts", "r := zeros", "r := xs", "r := zeros 0", "rs := revs nil , nil", "r := zero | q := zeros", "rs := zeros"),
		[]string{"rule zero" + strings.Repeat(" | xs = nil", 1000) + " | return 0", "rule zero" + strings.Repeat(" | 0 >= 0", 1000) + " | return 0", "rule zero" + strings.Repeat(" | r := zero", 1000) + " | return 0", "rule zero | r := zero 0" + strings.Repeat(" , 0", 1000) + " | return 0"},
	)
}

func TestRulesThatAreNotValid(t *testing.T) {
	for _, line := range invalidRules() {
		if _, ok := readRule(line); !ok {
			t.Errorf("the test is wrong: %q is no rule", line)
		}
		wantAtEachPlace(t, line, true)
		// A rule that is no rule at all is reported before it.
		for i, malformed := range []string{"rule", "rule zero | return", "rule zero | return 01"} {
			wantLine(t, textOfLines("fun zero : int", line, malformed, line), 2)
			wantLine(t, textOfLines(withLines(append(mixedLines(), line, line), headLines+i, malformed)...), headLines+i)
		}
	}
	for _, line := range mixedLines()[headLines:] {
		p := mixed()
		r, _ := readRule(line)
		p.Rules = append(p.Rules, r)
		wantSource(t, textOfLines(append(mixedLines(), line)...), p)
	}
}

// namePlace is a place of a name in a rule of mixed: %s in the line stands for
// the name.
type namePlace struct{ line, name string }

// namePlaces returns every place of a name that is no part of an expression.
func namePlaces() []namePlace {
	return []namePlace{
		{"rule %s | return 0", "zero"},
		{"rule %s | xs = nil | n - 1 >= 0 | r := zero | return r", "len"},
		{"rule %s | xs = h : ts | ys = nil | return ts", "rev"},
		{"rule len | %s = nil | return n", "xs"},
		{"rule len | %s = h : ts | return h", "xs"},
		{"rule rev | %s = nil | xs = h : ts | return ts", "ys"},
		{"rule rev | xs = nil | %s = k : us | return us", "ys"},
		{"rule len | xs = %s : ts | return n", "h"},
		{"rule rev | xs = nil | ys = %s : us | k := zero | return us", "h"},
		{"rule len | xs = h : %s | return h", "ts"},
		{"rule rev | xs = nil | ys = k : %s | k >= 0 | return xs", "us"},
		{"rule zero | %s := zero | return 0", "r"},
		{"rule zero | r := zero | %s := len r , nil | return r", "q"},
		{"rule len | n >= 0 | %s := rev xs , xs | r := zero | return r", "rs"},
		{"rule rev | r := zero | %s := rev ys , xs | return xs", "qs"},
		{"rule zero | r := %s | return r", "zero"},
		{"rule len | r := %s n - 1 , xs | return r", "len"},
		{"rule rev | rs := %s ys , xs | return rs", "rev"},
		{"rule len | r := zero | q := %s | return q", "zero"},
		{"rule len | rs := rev xs , nil | q := %s 1 , rs | return q", "len"},
	}
}

// at returns the line with a name at the place.
func (x namePlace) at(name string) string { return strings.Replace(x.line, "%s", name, 1) }

// otherKind returns valid names of the kind that is wrong at the place.
func (x namePlace) otherKind() []string {
	if isListName(x.name) {
		return []string{"n", "z", "s1", "xsf", "tss0", "rev", "len", "zero", "int", "list", "funny", "nil1", "abcdefgh", "sssssss7"}
	}
	return []string{"s", "ss", "xs", "zs", "revs", "lens", "zeros", "ints", "lists", "funs", "pres", "rules", "returns", "nils", "a1s", "abcdefgs", "ssssssss"}
}

// notNames returns words that are no valid names of either kind.
func notNames() []string {
	return []string{
		"", "fun", "pre", "rule", "return", "nil", "x_s", "x-s", "1", "1s", "7xs", "-h", "+h", "2h", "N", "Xs", "xS", "XS", "abcdefghi", "abcdefghs", "toolongnas", "sssssssss", "fun f", "h  h", "h  s", " h", "h ", " xs", "xs ",
		"h,", "h.", "h:", "h=", "h|", "(h)", "_", "\t", "\rxs", "h\x00", "\x00", "\xff", "xs\xff", "\u00e4s", "\u017f", "h\u00e9",
	}
}

// malformedLine is a line that is no rule whatever the program is.
const malformedLine = "rule zero | return 1 +"

// TestNamesOfTheOtherKind has valid names of the wrong kind: the line is a
// rule, but of no program, so that the number of lines is reported.
func TestNamesOfTheOtherKind(t *testing.T) {
	for _, x := range namePlaces() {
		p := mixed()
		right, _ := readRule(x.at(x.name))
		p.Rules = append(p.Rules, right)
		wantSource(t, textOfLines(append(mixedLines(), x.at(x.name))...), p)
		for _, name := range x.otherKind() {
			line := x.at(name)
			r, ok := readRule(line)
			if !ok {
				t.Errorf("the test is wrong: %q is no rule", line)
			}
			wantRuleText(t, r, line)
			wantAtEachPlace(t, line, true)
			wantLine(t, line, 1)
			wantLine(t, textOfLines(line), 1)
			// A malformed line is reported all the same, and so is a first word.
			wantLine(t, textOfLines("fun zero : int", line, malformedLine), 2)
			wantLine(t, textOfLines("fun zero : int", malformedLine, line), 1)
			wantLine(t, textOfLines("fun zero : int", line, line, malformedLine, line, malformedLine), 3)
			wantLine(t, textOfLines(append(mixedLines(), line, malformedLine)...), len(mixedLines())+1)
			wantLine(t, textOfLines(append(mixedLines(), malformedLine, line)...), len(mixedLines()))
			wantLine(t, textOfLines("fun zero : int", line, "rules"), 2)
			wantLine(t, textOfLines("fun zero : int", line, malformedLine, "rules"), 3)
		}
	}
}

// TestNamesThatAreNotValid has names that are not valid: the line is reported
// itself.
func TestNamesThatAreNotValid(t *testing.T) {
	for _, x := range namePlaces() {
		for _, name := range notNames() {
			line := x.at(name)
			wantAtEachPlace(t, line, false)
			wantLine(t, line, 0)
			wantLine(t, textOfLines("fun zero : int", line, malformedLine), 1)
			wantLine(t, textOfLines("fun zero : int", malformedLine, line), 1)
			wantLine(t, textOfLines("fun zero : int", line, malformedLine, "rules"), 3)
			// A name of the wrong kind in another line does not count.
			for _, other := range x.otherKind()[:3] {
				wantLine(t, textOfLines("fun zero : int", x.at(other), line), 2)
				wantLine(t, textOfLines("fun zero : int", line, x.at(other)), 1)
				wantLine(t, textOfLines(append(mixedLines(), x.at(other), line, malformedLine)...), len(mixedLines())+1)
			}
		}
	}
}

// TestSeveralNamesOfRules has a name of the wrong kind at all places of a line,
// and then one that is not valid at one of them.
func TestSeveralNamesOfRules(t *testing.T) {
	words := []string{"fs", "y", "xsf", "hs", "t", "rs", "gs", "q", "ks"}
	write := func(w []string) string {
		return "rule " + w[0] + " | " + w[1] + " = nil | " + w[2] + " = " + w[3] + " : " + w[4] + " | n >= 0 | " + w[5] + " := " + w[6] + " n , xs | " + w[7] + " := " + w[8] + " | return 1"
	}
	wantAtEachPlace(t, write(words), true)
	for i := range words {
		for _, name := range notNames() {
			wrong := slices.Clone(words)
			wrong[i] = name
			wantAtEachPlace(t, write(wrong), false)
			wantLine(t, textOfLines("fun zero : int", write(words), write(wrong), malformedLine), 2)
		}
	}
}

// unknownWords returns lines whose first words are not fun, pre or rule.
func unknownWords() []string {
	return []string{
		"", " ", "  ", "\t", "\r", "\x00", "\xff", "|", "f", "fu", "pr", "rul", "funs", "funny f n : int", "pres", "prefix zero 0 >= 0", "rules", "ruler zero | return 0", "rules zero | return 0", "fun: f n : int", "rule| return 0",
		"fun\tf : int", "pre\tzero 0 >= 0", "rule\tzero | return 0", "rule\r", "fun\r", "pre\r", "rule\x00zero | return 0", "rule\u00a0zero | return 0", " fun f : int", " pre zero 0 >= 0", " rule zero | return 0", "\trule zero | return 0",
		"Fun f : int", "PRE zero 0 >= 0", "Rule zero | return 0", "return 0", "nil", "zero", "zero rule | return 0", "# comment", "// comment", "accept", "\ufefffun f : int", "\u00a0fun f : int",
	}
}

func TestUnknownFirstWords(t *testing.T) {
	for i, line := range unknownWords() {
		for place := range len(mixedLines()) + 1 {
			lines := withLines(mixedLines(), place, line)
			if place == len(mixedLines()) && line == "" {
				continue
			}
			wantLine(t, textOfLines(lines...), place)
			if line != "" {
				wantLine(t, strings.TrimSuffix(textOfLines(lines...), "\n"), place)
			}
			// What is wrong with other lines does not count, whether they stand before
			// it or behind it.
			for _, other := range []string{"rule", "rule zero | return", "rule one | return 0", "fun", "fun F : int", "pre zero 0", unknownWords()[(5*i+2)%len(unknownWords())]} {
				if slices.Contains(unknownWords(), other) {
					wantLine(t, textOfLines(withLines(lines, len(lines), other, "fun")...), place)
					continue
				}
				wantLine(t, textOfLines(withLines(lines, place, other)...), place+1)
				wantLine(t, textOfLines(withLines(lines, 0, other, other)...), place+2)
				wantLine(t, textOfLines(withLines(lines, len(lines), other)...), place)
			}
		}
	}
	// An empty line at the end is one only if another newline follows.
	wantLine(t, textOfLines(append(mixedLines(), "")...), len(mixedLines()))
	wantLine(t, textOfLines(append(mixedLines(), "", "")...), len(mixedLines()))
	wantSource(t, textOfLines(mixedLines()...), mixed())
}

// headTexts returns lines of functions and preconditions that are in no source
// code of a function zero, with one of them behind the other.
func headTexts() []string {
	return []string{
		"fun", "fun ", "fun  ", "fun zero", "fun zero ", "fun zero :", "fun zero : ", "fun zero : int ", "fun zero : int\r", "fun zero : int\t", "fun zero : Int", "fun zero : ints", "fun zero : list list", "fun zero : int int", "fun zero : int : int", "fun zero : int : list", "fun zero : list : int",
		"fun zero: int", "fun zero :int", "fun zero:int", "fun zero  : int", "fun zero :  int", "fun  zero : int", "fun zero n  : int", "fun zero  n : int", "fun zero n  m : int", "fun zero n , m : int", "fun zero n, m : int", "fun zero (n) : int", "fun : int", "fun  : int", "fun : zero : int",
		"fun fun : int", "fun F : int", "fun zeros : int", "fun s : list", "fun abcdefghi : int", "fun 1 : int", "fun nil : list", "fun zero N : int", "fun zero nil : list", "fun zero n n : int", "fun zero xs xs : list", "fun zero n m k : int", "fun zero n m k h i j a b c d : int", "fun zero 1 : int", "fun zero abcdefghi : int",
		"fun zero \xff : int", "fun \xff : int", "fun zero int", "fun zero | int", "fun zero : int\x00", "fun zero n\tm : int", "fun zero n; m : int",
		"pre", "pre ", "pre zero", "pre zero ", "pre zero  >= 0", "pre zero >= 0", "pre 0 >= 0", "pre zero 0", "pre zero 0 >= 0 ", "pre zero 0 >= 0\r", "pre zero 0 >= 00", "pre zero 0 >= 1", "pre zero 0 > 0", "pre zero 0>= 0", "pre zero 0 >=0", "pre zero  0 >= 0", "pre  zero 0 >= 0", "pre zero 0  >= 0",
		"pre zero n >= 0", "pre zero xs >= 0", "pre zero N >= 0", "pre zero 01 >= 0", "pre zero -0 >= 0", "pre zero +1 >= 0", "pre zero 1 + 1 >= 0", "pre zero 1000000 >= 0", "pre zero -1000000 >= 0", "pre zero 0 >= 0 >= 0", "pre zero 0 >= 0 | 0 >= 0", "pre zero 0 : nil >= 0", "pre zero nil >= 0",
		"pre one 0 >= 0", "pre zer 0 >= 0", "pre zeros 0 >= 0", "pre ZERO 0 >= 0", "pre fun 0 >= 0", "pre len 0 >= 0", "pre rev 0 >= 0", "pre pre zero 0 >= 0", "pre zero zero 0 >= 0",
	}
}

func TestMalformedFunctions(t *testing.T) {
	for _, line := range headTexts() {
		for place := headLines; place <= len(mixedLines()); place++ {
			wantLine(t, textOfLines(withLines(mixedLines(), place, line)...), len(mixedLines())+1)
		}
		wantLine(t, textOfLines("fun zero : int", line), 2)
		wantLine(t, textOfLines("fun zero : int", line, "rule zero | return 0"), 3)
		wantLine(t, textOfLines("fun zero : int", "pre zero 1 >= 0", line, "rule zero | return 0"), 4)
		wantLine(t, textOfLines("fun zero : int", line, "pre zero 1 >= 0", "rule zero | return 0"), 4)
		wantLine(t, textOfLines("fun zero : int", "rule zero | return 0", line), 3)
		// Lines that are reported by their own numbers are so all the same.
		wantLine(t, textOfLines("fun zero : int", line, "rule zero | return 0", "rule"), 3)
		wantLine(t, textOfLines("fun zero : int", line, "rule", "rules"), 3)
	}
}

func TestLinesOutOfOrder(t *testing.T) {
	reason := func(want int, lines ...string) {
		t.Helper()
		if got := wantReadSource(t, textOfLines(lines...)); got != want {
			t.Errorf("the reason is %d for %q, want %d", got, lines, want)
		}
	}
	f, pf, g, pg := "fun f n : int", "pre f n >= 0", "fun g n : int", "pre g n >= 0"
	rf, rg := "rule f | return 0", "rule g | return 1"
	reason(reasonNone, f, pf, g, pg, rf, rg)
	reason(reasonNone, f, pf, pf, g, pg, pg, rf, rg)
	reason(reasonNone, g, pg, f, pf, rf, rg)
	reason(reasonNone, f, g, pg, rg, rf, rg)
	reason(reasonNone, f, pf, g)
	reason(reasonProgram, f, g, pf, pg, rf, rg)
	reason(reasonProgram, f, pg, g, pf, rf, rg)
	reason(reasonProgram, f, g, pg, pf, rf, rg)
	reason(reasonProgram, pf, f, g, pg, rf, rg)
	reason(reasonProgram, f, pf, g, rf, pg, rg)
	reason(reasonProgram, f, pf, g, rf, rg, pg)
	reason(reasonProgram, f, g, rf, pf, rg)
	reason(reasonProgram, f, g, rf, rg, pf)
	reason(reasonProgram, f, pf, rf, g, pg, rg)
	reason(reasonProgram, f, pf, rf, rf, g)
	reason(reasonProgram, rf, f, pf, g, pg, rg)
	reason(reasonProgram, rf, f)
	reason(reasonProgram, f, pf, pf, pf, rf)
	reason(reasonProgram, f, pf, f, pf, rf)
	reason(reasonProgram, f, pf, rf, pf)
	reason(reasonProgram, f, f)
	reason(reasonProgram, rf)
	reason(reasonProgram, pf)
	reason(reasonProgram, pf, rf)
	reason(reasonNone, slices.Concat([]string{f}, slices.Repeat([]string{rf}, limitRules))...)
	reason(reasonProgram, slices.Concat([]string{f}, slices.Repeat([]string{rf}, limitRules+1))...)
	reason(reasonNone, f, g, "fun h : list")
	reason(reasonProgram, f, g, "fun h : list", "fun k : list")
	for _, lines := range orders([]string{f, pf, g, pg, rf}) {
		wantReadSource(t, textOfLines(lines...))
	}
}

// orders returns the lists of all lines in each order.
func orders(lines []string) [][]string {
	if len(lines) == 0 {
		return [][]string{nil}
	}
	var list [][]string
	for i := range lines {
		for _, rest := range orders(slices.Delete(slices.Clone(lines), i, i+1)) {
			list = append(list, append([]string{lines[i]}, rest...))
		}
	}
	return list
}

// TestShortSources has all texts of a few pieces.
func TestShortSources(t *testing.T) {
	pieces := [][]string{
		{"fun", "pre", "rule", " ", "f", "\n", " : int"},
		{"fun f : int\n", "pre f 0 >= 0\n", "rule f | return 0\n", "rule f | return\n", "x\n", "\n", "rule g | return 0\n"},
		{"fun f xs : list\n", "rule f", " | ", "xs = nil", "return xs", "\n", "0 >= 0"},
		{"fun f xs : list\nrule f | xs", " = ", "h", " : ", "ts", "nil", " | return nil\n"},
		{"fun f n : int\nrule f | r := f ", "n", " , ", "1", " - ", " : ", " | return r\n"},
		{"fun f", " n", " xs", " : ", "int", "list", "\n"},
		{"fun f n : int\npre ", "f ", "g ", "n", " + 1", " >= 0", "\n"},
	}
	for _, list := range pieces {
		reasons := [4]int{}
		for _, s := range phrases(list, 6) {
			reasons[wantReadSource(t, s)]++
		}
		if reasons[reasonNone] == 0 || reasons[reasonWord]+reasons[reasonRule]+reasons[reasonProgram] < 100 {
			t.Errorf("%q: %v", list, reasons)
		}
	}
}

// TestEveryByteOfSources has every byte in place of and in front of every byte
// of some source codes, and parts of them.
func TestEveryByteOfSources(t *testing.T) {
	for k, s := range sources() {
		reasons := [4]int{}
		for i := range len(s) + 1 {
			for b := range 256 {
				if k == 1 || b%16 == i%16 {
					inserted := s[:i] + string([]byte{byte(b)})
					reasons[wantReadSource(t, inserted+s[i:])]++
					if i < len(s) {
						reasons[wantReadSource(t, inserted+s[i+1:])]++
					}
				}
			}
			reasons[wantReadSource(t, s[:i])]++
			reasons[wantReadSource(t, s[i:])]++
			if i < len(s) {
				reasons[wantReadSource(t, s[:i]+s[i+1:])]++
			}
		}
		if strings.Contains(s, "rule") && slices.Min(reasons[:]) < 10 {
			t.Errorf("the reasons for parts of %q are %v", s, reasons)
		}
	}
}

// word draws a word that may occur in a source code, or not.
func (d drawing) word() string {
	list := []string{
		"n", "m", "h", "k", "xs", "ts", "rev", "len", "zero", "f", "nil", "fun", "pre", "rule", "return", "|", ":", "=", ":=", ",", ">=", "0", "+", "-", "1", "2n", "int", "list", "s",
		"", "N", "-h", "01", "1000000", "abcdefghi", "\t", "\n", "| h >= 0", "| z1 := zero", "| xs = nil", "ys", "| ys = nil", "\nrule zero | return 0",
	}
	return list[d.IntN(len(list))]
}

// TestDrawnSources changes words and lines of source codes at drawn places.
func TestDrawnSources(t *testing.T) {
	d := drawing{rand.New(rand.NewPCG(11, 1))}
	reasons := [4]int{}
	for range 60000 {
		s := sources()[d.IntN(len(sources()))]
		for range 1 + d.IntN(3) {
			lines := strings.SplitAfter(s, "\n")
			i, j := d.IntN(len(lines)), d.IntN(len(lines))
			switch d.IntN(6) {
			case 0:
				lines[i], lines[j] = lines[j], lines[i]
			case 1:
				lines = slices.Insert(lines, i, lines[j])
			case 2:
				lines = slices.Delete(lines, i, i+1)
			default:
				lines[i] = strings.Join(replaced(d, strings.Split(lines[i], " "), d.word()), " ")
			}
			s = strings.Join(lines, "")
		}
		reasons[wantReadSource(t, s)]++
	}
	if slices.Min(reasons[:]) < 3000 {
		t.Errorf("the reasons are %v", reasons)
	}
}

// written draws a program that is often valid.
func (d drawing) written() impl.Program {
	var p impl.Program
	for i, name := range []string{"f", "g", "k"}[:1+d.IntN(limitFunctions)] {
		f := d.function()
		if d.IntN(8) > 0 {
			f.Name = name
		}
		if d.IntN(4) > 0 {
			f.Params = [][]string{nil, {"n"}, {"xs"}, {"n", "xs"}, {"ys", "m"}}[d.IntN(5)]
			f.Pre = nil
			for range d.IntN(limitPre + 1) {
				f.Pre = append(f.Pre, d.lin(len(f.Params), i+d.IntN(2), 1))
			}
		}
		p.Functions = append(p.Functions, f)
	}
	for range d.IntN(limitRules + 2) {
		f := p.Functions[d.IntN(len(p.Functions))]
		r := impl.Rule{Func: f.Name, Result: integer(d.IntN(5) - 2)}
		if f.ListResult {
			r.Result = listArg("", slices.Repeat([]impl.Sum{sumOf(1)}, d.IntN(limitHeads+1))...)
		}
		for _, name := range f.Params {
			if isListName(name) && d.IntN(2) == 0 {
				r.Patterns = append(r.Patterns, []impl.Pattern{isNil(name), isCons(name, "h", "ts")}[d.IntN(2)])
			}
		}
		for range d.IntN(limitGuards + 1) {
			r.Guards = append(r.Guards, sumOf([]int{d.number(1), d.number(2), limitWritten, limitNumber}[d.IntN(4)]))
		}
		if d.IntN(3) == 0 {
			d.alter(&r)
		}
		p.Rules = append(p.Rules, r)
	}
	return p
}

// TestDrawnProgramsAreParsed writes drawn programs, with rules of mixed among
// them, and parses what is written.
func TestDrawnProgramsAreParsed(t *testing.T) {
	d := drawing{rand.New(rand.NewPCG(11, 2))}
	parsed, rejected := 0, 0
	for round := range 40000 {
		p := d.written()
		if round%2 == 0 {
			p = mixed()
			for range 1 + d.IntN(3) {
				d.alter(&p.Rules[d.IntN(len(p.Rules))])
			}
		}
		s := programText(p)
		if got := impl.FormatProgram(p); got != s {
			t.Fatalf("FormatProgram(%+v) = %q, want %q", p, got, s)
		}
		for _, r := range p.Rules {
			wantRuleText(t, r, ruleText(r))
		}
		switch {
		case s == "":
		case isWrittenProgram(p):
			wantSource(t, s, p)
			parsed++
		default:
			wantReadSource(t, s)
			rejected++
		}
	}
	if parsed < 5000 || rejected < 100 {
		t.Errorf("%d programs are parsed, %d are not", parsed, rejected)
	}
}

func TestLongSources(t *testing.T) {
	parts := []string{"f", " ", "\n", "|", " | ", "fun ", "pre ", "rule ", "rule f", "fun f : int\n", "pre f 0 >= 0\n", "rule f | return 0\n", "rule f\n", " | 0 >= 0", " | xs = nil", " | r := f", " , 0", " : 0", " + n", "9", "s", "n ", "\xff"}
	for _, part := range parts {
		long := strings.Repeat(part, 20000)
		for _, s := range []string{
			long, "fun f : int\n" + long, "fun f " + long + " : int\n", "fun f : int\npre f " + long + " >= 0\n", "fun f : int\nrule f" + long + " | return 0\n", "fun f : int\nrule f | return " + long + "\n", long + "rule f | return 0\n",
		} {
			_, line, _ := readSource(s)
			if got, gotLine := impl.ParseProgram(s); gotLine != line || line < 0 || !sameProgram(got, impl.Program{}) {
				t.Errorf("ParseProgram of %q... and 20000 times %q reports line %d, want %d", s[:min(len(s), 20)], part, gotLine, line)
			}
		}
	}
	r := impl.Rule{Func: "f", Patterns: make([]impl.Pattern, 20000), Guards: make([]impl.Sum, 20000), Calls: make([]impl.Call, 20000)}
	r.Calls[0].Args = make([]impl.Arg, 20000)
	want := "rule f" + strings.Repeat(" |  = nil", 20000) + strings.Repeat(" | 0 >= 0", 20000) + " |  :=  " + strings.Repeat(" , ", 19999) + strings.Repeat(" |  := ", 19999) + " | return "
	if got := impl.FormatRule(r); got != want {
		t.Errorf("FormatRule of a large rule has %d bytes, want %d", len(got), len(want))
	}
}

// changed makes a change in v, or another one for each place, and reports
// whether there is one.
func changed(v reflect.Value, place *int) bool {
	if v.Kind() == reflect.Struct {
		for i := range v.NumField() {
			if changed(v.Field(i), place) {
				return true
			}
		}
		return false
	}
	*place--
	if *place < 0 {
		switch v.Kind() {
		case reflect.Int:
			v.SetInt(v.Int() + 1)
		case reflect.String:
			v.SetString(v.String() + "x")
		case reflect.Bool:
			v.SetBool(!v.Bool())
		default:
			v.Set(reflect.Append(v, reflect.Zero(v.Type().Elem())))
		}
		return true
	}
	if v.Kind() != reflect.Slice {
		return false
	}
	for i := range v.Len() {
		*place--
		if *place < 0 {
			v.Set(reflect.AppendSlice(v.Slice3(0, i, i), v.Slice(i+1, v.Len())))
			return true
		}
		if changed(v.Index(i), place) {
			return true
		}
	}
	return false
}

// variants returns mixed and programs that differ from it at one place: in a
// number, a name, a flag, or in that an element is missing or one is added.
func variants() []impl.Program {
	list := []impl.Program{mixed()}
	for k := 0; ; k++ {
		p, place := mixed(), k
		if !changed(reflect.ValueOf(&p).Elem(), &place) {
			return list
		}
		list = append(list, p)
	}
}

func wantEqualPrograms(t *testing.T, a impl.Program, b impl.Program, want bool) {
	t.Helper()
	if got := impl.EqualProgram(a, b); got != want {
		t.Errorf("EqualProgram(%+v, %+v) = %t", a, b, got)
	}
	if got := impl.EqualProgram(b, a); got != want {
		t.Errorf("EqualProgram(%+v, %+v) = %t", b, a, got)
	}
}

func TestEqualProgram(t *testing.T) {
	list, again := variants(), variants()
	if len(list) < 200 {
		t.Errorf("there are only %d variants", len(list))
	}
	for i, a := range list {
		for j, b := range again {
			wantEqualPrograms(t, a, b, i == j)
		}
		wantEqualPrograms(t, a, a, true)
		wantEqualPrograms(t, a, impl.Program{}, false)
	}
	wantEqualPrograms(t, impl.Program{}, impl.Program{}, true)
	swapped := func(change func(p *impl.Program)) {
		t.Helper()
		p := mixed()
		change(&p)
		wantEqualPrograms(t, p, mixed(), false)
	}
	swapped(func(p *impl.Program) { slices.Reverse(p.Functions) })
	swapped(func(p *impl.Program) { slices.Reverse(p.Functions[1].Params) })
	swapped(func(p *impl.Program) { slices.Reverse(p.Functions[1].Pre) })
	swapped(func(p *impl.Program) { slices.Reverse(p.Functions[1].Pre[1].Coeffs) })
	swapped(func(p *impl.Program) { slices.Reverse(p.Rules) })
	swapped(func(p *impl.Program) { slices.Reverse(p.Rules[1].Patterns) })
	swapped(func(p *impl.Program) { slices.Reverse(p.Rules[1].Guards) })
	swapped(func(p *impl.Program) { slices.Reverse(p.Rules[1].Guards[0].Terms) })
	swapped(func(p *impl.Program) { slices.Reverse(p.Rules[1].Calls) })
	swapped(func(p *impl.Program) { slices.Reverse(p.Rules[1].Calls[0].Args) })
	swapped(func(p *impl.Program) { slices.Reverse(p.Rules[1].Result.Heads) })
}

// withEmpty makes every slice without elements nil, or empty but not nil.
func withEmpty(v reflect.Value, isNil bool) {
	switch v.Kind() {
	case reflect.Struct:
		for i := range v.NumField() {
			withEmpty(v.Field(i), isNil)
		}
	case reflect.Slice:
		for i := range v.Len() {
			withEmpty(v.Index(i), isNil)
		}
		if v.Len() == 0 && isNil {
			v.SetZero()
		} else if v.Len() == 0 {
			v.Set(reflect.MakeSlice(v.Type(), 0, 2))
		}
	}
}

func TestNilAndEmptySlicesOfPrograms(t *testing.T) {
	bare := impl.Program{Functions: make([]impl.Function, 2), Rules: make([]impl.Rule, 2)}
	bare.Functions[1].Pre = make([]impl.Lin, 1)
	bare.Rules[0].Guards, bare.Rules[0].Calls, bare.Rules[1].Calls = make([]impl.Sum, 1), make([]impl.Call, 1), make([]impl.Call, 1)
	bare.Rules[1].Calls[0].Args, bare.Rules[1].Result.Heads = make([]impl.Arg, 1), make([]impl.Sum, 1)
	for _, p := range append(somePrograms(), bare, withFunctions(function("f", true)), impl.Program{Rules: make([]impl.Rule, 1)}) {
		a, b := roomyProgram(p), roomyProgram(p)
		withEmpty(reflect.ValueOf(&a).Elem(), true)
		withEmpty(reflect.ValueOf(&b).Elem(), false)
		if !sameProgram(a, p) || !sameProgram(b, p) {
			t.Fatalf("the test is wrong: %+v became %+v and %+v", p, a, b)
		}
		wantEqualPrograms(t, a, b, true)
		wantEqualPrograms(t, a, p, true)
		wantEqualPrograms(t, b, p, true)
		for _, q := range []impl.Program{a, b} {
			if got := impl.FormatProgram(q); got != programText(p) {
				t.Errorf("FormatProgram(%+v) = %q", q, got)
			}
			for i, r := range q.Rules {
				wantRuleText(t, r, ruleText(p.Rules[i]))
			}
		}
	}
}

func TestTextFunctionsKeepPrograms(t *testing.T) {
	list := somePrograms()
	for i := range list {
		list[i] = roomyProgram(list[i])
	}
	for i, p := range list {
		before := describeProgram(p)
		impl.FormatProgram(p)
		for _, r := range p.Rules {
			impl.FormatRule(r)
		}
		for j, q := range list {
			impl.EqualProgram(p, q)
			if after := describeProgram(q); after != describeProgram(roomyProgram(somePrograms()[j])) {
				t.Fatalf("program %d changed to %s", j, after)
			}
		}
		if after := describeProgram(p); after != before {
			t.Errorf("program %d changed from %s to %s", i, before, after)
		}
	}
}

// span is memory from its first byte to the one behind its last.
type span struct{ first, end uintptr }

// spansOf returns the memory of all slices that can be reached from v, their
// unused capacity included.
func spansOf(v reflect.Value) []span {
	var list []span
	switch v.Kind() {
	case reflect.Struct:
		for i := range v.NumField() {
			list = append(list, spansOf(v.Field(i))...)
		}
	case reflect.Slice:
		if v.Cap() > 0 {
			list = append(list, span{v.Pointer(), v.Pointer() + uintptr(v.Cap())*v.Type().Elem().Size()})
		}
		for i := range v.Len() {
			list = append(list, spansOf(v.Index(i))...)
		}
	}
	return list
}

func TestParsedProgramsAreSeparate(t *testing.T) {
	for _, s := range sources() {
		first, _ := impl.ParseProgram(s)
		second, _ := impl.ParseProgram(s)
		spans := append(spansOf(reflect.ValueOf(first)), spansOf(reflect.ValueOf(second))...)
		for i, a := range spans {
			for _, b := range spans[:i] {
				if a.first < b.end && b.first < a.end {
					t.Fatalf("slices of what %q is parsed to share memory: %v", s, spans)
				}
			}
		}
		want := fmt.Sprintf("%+v", second)
		overwriteProgram(first)
		if got := fmt.Sprintf("%+v", second); got != want {
			t.Errorf("a change of a result changed another one from %s to %s", want, got)
		}
		wantSource(t, s, second)
	}
}

// overwriteProgram changes everything that can be reached from a program.
func overwriteProgram(p impl.Program) {
	for _, f := range p.Functions {
		overwrite(f.Params)
		for _, l := range f.Pre {
			overwriteLin(l)
		}
		overwriteRows(impl.System{Rows: f.Pre})
	}
	for _, r := range p.Rules {
		for i := range r.Patterns {
			r.Patterns[i] = isNil("changed")
		}
		for i, s := range r.Guards {
			overwriteTerms(s)
			r.Guards[i] = sumOf(987654)
		}
		for i, c := range r.Calls {
			for j, a := range c.Args {
				overwriteHeads(a)
				c.Args[j] = integer(987654)
			}
			r.Calls[i] = callOf("changed", "changed")
		}
		overwriteHeads(r.Result)
	}
	for i := range p.Functions {
		p.Functions[i] = function("changed", true)
	}
	for i := range p.Rules {
		p.Rules[i] = impl.Rule{Func: "changed"}
	}
}
