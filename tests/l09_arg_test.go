package tests

import (
	"fmt"
	"math"
	"regexp"
	"slices"
	"strconv"
	"strings"
	"testing"

	"loop.example/g00515/impl"
)

// The limits of the specification, written out as the others are.
const (
	limitTerms = 4
	limitHeads = 3
)

func term(coeff int, name string) impl.Term { return impl.Term{Coeff: coeff, Name: name} }

// sumOf returns the sum with these terms, in memory of its own.
func sumOf(constant int, terms ...impl.Term) impl.Sum {
	return impl.Sum{Const: constant, Terms: slices.Clone(terms)}
}

// headsOf returns the sums in memory of their own.
func headsOf(sums []impl.Sum) []impl.Sum {
	var heads []impl.Sum
	for _, s := range sums {
		heads = append(heads, sumOf(s.Const, s.Terms...))
	}
	return heads
}

// integerArg returns the argument with these heads that is no list, valid or
// not, in memory of its own.
func integerArg(heads ...impl.Sum) impl.Arg { return impl.Arg{Heads: headsOf(heads)} }

// listArg returns the list with these heads, valid or not, in memory of its
// own.
func listArg(base string, heads ...impl.Sum) impl.Arg {
	return impl.Arg{List: true, Heads: headsOf(heads), Base: base}
}

func sameSum(a impl.Sum, b impl.Sum) bool {
	return a.Const == b.Const && slices.Equal(a.Terms, b.Terms)
}

// sameArg does not use EqualArg, which is a subject of these tests.
func sameArg(a impl.Arg, b impl.Arg) bool {
	return a.List == b.List && a.Base == b.Base && slices.EqualFunc(a.Heads, b.Heads, sameSum)
}

// The following functions say what the document requires, in other ways than
// the program.

func isName(s string) bool { return nameForm.MatchString(s) && !slices.Contains(reserved(), s) }

func isIntegerName(s string) bool { return isName(s) && !strings.HasSuffix(s, "s") }

func isListName(s string) bool { return isName(s) && strings.HasSuffix(s, "s") }

func isSum(s impl.Sum) bool {
	var names []string
	for _, x := range s.Terms {
		if x.Coeff == 0 || !withinNumber(x.Coeff) || !isIntegerName(x.Name) {
			return false
		}
		names = append(names, x.Name)
	}
	ascending := slices.IsSorted(names) && len(slices.Compact(names)) == len(names)
	return withinNumber(s.Const) && len(s.Terms) <= limitTerms && ascending
}

func isArg(a impl.Arg) bool {
	for _, s := range a.Heads {
		if !isSum(s) {
			return false
		}
	}
	if a.List {
		return len(a.Heads) <= limitHeads && (a.Base == "" || isListName(a.Base))
	}
	return len(a.Heads) == 1 && a.Base == ""
}

// sumText returns what FormatSum has to return.
func sumText(s impl.Sum) string {
	if !isSum(s) {
		return ""
	}
	l, names := lin(s.Const), []string(nil)
	for _, x := range s.Terms {
		l.Coeffs, names = append(l.Coeffs, x.Coeff), append(names, x.Name)
	}
	return textOf(l, names)
}

// argText returns what FormatArg has to return.
func argText(a impl.Arg) string {
	if !isArg(a) {
		return ""
	}
	var parts []string
	for _, s := range a.Heads {
		parts = append(parts, sumText(s))
	}
	switch {
	case a.List && a.Base == "":
		parts = append(parts, "nil")
	case a.List:
		parts = append(parts, a.Base)
	}
	return strings.Join(parts, " : ")
}

// isWritten reports whether the numbers of all heads have at most 6 digits.
func isWritten(heads ...impl.Sum) bool {
	for _, s := range heads {
		numbers := []int{s.Const}
		for _, x := range s.Terms {
			numbers = append(numbers, x.Coeff)
		}
		if slices.Max(numbers) > limitWritten || slices.Min(numbers) < -limitWritten {
			return false
		}
	}
	return true
}

func TestMaxTermsAndMaxHeads(t *testing.T) {
	if impl.MaxTerms != limitTerms || impl.MaxHeads != limitHeads {
		t.Errorf("MaxTerms = %d, MaxHeads = %d, want %d, %d", impl.MaxTerms, impl.MaxHeads, limitTerms, limitHeads)
	}
}

func wantParsedSum(t *testing.T, s string, want impl.Sum, ok bool) {
	t.Helper()
	if got, gotOk := impl.ParseSum(s); !sameSum(got, want) || gotOk != ok {
		t.Errorf("ParseSum(%q) = %v, %t, want %v, %t", s, got, gotOk, want, ok)
	}
}

func wantParsedArg(t *testing.T, s string, want impl.Arg, ok bool) {
	t.Helper()
	if got, gotOk := impl.ParseArg(s); !sameArg(got, want) || gotOk != ok {
		t.Errorf("ParseArg(%q) = %v, %t, want %v, %t", s, got, gotOk, want, ok)
	}
}

// wantArg expects that an argument has this text, from which it is parsed if
// its numbers have at most 6 digits, or that it is not valid if want is "".
func wantArg(t *testing.T, a impl.Arg, want string) {
	t.Helper()
	if got := impl.IsValidArg(a); got != (want != "") {
		t.Errorf("IsValidArg(%v) = %t", a, got)
	}
	if got := impl.FormatArg(a); got != want {
		t.Errorf("FormatArg(%v) = %q, want %q", a, got, want)
	}
	switch {
	case want == "":
	case isWritten(a.Heads...):
		wantParsedArg(t, want, a, true)
	default:
		wantParsedArg(t, want, impl.Arg{}, false)
	}
}

// wantWritten expects the same of a sum, alone and as a head.
func wantWritten(t *testing.T, s impl.Sum, want string) {
	t.Helper()
	if got := impl.IsValidSum(s); got != (want != "") {
		t.Errorf("IsValidSum(%v) = %t", s, got)
	}
	if got := impl.FormatSum(s); got != want {
		t.Errorf("FormatSum(%v) = %q, want %q", s, got, want)
	}
	wantArg(t, integerArg(s), want)
	if want == "" {
		wantArg(t, listArg("", s), "")
		wantArg(t, listArg("xs", s), "")
		return
	}
	wantArg(t, listArg("", s), want+" : nil")
	wantArg(t, listArg("xs", s), want+" : xs")
	if isWritten(s) {
		wantParsedSum(t, want, s, true)
	} else {
		wantParsedSum(t, want, impl.Sum{}, false)
	}
}

func TestSums(t *testing.T) {
	cases := []struct {
		s    impl.Sum
		want string
	}{
		{impl.Sum{}, "0"},
		{impl.Sum{Terms: []impl.Term{}}, "0"},
		{sumOf(1), "1"},
		{sumOf(-1), "-1"},
		{sumOf(42), "42"},
		{sumOf(-7), "-7"},
		{sumOf(0, term(1, "n")), "n"},
		{sumOf(0, term(-1, "n")), "-n"},
		{sumOf(0, term(2, "n")), "2n"},
		{sumOf(0, term(-2, "n")), "-2n"},
		{sumOf(0, term(10, "n")), "10n"},
		{sumOf(-1, term(1, "n")), "n - 1"},
		{sumOf(1, term(1, "n")), "n + 1"},
		{sumOf(-1, term(-1, "n")), "-n - 1"},
		{sumOf(4, term(-1, "n")), "-n + 4"},
		{sumOf(3, term(-1, "m"), term(2, "n")), "-m + 2n + 3"},
		{sumOf(0, term(1, "m"), term(1, "n")), "m + n"},
		{sumOf(0, term(1, "m"), term(-1, "n")), "m - n"},
		{sumOf(2, term(1, "h"), term(-1, "n")), "h - n + 2"},
		{sumOf(0, term(1, "a"), term(-1, "a1"), term(12, "ab"), term(-13, "b")), "a - a1 + 12ab - 13b"},
		{sumOf(-9, term(-1, "abcdefgh"), term(1, "k"), term(2, "z9999999")), "-abcdefgh + k + 2z9999999 - 9"},
		{sumOf(limitNumber), "1000000"},
		{sumOf(-limitNumber), "-1000000"},
		{sumOf(limitNumber, term(limitNumber, "n")), "1000000n + 1000000"},
		{sumOf(-limitNumber, term(-limitNumber, "n")), "-1000000n - 1000000"},
		{sumOf(1, term(limitNumber, "m"), term(-limitNumber, "n")), "1000000m - 1000000n + 1"},
		{sumOf(limitWritten, term(limitWritten, "n")), "999999n + 999999"},
		{sumOf(-limitWritten, term(-limitWritten, "n")), "-999999n - 999999"},

		{sumOf(limitNumber + 1), ""},
		{sumOf(-limitNumber - 1), ""},
		{sumOf(0, term(limitNumber+1, "n")), ""},
		{sumOf(0, term(-limitNumber-1, "n")), ""},
		{sumOf(0, term(0, "n")), ""},
		{sumOf(5, term(1, "m"), term(0, "n")), ""},
		{sumOf(0, term(1, "n"), term(1, "m")), ""},
		{sumOf(0, term(1, "n"), term(2, "n")), ""},
		{sumOf(0, term(1, "n"), term(-1, "n")), ""},
		{sumOf(0, term(1, "xs")), ""},
		{sumOf(0, term(1, "s")), ""},
		{sumOf(0, term(1, "")), ""},
		{sumOf(0, term(1, "N")), ""},
		{sumOf(0, term(1, "2n")), ""},
		{sumOf(0, term(1, "nil")), ""},
		{sumOf(0, term(1, "fun"), term(1, "n")), ""},
	}
	for _, c := range cases {
		wantWritten(t, c.s, c.want)
	}
}

// risingNames returns names of integers in ascending order, more than a sum may
// have.
func risingNames() []string {
	return []string{"a", "a0", "ab", "abcdefgh", "b", "n", "n1", "n12", "nil0", "s1", "z", "z9999999"}
}

// sumAt returns a sum of size terms that has x at one place (the constant at
// -1, the coefficients from 0 on) and rest at all others.
func sumAt(size int, place int, x int, rest int) impl.Sum {
	s := sumOf(rest)
	for _, name := range risingNames()[:size] {
		s.Terms = append(s.Terms, term(rest, name))
	}
	if place < 0 {
		s.Const = x
	} else {
		s.Terms[place].Coeff = x
	}
	return s
}

func TestSumsCountTerms(t *testing.T) {
	for size := range len(risingNames()) + 1 {
		for _, rest := range []int{1, -2, limitNumber} {
			s, want := sumAt(size, -1, 7, rest), ""
			if size <= limitTerms {
				want = sumText(s)
			}
			wantWritten(t, s, want)
			// Terms behind the last one don't count.
			s.Terms = append(s.Terms, term(0, "N"))[:size]
			wantWritten(t, s, want)
		}
	}
}

func TestSumsAtEveryNumber(t *testing.T) {
	numbers := append(numberEdges(), 2, 9, 10, -10, 99999, 100000, -100000, limitWritten, -limitWritten, -limitWritten-1)
	for size := range limitTerms + 1 {
		for place := -1; place < size; place++ {
			for _, x := range numbers {
				for _, rest := range []int{1, -1, 0, 23, limitWritten, -limitNumber} {
					s := sumAt(size, place, x, rest)
					wantWritten(t, s, sumText(s))
				}
			}
		}
	}
}

// noIntegerNames returns strings that are not names of integers.
func noIntegerNames() []string {
	list := []string{
		"", "s", "ss", "xs", "x1s", "nils", "funs", "abcdefgs", "abcdefghs", "abcdefghi", "toolongname", "a12345678",
		"N", "nN", "Nn", "1", "1n", "2n", "0", "-n", "n-", "+n", "n ", " n", "n m", "n + m", "_", "n_", "n.", "n:", ":", "n : ts",
		"\xff", "n\xff", "\xffn", "\u00e9", "n\u00e9", "n\u0661", "\uff4e", "\x00", "n\x00", "n\n", "\nn", "n\t",
	}
	return append(list, reserved()...)
}

// sumsOfName returns sums that have a name at each place at which the names
// ascend, so that nothing else is wrong with them.
func sumsOfName(name string) []impl.Sum {
	list := []impl.Sum{sumOf(0, term(1, name)), sumOf(-3, term(-2, name))}
	low, high := name > "a", name < "zz"
	if high {
		list = append(list, sumOf(1, term(1, name), term(1, "zz")), sumOf(0, term(1, name), term(3, "zz"), term(-1, "zz0"), term(2, "zz1")))
	}
	if low {
		list = append(list, sumOf(1, term(1, "a"), term(1, name)), sumOf(0, term(-2, "a"), term(5, name)))
	}
	if low && high {
		list = append(list, sumOf(0, term(1, "a"), term(-1, name), term(1, "zz")))
	}
	if name > "a0" {
		list = append(list, sumOf(1, term(1, "a"), term(2, "a0"), term(-1, name)))
	}
	return list
}

func TestSumsOfOtherNames(t *testing.T) {
	for _, name := range noIntegerNames() {
		for _, s := range sumsOfName(name) {
			wantWritten(t, s, "")
		}
	}
	for _, name := range []string{"b", "s1", "sx", "x1", "nil0", "fun1", "ni", "fu", "abcdefgh", "b1234567", "list", "int"} {
		for _, s := range sumsOfName(name) {
			wantWritten(t, s, sumText(s))
			if sumText(s) == "" {
				t.Errorf("%v is not valid", s)
			}
		}
	}
}

func TestSumsAtEveryByteOfAName(t *testing.T) {
	for _, name := range []string{"n", "xs", "n1", "abcdefgh", "b1234567"} {
		for i := range len(name) {
			for b := range 256 {
				changed := name[:i] + string([]byte{byte(b)}) + name[i+1:]
				s := sumOf(-1, term(3, changed))
				wantWritten(t, s, sumText(s))
				wantArg(t, listArg(changed), argText(listArg(changed)))
			}
		}
	}
}

func TestNamesOfASumAscend(t *testing.T) {
	lists, last := [][]string{nil}, [][]string{nil}
	for range limitTerms + 1 {
		var next [][]string
		for _, names := range last {
			for _, name := range []string{"a", "a1", "aa", "b", "b0"} {
				next = append(next, append(slices.Clone(names), name))
			}
		}
		lists, last = append(lists, next...), next
	}
	valid := 0
	for _, names := range lists {
		s := sumOf(2)
		for i, name := range names {
			s.Terms = append(s.Terms, term(i+1, name))
		}
		wantWritten(t, s, sumText(s))
		if isSum(s) {
			valid++
		}
	}
	// The subsets of five names but for that of all five.
	if valid != 31 {
		t.Errorf("%d sums are valid, want 31", valid)
	}
}

func TestArgs(t *testing.T) {
	n, one, h := sumOf(-1, term(1, "n")), sumOf(1), sumOf(0, term(1, "h"))
	bad := sumOf(0, term(1, "hs"))
	cases := []struct {
		a    impl.Arg
		want string
	}{
		{integerArg(n), "n - 1"},
		{integerArg(one), "1"},
		{integerArg(impl.Sum{}), "0"},
		{listArg("ts", h), "h : ts"},
		{listArg(""), "nil"},
		{impl.Arg{List: true, Heads: []impl.Sum{}}, "nil"},
		{listArg("ts"), "ts"},
		{listArg("s"), "s"},
		{listArg("abcdefgs"), "abcdefgs"},
		{listArg("nils"), "nils"},
		{listArg("", h), "h : nil"},
		{listArg("", impl.Sum{}), "0 : nil"},
		{listArg("xs", one, sumOf(2, term(1, "n"))), "1 : n + 2 : xs"},
		{listArg("", sumOf(-3, term(2, "n"))), "2n - 3 : nil"},
		{listArg("", h, n, one), "h : n - 1 : 1 : nil"},
		{listArg("xs", h, h, h), "h : h : h : xs"},
		{listArg("xs", sumOf(limitNumber), n), "1000000 : n - 1 : xs"},
		{integerArg(sumOf(0, term(-limitNumber, "n"))), "-1000000n"},

		{impl.Arg{}, ""},
		{impl.Arg{Heads: []impl.Sum{}}, ""},
		{integerArg(n, one), ""},
		{integerArg(n, n), ""},
		{integerArg(n, one, h), ""},
		{integerArg(bad), ""},
		{impl.Arg{Heads: []impl.Sum{n}, Base: "xs"}, ""},
		{impl.Arg{Heads: []impl.Sum{n}, Base: "n"}, ""},
		{impl.Arg{Heads: []impl.Sum{n}, Base: "nil"}, ""},
		{impl.Arg{Heads: []impl.Sum{n}, Base: "?"}, ""},
		{impl.Arg{Base: "xs"}, ""},
		{listArg("xs", n, n, n, n), ""},
		{listArg("", one, one, one, one), ""},
		{listArg("n", one), ""},
		{listArg("n"), ""},
		{listArg("nil"), ""},
		{listArg("nil", one), ""},
		{listArg("N"), ""},
		{listArg("Ns"), ""},
		{listArg("abcdefghs"), ""},
		{listArg(" xs"), ""},
		{listArg("xs "), ""},
		{listArg("xs", bad), ""},
		{listArg("xs", h, bad), ""},
		{listArg("xs", bad, h), ""},
		{listArg("", h, bad, h), ""},
	}
	for _, c := range cases {
		wantArg(t, c.a, c.want)
	}
}

func TestArgsCountHeads(t *testing.T) {
	for size := range 3*limitHeads + 2 {
		heads := slices.Repeat([]impl.Sum{sumOf(-1, term(1, "n"))}, size)
		text := strings.Repeat("n - 1 : ", size)
		if size <= limitHeads {
			wantArg(t, listArg("", heads...), text+"nil")
			wantArg(t, listArg("xs", heads...), text+"xs")
		} else {
			wantArg(t, listArg("", heads...), "")
			wantArg(t, listArg("xs", heads...), "")
			wantParsedArg(t, text+"nil", impl.Arg{}, false)
			wantParsedArg(t, text+"xs", impl.Arg{}, false)
		}
		wantArg(t, integerArg(heads...), argText(integerArg(heads...)))
		// Heads behind the last one don't count.
		a := listArg("xs", append(heads, sumOf(0, term(0, "N")))...)
		a.Heads = a.Heads[:size]
		wantArg(t, a, argText(listArg("xs", heads...)))
	}
}

func TestArgsOfAllBases(t *testing.T) {
	names := slices.Concat(noIntegerNames(), risingNames(), besideReserved(), []string{"xs", "as", "zs", "abcdefgs", "s0s"})
	for _, base := range names {
		for size := range limitHeads + 2 {
			heads := slices.Repeat([]impl.Sum{sumOf(7)}, size)
			want := ""
			if size <= limitHeads && base == "" {
				want = strings.Repeat("7 : ", size) + "nil"
			} else if size <= limitHeads && isListName(base) {
				want = strings.Repeat("7 : ", size) + base
			}
			wantArg(t, listArg(base, heads...), want)
			want = ""
			if size == 1 && base == "" {
				want = "7"
			}
			wantArg(t, impl.Arg{Heads: heads, Base: base}, want)
		}
	}
}

// invalidSums returns a sum for each way in which it is not valid.
func invalidSums() []impl.Sum {
	list := []impl.Sum{
		sumOf(limitNumber + 1), sumOf(-limitNumber - 1), sumOf(math.MaxInt), sumOf(math.MinInt),
		sumOf(1, term(limitNumber+1, "n")), sumOf(1, term(-limitNumber-1, "n")), sumOf(0, term(math.MinInt, "n")),
		sumOf(3, term(0, "n")), sumOf(0, term(1, "n"), term(0, "nn")),
		sumOf(0, term(1, "n"), term(1, "m")), sumOf(0, term(1, "n"), term(1, "n")),
		sumOf(0, term(1, "a"), term(1, "c"), term(1, "b")), sumOf(0, term(1, "a"), term(1, "b"), term(1, "b")),
		sumAt(limitTerms+1, -1, 0, 1), sumAt(len(risingNames()), -1, 1, -1),
	}
	for _, name := range noIntegerNames() {
		list = append(list, sumOf(0, term(1, name)))
	}
	return list
}

func TestInvalidHeadsAtEveryPlace(t *testing.T) {
	good := sumOf(4, term(1, "n"))
	for _, bad := range invalidSums() {
		wantWritten(t, bad, "")
		for size := 1; size <= limitHeads; size++ {
			for place := range size {
				heads := slices.Repeat([]impl.Sum{good}, size)
				heads[place] = bad
				wantArg(t, listArg("", heads...), "")
				wantArg(t, listArg("xs", heads...), "")
				wantArg(t, integerArg(heads...), "")
			}
		}
	}
}

// smallArgs returns arguments of both forms, valid and not: with all lists of
// at most limitHeads + 1 of some heads, and with some bases.
func smallArgs() []impl.Arg {
	heads := []impl.Sum{
		sumOf(0), sumOf(-12), sumOf(0, term(1, "n")), sumOf(1, term(-1, "h"), term(2, "n")),
		sumOf(limitNumber), sumOf(0, term(1, "n"), term(1, "h")), sumOf(0, term(1, "xs")), sumOf(1, term(0, "k"), term(1, "")),
	}
	lists, last := [][]impl.Sum{nil}, [][]impl.Sum{nil}
	for range limitHeads + 1 {
		var next [][]impl.Sum
		for _, list := range last {
			for _, s := range heads {
				next = append(next, append(slices.Clone(list), s))
			}
		}
		lists, last = append(lists, next...), next
	}
	var args []impl.Arg
	for _, list := range lists {
		for _, base := range []string{"", "xs", "n", "as", "nil"} {
			args = append(args, impl.Arg{Heads: list, Base: base}, impl.Arg{List: true, Heads: list, Base: base})
		}
	}
	return args
}

func TestSmallArgumentsAreParsed(t *testing.T) {
	for _, a := range smallArgs() {
		wantArg(t, a, argText(a))
	}
}

func TestSmallSumsAreParsed(t *testing.T) {
	for _, x := range from(-1200, 1200) {
		wantWritten(t, sumOf(x), sumText(sumOf(x)))
		wantWritten(t, sumOf(-5, term(x, "k"), term(1, "n")), sumText(sumOf(-5, term(x, "k"), term(1, "n"))))
	}
	names := risingNames()[2 : 2+limitTerms]
	for n := range limitTerms + 1 {
		for _, l := range linsOf(n, []int{-1, 0, 3}, []int{-10, -1, 1, 2}) {
			s := sumOf(l.Const)
			for i, c := range l.Coeffs {
				s.Terms = append(s.Terms, term(c, names[i]))
			}
			wantWritten(t, s, textOf(l, names[:n]))
		}
	}
}

// A form of the representations of sums: the terms, each with a sign between
// blanks in front, and the constant.
var (
	sumForm  = regexp.MustCompile(`^(?: [+-] (?:[2-9]|[1-9][0-9]{1,5})?[a-z][a-z0-9]*)*(?: [+-] [1-9][0-9]{0,5})?$`)
	partForm = regexp.MustCompile(` ([+-]) ([0-9]*)([a-z0-9]*)`)
)

// readSum returns what ParseSum has to return.
func readSum(t string) (impl.Sum, bool) {
	if t == "0" {
		return impl.Sum{}, true
	}
	text := " + " + t
	if rest, ok := strings.CutPrefix(t, "-"); ok {
		text = " - " + rest
	}
	if !sumForm.MatchString(text) {
		return impl.Sum{}, false
	}
	var s impl.Sum
	for _, match := range partForm.FindAllStringSubmatch(text, -1) {
		number := 1
		if match[2] != "" {
			number, _ = strconv.Atoi(match[2])
		}
		if match[1] == "-" {
			number = -number
		}
		if match[3] == "" {
			s.Const = number
		} else {
			s.Terms = append(s.Terms, term(number, match[3]))
		}
	}
	if !isSum(s) {
		return impl.Sum{}, false
	}
	return s, true
}

// readArg returns what ParseArg has to return. It reads from the left.
func readArg(t string) (impl.Arg, bool) {
	if s, ok := readSum(t); ok {
		return integerArg(s), true
	}
	a, rest, found := impl.Arg{List: true}, t, true
	for {
		var text string
		if text, rest, found = strings.Cut(rest, " : "); !found {
			rest = text
			break
		}
		s, ok := readSum(text)
		if !ok || len(a.Heads) == limitHeads {
			return impl.Arg{}, false
		}
		a.Heads = append(a.Heads, s)
	}
	if isListName(rest) {
		a.Base = rest
	}
	if a.Base == "" && rest != "nil" {
		return impl.Arg{}, false
	}
	return a, true
}

// wantReadText expects that a text is parsed exactly if it is a representation,
// and reports whether it is one.
func wantReadText(t *testing.T, text string) bool {
	t.Helper()
	s, isSum := readSum(text)
	wantParsedSum(t, text, s, isSum)
	a, isArg := readArg(text)
	wantParsedArg(t, text, a, isArg)
	if isSum && impl.FormatSum(s) != text {
		t.Errorf("FormatSum(%v) = %q, want %q", s, impl.FormatSum(s), text)
	}
	if isArg && impl.FormatArg(a) != text {
		t.Errorf("FormatArg(%v) = %q, want %q", a, impl.FormatArg(a), text)
	}
	return isArg
}

// malformedSums returns texts that represent no sum, in groups; they are no
// bases either.
func malformedSums() []string {
	return slices.Concat(
		// Numbers that are too long, or not written as they should be.
		[]string{"1000000", "-1000000", "n + 1000000", "n - 1000000", "1000000n", "-1000000n", "m + 1000000n", "m - 9999999n",
			"1000001", "1000000000", strings.Repeat("9", 1000), strings.Repeat("9", 1000) + "n", "18446744073709551617", "18446744073709551618n",
			"00", "-0", "+0", "01", "007", "02n", "0000002n", "m + 02n", "n + 01", "n - 00", "-02n",
			"0n", "-0n", "00n", "0m + n", "m + 0n", "m - 0n", "0m + 0n", "n + 0", "n - 0", "0 + n", "0 + 0", "m + n + 0",
			"1n", "-1n", "m + 1n", "m - 1n", "1m + 1n", "01n"},
		// Terms out of order, twice, too many, or of names that are no integers.
		[]string{"n + m", "-n + m", "n - m", "2n + 2m", "a + c + b", "b + a + c", "n1 + n", "ab + a1", "abc + ab",
			"n + n", "n - n", "2n + n", "m + n + n", "m + m + n", "a + b + c + a", "n + 3 + n",
			"3 + n", "-3 + n", "3 - n", "m + 3 + n", "1 + m + n", "n + 1 + 1", "1 + 1", "3 + 0", "n - 1 - 1", "n + 2 - 1",
			"a + b + c + d + e", "a + b + c + d + e + 1", "a - b - c - d - e - f", "a + a + a + a + a",
			"n + xs", "xs + n", "xs + 1", "-xs", "2xs", "n - xs", "xs - ys", "m + ns + z", "fun", "nil + 1", "-nil", "2nil", "n + return", "pre", "rule", "return",
			"abcdefghi", "n + abcdefghi", "a12345678", "abcdefghs", "2abcdefghi"},
		// Blanks too many, too few, at an end, or of another kind.
		[]string{" ", "  ", " n", "n ", "  n", "n  ", " 0", "0 ", " -n", "-n ", "m + n ", " m + n", "- n", "-  n", "2 n", "- 2n", "-2 n", "1 2", "m n", "n 1", "m + 2 n",
			"m+n", "m +n", "m+ n", "m  + n", "m +  n", "m-n", "m -n", "m- n", "m  - n", "m -  n", "n + 1 ", "n +1", "n+1", "n -1", "n- 1", "n - 1  ",
			"m\t+ n", "m +\tn", "n\n", "\nn", "n\r", "m + n\n", "m\u00a0+ n", "m + n\x00", "\x00n"},
		// Signs in front, twice, or without a term.
		[]string{"+n", "+ n", " + n", " - n", "+1", "+2n", "+ 1", "--n", "--1", "- -n", "- - n", "-+n", "+-n", "++n", "+ - n", "m + -n", "m - -n", "m + +n", "m - +n", "m + - n", "m - - n", "m + + n",
			"m ++ n", "m -- n", "m +- n", "m -+ n", "n + -1", "n - -1", "n + +1", "-", "+", "--", "- -", "-+", " - ", " + ", "- ", "+ ",
			"n +", "n -", "n + ", "n - ", "n+", "n-", "m + n -", "m + n - ", "n - 1 +", "n - 1 + ", "1 -", "1 - ", "1-", "+ + ", "m +  + n", "2-", "2n-1", "-2-"},
		// Other strings.
		[]string{"", "n >= 0", "n - 1 >= 0", "?", "N", "2N", "nN", "n_", "n*m", "n * 2", "2*n", "n.m", "n,m", "m , n", "(n)", "[]", "[1]", "n:m", ":", "0x1", "1e3", "1.5"},
		lookalikes(),
	)
}

// malformedArgs returns texts with heads or bases that represent no argument.
func malformedArgs() []string {
	return []string{
		" : ", " : nil", " : xs", ": nil", ":", "n : ", "n :", "n : n", "n : 1", "1 : n", "1 : 1", "n : m : k", "0 : 0",
		"xs : xs", "xs : nil", "nil : nil", "nil : xs", "xs : n", "nil : n", "ts : 1", "n : xs : ys", "n : xs : nil", "n : nil : xs", "n : nil : nil", "n : nil : n",
		"1 : 1 : 1 : 1 : nil", "n : n : n : n : xs", "1 : 2 : 3 : 4 : 5 : xs", "1 : 1 : 1 : 1", "1 : 1 : 1", "1 : 1 : 1 : 1 : 1",
		"n :ts", "n: ts", "n:ts", "n  : ts", "n :  ts", "n : ts ", " n : ts", "n : : ts", "n : :ts", "n :: ts", "n::ts", "n\t: ts", "n :\tts", "n :\nts", "n : ts\n", "\nn : ts", "n\u00a0: ts", "n \uff1a ts",
		" nil", "nil ", "nil\n", "\nnil", "nil\x00", "NIL", "Nil", "niL", "nil nil", "nil:", "nil :", "nil : ", "-nil", "2nil", "nil + 1", "nil,", "[nil]", "n : NIL", "n : Nil", "n : -nil", "n : []", "n : 0 : []",
		" xs", "xs ", "xs\n", "Xs", "xS", "XS", "-xs", "2xs", "xs + 1", "xs + n", "n + xs", "1 + xs : nil", "xs + 1 : nil", "n : xs + 1", "n : -xs", "n : 2xs", "n : xs - 1", "x s", "xs ys", "\xffs", "n : \xffs", "n : x\xffs", "\u00e9s", "xs\xff", "n : xs\u0301",
		"abcdefghs", "n : abcdefghs", "1s", "n : 1s", "n : _s", "n : x_s", "n : s1", "n : x1", "n : abcdefgh",
		"n : fun", "n : pre", "n : rule", "n : return", "fun : nil", "pre : xs", "rule : nil", "return : xs", "fun : fun",
		"01 : nil", "-0 : nil", "+1 : nil", "1n : xs", "0n : xs", "n + 0 : xs", "n - 0 : nil", "n + m : nil", "n + n : xs", "1 : n + m : nil", "a + b + c + d + e : nil", "1 : a + b + c + d + e : nil", "1 : 1 : a + b + c + d + e : nil",
		"1000000 : nil", "-1000000 : xs", "n : 1000000 : nil", "n : n : 1000000n : xs", "n - 1000000 : nil",
		"n+1 : nil", "n +1 : nil", "n + 1: nil", "n + 1 :nil", "- n : nil", "--n : nil", "n , ts", "n , nil", "n | nil", "n ; nil", "n = nil", "xs = nil", "h:ts", "h : ts : ", "(h : ts)", "h : (ts)", "h : ts | n",
	}
}

func TestMalformedTextsAreNotParsed(t *testing.T) {
	for _, s := range malformedSums() {
		wantParsedSum(t, s, impl.Sum{}, false)
		wantParsedArg(t, s, impl.Arg{}, false)
		wantParsedArg(t, s+" : nil", impl.Arg{}, false)
		wantParsedArg(t, "n : "+s+" : xs", impl.Arg{}, false)
		wantParsedArg(t, "1 : 2 : "+s+" : xs", impl.Arg{}, false)
		wantParsedArg(t, "1 : "+s, impl.Arg{}, false)
	}
	for _, s := range malformedArgs() {
		wantParsedArg(t, s, impl.Arg{}, false)
		wantParsedSum(t, s, impl.Sum{}, false)
	}
}

// Arguments that are no integers are no sums, although they are parsed.
func TestListsAreNoSums(t *testing.T) {
	for _, s := range []string{"nil", "xs", "s", "nils", "abcdefgs", "h : ts", "1 : nil", "n + 2 : xs", "1 : 2 : 3 : nil"} {
		wantParsedSum(t, s, impl.Sum{}, false)
		if !wantReadText(t, s) {
			t.Errorf("%q is not read", s)
		}
	}
}

func TestReadersOfArguments(t *testing.T) {
	for _, text := range slices.Concat(malformedSums(), malformedArgs()) {
		if s, ok := readSum(text); ok {
			t.Errorf("%q is read as %v", text, s)
		}
		if a, ok := readArg(text); ok {
			t.Errorf("%q is read as %v", text, a)
		}
	}
	for _, a := range smallArgs() {
		text := argText(a)
		if got, ok := readArg(text); isArg(a) && isWritten(a.Heads...) && (!ok || !sameArg(got, a)) {
			t.Errorf("%q is read as %v, %t", text, got, ok)
		}
	}
}

func TestShortArguments(t *testing.T) {
	cases := []struct {
		alphabet string
		size     int
		most     int
	}{
		{"+-019 n", 6, 20},
		{"+-2 mn", 6, 20},
		{"+- an1", 6, 20},
		{" :ns", 9, 20},
		{" :-ns1", 6, 20},
		{"nil :", 7, 20},
		{"-1n\xc3\xa9", 5, 5},
	}
	for _, c := range cases {
		count := 0
		for _, s := range words(c.alphabet, c.size) {
			if wantReadText(t, s) {
				count++
			}
		}
		if count < c.most {
			t.Errorf("%d strings over %q are parsed", count, c.alphabet)
		}
	}
}

func TestPhrasesOfArguments(t *testing.T) {
	parts := [][]string{
		{" : ", "nil", "xs", "n", "2m", "1", " - ", "-"},
		{"n : ", "-1 : ", " : ", "nil", "xs", "k", " + 1 : ", "0"},
		{"a", " + ", "b", " - ", "c", "2", "d1"},
		{"-a", " + 2a", " - b", " + c", " - 12d", " + e", " + 10", " - 1", " : xs"},
		{" + a", "b : ", "a - b : ", "b + a : ", "nil", "1000000 : ", "a", "s"},
	}
	for _, list := range parts {
		count := 0
		for _, s := range phrases(list, 5) {
			if wantReadText(t, s) {
				count++
			}
		}
		if count < 20 {
			t.Errorf("%d phrases of %q are parsed", count, list)
		}
	}
	for _, s := range phrases([]string{"a", " + b", " - c", " + d", " - e", " + 1"}, 6) {
		wantReadText(t, s)
	}
}

// TestEveryByteOfArguments has every byte in place of and in front of every
// byte of some representations, and behind them.
func TestEveryByteOfArguments(t *testing.T) {
	texts := []string{
		"0", "-7", "n", "-2n", "2a - n + 3", "-a + 12b - 10k1b2c3d4 - 999999", "nil", "xs", "abcdefgs",
		"h : ts", "n - 1 : nil", "-2b : 7 : xs", "h : 1 : -k + 2n : as", "10 : 10 : 10 : nil",
	}
	for _, s := range texts {
		if !wantReadText(t, s) {
			t.Errorf("%q is not read", s)
		}
		for i := range len(s) + 1 {
			for b := range 256 {
				inserted := s[:i] + string([]byte{byte(b)})
				wantReadText(t, inserted+s[i:])
				if i < len(s) {
					wantReadText(t, inserted+s[i+1:])
				}
			}
			wantReadText(t, s[:i])
			wantReadText(t, s[i:])
		}
	}
}

func TestLongTextsOfArguments(t *testing.T) {
	parts := []string{"n", "s", "9", "0", "-", "+", " ", ":", " : ", "n + ", " - n", "m - ", "1 + ", "n : ", "nil", "nil : ", "xs : ", "\xff", "\u00e9"}
	for _, part := range parts {
		long := strings.Repeat(part, 20000)
		for _, s := range []string{long, "n" + long, "n - 1" + long, long + "nil", long + " : xs", "1 : " + long, "n : nil" + long} {
			wantParsedSum(t, s, impl.Sum{}, false)
			wantParsedArg(t, s, impl.Arg{}, false)
		}
	}
}

// TestLargeArguments has more terms and heads than one would write.
func TestLargeArguments(t *testing.T) {
	wide := impl.Sum{}
	for i := range 10000 {
		wide.Terms = append(wide.Terms, term(1, "n"+strconv.Itoa(10000+i)))
	}
	wantWritten(t, wide, "")
	tall := impl.Arg{List: true, Heads: make([]impl.Sum, 10000)}
	wantArg(t, tall, "")
	tall.List = false
	wantArg(t, tall, "")
	if got := impl.NamesOf(integerArg(wide)); len(got) != 10000 || got[0] != "n10000" || got[9999] != "n19999" {
		t.Errorf("NamesOf returns %d names", len(got))
	}
}

func wantNames(t *testing.T, a impl.Arg, want ...string) {
	t.Helper()
	if got := impl.NamesOf(a); !slices.Equal(got, want) {
		t.Errorf("NamesOf(%v) = %q, want %q", a, got, want)
	}
}

func TestNamesOf(t *testing.T) {
	n, h := sumOf(1, term(1, "n")), sumOf(0, term(1, "h"))
	both := sumOf(0, term(-1, "h"), term(2, "n"))
	wantNames(t, impl.Arg{})
	wantNames(t, listArg(""))
	wantNames(t, integerArg(sumOf(7)))
	wantNames(t, listArg("", sumOf(7), sumOf(0)))
	wantNames(t, integerArg(n), "n")
	wantNames(t, integerArg(both), "h", "n")
	wantNames(t, listArg("xs"), "xs")
	wantNames(t, listArg("as"), "as")
	wantNames(t, listArg("xs", sumOf(1)), "xs")
	wantNames(t, listArg("ts", n, h), "h", "n", "ts")
	wantNames(t, listArg("as", n, h), "as", "h", "n")
	wantNames(t, listArg("ks", n, h), "h", "ks", "n")
	wantNames(t, listArg("", n, h), "h", "n")
	wantNames(t, listArg("", n, n, n), "n")
	wantNames(t, listArg("ts", both, n, both), "h", "n", "ts")
	wantNames(t, listArg("ns", n, both, h), "h", "n", "ns")
	wantNames(t, listArg("", sumOf(0, term(1, "c"), term(1, "d")), sumOf(0, term(1, "b"), term(1, "c")), sumOf(0, term(1, "a"), term(1, "d"))), "a", "b", "c", "d")
	wantNames(t, listArg("", sumOf(0, term(1, "n2")), sumOf(0, term(1, "n10")), sumOf(0, term(1, "n"))), "n", "n10", "n2")
}

func TestNamesOfInvalidArguments(t *testing.T) {
	n := sumOf(0, term(1, "n"))
	wantNames(t, impl.Arg{Base: "xs"}, "xs")
	wantNames(t, impl.Arg{Heads: []impl.Sum{n}, Base: "n"}, "n")
	wantNames(t, impl.Arg{Heads: []impl.Sum{n}, Base: "m"}, "m", "n")
	wantNames(t, listArg("n", n), "n")
	wantNames(t, listArg("nil", n), "n", "nil")
	wantNames(t, listArg("N", n), "N", "n")
	wantNames(t, listArg(" ", n), " ", "n")
	wantNames(t, listArg("\xff", n), "n", "\xff")
	wantNames(t, integerArg(n, sumOf(0, term(1, "k"))), "k", "n")
	wantNames(t, listArg("", n, n, n, n, sumOf(0, term(1, "m"))), "m", "n")
	wantNames(t, integerArg(sumOf(0, term(1, "n"), term(1, "m"), term(2, "n"))), "m", "n")
	wantNames(t, integerArg(sumOf(0, term(0, "n"))), "n")
	wantNames(t, integerArg(sumOf(0, term(limitNumber+1, "n"))), "n")
	wantNames(t, integerArg(sumOf(math.MinInt, term(1, "n"))), "n")
	wantNames(t, integerArg(sumOf(0, term(1, "xs"))), "xs")
	wantNames(t, listArg("xs", sumOf(0, term(1, "xs"))), "xs")
	wantNames(t, integerArg(sumOf(0, term(1, ""))), "")
	wantNames(t, listArg("", sumOf(0, term(1, "n"), term(1, ""))), "", "n")
	wantNames(t, integerArg(sumOf(0, term(1, "z"), term(1, "B"), term(1, "1"), term(1, "\xff"), term(1, "a"), term(1, "fun"))), "1", "B", "a", "fun", "z", "\xff")
	wantNames(t, integerArg(sumAt(len(risingNames()), -1, 0, 1)), risingNames()...)
}

func TestNamesOfSmallArguments(t *testing.T) {
	for _, a := range smallArgs() {
		found := map[string]bool{}
		for _, s := range a.Heads {
			for _, x := range s.Terms {
				found[x.Name] = true
			}
		}
		if a.Base != "" {
			found[a.Base] = true
		}
		got := impl.NamesOf(a)
		for i, name := range got {
			if !found[name] || i > 0 && got[i-1] >= name {
				t.Errorf("NamesOf(%v) = %q", a, got)
			}
		}
		if len(got) != len(found) {
			t.Errorf("NamesOf(%v) = %q, want %d names", a, got, len(found))
		}
	}
}

func wantEqualArgs(t *testing.T, a impl.Arg, b impl.Arg, want bool) {
	t.Helper()
	if got := impl.EqualArg(a, b); got != want {
		t.Errorf("EqualArg(%v, %v) = %t, want %t", a, b, got, want)
	}
	if got := impl.EqualArg(b, a); got != want {
		t.Errorf("EqualArg(%v, %v) = %t, want %t", b, a, got, want)
	}
}

// differentArgs returns arguments of which no two are equal, valid and not.
func differentArgs() []impl.Arg {
	n, m := term(1, "n"), term(1, "m")
	list := []impl.Arg{
		{}, {List: true}, {Base: "xs"}, {List: true, Base: "xs"}, {Base: "ys"}, {Base: "x"}, {Base: "xss"}, {Base: "XS"}, {Base: "nil"},
	}
	sums := []impl.Sum{
		sumOf(0), sumOf(1), sumOf(-1), sumOf(limitNumber + 1), sumOf(1 << 32), sumOf(math.MinInt), sumOf(math.MaxInt),
		sumOf(0, n), sumOf(1, n), sumOf(0, m), sumOf(0, term(-1, "n")), sumOf(0, term(0, "n")), sumOf(0, term(0, "")), sumOf(0, term(1, "")), sumOf(0, term(1, "N")), sumOf(0, term(1, "n1")),
		sumOf(0, term(1+1<<32, "n")), sumOf(0, term(math.MinInt, "n")), sumOf(0, term(math.MaxInt, "n")),
		sumOf(0, n, n), sumOf(0, m, n), sumOf(0, n, m), sumOf(0, term(2, "m"), n), sumOf(0, m, term(2, "n")), sumOf(0, m, n, term(0, "")), sumOf(0, m, n, n),
		sumOf(1, m, n),
	}
	for _, s := range sums {
		list = append(list, integerArg(s), listArg("", s), listArg("xs", s))
		if s.Const != 0 || len(s.Terms) > 0 {
			list = append(list, listArg("", s, sumOf(0)), listArg("", sumOf(0), s), integerArg(sumOf(0), s))
		}
		list = append(list, listArg("xs", s, s), listArg("xs", s, s, s), listArg("xs", s, s, s, s))
	}
	return list
}

func TestEqualArg(t *testing.T) {
	list := differentArgs()
	for i, a := range list {
		for j, b := range list {
			b.Heads = headsOf(b.Heads)
			wantEqualArgs(t, a, b, i == j)
		}
	}
}

func TestEqualArgOfNothing(t *testing.T) {
	wantEqualArgs(t, impl.Arg{}, impl.Arg{Heads: []impl.Sum{}}, true)
	wantEqualArgs(t, impl.Arg{List: true}, impl.Arg{List: true, Heads: []impl.Sum{}}, true)
	wantEqualArgs(t, impl.Arg{List: true}, impl.Arg{Heads: []impl.Sum{}}, false)
	none, empty := []impl.Sum{{Const: 2}}, []impl.Sum{{Const: 2, Terms: []impl.Term{}}}
	wantEqualArgs(t, impl.Arg{Heads: none}, impl.Arg{Heads: empty}, true)
	wantEqualArgs(t, impl.Arg{Heads: empty}, impl.Arg{Heads: empty}, true)
	wantEqualArgs(t, impl.Arg{Heads: none}, impl.Arg{Heads: []impl.Sum{{}}}, false)
	wantEqualArgs(t, impl.Arg{Heads: empty}, impl.Arg{Heads: []impl.Sum{{Const: 2, Terms: []impl.Term{{}}}}}, false)
	wantEqualArgs(t, impl.Arg{}, impl.Arg{Heads: []impl.Sum{{}}}, false)
	wantEqualArgs(t, impl.Arg{Heads: []impl.Sum{}}, impl.Arg{Heads: []impl.Sum{{}, {}}}, false)
}

// TestEqualArgAtEveryPlace changes one field at a time, in each head and term.
func TestEqualArgAtEveryPlace(t *testing.T) {
	whole := func() impl.Arg {
		s := sumAt(limitTerms+1, -1, 4, 3)
		return listArg("xs", s, s, s, s)
	}
	change := func(f func(a *impl.Arg)) {
		t.Helper()
		a := whole()
		f(&a)
		wantEqualArgs(t, whole(), a, false)
	}
	wantEqualArgs(t, whole(), whole(), true)
	change(func(a *impl.Arg) { a.List = false })
	change(func(a *impl.Arg) { a.Base = "" })
	change(func(a *impl.Arg) { a.Base = "xt" })
	for i := range whole().Heads {
		change(func(a *impl.Arg) { a.Heads = a.Heads[:i] })
		change(func(a *impl.Arg) { a.Heads = slices.Delete(a.Heads, i, i+1) })
		change(func(a *impl.Arg) { a.Heads = slices.Insert(a.Heads, i, sumOf(0)) })
		change(func(a *impl.Arg) { a.Heads[i].Const++ })
		change(func(a *impl.Arg) { a.Heads[i].Terms = nil })
		for j := range whole().Heads[i].Terms {
			change(func(a *impl.Arg) { a.Heads[i].Terms[j].Coeff = -3 })
			change(func(a *impl.Arg) { a.Heads[i].Terms[j].Name += "s" })
			change(func(a *impl.Arg) { a.Heads[i].Terms = a.Heads[i].Terms[:j] })
			change(func(a *impl.Arg) { a.Heads[i].Terms = slices.Delete(a.Heads[i].Terms, j, j+1) })
			change(func(a *impl.Arg) { a.Heads[i].Terms = slices.Insert(a.Heads[i].Terms, j, impl.Term{}) })
		}
	}
}

// desk is memory of which tests pass only parts, so that the others are unused
// capacity or stand before them.
type desk struct {
	terms []impl.Term
	heads []impl.Sum
}

// newDesk returns heads whose terms overlap, many of them valid.
func newDesk() desk {
	terms := []impl.Term{
		term(3, "z"), term(1, "n"), term(-1, "b"), term(2, "c"), term(1, "k"), term(-5, "m"), term(1, "n"), term(1, "a"), term(0, "k"), term(1, "xs"), term(2, ""), term(7, "b"),
	}
	h := desk{terms: terms}
	for size := range limitTerms + 2 {
		for start := range 6 {
			h.heads = append(h.heads, impl.Sum{Const: start - 2, Terms: terms[start : start+size]})
		}
	}
	return desk{terms, append(h.heads, impl.Sum{Const: limitNumber + 1, Terms: terms[6:8]})}
}

// args returns parts of the heads as arguments of both forms.
func (h desk) args() []impl.Arg {
	var list []impl.Arg
	for start := range h.heads {
		for size := range limitHeads + 2 {
			end := min(start+size, len(h.heads))
			list = append(list, impl.Arg{Heads: h.heads[start:end]}, impl.Arg{List: true, Heads: h.heads[start:end]}, impl.Arg{List: true, Heads: h.heads[start:end], Base: "xs"})
		}
	}
	return list
}

// describe returns everything that the desk holds.
func (h desk) describe() string { return fmt.Sprint(h.terms, h.heads) }

func TestArgFunctionsKeepTheirArguments(t *testing.T) {
	h, other := newDesk(), newDesk()
	valid := 0
	for _, s := range h.heads {
		impl.IsValidSum(s)
		impl.FormatSum(s)
	}
	for _, a := range h.args() {
		if impl.IsValidArg(a) {
			valid++
		}
		impl.FormatArg(a)
		impl.NamesOf(a)
		for _, b := range h.args() {
			impl.EqualArg(a, b)
		}
		for _, b := range other.args() {
			impl.EqualArg(a, b)
		}
		if h.describe() != newDesk().describe() || other.describe() != newDesk().describe() {
			t.Fatalf("arguments changed to %v, %v for %v", h, other, a)
		}
	}
	if valid < 50 {
		t.Errorf("only %d arguments are valid", valid)
	}
}

// overwriteTerms changes all terms that can be reached from a sum.
func overwriteTerms(s impl.Sum) {
	terms := s.Terms[:cap(s.Terms)]
	for i := range terms {
		terms[i] = term(987654, "changed")
	}
}

// overwriteHeads changes all heads that can be reached from an argument, but
// not the memory of their terms.
func overwriteHeads(a impl.Arg) {
	heads := a.Heads[:cap(a.Heads)]
	for i := range heads {
		heads[i] = sumOf(987654, term(1, "changed"))
	}
}

func TestParsedSumsAreSeparate(t *testing.T) {
	for size := range limitTerms + 1 {
		want := sumAt(size, -1, 3, -2)
		text := sumText(want)
		first, _ := impl.ParseSum(text)
		second, _ := impl.ParseSum(text)
		overwriteTerms(first)
		again, ok := impl.ParseSum(text)
		if !sameSum(second, want) || !sameSum(again, want) || !ok {
			t.Errorf("a change of a result changed %v to %v, or the next one to %v", want, second, again)
		}
	}
}

func TestParsedArgumentsAreSeparate(t *testing.T) {
	for size := range limitHeads + 1 {
		for terms := range limitTerms + 1 {
			s := sumAt(terms, -1, 3, -2)
			want := listArg("xs", slices.Repeat([]impl.Sum{s}, size)...)
			parse := func() impl.Arg {
				a, _ := impl.ParseArg(argText(want))
				return a
			}
			second := parse()
			for i := range size {
				changed := parse()
				overwriteTerms(changed.Heads[i])
				changed.Heads[i] = s
				if !sameArg(changed, want) {
					t.Errorf("a change of head %d changed %v to %v", i, want, changed)
				}
			}
			overwriteHeads(parse())
			if !sameArg(second, want) || !sameArg(parse(), want) {
				t.Errorf("a change of a result changed %v to %v, or the next one to %v", want, second, parse())
			}
		}
	}
}

func TestNamesOfAreSeparate(t *testing.T) {
	h := newDesk()
	for _, a := range h.args() {
		first, second := impl.NamesOf(a), impl.NamesOf(a)
		want := slices.Clone(second)
		overwrite(first)
		if !slices.Equal(second, want) || !slices.Equal(impl.NamesOf(a), want) || h.describe() != newDesk().describe() {
			t.Fatalf("a change of a result changed %q to %q, or %v", want, second, h)
		}
	}
}
