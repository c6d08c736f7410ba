package tests

import (
	"math"
	"regexp"
	"slices"
	"strconv"
	"strings"
	"testing"

	"loop.example/g00515/impl"
)

// limitWritten is the greatest number that a text may contain: 6 digits.
const limitWritten = 999999

// manyNames returns limitVars names: some start alike, some have the greatest
// length, and they are not in ascending order.
func manyNames() []string {
	return []string{"n", "n1", "n12", "abcdefgh", "abcdefgs", "a", "xs", "z9999999"}
}

// badNameLists returns lists of names that are not distinct valid names, each
// with at most limitVars elements.
func badNameLists() [][]string {
	lists := [][]string{
		{"n", "n"}, {"n", "m", "n"}, {"m", "n", "n"}, {"n", "n", "m"}, {"", ""}, {"N", "N"},
		append(manyNames()[:limitVars-1], "n"), append(manyNames()[:limitVars-1], "xs"),
	}
	bad := []string{
		"", "N", "nN", "1", "1n", "2n", "n ", " n", "n m", "n + m", "-n", "n-", "+", "-", " ", "0", "_", "n_",
		"\xff", "n\xff", "\u00e9", "n\u00e9", "\u0661", "\x00", "n\n", "abcdefghi", "toolongnames", "n >= 0",
	}
	for _, name := range slices.Concat(bad, reserved()) {
		lists = append(lists, []string{name}, []string{name, "m"}, []string{"m", name}, []string{"m", name, "k"})
		full := manyNames()
		full[limitVars-1] = name
		lists = append(lists, full)
	}
	return lists
}

// longNameLists returns lists of more than limitVars names, all valid.
func longNameLists() [][]string {
	return [][]string{
		append(manyNames(), "m"),
		append(manyNames(), "m", "k"),
		append(manyNames(), "n"),
		append(manyNames(), "m0", "m1", "m2", "m3", "m4", "m5", "m6", "m7"),
	}
}

func wantText(t *testing.T, l impl.Lin, names []string, want string) {
	t.Helper()
	if got := impl.FormatLin(l, names); got != want {
		t.Errorf("FormatLin(%v, %q) = %q, want %q", l, names, got, want)
	}
	if want != "" {
		want += " >= 0"
	}
	if got := impl.FormatConstraint(l, names); got != want {
		t.Errorf("FormatConstraint(%v, %q) = %q, want %q", l, names, got, want)
	}
}

func TestFormatLin(t *testing.T) {
	nm := []string{"n", "m"}
	abc := []string{"a", "b", "c"}
	cases := []struct {
		l     impl.Lin
		names []string
		want  string
	}{
		{lin(3, 2, -1), nm, "2n - m + 3"},
		{lin(0, -1), []string{"xs"}, "-xs"},
		{lin(0), nil, "0"},
		{lin(0), []string{}, "0"},
		{lin(1), nil, "1"},
		{lin(-1), nil, "-1"},
		{lin(42), nil, "42"},
		{lin(-42), nil, "-42"},
		{lin(limitCoeff), nil, "1000000000"},
		{lin(-limitCoeff), nil, "-1000000000"},

		{lin(0, 0), []string{"n"}, "0"},
		{lin(1, 0), []string{"n"}, "1"},
		{lin(-1, 0), []string{"n"}, "-1"},
		{lin(0, 1), []string{"n"}, "n"},
		{lin(0, 2), []string{"n"}, "2n"},
		{lin(0, -2), []string{"n"}, "-2n"},
		{lin(0, 10), []string{"n"}, "10n"},
		{lin(0, -11), []string{"n"}, "-11n"},
		{lin(1, 1), []string{"n"}, "n + 1"},
		{lin(-1, -1), []string{"n"}, "-n - 1"},
		{lin(0, limitCoeff), []string{"n"}, "1000000000n"},
		{lin(0, -limitCoeff), []string{"n"}, "-1000000000n"},
		{lin(limitCoeff, limitCoeff), []string{"n"}, "1000000000n + 1000000000"},
		{lin(-limitCoeff, -limitCoeff), []string{"n"}, "-1000000000n - 1000000000"},

		{lin(0, 0, 0), nm, "0"},
		{lin(-7, 0, 0), nm, "-7"},
		{lin(0, 1, 1), nm, "n + m"},
		{lin(0, -1, -1), nm, "-n - m"},
		{lin(0, 0, 1), nm, "m"},
		{lin(0, 0, -1), nm, "-m"},
		{lin(2, 0, -3), nm, "-3m + 2"},
		{lin(-2, 1, 0), nm, "n - 2"},
		{lin(0, 1, 1), []string{"m", "n"}, "m + n"},

		{lin(0, 1, 0, 1), abc, "a + c"},
		{lin(1, 0, 0, 0), abc, "1"},
		{lin(0, 0, -1, 0), abc, "-b"},
		{lin(-1, 0, 1, 0), abc, "b - 1"},
		{lin(0, limitCoeff, 1, 1), abc, "1000000000a + b + c"},
		{lin(0, 1, limitCoeff, 1), abc, "a + 1000000000b + c"},
		{lin(0, 1, 1, limitCoeff), abc, "a + b + 1000000000c"},
		{lin(0, -limitCoeff, -1, -1), abc, "-1000000000a - b - c"},
		{lin(0, -1, -limitCoeff, -1), abc, "-a - 1000000000b - c"},
		{lin(0, -1, -1, -limitCoeff), abc, "-a - b - 1000000000c"},
		{lin(limitCoeff, 2, 0, -2), abc, "2a - 2c + 1000000000"},
		{lin(-limitCoeff, 0, 2, -2), abc, "2b - 2c - 1000000000"},

		// Names keep their place, whatever their order or length.
		{lin(0, 1, 1, 1), []string{"a1", "a", "a12"}, "a1 + a + a12"},
		{lin(11, 11, 1, -11), []string{"a1", "a", "a12"}, "11a1 + a - 11a12 + 11"},
		{lin(1, 1, 1), []string{"abcdefgh", "a1234567"}, "abcdefgh + a1234567 + 1"},
		{lin(9, 1, 2, -1, -2, 0, 1, 10, -1), manyNames(), "n + 2n1 - n12 - 2abcdefgh + a + 10xs - z9999999 + 9"},
		{lin(0, 0, 0, 0, 0, 0, 0, 0, 0), manyNames(), "0"},
		{lin(-5, 0, 0, 0, 0, 0, 0, 0, 0), manyNames(), "-5"},
	}
	for _, c := range cases {
		wantText(t, c.l, c.names, c.want)
	}
}

// signed writes a number with a sign between blanks in front.
func signed(n int) string {
	if n < 0 {
		return " - " + strconv.Itoa(-n)
	}
	return " + " + strconv.Itoa(n)
}

// textOf writes an expression that is valid for distinct valid names: every
// term has a sign with blanks, and the first sign is shortened at the end.
func textOf(l impl.Lin, names []string) string {
	text := ""
	for i, name := range names {
		switch c := l.Coeffs[i]; c {
		case 0:
		case 1:
			text += " + " + name
		case -1:
			text += " - " + name
		default:
			text += signed(c) + name
		}
	}
	if l.Const != 0 || text == "" {
		text += signed(l.Const)
	}
	if rest, ok := strings.CutPrefix(text, " - "); ok {
		return "-" + rest
	}
	return strings.TrimPrefix(text, " + ")
}

func TestFormatLinAtEveryNumber(t *testing.T) {
	numbers := slices.Concat(coeffEdges(), []int{9, 10, -10, 100, 999999, -999999, 1000000, -1000000})
	for n := range limitVars + 1 {
		names := manyNames()[:n]
		for place := -1; place < n; place++ {
			for _, x := range numbers {
				for _, rest := range []int{0, 1, -1, 2, -limitCoeff} {
					want := ""
					l := linAt(n, place, x, rest)
					if withinCoeff(x) {
						want = textOf(l, names)
					}
					wantText(t, l, names, want)
				}
			}
		}
	}
}

func TestFormatLinCountsNames(t *testing.T) {
	names := longNameLists()[3]
	for size := range 2*limitVars + 1 {
		for n := range len(names) + 1 {
			for _, rest := range []int{0, 1} {
				l, want := linAt(size, -1, 4, rest), ""
				if size == n && n <= limitVars {
					want = textOf(l, names[:n])
				}
				wantText(t, l, names[:n], want)
			}
		}
	}
}

func TestFormatLinOfBadNames(t *testing.T) {
	for _, names := range slices.Concat(badNameLists(), longNameLists()) {
		for _, x := range []int{0, 1, -2} {
			wantText(t, linAt(len(names), -1, x, 0), names, "")
			wantText(t, linAt(len(names), -1, 0, x), names, "")
			wantText(t, impl.Lin{Const: x}, names, "")
		}
	}
	wantText(t, linAt(limitVars+1, -1, 1, 0), append(manyNames(), "N"), "")
}

func wantParsed(t *testing.T, s string, names []string, want impl.Lin, ok bool) {
	t.Helper()
	if got, gotOk := impl.ParseLin(s, names); !sameLin(got, want) || gotOk != ok {
		t.Errorf("ParseLin(%q, %q) = %v, %t, want %v, %t", s, names, got, gotOk, want, ok)
	}
	if got, gotOk := impl.ParseConstraint(s+" >= 0", names); !sameLin(got, want) || gotOk != ok {
		t.Errorf("ParseConstraint(%q, %q) = %v, %t, want %v, %t", s+" >= 0", names, got, gotOk, want, ok)
	}
}

func TestParseLin(t *testing.T) {
	nm := []string{"n", "m"}
	cases := []struct {
		s     string
		names []string
		want  impl.Lin
	}{
		{"2n - m + 3", nm, lin(3, 2, -1)},
		{"-xs", []string{"xs"}, lin(0, -1)},
		{"0", nil, lin(0)},
		{"0", []string{}, lin(0)},
		{"0", nm, lin(0, 0, 0)},
		{"0", manyNames(), lin(0, 0, 0, 0, 0, 0, 0, 0, 0)},
		{"1", nil, lin(1)},
		{"-1", nil, lin(-1)},
		{"-3", nm, lin(-3, 0, 0)},
		{"10", nm, lin(10, 0, 0)},
		{"n", nm, lin(0, 1, 0)},
		{"-n", nm, lin(0, -1, 0)},
		{"m", nm, lin(0, 0, 1)},
		{"n + m", nm, lin(0, 1, 1)},
		{"m + n", []string{"m", "n"}, lin(0, 1, 1)},
		{"n - 1", nm, lin(-1, 1, 0)},
		{"n + 1", nm, lin(1, 1, 0)},
		{"m - 1", nm, lin(-1, 0, 1)},
		{"10n - 11m", nm, lin(0, 10, -11)},
		{"999999n - 999999m + 999999", nm, lin(limitWritten, limitWritten, -limitWritten)},
		{"-999999n - 999999", nm, lin(-limitWritten, -limitWritten, 0)},
		{"100000m - 100000", nm, lin(-100000, 0, 100000)},
		{"999999", nil, lin(limitWritten)},
		{"-999999", nil, lin(-limitWritten)},
		{"a1", []string{"a", "a1", "a11"}, lin(0, 0, 1, 0)},
		{"11a11 - 1", []string{"a", "a1", "a11"}, lin(-1, 0, 0, 11)},
		{"a - a1 + a11", []string{"a", "a1", "a11"}, lin(0, 1, -1, 1)},
		{"a11 + a - a1", []string{"a11", "a", "a1"}, lin(0, 1, 1, -1)},
		{"2abcdefgh - 3a1234567", []string{"abcdefgh", "a1234567"}, lin(0, 2, -3)},
		{"n + 2n1 - n12 - 2abcdefgh + a + 10xs - z9999999 + 9", manyNames(), lin(9, 1, 2, -1, -2, 0, 1, 10, -1)},
	}
	for _, c := range cases {
		wantParsed(t, c.s, c.names, c.want, true)
	}
}

// malformed returns texts that represent no expression of n and m, in groups.
func malformed() []string {
	return slices.Concat(
		// Numbers that are too long, or not written as they should be.
		[]string{"1000000", "-1000000", "n + 1000000", "n - 1000000", "1000000n", "-1000000n", "n + 1000000m", "n - 9999999m",
			"1000000000", "1000000000n", strings.Repeat("9", 1000), strings.Repeat("9", 1000) + "n",
			"18446744073709551617", "18446744073709551618n", "n + 18446744073709551617",
			"00", "-0", "+0", "01", "007", "02n", "0000002n", "n + 02m", "n + 01", "n - 00", "-02n",
			"0n", "-0n", "00n", "0n + m", "n + 0m", "n - 0m", "0n + 0m", "n + 0", "n - 0", "0 + n", "0 + 0", "n + m + 0",
			"1n", "-1n", "n + 1m", "n - 1m", "1n + 1m", "01n"},
		// Terms out of order, twice, or of other names.
		[]string{"m + n", "-m + n", "m - n", "2m + 2n", "3 + n", "-3 + n", "3 - n", "n + 3 + m", "1 + n + m",
			"n + n", "n - n", "2n + n", "n + m + n", "n + m + m", "m + m", "n + 1 + 1", "1 + 1", "3 + 0", "n - 1 - 1", "n + 2 - 1",
			"x", "nm", "mn", "nn", "n1", "2nm", "k + m", "n + k", "n + m + k", "-k", "N", "2N", "n2", "n2m", "2n2", "n + m2", "0x1", "1e3", "n * 2", "2*n", "n.m", "n,m", "(n)"},
		// Blanks too many, too few, at an end, or of another kind.
		[]string{" ", "  ", " n", "n ", "  n", "n  ", " 0", "0 ", " -n", "-n ", "n + m ", " n + m", "- n", "-  n", "2 n", "- 2n", "-2 n", "1 2", "n m", "n 1", "n + 2 m",
			"n+m", "n +m", "n+ m", "n  + m", "n +  m", "n-m", "n -m", "n- m", "n  - m", "n -  m", "n + 1 ", "n +1", "n+1", "n -1", "n- 1", "n - 1  ",
			"n\t+ m", "n +\tm", "n\n", "\nn", "n\r", "n + m\n", "n\u00a0+ m", "n + m\x00", "\x00n"},
		// Signs in front, twice, or without a term.
		[]string{"+n", "+ n", " + n", " - n", "+1", "+2n", "+ 1", "--n", "--1", "- -n", "- - n", "-+n", "+-n", "++n", "+ - n", "n + -m", "n - -m", "n + +m", "n - +m", "n + - m", "n - - m", "n + + m",
			"n ++ m", "n -- m", "n +- m", "n -+ m", "n + -1", "n - -1", "n + +1", "-", "+", "--", "- -", "-+", " - ", " + ", "- ", "+ ",
			"n +", "n -", "n + ", "n - ", "n+", "n-", "n + m -", "n + m - ", "n - 1 +", "n - 1 + ", "1 -", "1 - ", "1-", "+ + ", "n +  + m", "2-", "2n-1", "-2-"},
		// Other strings.
		[]string{"", "n >= 0", "n - 1 >= 0", ">= 0", " >= 0", "n >=", "n > 0", "n = m", "?", "nil", "fun", "n : m"},
		lookalikes(),
	)
}

// lookalikes returns texts of other characters: with digits, letters, blanks
// and signs of other alphabets, with characters whose low byte is that of a
// permitted one, and with bytes that are no characters.
func lookalikes() []string {
	list := []string{
		"\uff4e", "\u217d", "\u0661", "\uff11", "\uff12n", "\u0662n", "\u22121", "\u2212n", "n \u2212 m", "n \uff0b m", "n \u2013 m", "n \ufe63 1",
		"n\u2003+ m", "n + \u3000m", "\ufeffn", "n\u200b", "n\u0301", "\u00b2n", "n\u00b2", "\u2460",
		"\xff", "\x80", "\xc0\x80", "n\xff", "\xffn", "2\xffn", "n\xff + m", "n + \xc3", "\xed\xa0\x80", "n\xc2", "\xb2n", "\xf0\x9f\x98",
		"\ufffd", "n\ufffd", "\ufffdn", "2\ufffdn", "n \ufffd m",
	}
	for _, s := range []string{"n", "2n", "-n", "n + m", "n - 1"} {
		for i, r := range s {
			list = append(list, s[:i]+string(r+0x100)+s[i+1:], s[:i]+string(r+0x10000)+s[i+1:], s[:i]+string([]byte{byte(r) + 0x80})+s[i+1:])
		}
	}
	return list
}

func TestParseLinRejectsMalformed(t *testing.T) {
	for _, s := range malformed() {
		wantParsed(t, s, []string{"n", "m"}, impl.Lin{}, false)
	}
	for _, s := range []string{"", "n", "-n", "0n", "1n", "x", "nil", "-0", "00", "+1", "1000000", "1 + 1", "1 - 1", " 1", "1 ", "- 1"} {
		wantParsed(t, s, nil, impl.Lin{}, false)
	}
	for _, s := range []string{"a12", "b", "a1a", "aa1", "1a", "a 1", "a1 + a", "a11 + a1", "a11 + a", "a111", "11a12"} {
		wantParsed(t, s, []string{"a", "a1", "a11"}, impl.Lin{}, false)
	}
}

func TestParseLinOfLongTexts(t *testing.T) {
	names := []string{"n", "m"}
	for _, part := range []string{"n", "9", "0", "-", "+", " ", "n + ", " - n", "m - ", "1 + ", "\xff", "\u00e9"} {
		wantParsed(t, strings.Repeat(part, 100000), names, impl.Lin{}, false)
		wantParsed(t, "n + m - 1"+strings.Repeat(part, 100000), names, impl.Lin{}, false)
	}
}

func TestParseLinOfBadNames(t *testing.T) {
	for _, names := range slices.Concat(badNameLists(), longNameLists()) {
		for _, s := range []string{"", "0", "1", "-1", "n", "-n", "m", "n + m", "n + n", "2n + 2n", "m - 3", "xs", "k", "?", "fun", "nil", "2fun", "1n", "N", "2nN"} {
			wantParsed(t, s, names, impl.Lin{}, false)
		}
		for _, name := range names {
			wantParsed(t, name, names, impl.Lin{}, false)
			wantParsed(t, "2"+name+" + 1", names, impl.Lin{}, false)
		}
	}
}

// wantRoundTrip expects that an expression is parsed from its text.
func wantRoundTrip(t *testing.T, l impl.Lin, names []string) {
	t.Helper()
	text := textOf(l, names)
	wantText(t, l, names, text)
	wantParsed(t, text, names, l, true)
}

func TestSmallExpressionsAreParsed(t *testing.T) {
	for _, l := range linsOf(0, from(-1200, 1200), nil) {
		wantRoundTrip(t, l, nil)
	}
	for _, l := range linsOf(1, from(-21, 21), from(-21, 21)) {
		wantRoundTrip(t, l, []string{"n"})
	}
	for _, l := range linsOf(2, from(-3, 3), from(-12, 12)) {
		wantRoundTrip(t, l, []string{"a", "a1"})
		wantRoundTrip(t, l, []string{"a1", "a"})
	}
	for _, l := range linsOf(3, []int{-10, -1, 0, 1, 2}, from(-2, 2)) {
		wantRoundTrip(t, l, []string{"y", "xs", "y0"})
	}
	for _, l := range linsOf(limitVars, []int{-1, 0, 7}, []int{-1, 0, 2}) {
		wantRoundTrip(t, l, manyNames())
	}
}

// TestWrittenNumbers has numbers of 6 digits, which are parsed, and of 7 and
// more, which are written but not parsed.
func TestWrittenNumbers(t *testing.T) {
	parsed := []int{1, 2, 9, 10, 99999, 100000, 123456, limitWritten - 1, limitWritten}
	written := []int{limitWritten + 1, limitWritten + 2, 1234567, 9999999, 10000000, limitCoeff - 1, limitCoeff}
	for n := range limitVars + 1 {
		names := manyNames()[:n]
		for place := -1; place < n; place++ {
			for _, sign := range []int{1, -1} {
				for _, rest := range []int{0, 1, -limitWritten} {
					for _, x := range parsed {
						wantRoundTrip(t, linAt(n, place, sign*x, rest), names)
					}
					for _, x := range written {
						text := textOf(linAt(n, place, sign*x, rest), names)
						wantText(t, linAt(n, place, sign*x, rest), names, text)
						wantParsed(t, text, names, impl.Lin{}, false)
					}
				}
			}
		}
	}
}

// A reader knows the form of the representations for some names: the terms,
// each with a sign between blanks in front.
type reader struct {
	names []string
	form  *regexp.Regexp
}

func newReader(names ...string) reader {
	form := "^"
	for _, name := range names {
		form += "(?: ([+-]) ([2-9]|[1-9][0-9]{1,5})?" + name + ")?"
	}
	return reader{names, regexp.MustCompile(form + "(?: ([+-]) ([1-9][0-9]{0,5}))?$")}
}

// read returns what ParseLin has to return.
func (r reader) read(s string) (impl.Lin, bool) {
	if s == "0" {
		return impl.Lin{Coeffs: make([]int, len(r.names))}, true
	}
	text := " + " + s
	if rest, ok := strings.CutPrefix(s, "-"); ok {
		text = " - " + rest
	}
	match := r.form.FindStringSubmatch(text)
	if match == nil {
		return impl.Lin{}, false
	}
	var numbers []int
	for i := 1; i < len(match); i += 2 {
		number := 0
		if match[i] != "" {
			number = 1
		}
		if match[i+1] != "" {
			number, _ = strconv.Atoi(match[i+1])
		}
		if match[i] == "-" {
			number = -number
		}
		numbers = append(numbers, number)
	}
	last := len(numbers) - 1
	return impl.Lin{Const: numbers[last], Coeffs: numbers[:last]}, true
}

// wantRead expects that s is parsed exactly if it is a representation.
func (r reader) wantRead(t *testing.T, s string) bool {
	t.Helper()
	want, ok := r.read(s)
	wantParsed(t, s, r.names, want, ok)
	if ok {
		wantText(t, want, r.names, s)
	}
	r.wantReadConstraint(t, s)
	return ok
}

// wantReadConstraint expects that s is parsed as a constraint exactly if it is
// a representation followed by " >= 0".
func (r reader) wantReadConstraint(t *testing.T, s string) {
	t.Helper()
	want, ok := impl.Lin{}, false
	if text, found := strings.CutSuffix(s, " >= 0"); found {
		want, ok = r.read(text)
	}
	if got, gotOk := impl.ParseConstraint(s, r.names); !sameLin(got, want) || gotOk != ok {
		t.Errorf("ParseConstraint(%q, %q) = %v, %t, want %v, %t", s, r.names, got, gotOk, want, ok)
	}
}

func TestReader(t *testing.T) {
	r := newReader("n", "m")
	for _, s := range malformed() {
		if l, ok := r.read(s); ok {
			t.Errorf("%q is read as %v", s, l)
		}
	}
	for _, l := range linsOf(2, []int{-12, -1, 0, 1, 2}, from(-12, 12)) {
		if got, ok := r.read(textOf(l, r.names)); !ok || !sameLin(got, l) {
			t.Errorf("%q is read as %v, %t", textOf(l, r.names), got, ok)
		}
	}
}

func TestShortStrings(t *testing.T) {
	cases := []struct {
		names    []string
		alphabet string
		size     int
	}{
		{nil, "+-019 n", 5},
		{[]string{"n"}, "+-012 n", 6},
		{[]string{"n", "m"}, "+-01 nm", 6},
		{[]string{"n", "m"}, "+-2 m", 7},
		{[]string{"a", "a1", "aa"}, "+-1 a", 7},
		{[]string{"a1", "a"}, "+-01 a", 6},
		{[]string{"a"}, "-1a\xc3\xa9", 5},
	}
	for _, c := range cases {
		r, count := newReader(c.names...), 0
		for _, s := range words(c.alphabet, c.size) {
			if r.wantRead(t, s) {
				count++
			}
		}
		if count < 2 {
			t.Errorf("%d strings over %q are parsed", count, c.alphabet)
		}
	}
}

// phrases returns all sequences of at most size of the parts.
func phrases(parts []string, size int) []string {
	list := []string{""}
	last := list
	for range size {
		var next []string
		for _, s := range last {
			for _, part := range parts {
				next = append(next, s+part)
			}
		}
		list = append(list, next...)
		last = next
	}
	return list
}

func TestPhrases(t *testing.T) {
	r := newReader("n", "m", "k")
	for _, s := range phrases([]string{" + ", " - ", "-", "n", "2n", "m", "k", "3"}, 5) {
		r.wantRead(t, s)
	}
	for _, s := range phrases([]string{" + n", " - 2m", "-n", "12m", " + k", " - k", " + 10", " - 1", "0"}, 5) {
		r.wantRead(t, s)
	}
}

func TestPhrasesOfConstraints(t *testing.T) {
	r := newReader("n", "m")
	for _, s := range phrases([]string{" >= 0", " >= ", ">=", ">", "=", "0", " ", "n", " - 1", "1"}, 5) {
		r.wantRead(t, s)
	}
}

// TestEveryByte has every byte in place of and in front of every byte of some
// representations, and behind them.
func TestEveryByte(t *testing.T) {
	r := newReader("n", "m", "a1b2c3d4")
	for _, s := range []string{"0", "-7", "n", "-2n", "2n - m + 3", "-n + 12m - 10a1b2c3d4 - 999999"} {
		for i := range len(s) + 1 {
			for b := range 256 {
				inserted := s[:i] + string([]byte{byte(b)})
				r.wantRead(t, inserted+s[i:])
				if i < len(s) {
					r.wantRead(t, inserted+s[i+1:])
				}
			}
			r.wantRead(t, s[:i])
			r.wantRead(t, s[i:])
		}
	}
}

func TestFormatConstraint(t *testing.T) {
	cases := []struct {
		l     impl.Lin
		names []string
		want  string
	}{
		{lin(-1, 1, 0), []string{"n", "m"}, "n - 1 >= 0"},
		{lin(3, 2, -1), []string{"n", "m"}, "2n - m + 3 >= 0"},
		{lin(0), nil, "0 >= 0"},
		{lin(0, 0), []string{"n"}, "0 >= 0"},
		{lin(-1), nil, "-1 >= 0"},
		{lin(0, -1), []string{"xs"}, "-xs >= 0"},
		{lin(limitCoeff, -limitCoeff), []string{"n"}, "-1000000000n + 1000000000 >= 0"},
		{lin(limitCoeff+1, 1), []string{"n"}, ""},
		{lin(0, 1), nil, ""},
		{lin(0, 1), []string{"n", "m"}, ""},
		{lin(0, 1, 1), []string{"n", "n"}, ""},
		{lin(0, 1), []string{"N"}, ""},
	}
	for _, c := range cases {
		if got := impl.FormatConstraint(c.l, c.names); got != c.want {
			t.Errorf("FormatConstraint(%v, %q) = %q, want %q", c.l, c.names, got, c.want)
		}
	}
}

func TestParseConstraint(t *testing.T) {
	names := []string{"n", "m"}
	accepted := map[string]impl.Lin{
		"n - 1 >= 0":         lin(-1, 1, 0),
		"2n - m + 3 >= 0":    lin(3, 2, -1),
		"0 >= 0":             lin(0, 0, 0),
		"-1 >= 0":            lin(-1, 0, 0),
		"-m >= 0":            lin(0, 0, -1),
		"999999n - m >= 0":   lin(0, limitWritten, -1),
		"-n - 999999 >= 0":   lin(-limitWritten, -1, 0),
		"n + m + 100 >= 0":   lin(100, 1, 1),
		"-12n - 100000 >= 0": lin(-100000, -12, 0),
	}
	for s, want := range accepted {
		if got, ok := impl.ParseConstraint(s, names); !sameLin(got, want) || !ok {
			t.Errorf("ParseConstraint(%q) = %v, %t, want %v, true", s, got, ok, want)
		}
	}
	rejected := []string{
		"", "n", "n - 1", "0", " >= 0", ">= 0", "  >= 0", "- >= 0",
		"n >= 0 >= 0", "n - 1 >= 0 >= 0", "0 >= 0 >= 0", " >= 0 >= 0", "n >= 0n >= 0",
		"n >= 1", "n >= -1", "n >= 00", "n >= -0", "n >= m", "n >= 0n", "n >= 10", "n >= 01", "n >=", "n >= ", "n > 0", "n = 0", "n <= 0", "n => 0", "n == 0", "n >== 0", "0 >= n",
		" n >= 0", "n >= 0 ", "n  >= 0", "n >=  0", "n >= 0\n", "n >=0", "n>= 0", "n>=0", "n > = 0", "n\t>= 0", "n >=\t0", "n\n>= 0",
		"n \u2265 0", "n >= \uff10", "n >= 0\xff", "n\xff >= 0", "n >= 0\x00",
		"m + n >= 0", "1n >= 0", "n + 0 >= 0", "+n >= 0", "n + n >= 0", "k >= 0", "01 >= 0", "-0 >= 0",
		"1000000n >= 0", "n + 1000000 >= 0", "-1000000 >= 0", "n - 1000000000m >= 0",
	}
	for _, s := range rejected {
		if got, ok := impl.ParseConstraint(s, names); !sameLin(got, impl.Lin{}) || ok {
			t.Errorf("ParseConstraint(%q) = %v, %t, want the zero Lin and false", s, got, ok)
		}
	}
}

// TestConstraintsThatAreNotParsed has texts that FormatConstraint writes but
// ParseLin does not accept without their end.
func TestConstraintsThatAreNotParsed(t *testing.T) {
	names := []string{"n", "m"}
	for _, l := range []impl.Lin{lin(limitWritten+1, 0, 0), lin(0, -limitWritten-1, 1), lin(-1, 1, limitCoeff), lin(-limitCoeff, -limitCoeff, limitCoeff)} {
		s := impl.FormatConstraint(l, names)
		text, ok := strings.CutSuffix(s, " >= 0")
		if !ok || text != textOf(l, names) {
			t.Errorf("FormatConstraint(%v) = %q", l, s)
		}
		if got, ok := impl.ParseConstraint(s, names); !sameLin(got, impl.Lin{}) || ok {
			t.Errorf("ParseConstraint(%q) = %v, %t, want the zero Lin and false", s, got, ok)
		}
	}
}

// roomForNames returns names of which a test passes only a part, so that the
// others are unused capacity or stand before it.
func roomForNames() []string {
	return append([]string{"before"}, append(manyNames(), "y", "N", "n", "xs")...)
}

func TestTextFunctionsKeepTheirArguments(t *testing.T) {
	list, names := spare(), roomForNames()
	texts := []string{"0", "n", "-n + 3", "n - n1", "m", "1n", "n + 1000000", "n + \xff", ""}
	for start := range len(names) {
		for end := start; end <= len(names); end++ {
			for _, l := range append(partsOf(list), impl.Lin{Const: math.MinInt, Coeffs: list[2:5]}) {
				impl.FormatLin(l, names[start:end])
				impl.FormatConstraint(l, names[start:end])
			}
			for _, s := range texts {
				impl.ParseLin(s, names[start:end])
				impl.ParseConstraint(s, names[start:end])
				impl.ParseConstraint(s+" >= 0", names[start:end])
			}
		}
	}
	if !slices.Equal(list, spare()) || !slices.Equal(names, roomForNames()) {
		t.Errorf("arguments changed to %v, %q", list, names)
	}
}

func TestParsedExpressionsAreSeparate(t *testing.T) {
	for n := range limitVars + 1 {
		names := manyNames()[:n]
		for _, l := range linsOf(n, []int{-1, 0}, []int{0, 2})[:min(64, 2<<n)] {
			s := textOf(l, names)
			list := slices.Clone(l.Coeffs)
			wantSeparate(t, "ParseLin", list, func() impl.Lin {
				got, _ := impl.ParseLin(s, names)
				return got
			})
			wantSeparate(t, "ParseConstraint", list, func() impl.Lin {
				got, _ := impl.ParseConstraint(s+" >= 0", names)
				return got
			})
		}
		if !slices.Equal(names, manyNames()[:n]) {
			t.Errorf("names changed to %q", names)
		}
	}
}
