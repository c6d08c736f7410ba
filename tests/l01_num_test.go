package tests

import (
	"math"
	"slices"
	"strconv"
	"strings"
	"testing"

	"loop.example/g00515/impl"
)

func TestFormatInt(t *testing.T) {
	cases := []struct {
		n    int
		want string
	}{
		{0, "0"},
		{1, "1"},
		{-5, "-5"},
		{9, "9"},
		{10, "10"},
		{-10, "-10"},
		{907, "907"},
		{1000000, "1000000"},
		{-999999999999, "-999999999999"},
		{math.MaxInt, "9223372036854775807"},
		{math.MinInt + 1, "-9223372036854775807"},
		{math.MinInt, "-9223372036854775808"},
	}
	for _, c := range cases {
		if got := impl.FormatInt(c.n); got != c.want {
			t.Errorf("FormatInt(%d) = %q, want %q", c.n, got, c.want)
		}
	}
}

type parser struct {
	name      string
	parse     func(string) (int, bool)
	low, high int
}

func parsers() []parser {
	return []parser{
		{"ParseNumber", impl.ParseNumber, 0, 999999},
		{"ParseInt", impl.ParseInt, -999999999999, 999999999999},
	}
}

func (p parser) wantAccepted(t *testing.T, s string, want int) {
	t.Helper()
	if n, ok := p.parse(s); n != want || !ok {
		t.Errorf("%s(%q) = %d, %t, want %d, true", p.name, s, n, ok, want)
	}
}

func (p parser) wantRejected(t *testing.T, s string) {
	t.Helper()
	if n, ok := p.parse(s); n != 0 || ok {
		t.Errorf("%s(%q) = %d, %t, want 0, false", p.name, s, n, ok)
	}
}

func TestParseNumberLimits(t *testing.T) {
	p := parsers()[0]
	p.wantAccepted(t, "0", 0)
	p.wantAccepted(t, "1", 1)
	p.wantAccepted(t, "42", 42)
	p.wantAccepted(t, "999999", 999999)
	for _, s := range []string{"1000000", "-1", "-999999", "999999999999"} {
		p.wantRejected(t, s)
	}
}

func TestParseIntLimits(t *testing.T) {
	p := parsers()[1]
	p.wantAccepted(t, "0", 0)
	p.wantAccepted(t, "-1", -1)
	p.wantAccepted(t, "42", 42)
	p.wantAccepted(t, "-1000000", -1000000)
	p.wantAccepted(t, "999999999999", 999999999999)
	p.wantAccepted(t, "-999999999999", -999999999999)
	for _, s := range []string{"1000000000000", "-1000000000000", "9223372036854775807", "-9223372036854775808"} {
		p.wantRejected(t, s)
	}
}

func TestParseRejectsMalformed(t *testing.T) {
	list := []string{
		"", "-", "--1", "+", "+1", "+0", "-0", "-00", "00", "01", "007", "-007",
		" 1", "1 ", " ", "1 2", "\t1", "1\n", "\x001", "1\x00",
		"1_0", "1,0", "1.0", "1e3", "0x1", "0b1", "0o1", "1-", "1-1", "a", "a1", "1a",
		"\xff", "1\xff", "\u0661", "\uff11", "\u22121",
		strings.Repeat("0", 1000), strings.Repeat("9", 1000), "-" + strings.Repeat("9", 1000),
		// These would be small integers if the sum wrapped around.
		"9223372036854775808", "18446744073709551616", "18446744073709551617",
		"-9223372036854775809", "-18446744073709551617", "340282366920938463463374607431768211457",
	}
	for _, p := range parsers() {
		for _, s := range list {
			p.wantRejected(t, s)
		}
	}
}

func TestParseInvertsFormat(t *testing.T) {
	numbers := []int{math.MinInt, math.MinInt + 1, math.MaxInt, math.MaxInt - 1}
	for n := -1200; n <= 1200; n++ {
		numbers = append(numbers, n)
	}
	for _, limit := range []int{10000, 999999, 1000000, 1 << 32, 999999999999, 1000000000000} {
		for d := -2; d <= 2; d++ {
			numbers = append(numbers, limit+d, -limit+d)
		}
	}
	for _, p := range parsers() {
		for _, n := range numbers {
			s := impl.FormatInt(n)
			if s != strconv.FormatInt(int64(n), 10) {
				t.Errorf("FormatInt(%d) = %q", n, s)
			}
			if n >= p.low && n <= p.high {
				p.wantAccepted(t, s, n)
			} else {
				p.wantRejected(t, s)
			}
		}
	}
}

// words returns all strings of at most size characters of the alphabet.
func words(alphabet string, size int) []string {
	list := []string{""}
	last := list
	for range size {
		var next []string
		for _, w := range last {
			for i := range len(alphabet) {
				next = append(next, w+alphabet[i:i+1])
			}
		}
		list = append(list, next...)
		last = next
	}
	return list
}

func TestParseAcceptsNothingElse(t *testing.T) {
	known := map[string]int{}
	for n := -9999; n <= 99999; n++ {
		known[strconv.Itoa(n)] = n
	}
	for _, p := range parsers() {
		for _, s := range words("-+ 019", 5) {
			n, ok := known[s]
			if ok && n >= p.low && n <= p.high {
				p.wantAccepted(t, s, n)
			} else {
				p.wantRejected(t, s)
			}
		}
	}
}

func TestSplitByte(t *testing.T) {
	cases := []struct {
		s    string
		by   byte
		want []string
	}{
		{"", ',', []string{""}},
		{"abc", ',', []string{"abc"}},
		{"a,b", ',', []string{"a", "b"}},
		{",", ',', []string{"", ""}},
		{",a", ',', []string{"", "a"}},
		{"a,", ',', []string{"a", ""}},
		{",a,", ',', []string{"", "a", ""}},
		{"a,,b", ',', []string{"a", "", "b"}},
		{",,", ',', []string{"", "", ""}},
		{"a b\nc d\n", '\n', []string{"a b", "c d", ""}},
		{"a\x00b", 0, []string{"a", "b"}},
		// A separator above 127 is one byte, also inside of a longer character.
		{"a\xffb", 0xff, []string{"a", "b"}},
		{"\u00ff", 0xff, []string{"\u00ff"}},
		{"\u00e9x", 0xc3, []string{"", "\xa9x"}},
		{"\u00e9x", 0xe9, []string{"\u00e9x"}},
		{"\u00e9,\xfe", ',', []string{"\u00e9", "\xfe"}},
	}
	for _, c := range cases {
		if got := impl.SplitByte(c.s, c.by); !slices.Equal(got, c.want) {
			t.Errorf("SplitByte(%q, %q) = %q, want %q", c.s, c.by, got, c.want)
		}
	}
}

func TestJoin(t *testing.T) {
	cases := []struct {
		list []string
		by   string
		want string
	}{
		{nil, ",", ""},
		{[]string{}, ",", ""},
		{[]string{""}, ",", ""},
		{[]string{"a"}, ",", "a"},
		{[]string{"", ""}, ",", ","},
		{[]string{"a", "b"}, ",", "a,b"},
		{[]string{"a", "", "b"}, ",", "a,,b"},
		{[]string{"", "a", ""}, " | ", " | a | "},
		{[]string{"a", "b", "c"}, "", "abc"},
		{[]string{"a,b", "c"}, ",", "a,b,c"},
		{[]string{"\xff", "\u00e9"}, "\x80", "\xff\x80\u00e9"},
	}
	for _, c := range cases {
		if got := impl.Join(c.list, c.by); got != c.want {
			t.Errorf("Join(%q, %q) = %q, want %q", c.list, c.by, got, c.want)
		}
	}
}

func TestJoinInvertsSplit(t *testing.T) {
	for _, s := range words(",a\xff", 6) {
		for _, by := range []byte{',', 'a', 0xff, 'z', 0} {
			sep := string([]byte{by})
			parts := impl.SplitByte(s, by)
			if len(parts) != strings.Count(s, sep)+1 {
				t.Errorf("SplitByte(%q, %q) has %d elements", s, by, len(parts))
			}
			for _, x := range parts {
				if strings.Contains(x, sep) {
					t.Errorf("SplitByte(%q, %q) has the element %q", s, by, x)
				}
			}
			if got := impl.Join(parts, sep); got != s {
				t.Errorf("Join(SplitByte(%q, %q)) = %q", s, by, got)
			}
		}
	}
}

func TestSplitInvertsJoin(t *testing.T) {
	parts := []string{"", "a", "\u00e9b"}
	lists := [][]string{}
	for _, x := range parts {
		lists = append(lists, []string{x})
		for _, y := range parts {
			lists = append(lists, []string{x, y})
			for _, z := range parts {
				lists = append(lists, []string{x, y, z})
			}
		}
	}
	for _, list := range lists {
		for _, by := range []byte{',', 0, 0xff} {
			s := impl.Join(list, string([]byte{by}))
			if got := impl.SplitByte(s, by); !slices.Equal(got, list) {
				t.Errorf("SplitByte(Join(%q), %q) = %q", list, by, got)
			}
		}
	}
}

func TestJoinKeepsItsArgument(t *testing.T) {
	room := []string{"a", "b", "c", "d"}
	if got := impl.Join(room[:2], ","); got != "a,b" {
		t.Errorf("Join = %q, want %q", got, "a,b")
	}
	if !slices.Equal(room, []string{"a", "b", "c", "d"}) {
		t.Errorf("Join changed its argument to %q", room)
	}
}

func TestSplitResultsAreSeparate(t *testing.T) {
	first := impl.SplitByte("a,b", ',')
	first[0] = "x"
	if again := impl.SplitByte("a,b", ','); !slices.Equal(again, []string{"a", "b"}) {
		t.Errorf("SplitByte after a change of an earlier result = %q", again)
	}
}
