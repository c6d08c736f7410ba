package tests

import (
	"regexp"
	"slices"
	"strings"
	"testing"

	"loop.example/g00515/impl"
)

func reserved() []string { return []string{"fun", "pre", "rule", "return", "nil"} }

// besideReserved returns words that differ a little from the reserved ones.
func besideReserved() []string {
	list := []string{"", "list", "int", "accept", "show", "fn", "no", "null", "call"}
	for _, w := range reserved() {
		list = append(list,
			w+"s", w+"1", w+" ", w+"\n", w+"\x00", w+w, "a"+w, " "+w,
			w[:len(w)-1], w[1:], strings.ToUpper(w), strings.ToUpper(w[:1])+w[1:], w[:len(w)-1]+"\xff")
	}
	return list
}

func TestIsReserved(t *testing.T) {
	for _, s := range reserved() {
		if !impl.IsReserved(s) {
			t.Errorf("IsReserved(%q) = false", s)
		}
	}
	for _, s := range besideReserved() {
		if impl.IsReserved(s) {
			t.Errorf("IsReserved(%q) = true", s)
		}
	}
}

func TestMaxName(t *testing.T) {
	if impl.MaxName != 8 {
		t.Errorf("MaxName = %d, want 8", impl.MaxName)
	}
}

func TestIsValidName(t *testing.T) {
	accepted := []string{
		"a", "n", "z", "s", "x1", "z9", "a0", "a1b2", "xs", "rev", "list", "int", "abcdefgh", "a1234567", "ssssssss",
		"funs", "fun1", "rules", "return1", "nil0", "prefix", "fu", "ni", "retur", "xnil",
	}
	for _, s := range accepted {
		if !impl.IsValidName(s) {
			t.Errorf("IsValidName(%q) = false", s)
		}
	}
	rejected := []string{
		"", "abcdefghi", "a12345678", "toolongna", strings.Repeat("a", 1000),
		"1", "1a", "0abcdefg", "A", "Ab", "aB", "abcdefgH", "_", "_a", "a_", "a_b",
		"\xff", "\xffa", "a\xff", "\u00e9", "\u00e9a", "a\u00e9", "a\u0661", "\uff41", "a\uff11",
		" ", " a", "a ", "a b", "a\n", "\x00", "a\x00", "-a", "a-b", "a:b",
	}
	for _, s := range rejected {
		if impl.IsValidName(s) {
			t.Errorf("IsValidName(%q) = true", s)
		}
	}
}

func TestValidNamesAreNotReserved(t *testing.T) {
	for _, s := range reserved() {
		if impl.IsValidName(s) || impl.IsListName(s) {
			t.Errorf("the reserved word %q is a valid name", s)
		}
	}
}

func TestNameLength(t *testing.T) {
	for size := range 2*impl.MaxName + 2 {
		for _, s := range []string{strings.Repeat("a", size), strings.Repeat("s", size), "z" + strings.Repeat("9", size)} {
			if got := impl.IsValidName(s); got != (len(s) >= 1 && len(s) <= impl.MaxName) {
				t.Errorf("IsValidName(%q) = %t", s, got)
			}
		}
	}
}

// nameForm describes valid names, but for the reserved words.
var nameForm = regexp.MustCompile(`^[a-z][a-z0-9]{0,7}$`)

func wantNameKind(t *testing.T, s string) {
	t.Helper()
	want := nameForm.MatchString(s) && !slices.Contains(reserved(), s)
	if got := impl.IsValidName(s); got != want {
		t.Errorf("IsValidName(%q) = %t, want %t", s, got, want)
	}
	want = want && strings.HasSuffix(s, "s")
	if got := impl.IsListName(s); got != want {
		t.Errorf("IsListName(%q) = %t, want %t", s, got, want)
	}
}

func TestNamesAtEveryByte(t *testing.T) {
	for _, name := range []string{"a", "xs", "abs", "abcdefgh", "abcdefgs", "a1234567"} {
		for i := range len(name) {
			for b := range 256 {
				changed := []byte(name)
				changed[i] = byte(b)
				wantNameKind(t, string(changed))
			}
		}
	}
}

func TestNamesOfAllForms(t *testing.T) {
	for _, s := range words("azs09A_\xe9", 4) {
		wantNameKind(t, s)
		wantNameKind(t, "abcd"+s)
		wantNameKind(t, "abcde"+s)
	}
	for _, s := range besideReserved() {
		wantNameKind(t, s)
	}
}

func TestIsListName(t *testing.T) {
	for _, s := range []string{"s", "ss", "xs", "x1s", "funs", "nils", "abcdefgs"} {
		if !impl.IsListName(s) {
			t.Errorf("IsListName(%q) = false", s)
		}
	}
	rejected := []string{
		"", "n", "s1", "sx", "xsn", "abcdefgh", "sssssss1", "fun", "pre", "rule", "return", "nil",
		"abcdefghs", "1s", "Xs", "xS", "S", "_s", "x_s", "\xffs", "\u00e9s", " s", "xs ", "xs\n",
	}
	for _, s := range rejected {
		if impl.IsListName(s) {
			t.Errorf("IsListName(%q) = true", s)
		}
	}
}

func TestIndexOf(t *testing.T) {
	cases := []struct {
		list []string
		s    string
		want int
	}{
		{nil, "a", -1},
		{nil, "", -1},
		{[]string{}, "a", -1},
		{[]string{"a"}, "a", 0},
		{[]string{"a"}, "b", -1},
		{[]string{"a"}, "", -1},
		{[]string{"a", "b", "c"}, "c", 2},
		{[]string{"a", "b", "c", "b", "b"}, "b", 1},
		{[]string{"b", "b"}, "b", 0},
		{[]string{"a", ""}, "", 1},
		{[]string{"ab", "A", "a", "a"}, "a", 2},
		{[]string{"abc", "b"}, "ab", -1},
		{[]string{"\xfe", "\xff"}, "\xff", 1},
	}
	for _, c := range cases {
		if got := impl.IndexOf(c.list, c.s); got != c.want {
			t.Errorf("IndexOf(%q, %q) = %d, want %d", c.list, c.s, got, c.want)
		}
	}
}

func TestAllDistinct(t *testing.T) {
	cases := []struct {
		list []string
		want bool
	}{
		{nil, true},
		{[]string{}, true},
		{[]string{"a"}, true},
		{[]string{""}, true},
		{[]string{"b", "a"}, true},
		{[]string{"c", "", "a", "b"}, true},
		{[]string{"a", "ab", "abc", "A", "a "}, true},
		{[]string{"\xfe", "\xff"}, true},
		{[]string{"a", "a"}, false},
		{[]string{"", ""}, false},
		{[]string{"b", "a", "a"}, false},
		{[]string{"a", "a", "b"}, false},
		{[]string{"a", "b", "a"}, false},
		{[]string{"c", "a", "b", "c"}, false},
		{[]string{"", "a", "b", ""}, false},
		{[]string{"a", "a", "a"}, false},
	}
	for _, c := range cases {
		if got := impl.AllDistinct(c.list); got != c.want {
			t.Errorf("AllDistinct(%q) = %t, want %t", c.list, got, c.want)
		}
	}
}

func TestSortNames(t *testing.T) {
	cases := []struct {
		list []string
		want []string
	}{
		{nil, nil},
		{[]string{}, nil},
		{[]string{"a"}, []string{"a"}},
		{[]string{""}, []string{""}},
		{[]string{"", ""}, []string{""}},
		{[]string{"a", "b", "c"}, []string{"a", "b", "c"}},
		{[]string{"c", "b", "a"}, []string{"a", "b", "c"}},
		{[]string{"y", "x", "y"}, []string{"x", "y"}},
		{[]string{"a", "a", "a"}, []string{"a"}},
		{[]string{"b", "a", "b", "a", "b"}, []string{"a", "b"}},
		{[]string{"b", "", "a", ""}, []string{"", "a", "b"}},
		{[]string{"abc", "ab", "b", "a"}, []string{"a", "ab", "abc", "b"}},
		{[]string{"x10", "x2", "x1", "x"}, []string{"x", "x1", "x10", "x2"}},
		{[]string{"a", "B", "_", "1", "b"}, []string{"1", "B", "_", "a", "b"}},
		{[]string{"\xff", "\u00e9", "z", "\x80", "\uffff", "\U00010000"}, []string{"z", "\x80", "\u00e9", "\uffff", "\U00010000", "\xff"}},
	}
	for _, c := range cases {
		if got := impl.SortNames(c.list); !slices.Equal(got, c.want) {
			t.Errorf("SortNames(%q) = %q, want %q", c.list, got, c.want)
		}
	}
}

func TestWithout(t *testing.T) {
	cases := []struct {
		list   []string
		remove []string
		want   []string
	}{
		{nil, nil, nil},
		{[]string{}, []string{}, nil},
		{nil, []string{"a"}, nil},
		{[]string{"b", "a"}, nil, []string{"b", "a"}},
		{[]string{"b", "a", "b"}, []string{}, []string{"b", "a", "b"}},
		{[]string{"c", "a", "c", "b"}, []string{"d"}, []string{"c", "a", "c", "b"}},
		{[]string{"a", "b", "a", "c"}, []string{"a"}, []string{"b", "c"}},
		{[]string{"c", "b", "c", "a", "b"}, []string{"b"}, []string{"c", "c", "a"}},
		{[]string{"a", "b", "c", "d"}, []string{"d", "a", "a"}, []string{"b", "c"}},
		{[]string{"a", "b", "a"}, []string{"b", "a"}, nil},
		{[]string{"a", "a"}, []string{"a"}, nil},
		{[]string{"a", "", "b", ""}, []string{""}, []string{"a", "b"}},
		{[]string{"a", "", "b"}, []string{"a"}, []string{"", "b"}},
		{[]string{"ab", "abc", "A"}, []string{"a", "b", "abcd"}, []string{"ab", "abc", "A"}},
	}
	for _, c := range cases {
		if got := impl.Without(c.list, c.remove); !slices.Equal(got, c.want) {
			t.Errorf("Without(%q, %q) = %q, want %q", c.list, c.remove, got, c.want)
		}
	}
}

// nameLists returns all lists of at most four of some strings.
func nameLists() [][]string {
	parts := []string{"b", "", "a", "ab", "\xff"}
	lists := [][]string{nil}
	last := lists
	for range 4 {
		var next [][]string
		for _, list := range last {
			for _, s := range parts {
				next = append(next, append(slices.Clone(list), s))
			}
		}
		lists = append(lists, next...)
		last = next
	}
	return lists
}

func TestSortedNamesAscend(t *testing.T) {
	for _, list := range nameLists() {
		sorted := impl.SortNames(list)
		for i := 1; i < len(sorted); i++ {
			if sorted[i-1] >= sorted[i] {
				t.Errorf("SortNames(%q) = %q is not ascending", list, sorted)
			}
		}
		for _, s := range list {
			if !slices.Contains(sorted, s) {
				t.Errorf("SortNames(%q) = %q lacks %q", list, sorted, s)
			}
		}
		for _, s := range sorted {
			if !slices.Contains(list, s) {
				t.Errorf("SortNames(%q) = %q has %q", list, sorted, s)
			}
		}
		if !impl.AllDistinct(sorted) || !slices.Equal(impl.SortNames(sorted), sorted) {
			t.Errorf("SortNames(%q) = %q is not sorted already", list, sorted)
		}
		if got := impl.AllDistinct(list); got != (len(sorted) == len(list)) {
			t.Errorf("AllDistinct(%q) = %t", list, got)
		}
	}
}

func TestIndexOfIsTheFirst(t *testing.T) {
	for _, list := range nameLists() {
		for _, s := range []string{"b", "", "a", "ab", "\xff", "c"} {
			i := impl.IndexOf(list, s)
			if i == -1 {
				i = len(list)
			} else if i < 0 || i >= len(list) || list[i] != s {
				t.Fatalf("IndexOf(%q, %q) = %d", list, s, i)
			}
			if slices.Contains(list[:i], s) {
				t.Errorf("IndexOf(%q, %q) is not the first index", list, s)
			}
		}
	}
}

func TestWithoutKeepsTheRest(t *testing.T) {
	removed := [][]string{nil, {""}, {"a", "b"}, {"c", "ab", "c"}, {"\xff", "", "b", "a", "ab"}}
	for _, list := range nameLists() {
		for _, remove := range removed {
			want := slices.DeleteFunc(slices.Clone(list), func(s string) bool { return slices.Contains(remove, s) })
			if got := impl.Without(list, remove); !slices.Equal(got, want) {
				t.Errorf("Without(%q, %q) = %q, want %q", list, remove, got, want)
			}
		}
		if got := impl.Without(list, list); len(got) != 0 {
			t.Errorf("Without(%q, itself) = %q", list, got)
		}
	}
}

// room returns names that are neither sorted nor distinct, of which a test
// passes only a beginning, so that the others are unused capacity.
func room() []string { return []string{"c", "b", "c", "a", "b", "y", "x", "y"} }

func TestNamesKeepTheirArguments(t *testing.T) {
	for size := range len(room()) + 1 {
		list, other := room(), room()
		impl.IndexOf(list[:size], "b")
		impl.IndexOf(list[:size], "none")
		impl.AllDistinct(list[:size])
		impl.SortNames(list[:size])
		for part := range len(other) + 1 {
			impl.Without(list[:size], other[:part])
			impl.Without(list[:size], list[:part])
		}
		if !slices.Equal(list, room()) || !slices.Equal(other, room()) {
			t.Errorf("arguments of %d elements changed to %q, %q", size, list, other)
		}
	}
}

// overwrite changes everything that can be reached from a result.
func overwrite(list []string) {
	list = list[:cap(list)]
	for i := range list {
		list[i] = "changed"
	}
}

func TestNameResultsAreSeparate(t *testing.T) {
	removed := [][]string{nil, {"z"}, {"c"}, {"c", "b", "a"}}
	for size := range len(room()) + 1 {
		list := room()
		first, second := impl.SortNames(list[:size]), impl.SortNames(list[:size])
		want := slices.Clone(second)
		overwrite(first)
		if !slices.Equal(list, room()) || !slices.Equal(second, want) || !slices.Equal(impl.SortNames(list[:size]), want) {
			t.Errorf("a change of a result of SortNames changed %q or %q", list, second)
		}
		for _, remove := range removed {
			gone := slices.Clone(remove)
			first, second := impl.Without(list[:size], gone), impl.Without(list[:size], gone)
			want := slices.Clone(second)
			overwrite(first)
			if !slices.Equal(list, room()) || !slices.Equal(gone, remove) || !slices.Equal(second, want) {
				t.Errorf("a change of a result of Without changed %q, %q or %q", list, gone, second)
			}
		}
	}
}

func TestSortedArgumentIsNotShared(t *testing.T) {
	list := []string{"a", "b", "c"}
	overwrite(impl.SortNames(list))
	overwrite(impl.Without(list, nil))
	if !slices.Equal(list, []string{"a", "b", "c"}) {
		t.Errorf("a change of a result changed the argument to %q", list)
	}
}
