package impl

import (
	"errors"
	"strconv"
	"strings"
)

const (
	largestNumber = 999999
	largestInt    = 999999999999
)

var errMalformed = errors.New("malformed integer")

// FormatInt returns the decimal representation of n.
func FormatInt(n int) string { return strconv.Itoa(n) }

// ParseNumber returns the integer from 0 to 999999 whose FormatInt is s.
func ParseNumber(s string) (n int, ok bool) {
	defer func() {
		if recover() != nil {
			n, ok = 0, false
		}
	}()
	return mustParse(s, 0, largestNumber), true
}

// ParseInt returns the integer from -999999999999 to 999999999999 whose
// FormatInt is s.
func ParseInt(s string) (n int, ok bool) {
	defer func() {
		if recover() != nil {
			n, ok = 0, false
		}
	}()
	return mustParse(s, -largestInt, largestInt), true
}

// mustParse panics if no integer from low to high has the FormatInt s.
func mustParse(s string, low int, high int) int {
	n, err := strconv.Atoi(s)
	if err != nil || n < low || n > high {
		panic(errMalformed)
	}
	// Atoi also reads forms that FormatInt never writes: "007", "-0", "+1".
	if FormatInt(n) != s {
		panic(errMalformed)
	}
	return n
}

// SplitByte returns the substrings of s between the occurrences of by.
func SplitByte(s string, by byte) []string {
	// string(by) would be the two bytes of a rune for a byte above 127.
	return strings.Split(s, string([]byte{by}))
}

// Join concatenates the elements of list with by between them.
func Join(list []string, by string) string { return strings.Join(list, by) }
