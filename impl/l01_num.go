package impl

import (
	"strconv"
	"strings"
)

const (
	maxNumber  = 999999
	maxInteger = 999999999999
)

func FormatInt(n int) string {
	return strconv.Itoa(n)
}

func ParseNumber(s string) (n int, ok bool) {
	defer func() {
		if recover() != nil {
			n, ok = 0, false
		}
	}()
	return mustParse(s, 0, maxNumber), true
}

func ParseInt(s string) (n int, ok bool) {
	defer func() {
		if recover() != nil {
			n, ok = 0, false
		}
	}()
	return mustParse(s, -maxInteger, maxInteger), true
}

// mustParse panics if no integer from low to high has the representation s.
func mustParse(s string, low int, high int) int {
	n, err := strconv.Atoi(s)
	// Atoi also reads "007", "+7" and "-0", which FormatInt never returns.
	if err != nil || n < low || n > high || FormatInt(n) != s {
		panic("malformed integer")
	}
	return n
}

func SplitByte(s string, by byte) []string {
	// string(by) would be the UTF-8 encoding of a rune: two bytes from 128 on.
	return strings.Split(s, string([]byte{by}))
}

func Join(list []string, by string) string {
	return strings.Join(list, by)
}
