package tests

import (
	"math"
	"slices"
	"strconv"
	"strings"
	"testing"

	"loop.example/g00512/impl"
)

type parser struct {
	name      string
	parse     func(string) (int, bool)
	low, high int
}

func parsers() []parser {
	return []parser{
		{"ParseNumber", impl.ParseNumber, 0, 999999},
		{"ParseInt", impl.ParseInt, -999999999999, 999999999999},
	}
}

func (p parser) accepts(t *testing.T, s string, want int) {
	t.Helper()
	if n, ok := p.parse(s); n != want || !ok {
		t.Errorf("%s(%q) = %d, %v; want %d, true", p.name, s, n, ok, want)
	}
}

func (p parser) rejects(t *testing.T, s string) {
	t.Helper()
	if n, ok := p.parse(s); n != 0 || ok {
		t.Errorf("%s(%q) = %d, %v; want 0, false", p.name, s, n, ok)
	}
}

func TestFormatInt(t *testing.T) {
	cases := []struct {
		n    int
		want string
	}{
		{0, "0"}, {7, "7"}, {-5, "-5"}, {10, "10"}, {-10, "-10"}, {100, "100"}, {-70, "-70"},
		{1234567890, "1234567890"}, {999999, "999999"}, {-999999999999, "-999999999999"},
		{math.MaxInt, "9223372036854775807"},
		{math.MinInt + 1, "-9223372036854775807"},
		{math.MinInt, "-9223372036854775808"},
	}
	for _, c := range cases {
		if got := impl.FormatInt(c.n); got != c.want {
			t.Errorf("FormatInt(%d) = %q; want %q", c.n, got, c.want)
		}
	}
}

func TestParseInvertsFormat(t *testing.T) {
	for _, p := range parsers() {
		for n := -1100; n <= 1100; n++ {
			checkParse(t, p, n)
		}
		for power := 1; power <= 1000000000000; power *= 10 {
			for d := -2; d <= 2; d++ {
				checkParse(t, p, power+d)
				checkParse(t, p, -power+d)
			}
		}
		checkParse(t, p, math.MaxInt)
		checkParse(t, p, math.MinInt)
	}
}

// checkParse: the decimal representation of n is accepted exactly within the bounds of p.
func checkParse(t *testing.T, p parser, n int) {
	t.Helper()
	s := strconv.Itoa(n)
	if impl.FormatInt(n) != s {
		t.Errorf("FormatInt(%d) = %q", n, impl.FormatInt(n))
	}
	if p.low <= n && n <= p.high {
		p.accepts(t, s, n)
	} else {
		p.rejects(t, s)
	}
}

func TestParseBounds(t *testing.T) {
	number, integer := parsers()[0], parsers()[1]
	number.accepts(t, "0", 0)
	number.accepts(t, "999999", 999999)
	number.rejects(t, "1000000")
	number.rejects(t, "-1")
	integer.accepts(t, "-999999999999", -999999999999)
	integer.accepts(t, "999999999999", 999999999999)
	integer.rejects(t, "1000000000000")
	integer.rejects(t, "-1000000000000")
	integer.rejects(t, "-9223372036854775808")
}

func TestParseRejectsMalformed(t *testing.T) {
	malformed := []string{
		"", "007", "00", "01", "-0", "-00", "-01", "-007", "+", "-", "+0", "+1", "--1", "-+1", "1-", "1-1",
		" ", " 1", "1 ", "- 1", "\t1", "1\n", "\x001", "1\x00", "a", "1a", "a1", "0x1", "0b1", "0o7", "1_0",
		"1e3", "1.", "1.0", ".5", "1,000", "NaN", "Inf", "\xff", "1\xff", "\xb1", "\uff11", "\u0661", "\u22121", "/", ":",
		// These become small numbers where 64 bits wrap around.
		"9223372036854775808", "18446744073709551616", "18446744073709551617", "-18446744073709551615",
		"184467440737095516160", "340282366920938463463374607431768211457", strings.Repeat("9", 5000),
		strings.Repeat("0", 5000), strings.Repeat("0", 5000) + "1",
	}
	for _, p := range parsers() {
		for _, s := range malformed {
			p.rejects(t, s)
		}
	}
}

func TestParseAcceptsOnlyFormatted(t *testing.T) {
	for _, p := range parsers() {
		for _, s := range stringsOf("-+019 ", 4) {
			n, err := strconv.Atoi(s)
			if err == nil && strconv.Itoa(n) == s && n >= p.low {
				p.accepts(t, s, n)
			} else {
				p.rejects(t, s)
			}
		}
	}
}

// stringsOf returns all strings over these bytes of at most this length.
func stringsOf(alphabet string, length int) []string {
	all := []string{""}
	for start := 0; length > 0; length-- {
		end := len(all)
		for _, s := range all[start:end] {
			for i := range len(alphabet) {
				all = append(all, s+alphabet[i:i+1])
			}
		}
		start = end
	}
	return all
}

func TestSplitByte(t *testing.T) {
	cases := []struct {
		s    string
		by   byte
		want []string
	}{
		{"", ',', []string{""}},
		{"", 0, []string{""}},
		{"", 0xff, []string{""}},
		{"a", ',', []string{"a"}},
		{",", ',', []string{"", ""}},
		{",,", ',', []string{"", "", ""}},
		{",a", ',', []string{"", "a"}},
		{"a,", ',', []string{"a", ""}},
		{"a,b,,cd", ',', []string{"a", "b", "", "cd"}},
		{"one\ntwo\n", '\n', []string{"one", "two", ""}},
		{"a\x00b", 0, []string{"a", "b"}},
		{"a\xffb\xff", 0xff, []string{"a", "b", ""}},
		{"a\x80b", 0x80, []string{"a", "b"}},
		// A byte within the encoding of a rune separates as well; the rune with its number does not.
		{"\u00e9", 0xa9, []string{"\xc3", ""}},
		{"\u00e9", 0xe9, []string{"\u00e9"}},
	}
	for _, c := range cases {
		if got := impl.SplitByte(c.s, c.by); !slices.Equal(got, c.want) {
			t.Errorf("SplitByte(%q, %q) = %q; want %q", c.s, c.by, got, c.want)
		}
	}
}

func TestJoin(t *testing.T) {
	cases := []struct {
		list []string
		by   string
		want string
	}{
		{nil, "-", ""},
		{[]string{}, "-", ""},
		{[]string{""}, "-", ""},
		{[]string{"a"}, "-", "a"},
		{[]string{"", ""}, "-", "-"},
		{[]string{"a", "b"}, "-", "a-b"},
		{[]string{"a", "", "b", ""}, "-", "a--b-"},
		{[]string{"a", "b", "c"}, "", "abc"},
		{[]string{"a", "b", "c"}, ", ", "a, b, c"},
		{[]string{"\xff", "\u00e9"}, "\x00", "\xff\x00\u00e9"},
	}
	for _, c := range cases {
		if got := impl.Join(c.list, c.by); got != c.want {
			t.Errorf("Join(%q, %q) = %q; want %q", c.list, c.by, got, c.want)
		}
	}
}

func TestJoinInvertsSplit(t *testing.T) {
	for _, s := range stringsOf(",a\xff\x00", 5) {
		for _, by := range []byte{',', 'a', 0xff, 0, 'b'} {
			parts := impl.SplitByte(s, by)
			separator := string([]byte{by})
			if len(parts) != strings.Count(s, separator)+1 {
				t.Errorf("SplitByte(%q, %q) has %d elements", s, by, len(parts))
			}
			if got := impl.Join(parts, separator); got != s {
				t.Errorf("Join of SplitByte(%q, %q) = %q", s, by, got)
			}
		}
	}
}

func TestSplitInvertsJoin(t *testing.T) {
	for b := range 256 {
		by := byte(b)
		text := []string{"", "x" + string([]byte{by + 1}), "", "y\u00e9\u20ac", "z"}
		var list []string
		for _, s := range text {
			list = append(list, strings.ReplaceAll(s, string([]byte{by}), ""))
			joined := impl.Join(list, string([]byte{by}))
			if got := impl.SplitByte(joined, by); !slices.Equal(got, list) {
				t.Errorf("SplitByte(%q, %q) = %q; want %q", joined, by, got, list)
			}
		}
	}
}

func TestSplitAndJoinShareNothing(t *testing.T) {
	first := impl.SplitByte("a,b", ',')
	second := impl.SplitByte("a,b", ',')
	first[0] = "changed"
	if second[0] != "a" {
		t.Error("two results of SplitByte share memory")
	}
	back := []string{"a", "b", "spare"}
	if impl.Join(back[:2], ",") != "a,b" || !slices.Equal(back, []string{"a", "b", "spare"}) {
		t.Errorf("Join changed its argument: %q", back)
	}
}
