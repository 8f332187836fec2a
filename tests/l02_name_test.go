package tests

import (
	"slices"
	"strings"
	"testing"

	"loop.example/g00512/impl"
)

func reserved() []string {
	return []string{"if", "then", "else", "true", "false", "lit", "none", "self", "of", "max", "min", "with", "has"}
}

func TestIsReserved(t *testing.T) {
	for _, s := range reserved() {
		if !impl.IsReserved(s) {
			t.Errorf("IsReserved(%q) = false", s)
		}
		for _, other := range []string{s + " ", " " + s, s + "x", s[1:], s[:len(s)-1], strings.ToUpper(s), s + "\x00"} {
			if impl.IsReserved(other) {
				t.Errorf("IsReserved(%q) = true", other)
			}
		}
	}
	for _, s := range []string{"", "a", "symbol", "rule", "eq", "put", "num", "set", "bool", "node", "and", "or", "not"} {
		if impl.IsReserved(s) {
			t.Errorf("IsReserved(%q) = true", s)
		}
	}
}

func TestIsValidName(t *testing.T) {
	valid := []string{
		"a", "z", "a0", "z9", "ab", "abcdefgh", "a1234567", "zzzzzzzz", "symbol", "rule", "eq", "put", "iff", "lit1",
		"the", "els", "num", "m",
	}
	for _, s := range valid {
		if !impl.IsValidName(s) {
			t.Errorf("IsValidName(%q) = false", s)
		}
	}
	invalid := append(reserved(),
		"", "0", "9a", "A", "Z", "aB", "a_b", "a-b", "a b", " a", "a ", "_a", "a.b", "a\n", "a\x00", "\xff", "a\xff",
		"\u00e9", "a\u00e9", "a\u0661", "\uff41", "`", "{", "a/", "a:", "a`", "a{",
		"abcdefghi", "a12345678", strings.Repeat("a", 1000), "toolongname",
	)
	for _, s := range invalid {
		if impl.IsValidName(s) {
			t.Errorf("IsValidName(%q) = true", s)
		}
	}
}

func TestIsValidNameByByte(t *testing.T) {
	letters, digits := "abcdefghijklmnopqrstuvwxyz", "0123456789"
	for b := range 256 {
		s := string([]byte{byte(b)})
		if got := impl.IsValidName(s); got != strings.Contains(letters, s) {
			t.Errorf("IsValidName(%q) = %v", s, got)
		}
		if got := impl.IsValidName("q" + s); got != strings.Contains(letters+digits, s) {
			t.Errorf("IsValidName(%q) = %v", "q"+s, got)
		}
	}
}

// TestNamesOfMaximumLength: the length counts bytes, and a reserved word is none within a longer name.
func TestNamesOfMaximumLength(t *testing.T) {
	if impl.MaxName != 8 {
		t.Errorf("MaxName = %d", impl.MaxName)
	}
	for n := range 20 {
		name := strings.Repeat("x", n)
		if got := impl.IsValidName(name); got != (1 <= n && n <= 8) {
			t.Errorf("IsValidName of %d letters = %v", n, got)
		}
	}
	for _, word := range reserved() {
		padded := (word + "00000000")[:8]
		if !impl.IsValidName(padded) || impl.IsValidName(padded+"0") {
			t.Errorf("IsValidName of %q or one byte more", padded)
		}
	}
}

func TestValidNamesAreNotReserved(t *testing.T) {
	for _, s := range append(stringsOf("iflt09", 4), reserved()...) {
		if impl.IsValidName(s) && impl.IsReserved(s) {
			t.Errorf("%q is both valid and reserved", s)
		}
	}
}

func TestIndexOf(t *testing.T) {
	cases := []struct {
		list []string
		s    string
		want int
	}{
		{nil, "", -1}, {nil, "a", -1}, {[]string{""}, "", 0}, {[]string{"a"}, "", -1},
		{[]string{"a", "b", "a"}, "a", 0}, {[]string{"a", "b", "b"}, "b", 1}, {[]string{"a", "b", "c"}, "c", 2},
		{[]string{"a", "b"}, "ab", -1}, {[]string{"ab"}, "a", -1}, {[]string{"\xff"}, "\xff", 0},
	}
	for _, c := range cases {
		if got := impl.IndexOf(c.list, c.s); got != c.want {
			t.Errorf("IndexOf(%q, %q) = %d; want %d", c.list, c.s, got, c.want)
		}
	}
}

func TestAllDistinct(t *testing.T) {
	cases := []struct {
		list []string
		want bool
	}{
		{nil, true}, {[]string{}, true}, {[]string{""}, true}, {[]string{"", ""}, false}, {[]string{"a", "b"}, true},
		{[]string{"a", "a"}, false}, {[]string{"a", "b", "a"}, false}, {[]string{"b", "a", "c", "c"}, false},
		{[]string{"a", "A", "aa", "", "\x00"}, true}, {[]string{"\xff", "\xfe", "\xff"}, false},
	}
	for _, c := range cases {
		if got := impl.AllDistinct(c.list); got != c.want {
			t.Errorf("AllDistinct(%q) = %v", c.list, got)
		}
	}
}

func TestSortNames(t *testing.T) {
	cases := []struct{ list, want []string }{
		{nil, nil}, {[]string{}, nil}, {[]string{""}, []string{""}}, {[]string{"", ""}, []string{""}},
		{[]string{"b", "a", "b"}, []string{"a", "b"}},
		{[]string{"c", "b", "a"}, []string{"a", "b", "c"}},
		{[]string{"ab", "a", "abc", "b", ""}, []string{"", "a", "ab", "abc", "b"}},
		{[]string{"a", "B", "9", "_"}, []string{"9", "B", "_", "a"}},
		{[]string{"\u00e9", "z", "\xff", "\x00", "\x80"}, []string{"\x00", "z", "\x80", "\u00e9", "\xff"}},
		{[]string{"a10", "a9", "a1"}, []string{"a1", "a10", "a9"}},
	}
	for _, c := range cases {
		if got := impl.SortNames(c.list); !slices.Equal(got, c.want) {
			t.Errorf("SortNames(%q) = %q; want %q", c.list, got, c.want)
		}
	}
}

// TestSortedNamesAscendAndAreDistinct tries all lists of at most 5 of these strings.
func TestSortedNamesAscendAndAreDistinct(t *testing.T) {
	for _, code := range stringsOf("abcd", 5) {
		list := make([]string, len(code))
		for i := range list {
			list[i] = []string{"", "x", "xy", "\xff"}[code[i]-'a']
		}
		sorted := impl.SortNames(list)
		for i := 1; i < len(sorted); i++ {
			if sorted[i-1] >= sorted[i] {
				t.Fatalf("SortNames(%q) = %q does not ascend", list, sorted)
			}
		}
		for _, s := range list {
			if !slices.Contains(sorted, s) {
				t.Fatalf("SortNames(%q) = %q lacks %q", list, sorted, s)
			}
		}
		for _, s := range sorted {
			if !slices.Contains(list, s) {
				t.Fatalf("SortNames(%q) = %q adds %q", list, sorted, s)
			}
		}
		if impl.AllDistinct(list) != (len(sorted) == len(list)) {
			t.Fatalf("AllDistinct(%q) = %v", list, impl.AllDistinct(list))
		}
	}
}

func TestWithout(t *testing.T) {
	cases := []struct{ list, remove, want []string }{
		{nil, nil, nil}, {nil, []string{"a"}, nil}, {[]string{"a"}, nil, []string{"a"}},
		{[]string{"a", "b", "a", "c"}, []string{"a"}, []string{"b", "c"}},
		{[]string{"c", "a", "c", "b"}, []string{"a"}, []string{"c", "c", "b"}},
		{[]string{"a", "b"}, []string{"b", "a", "b", "z"}, nil},
		{[]string{"", "a", ""}, []string{""}, []string{"a"}},
		{[]string{"a", "ab"}, []string{"b", ""}, []string{"a", "ab"}},
	}
	for _, c := range cases {
		if got := impl.Without(c.list, c.remove); !slices.Equal(got, c.want) {
			t.Errorf("Without(%q, %q) = %q; want %q", c.list, c.remove, got, c.want)
		}
	}
}

func TestListFunctionsLeaveTheirArguments(t *testing.T) {
	back := []string{"c", "a", "c", "b", "spare"}
	before := slices.Clone(back)
	sorted := impl.SortNames(back[:4])
	left := impl.Without(back[:4], back[1:2])
	all := impl.Without(back[:4], nil)
	impl.AllDistinct(back[:4])
	sorted[0], left[0], all[0] = "changed", "changed", "changed"
	_ = append(append(sorted, "x"), append(left, "y")...)
	if !slices.Equal(back, before) {
		t.Errorf("the arguments became %q", back)
	}
}
