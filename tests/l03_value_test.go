package tests

import (
	"fmt"
	"math"
	"slices"
	"strings"
	"testing"

	"loop.example/g00512/impl"
)

// someInts contains the bounds of all types and their neighbours.
func someInts() []int {
	return []int{
		math.MinInt, math.MinInt + 1, -4097, -1000001, -1000000, -999999, -1000, -999, -12, -11, -2, -1, 0, 1, 2, 3, 5,
		10, 11, 12, 13, 62, 63, 64, 65, 998, 999, 1000, 2000, 4094, 4095, 4096, 4097, 8191, 999999, 1000000, 1000001,
		1 << 32, 1<<32 + 1, math.MaxInt - 1, math.MaxInt,
	}
}

func allTypes() []int {
	return []int{impl.TypeNumber, impl.TypeSet, impl.TypeBool, impl.TypeNode}
}

func noTypes() []int {
	return []int{math.MinInt, -1, 0, 5, 6, 100, math.MaxInt}
}

func TestConstantsOfValues(t *testing.T) {
	got := []int{
		impl.MaxValue, impl.MaxElement, impl.MaxId, impl.TypeNumber, impl.TypeSet, impl.TypeBool, impl.TypeNode,
		impl.OpAdd, impl.OpSubtract, impl.OpMultiply, impl.OpMax, impl.OpMin, impl.OpUnion, impl.OpMeet, impl.OpMinus,
		impl.OpLess, impl.OpSame, impl.OpHas, impl.OpWith,
	}
	want := []int{1000000, 11, 999, 1, 2, 3, 4, 1, 2, 3, 4, 5, 6, 7, 8, 9, 10, 11, 12}
	if !slices.Equal(got, want) {
		t.Errorf("constants: %v; want %v", got, want)
	}
}

func TestSaturate(t *testing.T) {
	cases := map[int]int{
		0: 0, 7: 7, -7: -7, 999999: 999999, 1000000: 1000000, 1000001: 1000000, -1000000: -1000000,
		-1000001: -1000000, math.MaxInt: 1000000, math.MinInt: -1000000,
	}
	for n, want := range cases {
		if got := impl.Saturate(n); got != want {
			t.Errorf("Saturate(%d) = %d; want %d", n, got, want)
		}
	}
}

// wantCoerced follows the definition of Coerce element by element.
func wantCoerced(v int, kind int) int {
	switch kind {
	case impl.TypeNumber:
		if v > 1000000 {
			return 1000000
		}
		if v < -1000000 {
			return -1000000
		}
		return v
	case impl.TypeSet:
		sum := 0
		for k := range 12 {
			if uint64(v)&(1<<k) != 0 {
				sum += 1 << k
			}
		}
		return sum
	case impl.TypeBool:
		if v != 0 {
			return 1
		}
	case impl.TypeNode:
		if v >= 0 && v <= 999 {
			return v
		}
	}
	return 0
}

func TestCoerceAndIsOfType(t *testing.T) {
	for _, kind := range append(allTypes(), noTypes()...) {
		for _, v := range someInts() {
			want := wantCoerced(v, kind)
			if got := impl.Coerce(v, kind); got != want {
				t.Errorf("Coerce(%d, %d) = %d; want %d", v, kind, got, want)
			}
			is := v == want && slices.Contains(allTypes(), kind)
			if got := impl.IsOfType(v, kind); got != is {
				t.Errorf("IsOfType(%d, %d) = %v", v, kind, got)
			}
		}
	}
}

func TestCoerceCases(t *testing.T) {
	cases := []struct{ v, kind, want int }{
		{-1, impl.TypeSet, 4095}, {4096, impl.TypeSet, 0}, {4097, impl.TypeSet, 1}, {-2, impl.TypeSet, 4094},
		{math.MinInt, impl.TypeSet, 0}, {math.MaxInt, impl.TypeSet, 4095}, {-1, impl.TypeBool, 1},
		{1000, impl.TypeNode, 0}, {999, impl.TypeNode, 999}, {-1, impl.TypeNode, 0}, {0, impl.TypeNode, 0},
		{5, 0, 0}, {5, 5, 0}, {1, -1, 0},
	}
	for _, c := range cases {
		if got := impl.Coerce(c.v, c.kind); got != c.want {
			t.Errorf("Coerce(%d, %d) = %d; want %d", c.v, c.kind, got, c.want)
		}
	}
	for v, want := range map[int]bool{-1: false, 0: true, 1: true, 999: true, 1000: false} {
		if impl.IsOfType(v, impl.TypeNode) != want {
			t.Errorf("IsOfType(%d, node) = %v", v, !want)
		}
	}
}

func TestOperandTypes(t *testing.T) {
	const n, s, b = impl.TypeNumber, impl.TypeSet, impl.TypeBool
	want := map[int][3]int{
		impl.OpAdd: {n, n, n}, impl.OpSubtract: {n, n, n}, impl.OpMultiply: {n, n, n}, impl.OpMax: {n, n, n},
		impl.OpMin: {n, n, n}, impl.OpUnion: {s, s, s}, impl.OpMeet: {s, s, s}, impl.OpMinus: {s, s, s},
		impl.OpLess: {n, n, b}, impl.OpSame: {n, n, b}, impl.OpHas: {s, n, b}, impl.OpWith: {s, n, s},
	}
	for _, op := range append(someInts(), 4, 6, 7, 8, 9, 14) {
		left, right, result := impl.OperandTypes(op)
		if got := [3]int{left, right, result}; got != want[op] {
			t.Errorf("OperandTypes(%d) = %v; want %v", op, got, want[op])
		}
	}
}

// wantApplied applies an operator to operands of its types, sets as lists of truth values.
func wantApplied(op int, a int, b int) int {
	in := func(set int, k int) bool { return k >= 0 && k <= 11 && set/(1<<k)%2 == 1 }
	build := func(member func(k int) bool) int {
		sum := 0
		for k := range 12 {
			if member(k) {
				sum += 1 << k
			}
		}
		return sum
	}
	truth := map[bool]int{false: 0, true: 1}
	switch op {
	case impl.OpAdd:
		return wantCoerced(a+b, impl.TypeNumber)
	case impl.OpSubtract:
		return wantCoerced(a-b, impl.TypeNumber)
	case impl.OpMultiply:
		return wantCoerced(a*b, impl.TypeNumber)
	case impl.OpMax, impl.OpMin:
		if (a > b) == (op == impl.OpMax) {
			return a
		}
		return b
	case impl.OpUnion:
		return build(func(k int) bool { return in(a, k) || in(b, k) })
	case impl.OpMeet:
		return build(func(k int) bool { return in(a, k) && in(b, k) })
	case impl.OpMinus:
		return build(func(k int) bool { return in(a, k) && !in(b, k) })
	case impl.OpLess:
		return truth[a < b]
	case impl.OpSame:
		return truth[a == b]
	case impl.OpHas:
		return truth[in(a, b)]
	case impl.OpWith:
		return build(func(k int) bool { return in(a, k) || k == b })
	}
	return 0
}

// TestApplyOp includes all operands that do not have their types.
func TestApplyOp(t *testing.T) {
	for op := -2; op <= 15; op++ {
		left, right, result := impl.OperandTypes(op)
		for _, a := range someInts() {
			for _, b := range someInts() {
				want := wantApplied(op, wantCoerced(a, left), wantCoerced(b, right))
				got := impl.ApplyOp(op, a, b)
				if got != want {
					t.Fatalf("ApplyOp(%d, %d, %d) = %d; want %d", op, a, b, got, want)
				}
				if result != 0 && !impl.IsOfType(got, result) {
					t.Fatalf("ApplyOp(%d, %d, %d) = %d is not of type %d", op, a, b, got, result)
				}
			}
		}
	}
}

func TestApplyOpCases(t *testing.T) {
	cases := [][4]int{
		{impl.OpAdd, 999999, 2, 1000000}, {impl.OpAdd, math.MaxInt, math.MinInt, 0}, {impl.OpAdd, math.MaxInt, 1, 1000000},
		{impl.OpSubtract, 3, 5, -2}, {impl.OpSubtract, math.MinInt, 1, -1000000},
		{impl.OpMultiply, 2000, -2000, -1000000}, {impl.OpMultiply, math.MaxInt, 2, 1000000}, {impl.OpMultiply, -3, 4, -12},
		{impl.OpMax, -5, 2, 2}, {impl.OpMin, -5, 2, -5}, {impl.OpMin, math.MaxInt, 1000000, 1000000},
		{impl.OpUnion, 5, 2, 7}, {impl.OpUnion, 4096, 1, 1}, {impl.OpMeet, 6, 3, 2}, {impl.OpMeet, -1, 4095, 4095},
		{impl.OpMinus, 7, 2, 5}, {impl.OpMinus, 2, 7, 0}, {impl.OpMinus, 7, 4096, 7},
		{impl.OpLess, 1, 2, 1}, {impl.OpLess, 2, 2, 0}, {impl.OpLess, 1000000, 1000001, 0},
		{impl.OpSame, 1000001, 1000002, 1}, {impl.OpSame, 2, 3, 0},
		{impl.OpHas, 8, 3, 1}, {impl.OpHas, 8, 2, 0}, {impl.OpHas, 8, 12, 0}, {impl.OpHas, -1, -1, 0},
		{impl.OpHas, -1, 64, 0}, {impl.OpHas, -1, 12, 0}, {impl.OpHas, -1, 11, 1},
		{impl.OpWith, 1, 2, 5}, {impl.OpWith, 5, 2, 5}, {impl.OpWith, 1, 12, 1}, {impl.OpWith, 1, -1, 1},
		{impl.OpWith, 4097, 11, 2049}, {impl.OpWith, 1, math.MinInt, 1},
		{0, 3, 4, 0}, {13, 1, 1, 0}, {-1, 1, 1, 0}, {math.MaxInt, 1, 1, 0}, {math.MinInt, 1, 1, 0},
	}
	for _, c := range cases {
		if got := impl.ApplyOp(c[0], c[1], c[2]); got != c[3] {
			t.Errorf("ApplyOp(%d, %d, %d) = %d; want %d", c[0], c[1], c[2], got, c[3])
		}
	}
}

func TestFormatTyped(t *testing.T) {
	cases := []struct {
		v, kind int
		want    string
	}{
		{0, impl.TypeNumber, "0"}, {-5, impl.TypeNumber, "-5"}, {1000000, impl.TypeNumber, "1000000"},
		{-1000000, impl.TypeNumber, "-1000000"}, {1000001, impl.TypeNumber, ""}, {-1000001, impl.TypeNumber, ""},
		{0, impl.TypeSet, "{}"}, {1, impl.TypeSet, "{0}"}, {9, impl.TypeSet, "{0 3}"}, {3072, impl.TypeSet, "{10 11}"},
		{4095, impl.TypeSet, "{0 1 2 3 4 5 6 7 8 9 10 11}"}, {4096, impl.TypeSet, ""}, {-1, impl.TypeSet, ""},
		{0, impl.TypeBool, "false"}, {1, impl.TypeBool, "true"}, {2, impl.TypeBool, ""}, {-1, impl.TypeBool, ""},
		{0, impl.TypeNode, "none"}, {1, impl.TypeNode, "#1"}, {999, impl.TypeNode, "#999"}, {1000, impl.TypeNode, ""},
		{-1, impl.TypeNode, ""}, {1, 0, ""}, {1, 5, ""}, {0, -1, ""},
	}
	for _, c := range cases {
		if got := impl.FormatTyped(c.v, c.kind); got != c.want {
			t.Errorf("FormatTyped(%d, %d) = %q; want %q", c.v, c.kind, got, c.want)
		}
	}
}

// TestTypedValuesAreParsed tries every set, truth value and node, and many numbers.
func TestTypedValuesAreParsed(t *testing.T) {
	for _, kind := range allTypes() {
		seen := map[string]int{}
		for _, v := range append(someInts(), upTo(4200)...) {
			s := impl.FormatTyped(v, kind)
			if !impl.IsOfType(v, kind) {
				if s != "" {
					t.Fatalf("FormatTyped(%d, %d) = %q", v, kind, s)
				}
				continue
			}
			if other, ok := seen[s]; ok && other != v {
				t.Fatalf("%d and %d of type %d are both %q", other, v, kind, s)
			}
			seen[s] = v
			if got, ok := impl.ParseTyped(s, kind); got != v || !ok {
				t.Fatalf("ParseTyped(%q, %d) = %d, %v; want %d", s, kind, got, ok, v)
			}
		}
	}
}

func upTo(n int) []int {
	var list []int
	for i := range n {
		list = append(list, i)
	}
	return list
}

func TestParseTypedRejects(t *testing.T) {
	malformed := map[int][]string{
		impl.TypeNumber: {"1000001", "-1000001", "-0", "+1", "01", "1 ", "999999999999999999999", "true", "{}", "#1", "none"},
		impl.TypeSet: {
			"{", "}", "{{}}", "{} ", " {}", "{ }", "{0 }", "{ 0}", "{3 0}", "{0 0}", "{0  3}", "{0,3}", "{12}", "{-1}", "{00}",
			"{01}", "0", "0 3", "{0 3", "0 3}", "}0{", "{0}}", "{{0}", "{a}", "{0 a}", "{0 12}", "{1000000}", "9", "{{}", "{}}",
		},
		impl.TypeBool: {"True", "TRUE", "1", "0", " true", "true ", "tru", "falsee", "none", "{}"},
		impl.TypeNode: {"#0", "#1000", "#-1", "#01", "##1", "#", "1", "0", "None", "none ", "# 1", "#1 ", "#none", "#a"},
	}
	for kind, list := range malformed {
		for _, s := range append(list, "", " ", "?", "\x00", "\xff", strings.Repeat("9", 2000)) {
			if v, ok := impl.ParseTyped(s, kind); v != 0 || ok {
				t.Errorf("ParseTyped(%q, %d) = %d, %v; want 0, false", s, kind, v, ok)
			}
		}
	}
	for _, kind := range noTypes() {
		for _, s := range []string{"", "0", "1", "{}", "true", "false", "none", "#1"} {
			if v, ok := impl.ParseTyped(s, kind); v != 0 || ok {
				t.Errorf("ParseTyped(%q, %d) = %d, %v; want 0, false", s, kind, v, ok)
			}
		}
	}
}

// TestParseTypedAcceptsOnlyFormatted: whatever is accepted is the representation of the result.
func TestParseTypedAcceptsOnlyFormatted(t *testing.T) {
	for _, kind := range allTypes() {
		for _, s := range stringsOf("{}1 0#-", 5) {
			v, ok := impl.ParseTyped(s, kind)
			if ok && impl.FormatTyped(v, kind) != s || !ok && v != 0 {
				t.Fatalf("ParseTyped(%q, %d) = %d, %v", s, kind, v, ok)
			}
		}
	}
	for set := range 4096 {
		var parts []string
		for k := range 12 {
			if set>>k&1 == 1 {
				parts = append(parts, fmt.Sprint(k))
			}
		}
		s := "{" + strings.Join(parts, " ") + "}"
		if v, ok := impl.ParseTyped(s, impl.TypeSet); v != set || !ok {
			t.Fatalf("ParseTyped(%q) = %d, %v; want %d", s, v, ok, set)
		}
	}
}
