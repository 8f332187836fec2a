package tests

import (
	"math/rand"
	"strings"
	"testing"

	"loop.example/g00512/impl"
)

// levels are those that chapter 7 requires of the operators.
func levels() map[int]int {
	return map[int]int{
		impl.OpLess: 1, impl.OpSame: 1, impl.OpAdd: 2, impl.OpSubtract: 2, impl.OpUnion: 2, impl.OpMinus: 2,
		impl.OpMultiply: 3, impl.OpMeet: 3, impl.OpMax: 4, impl.OpMin: 4, impl.OpHas: 4, impl.OpWith: 4,
	}
}

func TestLevelOf(t *testing.T) {
	for n, want := range levels() {
		if got := impl.LevelOf(op(n, number(1), number(2))); got != want {
			t.Errorf("LevelOf operator %d = %d; want %d", n, got, want)
		}
		// The number of a constant is not that of an operator.
		if got := impl.LevelOf(number(n)); got != 4 {
			t.Errorf("LevelOf number %d = %d; want 4", n, got)
		}
	}
	for _, e := range samples() {
		want := map[int]int{impl.ExprOp: 2, impl.ExprIf: 0}
		if level, ok := want[e.Kind]; ok && impl.LevelOf(e) != level || !ok && impl.LevelOf(e) != 4 {
			t.Errorf("LevelOf kind %d = %d", e.Kind, impl.LevelOf(e))
		}
	}
	for _, e := range []impl.Expr{{}, {Kind: 9}, {Kind: -1, N: impl.OpLess}, op(0, none(), none()), op(13, none(), none()), op(-1, none(), none())} {
		if got := impl.LevelOf(e); got != 4 {
			t.Errorf("LevelOf(%+v) = %d; want 4", e, got)
		}
	}
	if got := impl.LevelOf(impl.Expr{Kind: impl.ExprIf, N: impl.OpLess}); got != 0 {
		t.Errorf("LevelOf an if with a number = %d", got)
	}
}

func TestFormatExpr(t *testing.T) {
	one, two, three := number(1), number(2), number(3)
	add, less, times := op(impl.OpAdd, one, two), op(impl.OpLess, one, two), op(impl.OpMultiply, one, two)
	choice := ifThen(truth(1), one, two)
	cases := []struct {
		e    impl.Expr
		want string
	}{
		{number(0), "0"}, {number(1000000), "1000000"}, {setOf(0), "{}"}, {setOf(9), "{0 3}"}, {setOf(4095), "{0 1 2 3 4 5 6 7 8 9 10 11}"},
		{truth(1), "true"}, {truth(0), "false"}, {literal(), "lit"}, {none(), "none"}, {attr(3, "ab"), "$3.ab"}, {self(0), "self(0)"},
		{add, "1 + 2"}, {op(impl.OpSubtract, one, two), "1 - 2"}, {op(impl.OpUnion, one, two), "1 | 2"}, {op(impl.OpMinus, one, two), "1 \\ 2"},
		{times, "1 * 2"}, {op(impl.OpMeet, one, two), "1 & 2"}, {less, "1 < 2"}, {op(impl.OpSame, one, two), "1 == 2"},
		{op(impl.OpMax, one, two), "max(1, 2)"}, {op(impl.OpMin, one, two), "min(1, 2)"}, {op(impl.OpHas, one, two), "has(1, 2)"},
		{op(impl.OpWith, one, two), "with(1, 2)"}, {choice, "if true then 1 else 2"}, {remote("s", "a", self(1)), "s.a of self(1)"},
		{
			ifThen(op(impl.OpHas, attr(1, "s"), three), op(impl.OpMultiply, op(impl.OpMax, attr(0, "a"), literal()), two), remote("s", "a", self(1))),
			"if has($1.s, 3) then max($0.a, lit) * 2 else s.a of self(1)",
		},
		// Operands of the same level: parentheses on the right only, for comparisons on both sides.
		{op(impl.OpAdd, add, three), "1 + 2 + 3"}, {op(impl.OpAdd, three, add), "3 + (1 + 2)"}, {op(impl.OpMinus, op(impl.OpUnion, one, two), three), "1 | 2 \\ 3"},
		{op(impl.OpSubtract, three, op(impl.OpUnion, one, two)), "3 - (1 | 2)"}, {op(impl.OpMeet, times, three), "1 * 2 & 3"},
		{op(impl.OpMeet, three, times), "3 & (1 * 2)"}, {op(impl.OpSame, less, three), "(1 < 2) == 3"}, {op(impl.OpSame, three, less), "3 == (1 < 2)"},
		{op(impl.OpLess, add, add), "1 + 2 < 1 + 2"}, {op(impl.OpLess, times, times), "1 * 2 < 1 * 2"},
		{op(impl.OpAdd, times, times), "1 * 2 + 1 * 2"}, {op(impl.OpMultiply, add, add), "(1 + 2) * (1 + 2)"}, {op(impl.OpAdd, less, less), "(1 < 2) + (1 < 2)"},
		{op(impl.OpMultiply, less, one), "(1 < 2) * 1"}, {op(impl.OpMax, less, add), "max(1 < 2, 1 + 2)"}, {op(impl.OpMax, choice, choice), "max(if true then 1 else 2, if true then 1 else 2)"},
		{op(impl.OpLess, choice, one), "(if true then 1 else 2) < 1"}, {op(impl.OpAdd, one, choice), "1 + (if true then 1 else 2)"},
		{op(impl.OpMultiply, choice, choice), "(if true then 1 else 2) * (if true then 1 else 2)"},
		{ifThen(choice, choice, choice), "if if true then 1 else 2 then if true then 1 else 2 else if true then 1 else 2"},
		{ifThen(less, less, less), "if 1 < 2 then 1 < 2 else 1 < 2"},
		{remote("s", "a", remote("t", "b", none())), "s.a of t.b of none"}, {remote("s", "a", choice), "s.a of (if true then 1 else 2)"},
		{remote("s", "a", times), "s.a of (1 * 2)"}, {remote("s", "a", add), "s.a of (1 + 2)"}, {remote("s", "a", less), "s.a of (1 < 2)"},
		{remote("s", "a", op(impl.OpMax, one, two)), "s.a of max(1, 2)"}, {op(impl.OpMultiply, remote("s", "a", none()), remote("s", "b", none())), "s.a of none * s.b of none"},
	}
	for _, c := range cases {
		if got := impl.FormatExpr(c.e); got != c.want {
			t.Errorf("FormatExpr(%+v) = %q; want %q", c.e, got, c.want)
		}
	}
}

func TestFormatExprRejects(t *testing.T) {
	for _, e := range []impl.Expr{
		{}, {Kind: 9}, number(-1), number(1000001), setOf(4096), truth(2), {Kind: impl.ExprConst, Type: impl.TypeNode}, attr(4, "a"), attr(0, "lit"),
		attr(0, ""), self(-1), {Kind: impl.ExprOp, N: 1}, op(0, number(1), number(1)), op(13, number(1), number(1)), {Kind: impl.ExprIf},
		{Kind: impl.ExprRemote, Symbol: "s", Name: "a"}, chain(7), op(1, number(1), impl.Expr{}), {Kind: impl.ExprLiteral, Pos: 1}, chain(20000),
	} {
		if got := impl.FormatExpr(e); got != "" {
			t.Errorf("FormatExpr of an invalid expression = %q", got)
		}
	}
}

// randomExpr returns an expression that is valid unless it is too large.
func randomExpr(random *rand.Rand, depth int) impl.Expr {
	names := []string{"a", "b9", "abcdefgh"}
	name := func() string { return names[random.Intn(3)] }
	if depth <= 1 {
		leaves := []impl.Expr{
			number(random.Intn(1000001)), number(random.Intn(3)), setOf(random.Intn(4096)), setOf(1 << random.Intn(12)), truth(random.Intn(2)),
			literal(), attr(random.Intn(4), name()), self(random.Intn(4)), none(),
		}
		return leaves[random.Intn(len(leaves))]
	}
	arg := func() impl.Expr { return randomExpr(random, random.Intn(depth)) }
	switch random.Intn(8) {
	case 0:
		return ifThen(arg(), arg(), arg())
	case 1:
		return remote(name(), name(), arg())
	}
	return op(1+random.Intn(12), arg(), arg())
}

// TestExprsAreParsedFromTheirCode: promise 7, and that no pair of parentheses can be left out.
func TestExprsAreParsedFromTheirCode(t *testing.T) {
	random := rand.New(rand.NewSource(7))
	parsed, long := 0, 0
	for range 30000 {
		e := randomExpr(random, 1+random.Intn(6))
		s := impl.FormatExpr(e)
		if !impl.IsValidExpr(e) {
			if s != "" {
				t.Fatalf("FormatExpr of an invalid expression = %q", s)
			}
			continue
		}
		if _, bad := impl.Tokenize(s); bad >= 0 {
			long++
			if len(s) <= impl.MaxCode && bad == impl.MaxCode {
				t.Fatalf("%q cannot be read: %d", s, bad)
			}
			continue
		}
		parsed++
		if got, bad := impl.ParseExpr(s); bad != -1 || !impl.EqualExpr(got, e) {
			t.Fatalf("ParseExpr(%q) = %+v, %d; want %+v", s, got, bad, e)
		}
		everyParenthesisCounts(t, s, e)
		if again, ok := impl.NormalizeExpr(spread(random, s)); again != s || !ok {
			t.Fatalf("NormalizeExpr(%q) = %q, %v", s, again, ok)
		}
	}
	if parsed < 10000 || long == 0 {
		t.Errorf("%d parsed, %d too long", parsed, long)
	}
}

func everyParenthesisCounts(t *testing.T, s string, e impl.Expr) {
	t.Helper()
	for open := range len(s) {
		if s[open] != '(' {
			continue
		}
		nested, end := 0, open
		for ; end < len(s); end++ {
			if s[end] == '(' {
				nested++
			} else if s[end] == ')' {
				if nested--; nested == 0 {
					break
				}
			}
		}
		less := s[:open] + " " + s[open+1:end] + " " + s[end+1:]
		if got, bad := impl.ParseExpr(less); bad == -1 && impl.EqualExpr(got, e) {
			t.Fatalf("%q has needless parentheses at %d", s, open)
		}
	}
}

// spread adds spaces between the tokens, or takes some of those away that separate no names and numbers.
func spread(random *rand.Rand, s string) string {
	tight := strings.NewReplacer(" + ", "+", ", ", ",", " < ", "<", " | ", " |").Replace(s)
	if random.Intn(2) == 0 {
		return tight
	}
	wide := " " + strings.NewReplacer("(", "( ", ")", " )", "$", "$ ").Replace(s) + "  "
	if len(wide) > impl.MaxCode {
		return tight
	}
	return wide
}

func TestNormalizeExpr(t *testing.T) {
	cases := map[string]string{
		"(1+2)*3-max( lit,$0.a )": "(1 + 2) * 3 - max(lit, $0.a)", "{1 2}|({3}&$1.b)": "{1 2} | {3} & $1.b", "1-(2-3)": "1 - (2 - 3)",
		"(1-2)-3": "1 - 2 - 3", "s.a of (self(0))": "s.a of self(0)", "s . a of(if true then none else self(1))": "s.a of (if true then none else self(1))",
		"(1<2)==(2<3)": "(1 < 2) == (2 < 3)", "((((0))))": "0", " none ": "none", "{ }": "{}", "( if (1) then (2) else (3) )": "if 1 then 2 else 3",
		"(if 1 then 2 else 3)+4": "(if 1 then 2 else 3) + 4", "(1)<(2+3)": "1 < 2 + 3", "(1*2)&3": "1 * 2 & 3", "(1 == 2)": "1 == 2",
	}
	for s, want := range cases {
		if got, ok := impl.NormalizeExpr(s); got != want || !ok {
			t.Errorf("NormalizeExpr(%q) = %q, %v; want %q", s, got, ok, want)
		}
	}
	for _, s := range []string{"", " ", "x", "1 +", "00", "=", "$4.a", "1+1+1+1+1+1+1", "1 2", strings.Repeat(" ", 160) + "1"} {
		if got, ok := impl.NormalizeExpr(s); got != "" || ok {
			t.Errorf("NormalizeExpr(%q) = %q, %v", s, got, ok)
		}
	}
}
