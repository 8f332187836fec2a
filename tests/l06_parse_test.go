package tests

import (
	"math/rand"
	"slices"
	"strings"
	"testing"

	"loop.example/g00512/impl"
)

func TestParseExpr(t *testing.T) {
	one, two, three := number(1), number(2), number(3)
	cases := map[string]impl.Expr{
		"0": number(0), "1000000": number(1000000), "{}": setOf(0), "{0}": setOf(1), "{0 3}": setOf(9), "{ 10 11 }": setOf(3072),
		"{0 1 2 3 4 5 6 7 8 9 10 11}": setOf(4095), "true": truth(1), "false": truth(0), "lit": literal(), "none": none(),
		"$0.a": attr(0, "a"), "$3.abcdefgh": attr(3, "abcdefgh"), " $ 1 . b ": attr(1, "b"), "self(0)": self(0), "self ( 3 )": self(3),
		"1+2": op(impl.OpAdd, one, two), "1-2": op(impl.OpSubtract, one, two), "1*2": op(impl.OpMultiply, one, two),
		"1|2": op(impl.OpUnion, one, two), "1&2": op(impl.OpMeet, one, two), "1\\2": op(impl.OpMinus, one, two),
		"1<2": op(impl.OpLess, one, two), "1==2": op(impl.OpSame, one, two), "max(1,2)": op(impl.OpMax, one, two),
		"min(1,2)": op(impl.OpMin, one, two), "has(1,2)": op(impl.OpHas, one, two), "with(1,2)": op(impl.OpWith, one, two),
		"1-2-3": op(impl.OpSubtract, op(impl.OpSubtract, one, two), three), "1-(2-3)": op(impl.OpSubtract, one, op(impl.OpSubtract, two, three)),
		"1*2*3": op(impl.OpMultiply, op(impl.OpMultiply, one, two), three), "1+2*3": op(impl.OpAdd, one, op(impl.OpMultiply, two, three)),
		"1*2+3": op(impl.OpAdd, op(impl.OpMultiply, one, two), three), "1&2*3": op(impl.OpMultiply, op(impl.OpMeet, one, two), three),
		"1+2|3": op(impl.OpUnion, op(impl.OpAdd, one, two), three), "1\\2-3": op(impl.OpSubtract, op(impl.OpMinus, one, two), three),
		"1+2<3": op(impl.OpLess, op(impl.OpAdd, one, two), three), "1==2*3": op(impl.OpSame, one, op(impl.OpMultiply, two, three)),
		"(1)": one, "((1))": one, "(1<2)==3": op(impl.OpSame, op(impl.OpLess, one, two), three), "(1+2)*3": op(impl.OpMultiply, op(impl.OpAdd, one, two), three),
		"if 1 then 2 else 3": ifThen(one, two, three), "if 1<2 then 2 else 3+1": ifThen(op(impl.OpLess, one, two), two, op(impl.OpAdd, three, one)),
		"if if 1 then 2 else 3 then 1 else 2": ifThen(ifThen(one, two, three), one, two),
		"if 1 then if 2 then 3 else 1 else 2": ifThen(one, ifThen(two, three, one), two),
		"if 1 then 2 else if 3 then 1 else 2": ifThen(one, two, ifThen(three, one, two)),
		"(if 1 then 2 else 3)+1":              op(impl.OpAdd, ifThen(one, two, three), one), "max(if 1 then 2 else 3,1<2)": op(impl.OpMax, ifThen(one, two, three), op(impl.OpLess, one, two)),
		"s.a of self(1)": remote("s", "a", self(1)), "s.a of t.b of none": remote("s", "a", remote("t", "b", none())),
		"s.a of $1.b+2": op(impl.OpAdd, remote("s", "a", attr(1, "b")), two), "s.a of (1+2)": remote("s", "a", op(impl.OpAdd, one, two)),
		"s.a of max(1,2)": remote("s", "a", op(impl.OpMax, one, two)), "eq.put of lit": remote("eq", "put", literal()),
	}
	for s, want := range cases {
		if got, bad := impl.ParseExpr(s); bad != -1 || !impl.EqualExpr(got, want) {
			t.Errorf("ParseExpr(%q) = %+v, %d; want %+v", s, got, bad, want)
		}
	}
}

func parseFails(t *testing.T, s string, at int) {
	t.Helper()
	if got, bad := impl.ParseExpr(s); bad != at || !impl.EqualExpr(got, impl.Expr{}) {
		t.Errorf("ParseExpr(%q) = %+v, %d; want the zero Expr, %d", s, got, bad, at)
	}
}

func TestParseExprErrors(t *testing.T) {
	cases := map[string]int{
		"": 0, " ": 1, "   ": 3, "1 +": 3, "1 + ": 4, "(": 1, "(1": 2, "(1 ": 3, "if": 2, "if 1": 4, "if 1 then": 9, "if 1 then 2": 11,
		"if 1 then 2 else": 16, "$": 1, "$1": 2, "$1.": 3, "self": 4, "self(": 5, "self(1": 6, "max": 3, "max(": 4, "max(1": 5,
		"max(1,": 6, "max(1,2": 7, "x": 1, "x.": 2, "x.a": 3, "x.a of": 6, "x.a of ": 7, "{": 1, "{1": 2, "{1 ": 3,
		"$4.a": 1, "$ 4 . a": 2, "$1000000.a": 1, "$a.b": 1, "$-1.a": 1, "$1 a": 3, "$1.1": 3, "$1.lit": 3, "$1.of": 3, "$1.$": 3,
		"self(4)": 5, "self(1 2)": 7, "self 1": 5, "self(a)": 5, "self(-1)": 5, "self(1,": 6, "self()": 5, "self.a of lit": 4,
		"{3 1}": 3, "{1 1}": 3, "{12}": 1, "{1 12}": 3, "{1,2}": 2, "{a}": 1, "{1 {": 3, "{-1}": 1, "{1000000}": 1, "{0 0": 3, "{}}": 2,
		"max(1)": 5, "max()": 4, "max 1": 4, "max(1,)": 6, "max(1,2,3)": 7, "max(1 2)": 6, "max,": 3, "has(1": 5, "with.a of lit": 4,
		"1 < 2 < 3": 6, "1 == 2 == 3": 7, "1 < 2 == 3": 6, "(1 < 2 < 3)": 7, "max(1 < 2 < 3, 4)": 10,
		"true false": 5, "1 2": 2, "1)": 1, "()": 1, "1 + * 2": 4, "+1": 0, "-1": 0, "1 + -1": 4, ")": 0, "}": 0, ".": 0, ",": 0,
		"then": 0, "else": 0, "of": 0, "1 + if 1 then 2 else 3": 4, "x of": 2, "x.a lit": 4, "x.a of +": 7, "x.lit of lit": 2,
		"x.1 of lit": 2, "x.a of if 1 then 2 else 3": 7, "if then 1 else 2": 3, "if 1 else 2": 5, "if 1 then 2 then 3": 12,
		"if 1 then 2 else 3 else 4": 19, "s.a of lit of": 11, "1 then": 2, "lit.a": 3, "true.a of lit": 4, "a b": 2, "(1,2)": 2, "1.5": 1,
		"1 = 2": 2, "1 + 2 + =": 8, "* =": 2, "00": 0, "1 abcdefghi": 2, "x x abcdefghi": 4, "A": 0, "1\n": 1,
	}
	for s, at := range cases {
		parseFails(t, s, at)
	}
	parseFails(t, "1"+strings.Repeat(" ", 160), 160)
	parseFails(t, "("+strings.Repeat("(", 79), 80)
	parseFails(t, strings.Repeat("(", 81), 80)
	parseFails(t, ")"+strings.Repeat("(", 80), 80)
}

// TestParseExprNotValid: the syntax is right, but there are too many nodes or they are too deep.
func TestParseExprNotValid(t *testing.T) {
	sum := func(n int) string { return "1" + strings.Repeat("+1", n-1) }
	for n := 1; n <= 30; n++ {
		if _, bad := impl.ParseExpr(sum(n)); bad != map[bool]int{true: -1, false: 0}[n <= 6] {
			t.Errorf("a sum of %d numbers: %d", n, bad)
		}
	}
	parseFails(t, "   "+sum(7), 0)
	parseFails(t, sum(7)+" 1", 14)
	parseFails(t, sum(7)+"+", 14)
	if _, bad := impl.ParseExpr(strings.Repeat("(", 39) + "1" + strings.Repeat(")", 39)); bad != -1 {
		t.Errorf("nested parentheses: %d", bad)
	}
	of := func(n int) string { return strings.Repeat("s.a of ", n-1) + "none" }
	parseFails(t, of(7), 0)
	if _, bad := impl.ParseExpr(of(6)); bad != -1 {
		t.Errorf("%q: %d", of(6), bad)
	}
	four := "max(if 1 then 1 else 1, if 1 then 1 else 1)"
	frame := func(part string) string { return "max(max(" + four + ", 1 + 1), max(" + part + ", 1 + 1))" }
	for part, count := range map[string]int{"1 + 1": 21, "if 1 then 1 else 1 + 1": 24, "(1 + 1) * (1 + 1)": 25} {
		e, bad := impl.ParseExpr(frame(part))
		if want := map[bool]int{true: -1, false: 0}[count <= 24]; bad != want {
			t.Errorf("%q with %d nodes: %d; want %d", frame(part), count, bad, want)
		}
		if bad == -1 && impl.CountExpr(e) != count {
			t.Errorf("%q has %d nodes; want %d", frame(part), impl.CountExpr(e), count)
		}
	}
}

// syntax has the rules of chapter 6 without left recursion; each alternative is a list of words.
func syntax() map[string][]string {
	rules := map[string][]string{
		"expr":    {"if expr then expr else expr", "compare"},
		"compare": {"sum", "sum < sum", "sum == sum"},
		"sum":     {"product sums"},
		"sums":    {"", "+ product sums", "- product sums", "| product sums", "\\ product sums"},
		"product": {"atom atoms"},
		"atoms":   {"", "* atom atoms", "& atom atoms"},
		"atom": {
			"NUMBER", "{ set0 }", "true", "false", "lit", "none", "$ POS . NAME", "self ( POS )", "FUN ( expr , expr )",
			"NAME . NAME of atom", "( expr )",
		},
		"NUMBER": {"0", "1", "3", "4", "11", "12"}, "POS": {"0", "1", "3"}, "NAME": {"a", "eq"},
		"FUN":  {"max", "min", "has", "with"},
		"set0": {"", "0 set1", "1 set2", "3 set4", "4 set5", "11"}, "set1": {"", "1 set2", "3 set4", "4 set5", "11"},
		"set2": {"", "3 set4", "4 set5", "11"}, "set4": {"", "4 set5", "11"}, "set5": {"", "11"},
	}
	return rules
}

func syntaxWords() []string {
	return strings.Fields("if then else < == + - | \\ * & { } true false lit none $ . self ( ) , of max min has with a eq 0 1 3 4 11 12")
}

// wantOffset returns the offset of the first of the words, which are separated by spaces, that cannot be continued to an expression;
// the length if only the end is missing, and -1 if nothing is. It keeps all stacks of words that could come next.
func wantOffset(words []string) int {
	rules, at := syntax(), 0
	stacks := map[string]bool{"expr": true}
	for _, word := range words {
		next := map[string]bool{}
		for stack := range stacks {
			addAfter(rules, stack, word, next)
		}
		if len(next) == 0 {
			return at
		}
		stacks = next
		at += len(word) + 1
	}
	done := map[string]bool{}
	for stack := range stacks {
		addAfter(rules, stack+" END", "END", done)
	}
	if len(done) > 0 {
		return -1
	}
	return len(strings.Join(words, " "))
}

// addAfter adds what can come after the word, if it comes first in the stack.
func addAfter(rules map[string][]string, stack string, word string, next map[string]bool) {
	top, rest, _ := strings.Cut(strings.TrimSpace(stack), " ")
	if top == word {
		next[rest] = true
	}
	for _, alternative := range rules[top] {
		addAfter(rules, alternative+" "+rest, word, next)
	}
}

// sentence derives words from a symbol of the syntax.
func sentence(random *rand.Rand, symbol string, size int) []string {
	alternatives, ok := syntax()[symbol]
	if !ok {
		return []string{symbol}
	}
	k := random.Intn(len(alternatives))
	if size <= 0 {
		short := map[string]int{"expr": 1, "compare": 0, "sums": 0, "atoms": 0, "atom": random.Intn(8)}
		if fixed, ok := short[symbol]; ok {
			k = fixed
		}
	}
	var words []string
	for _, part := range strings.Fields(alternatives[k]) {
		words = append(words, sentence(random, part, size-1)...)
	}
	return words
}

// damaged replaces, removes or inserts a word.
func damaged(random *rand.Rand, words []string) []string {
	i := random.Intn(len(words))
	word := syntaxWords()[random.Intn(len(syntaxWords()))]
	switch random.Intn(4) {
	case 0:
		return slices.Concat(words[:i], []string{word}, words[i+1:])
	case 1:
		return slices.Concat(words[:i], words[i+1:])
	case 2:
		return slices.Concat(words[:i], []string{word}, words[i:])
	}
	return words[:i]
}

// offsetIsRight compares ParseExpr with wantOffset for words that are separated by spaces.
func offsetIsRight(t *testing.T, words []string) (bad int) {
	t.Helper()
	s := strings.Join(words, " ")
	if _, tokenBad := impl.Tokenize(s); tokenBad >= 0 {
		parseFails(t, s, tokenBad)
		return tokenBad
	}
	want := wantOffset(words)
	got, bad := impl.ParseExpr(s)
	tooLarge := want == -1 && bad == 0
	if bad != want && !tooLarge {
		t.Fatalf("ParseExpr(%q): offset %d; want %d", s, bad, want)
	}
	if bad == -1 && !impl.IsValidExpr(got) || bad >= 0 && !impl.EqualExpr(got, impl.Expr{}) {
		t.Fatalf("ParseExpr(%q) = %+v, %d", s, got, bad)
	}
	return bad
}

func TestOffsetsOfShortCode(t *testing.T) {
	words := syntaxWords()
	for _, a := range words {
		for _, b := range words {
			for _, c := range words {
				offsetIsRight(t, []string{a, b, c})
			}
			offsetIsRight(t, []string{a, b})
		}
		offsetIsRight(t, []string{a})
	}
	offsetIsRight(t, nil)
}

func TestOffsetsOfDamagedCode(t *testing.T) {
	random := rand.New(rand.NewSource(6))
	right, wrong := 0, 0
	for range 6000 {
		words := sentence(random, "expr", random.Intn(9))
		for range 3 {
			if len(words) == 0 {
				break
			}
			if offsetIsRight(t, words) == -1 {
				right++
			} else {
				wrong++
			}
			words = damaged(random, words)
		}
	}
	if right < 2000 || wrong < 2000 {
		t.Errorf("%d right and %d wrong expressions", right, wrong)
	}
}

// TestOffsetsAreWithinTheString: promise 6 for arbitrary bytes.
func TestOffsetsAreWithinTheString(t *testing.T) {
	random := rand.New(rand.NewSource(66))
	pieces := append(syntaxWords(), " ", "  ", "=", "\xff", "A", "007", "abcdefghi", "1000001", "\n", "$1.a", "self(0)")
	for range 20000 {
		s := ""
		for range random.Intn(90) {
			s += pieces[random.Intn(len(pieces))]
		}
		e, bad := impl.ParseExpr(s)
		if bad < -1 || bad > len(s) || bad >= 0 && !impl.EqualExpr(e, impl.Expr{}) || bad == -1 && !impl.IsValidExpr(e) {
			t.Fatalf("ParseExpr(%q) = %+v, %d", s, e, bad)
		}
	}
}
