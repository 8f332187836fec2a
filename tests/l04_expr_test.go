package tests

import (
	"math"
	"slices"
	"strings"
	"testing"

	"loop.example/g00512/impl"
)

func number(n int) impl.Expr {
	return impl.Expr{Kind: impl.ExprConst, N: n, Type: impl.TypeNumber}
}

func setOf(n int) impl.Expr {
	return impl.Expr{Kind: impl.ExprConst, N: n, Type: impl.TypeSet}
}

func truth(n int) impl.Expr {
	return impl.Expr{Kind: impl.ExprConst, N: n, Type: impl.TypeBool}
}

func literal() impl.Expr {
	return impl.Expr{Kind: impl.ExprLiteral}
}

func attr(pos int, name string) impl.Expr {
	return impl.Expr{Kind: impl.ExprAttr, Pos: pos, Name: name}
}

func op(n int, left impl.Expr, right impl.Expr) impl.Expr {
	return impl.Expr{Kind: impl.ExprOp, N: n, Args: []impl.Expr{left, right}}
}

func ifThen(condition impl.Expr, yes impl.Expr, no impl.Expr) impl.Expr {
	return impl.Expr{Kind: impl.ExprIf, Args: []impl.Expr{condition, yes, no}}
}

func self(pos int) impl.Expr {
	return impl.Expr{Kind: impl.ExprSelf, Pos: pos}
}

func none() impl.Expr {
	return impl.Expr{Kind: impl.ExprNone}
}

func remote(symbol string, name string, node impl.Expr) impl.Expr {
	return impl.Expr{Kind: impl.ExprRemote, Symbol: symbol, Name: name, Args: []impl.Expr{node}}
}

// samples contains a valid expression of each kind.
func samples() []impl.Expr {
	return []impl.Expr{
		number(7), setOf(9), truth(1), literal(), attr(2, "ab"), op(impl.OpAdd, number(1), literal()),
		ifThen(truth(0), attr(1, "x"), number(2)), self(3), none(), remote("s", "a", self(1)),
	}
}

// chain returns an expression of this depth, with a number of nodes that is twice the depth minus 1.
func chain(depth int) impl.Expr {
	e := number(1)
	for range depth - 1 {
		e = op(impl.OpAdd, e, number(1))
	}
	return e
}

func TestConstantsOfExprs(t *testing.T) {
	got := []int{
		impl.MaxChildren, impl.MaxExprNodes, impl.MaxExprDepth, impl.ExprConst, impl.ExprLiteral, impl.ExprAttr,
		impl.ExprOp, impl.ExprIf, impl.ExprSelf, impl.ExprNone, impl.ExprRemote,
	}
	if want := []int{3, 24, 6, 1, 2, 3, 4, 5, 6, 7, 8}; !slices.Equal(got, want) {
		t.Errorf("constants: %v; want %v", got, want)
	}
}

func TestCountAndDepth(t *testing.T) {
	wide := impl.Expr{Args: make([]impl.Expr, 50)}
	cases := []struct {
		e            impl.Expr
		count, depth int
	}{
		{impl.Expr{}, 1, 1}, {impl.Expr{Args: []impl.Expr{}}, 1, 1}, {number(5), 1, 1}, {none(), 1, 1},
		{op(impl.OpAdd, number(1), number(2)), 3, 2}, {ifThen(truth(1), number(1), number(2)), 4, 2},
		{remote("s", "a", self(0)), 2, 2}, {remote("s", "a", remote("s", "b", none())), 3, 3},
		{op(impl.OpAdd, chain(3), chain(2)), 9, 4}, {op(impl.OpAdd, chain(2), chain(3)), 9, 4},
		{ifThen(number(1), chain(4), number(1)), 10, 5}, {chain(40), 79, 40}, {wide, 51, 2},
		{impl.Expr{Kind: -3, Args: []impl.Expr{{Kind: 99, Args: []impl.Expr{{}, {}}}}}, 4, 3},
		{chain(20000), 39999, 20000},
	}
	for i, c := range cases {
		if n, d := impl.CountExpr(c.e), impl.DepthOfExpr(c.e); n != c.count || d != c.depth {
			t.Errorf("case %d: count %d and depth %d; want %d and %d", i, n, d, c.count, c.depth)
		}
	}
}

func TestIsValidExprAcceptsEachKind(t *testing.T) {
	for i, e := range samples() {
		if !impl.IsValidExpr(e) {
			t.Errorf("sample %d is not valid: %+v", i, e)
		}
	}
	for kind := range map[int]bool{math.MinInt: true, -1: true, 0: true, 9: true, 10: true, math.MaxInt: true} {
		if impl.IsValidExpr(impl.Expr{Kind: kind}) {
			t.Errorf("kind %d is valid", kind)
		}
	}
}

// usedFields lists the fields that each kind uses.
func usedFields(kind int) string {
	return map[int]string{
		impl.ExprConst: "N Type", impl.ExprLiteral: "", impl.ExprAttr: "Pos Name", impl.ExprOp: "N", impl.ExprIf: "",
		impl.ExprSelf: "Pos", impl.ExprNone: "", impl.ExprRemote: "Symbol Name",
	}[kind]
}

// TestFieldsThatAKindDoesNotUse sets each of them, at the root and within another expression.
func TestFieldsThatAKindDoesNotUse(t *testing.T) {
	set := map[string]func(e *impl.Expr, n int){
		"N": func(e *impl.Expr, n int) { e.N = n }, "Pos": func(e *impl.Expr, n int) { e.Pos = n },
		"Type": func(e *impl.Expr, n int) { e.Type = n }, "Symbol": func(e *impl.Expr, n int) { e.Symbol = "s" },
		"Name": func(e *impl.Expr, n int) { e.Name = "a" },
	}
	for _, sample := range samples() {
		for field, change := range set {
			if strings.Contains(usedFields(sample.Kind), field) {
				continue
			}
			for _, n := range []int{1, -1, 4} {
				e := sample
				change(&e, n)
				if impl.IsValidExpr(e) || impl.IsValidExpr(ifThen(truth(1), e, number(2))) {
					t.Errorf("kind %d is valid with %s: %+v", e.Kind, field, e)
				}
			}
		}
	}
}

func TestNumberOfArgs(t *testing.T) {
	want := map[int]int{impl.ExprOp: 2, impl.ExprIf: 3, impl.ExprRemote: 1}
	for _, sample := range samples() {
		for n := range 5 {
			e := sample
			e.Args = slices.Repeat([]impl.Expr{literal()}, n)
			if got := impl.IsValidExpr(e); got != (n == want[e.Kind]) {
				t.Errorf("kind %d with %d args: valid = %v", e.Kind, n, got)
			}
		}
	}
	broken := number(-1)
	for i := range 2 {
		e := op(impl.OpAdd, number(1), number(1))
		e.Args[i] = broken
		if impl.IsValidExpr(e) {
			t.Errorf("valid with an invalid operand %d", i)
		}
	}
	for i := range 3 {
		e := ifThen(truth(1), number(1), number(1))
		e.Args[i] = broken
		if impl.IsValidExpr(e) {
			t.Errorf("valid with an invalid argument %d of an if", i)
		}
	}
	if impl.IsValidExpr(remote("s", "a", broken)) {
		t.Error("valid with an invalid argument of a remote attribute")
	}
}

func TestValidConstants(t *testing.T) {
	for _, n := range someInts() {
		want := map[int]bool{
			impl.TypeNumber: 0 <= n && n <= 1000000, impl.TypeSet: 0 <= n && n <= 4095, impl.TypeBool: n == 0 || n == 1,
		}
		for _, kind := range append(allTypes(), noTypes()...) {
			e := impl.Expr{Kind: impl.ExprConst, N: n, Type: kind}
			if got := impl.IsValidExpr(e); got != want[kind] {
				t.Errorf("constant %d of type %d: valid = %v", n, kind, got)
			}
		}
	}
}

func TestValidOperatorsPositionsAndNames(t *testing.T) {
	for _, n := range append(someInts(), upTo(20)...) {
		if got := impl.IsValidExpr(op(n, number(1), number(1))); got != (1 <= n && n <= 12) {
			t.Errorf("operator %d: valid = %v", n, got)
		}
		want := 0 <= n && n <= 3
		if impl.IsValidExpr(attr(n, "a")) != want || impl.IsValidExpr(self(n)) != want {
			t.Errorf("position %d: valid = %v", n, !want)
		}
	}
	for _, s := range []string{"a", "z9", "abcdefgh"} {
		if !impl.IsValidExpr(attr(0, s)) || !impl.IsValidExpr(remote(s, s, none())) {
			t.Errorf("not valid with the name %q", s)
		}
	}
	for _, s := range []string{"", "lit", "abcdefghi", "A", "a b", "9"} {
		for _, e := range []impl.Expr{attr(0, s), remote(s, "a", none()), remote("a", s, none())} {
			if impl.IsValidExpr(e) {
				t.Errorf("valid with the name %q: %+v", s, e)
			}
		}
	}
}

// full returns an expression with n nodes, where n is 22 to 25, that is valid but for their number.
func full(n int) impl.Expr {
	three := func() impl.Expr { return ifThen(truth(1), number(1), number(2)) }
	e := ifThen(ifThen(three(), three(), three()), three(), three())
	for i := range n - 22 {
		e.Args[0].Args[0].Args[i] = remote("s", "a", none())
	}
	return e
}

func TestLimitsOfExprs(t *testing.T) {
	for n := 22; n <= 25; n++ {
		e := full(n)
		if impl.CountExpr(e) != n || impl.DepthOfExpr(e) > 5 {
			t.Fatalf("full(%d) has %d nodes and the depth %d", n, impl.CountExpr(e), impl.DepthOfExpr(e))
		}
		if got := impl.IsValidExpr(e); got != (n <= impl.MaxExprNodes) {
			t.Errorf("%d nodes: valid = %v", n, got)
		}
	}
	for depth := 1; depth <= 20; depth++ {
		if got := impl.IsValidExpr(chain(depth)); got != (depth <= 6) {
			t.Errorf("depth %d: valid = %v", depth, got)
		}
		line := none()
		for range depth - 1 {
			line = remote("s", "a", line)
		}
		if got := impl.IsValidExpr(line); got != (depth <= 6) {
			t.Errorf("a line of depth %d: valid = %v", depth, got)
		}
	}
	if impl.IsValidExpr(chain(20000)) || impl.IsValidExpr(impl.Expr{Kind: impl.ExprIf, Args: make([]impl.Expr, 100000)}) {
		t.Error("huge expressions are valid")
	}
}

// TestValidExprsRespectTheLimits: promise 4 for many combinations.
func TestValidExprsRespectTheLimits(t *testing.T) {
	list := samples()
	for range 2 {
		for _, a := range list[:min(len(list), 40)] {
			for _, b := range samples() {
				list = append(list, op(impl.OpUnion, a, b), ifThen(b, a, a), remote("t", "b", a))
			}
		}
	}
	valid := 0
	for _, e := range list {
		fits := impl.CountExpr(e) <= 24 && impl.DepthOfExpr(e) <= 6
		if impl.IsValidExpr(e) != fits {
			t.Fatalf("valid = %v: %+v", !fits, e)
		}
		if fits {
			valid++
		}
	}
	if valid < 100 {
		t.Errorf("only %d valid expressions", valid)
	}
}

func TestEqualExpr(t *testing.T) {
	list := append(samples(),
		impl.Expr{}, number(8), setOf(7), truth(0), attr(1, "ab"), attr(2, "ac"), self(2),
		op(impl.OpSubtract, number(1), literal()), op(impl.OpAdd, literal(), number(1)), op(impl.OpAdd, number(1), none()),
		ifThen(truth(0), attr(1, "x"), number(3)), remote("t", "a", self(1)), remote("s", "b", self(1)),
		remote("s", "a", self(2)), impl.Expr{Args: []impl.Expr{{}}}, impl.Expr{Args: []impl.Expr{{}, {}}},
		impl.Expr{Args: []impl.Expr{{Args: []impl.Expr{{}}}}}, impl.Expr{Kind: -1}, impl.Expr{Type: 1}, impl.Expr{N: 1},
		impl.Expr{Pos: 1}, impl.Expr{Name: "a"}, impl.Expr{Symbol: "a"},
		op(1, op(1, number(1), number(2)), number(3)), op(1, number(1), op(1, number(2), number(3))), chain(9), chain(10),
	)
	for i, a := range list {
		for k, b := range list {
			if got := impl.EqualExpr(a, b); got != (i == k) {
				t.Errorf("EqualExpr(%+v, %+v) = %v", a, b, got)
			}
		}
	}
	if !impl.EqualExpr(number(1), impl.Expr{Kind: impl.ExprConst, N: 1, Type: 1, Args: []impl.Expr{}}) {
		t.Error("nil and empty Args are different")
	}
	if !impl.EqualExpr(chain(50), chain(50)) {
		t.Error("two expressions that were built alike are different")
	}
}

func TestAttributeUses(t *testing.T) {
	occurrence := func(pos int, name string) impl.Occurrence { return impl.Occurrence{Pos: pos, Name: name} }
	cases := []struct {
		e    impl.Expr
		want []impl.Occurrence
	}{
		{number(1), nil}, {self(2), nil}, {literal(), nil}, {impl.Expr{Name: "a", Pos: 1}, nil},
		{attr(1, "b"), []impl.Occurrence{occurrence(1, "b")}},
		{remote("s", "a", none()), nil},
		{remote("s", "a", attr(1, "env")), []impl.Occurrence{occurrence(1, "env")}},
		{op(impl.OpAdd, attr(1, "b"), attr(1, "b")), []impl.Occurrence{occurrence(1, "b")}},
		{op(impl.OpAdd, attr(1, "a"), attr(0, "z")), []impl.Occurrence{occurrence(0, "z"), occurrence(1, "a")}},
		{op(impl.OpAdd, attr(1, "b"), attr(1, "a")), []impl.Occurrence{occurrence(1, "a"), occurrence(1, "b")}},
		{
			ifThen(attr(3, "a"), op(impl.OpMax, attr(0, "ab"), attr(2, "c")), ifThen(attr(0, "a"), attr(3, "a"), attr(0, "b"))),
			[]impl.Occurrence{occurrence(0, "a"), occurrence(0, "ab"), occurrence(0, "b"), occurrence(2, "c"), occurrence(3, "a")},
		},
		{
			impl.Expr{Kind: 77, Args: []impl.Expr{attr(9, "?"), attr(-1, ""), attr(-1, "\xff"), attr(9, "?")}},
			[]impl.Occurrence{occurrence(-1, ""), occurrence(-1, "\xff"), occurrence(9, "?")},
		},
		{impl.Expr{Kind: impl.ExprAttr, Name: "a", Args: []impl.Expr{attr(0, "A")}}, []impl.Occurrence{occurrence(0, "A"), occurrence(0, "a")}},
	}
	for _, c := range cases {
		if got := impl.AttributeUses(c.e); !slices.Equal(got, c.want) {
			t.Errorf("AttributeUses(%+v) = %v; want %v", c.e, got, c.want)
		}
	}
}

func TestHasRemote(t *testing.T) {
	r := remote("s", "a", none())
	for _, e := range []impl.Expr{r, op(1, number(1), r), op(1, r, number(1)), ifThen(truth(1), truth(1), op(1, number(1), r)),
		remote("s", "a", r), {Kind: impl.ExprRemote}, {Kind: -5, Args: []impl.Expr{{}, r}}} {
		if !impl.HasRemote(e) {
			t.Errorf("HasRemote(%+v) = false", e)
		}
	}
	for _, e := range samples()[:9] {
		if impl.HasRemote(e) || impl.HasRemote(op(1, e, e)) {
			t.Errorf("HasRemote(%+v) = true", e)
		}
	}
}

// TestExprInsideItself: a slice that is the Args of its own element has no end, but every function does.
func TestExprInsideItself(t *testing.T) {
	args := []impl.Expr{{Kind: impl.ExprOp, N: impl.OpAdd}, attr(1, "a")}
	args[0].Args = args
	e := impl.Expr{Kind: impl.ExprOp, N: impl.OpAdd, Args: args}
	if impl.IsValidExpr(e) {
		t.Error("an endless expression is valid")
	}
	if uses := impl.AttributeUses(e); !slices.Equal(uses, []impl.Occurrence{{Pos: 1, Name: "a"}}) {
		t.Error(uses)
	}
	if impl.HasRemote(e) || !impl.EqualExpr(e, e) || impl.CountExpr(e) < 1 || impl.DepthOfExpr(e) < 1 {
		t.Error("an endless expression")
	}
	r := impl.Rule{Name: "p", Left: "s", Equations: []impl.Equation{equation(0, "a", e)}}
	if _, ok := impl.FindEquation(r, impl.Occurrence{Name: "a"}); !ok || impl.IsValidRule(r) {
		t.Error("a rule with an endless expression")
	}
	if kind := impl.TypeOfExpr(impl.Grammar{}, r, e); kind != 0 {
		t.Errorf("an endless expression has the type %d", kind)
	}
}
