package tests

import (
	"fmt"
	"slices"
	"strings"
	"testing"

	"loop.example/g00512/impl"
)

// typed has attributes of all types and modes, and a rule with two children and a literal.
func typed(t *testing.T) impl.Grammar {
	return grammarOf(t, "symbol s n:syn:num", "symbol t i:inh:num j:inh:bool a:syn:set b:syn:node", "symbol u x:inh:set! y:syn:bool z:col:set w:inh:node", "rule p s : t u lit", "rule q t : u")
}

func typeIs(t *testing.T, rule string, code string, want int) {
	t.Helper()
	g := typed(t)
	r, ok := impl.FindRule(g, rule)
	e, bad := impl.ParseExpr(code)
	if !ok || bad >= 0 {
		t.Fatalf("%q or %q is wrong", rule, code)
	}
	if got := impl.TypeOfExpr(g, r, e); got != want {
		t.Errorf("TypeOfExpr(%q) in %s = %d; want %d", code, rule, got, want)
	}
}

func TestTypeOfExpr(t *testing.T) {
	const num, set, truth, node = impl.TypeNumber, impl.TypeSet, impl.TypeBool, impl.TypeNode
	cases := map[string]int{
		"0": num, "7": num, "{}": set, "{1 2}": set, "true": truth, "false": truth, "lit": num, "none": node, "self(0)": node, "self(1)": node, "self(2)": node, "self(3)": 0,
		"$0.n": num, "$1.i": num, "$1.j": truth, "$1.a": set, "$1.b": node, "$2.x": set, "$2.y": truth, "$2.z": set, "$2.w": node,
		"$0.a": 0, "$1.n": 0, "$2.a": 0, "$3.n": 0, "$1.zz": 0,
		"s.n of none": num, "t.j of self(0)": truth, "u.z of $1.b": set, "u.w of self(2)": node, "u.x of u.w of none": set, "t.a of t.b of self(1)": set,
		"s.z of none": 0, "v.n of none": 0, "s.n of 0": 0, "s.n of true": 0, "s.n of {}": 0, "s.n of self(3)": 0, "s.n of $1.zz": 0, "s.n of t.a of none": 0,
		"if true then 1 else 2": num, "if 1 < 2 then {} else $1.a": set, "if $1.j then none else self(0)": node, "if $2.y then true else 1 == 2": truth,
		"if 1 then 1 else 2": 0, "if {} then 1 else 2": 0, "if none then 1 else 2": 0, "if true then 1 else {1}": 0, "if true then {} else none": 0, "if true then true else 1": 0,
		"if $1.zz then 1 else 2": 0, "if true then $1.zz else 2": 0, "if true then 1 else $1.zz": 0, "if true then $1.zz else $1.zz": 0, "if true then self(3) else self(3)": 0,
		"1 + 1 + 1": num, "1 + {}": 0, "(1 < 2) == true": 0, "has({1}, 1)": truth, "with({1}, 1)": set, "with(with({}, 1), 2)": set, "has({1}, {1})": 0, "1 + ({} | {})": 0, "if has($1.a, lit) then $0.n * 2 else s.n of self(0)": num,
		"max($1.zz, 1)": 0, "max(1, self(3))": 0,
	}
	for code, want := range cases {
		typeIs(t, "p", code, want)
	}
	// The other rule has no literal, no second child and another symbol.
	for code, want := range map[string]int{"lit": 0, "lit + 1": 0, "if true then lit else lit": 0, "self(1)": node, "self(2)": 0, "$0.a": set, "$1.y": truth, "$2.y": 0, "$0.n": 0} {
		typeIs(t, "q", code, want)
	}
}

// TestTypesOfOperators applies all operators to operands of all types, and of none.
func TestTypesOfOperators(t *testing.T) {
	g := typed(t)
	r, _ := impl.FindRule(g, "p")
	operands := map[int]impl.Expr{0: attr(3, "q"), impl.TypeNumber: number(1), impl.TypeSet: setOf(1), impl.TypeBool: truth(1), impl.TypeNode: none()}
	for n := -1; n <= 14; n++ {
		left, right, result := impl.OperandTypes(n)
		for a, x := range operands {
			for b, y := range operands {
				want := 0
				if a == left && b == right && result != 0 {
					want = result
				}
				if got := impl.TypeOfExpr(g, r, op(n, x, y)); got != want {
					t.Errorf("operator %d with types %d and %d: %d; want %d", n, a, b, got, want)
				}
			}
		}
	}
}

func TestTypesOfWrongExprs(t *testing.T) {
	g := typed(t)
	r, _ := impl.FindRule(g, "p")
	for _, e := range []impl.Expr{
		{}, {Kind: 9}, {Kind: -1}, {Kind: 1 << 62}, {Kind: impl.ExprOp, N: impl.OpAdd}, {Kind: impl.ExprOp, N: impl.OpAdd, Args: []impl.Expr{number(1)}}, {Kind: impl.ExprIf},
		{Kind: impl.ExprIf, Args: []impl.Expr{truth(1), number(1)}}, {Kind: impl.ExprRemote, Symbol: "s", Name: "n"}, attr(-1, "n"), attr(1<<62, "n"), self(-1), self(3),
		{Kind: 99, Args: []impl.Expr{number(1)}}, op(impl.OpAdd, number(1), impl.Expr{}), {Kind: impl.ExprConst},
	} {
		if got := impl.TypeOfExpr(g, r, e); got != 0 {
			t.Errorf("TypeOfExpr(%+v) = %d; want 0", e, got)
		}
	}
	if got := impl.TypeOfExpr(impl.Grammar{}, impl.Rule{}, attr(0, "n")); got != 0 {
		t.Errorf("an attribute without a grammar has the type %d", got)
	}
	if got := impl.TypeOfExpr(impl.Grammar{}, impl.Rule{}, self(0)); got != impl.TypeNode {
		t.Errorf("self in the zero rule has the type %d", got)
	}
	// The limits of expressions are no matter of types.
	if got := impl.TypeOfExpr(g, r, chain(100)); got != impl.TypeNumber {
		t.Errorf("a deep sum has the type %d", got)
	}
	nameless := impl.Grammar{Symbols: []impl.Symbol{{Attributes: []impl.Attribute{plain("n")}}}}
	if got := impl.TypeOfExpr(nameless, impl.Rule{Left: "s"}, attr(1, "n")); got != 0 {
		t.Errorf("an attribute at a position that does not exist has the type %d", got)
	}
}

func heightIs(t *testing.T, g impl.Grammar, symbol string, want int) {
	t.Helper()
	if got := impl.MinHeight(g, symbol); got != want {
		t.Errorf("MinHeight(%q) = %d; want %d", symbol, got, want)
	}
	if got := impl.IsProductive(g, symbol); got != (want > 0) {
		t.Errorf("IsProductive(%q) = %v", symbol, got)
	}
}

func TestMinHeightAndIsProductive(t *testing.T) {
	g := grammarFrom(t, boxes)
	for symbol, want := range map[string]int{"s": 2, "t": 1, "z": 0, "": 0, "page": 0} {
		heightIs(t, g, symbol, want)
	}
	// The smallest height is neither that of the first rule nor that of the last one.
	g = grammarOf(t, "symbol a", "symbol b", "symbol c", "symbol d", "rule p a : b c", "rule q a : d d", "rule r a : b", "rule s b : c", "rule t c : d d d", "rule u d :", "rule v d : a")
	for symbol, want := range map[string]int{"a": 2, "b": 3, "c": 2, "d": 1} {
		heightIs(t, g, symbol, want)
	}
	// The height is that of the highest child.
	g = grammarOf(t, "symbol a", "symbol b", "symbol c", "rule p a : c b c", "rule q b : c", "rule r c :")
	heightIs(t, g, "a", 3)
	// A rule of a later symbol counts in the round after the next one only.
	g = grammarOf(t, "symbol a", "symbol b", "symbol c", "symbol d", "rule p c :", "rule q b : c", "rule r a : b", "rule s d : a", "rule u d : b")
	for symbol, want := range map[string]int{"a": 3, "b": 2, "c": 1, "d": 3} {
		heightIs(t, g, symbol, want)
	}
}

// TestSymbolsWithoutFiniteTrees includes symbols that the grammar does not list.
func TestSymbolsWithoutFiniteTrees(t *testing.T) {
	g := grammarOf(t, "symbol s", "symbol t", "symbol u", "symbol v", "rule p s :", "rule q t : t", "rule r u : v s", "rule w v : u", "rule x v : v v", "rule y t : s u")
	for symbol, want := range map[string]int{"s": 1, "t": 0, "u": 0, "v": 0} {
		heightIs(t, g, symbol, want)
	}
	g = grammarOf(t, "symbol s", "symbol t", "symbol u", "rule p z :", "rule q s : z", "rule r t : t z", "rule v u :", "rule w u : z")
	for symbol, want := range map[string]int{"z": 0, "s": 0, "t": 0, "u": 1} {
		heightIs(t, g, symbol, want)
	}
	heightIs(t, impl.Grammar{}, "s", 0)
	heightIs(t, impl.Grammar{Rules: []impl.Rule{{}}}, "", 0)
	heightIs(t, impl.Grammar{Symbols: []impl.Symbol{{}}, Rules: []impl.Rule{{}}}, "", 1)
	heightIs(t, grammarOf(t, "symbol s", "symbol t"), "s", 0)
	heightIs(t, grammarOf(t, "symbol s", "symbol s", "rule p s : s", "rule q s :"), "s", 1)
}

// TestProductiveByEnumeration compares with the heights of trees that are found by recursion.
func TestProductiveByEnumeration(t *testing.T) {
	rights := [][]string{{}, {"a"}, {"b"}, {"c"}, {"b", "c"}, {"a", "c"}, {"c", "b", "a"}, {"z"}}
	for _, ra := range rights {
		for _, rb := range rights {
			for _, rc := range rights {
				g := impl.Grammar{Symbols: []impl.Symbol{{Name: "a"}, {Name: "b"}, {Name: "c"}}, Rules: []impl.Rule{
					{Name: "p", Left: "a", Right: ra}, {Name: "q", Left: "b", Right: rb}, {Name: "r", Left: "c", Right: rc}, {Name: "s", Left: "z"},
				}}
				for _, symbol := range []string{"a", "b", "c", "z"} {
					want := 0
					for height := 5; height >= 1; height-- {
						if symbol != "z" && hasTree(g, symbol, height) {
							want = height
						}
					}
					heightIs(t, g, symbol, want)
				}
			}
		}
	}
}

// hasTree: there is a tree of at most this height.
func hasTree(g impl.Grammar, symbol string, height int) bool {
	if height == 0 || symbol == "z" {
		return false
	}
	return slices.ContainsFunc(g.Rules, func(r impl.Rule) bool {
		return r.Left == symbol && !slices.ContainsFunc(r.Right, func(child string) bool { return !hasTree(g, child, height-1) })
	})
}

func checkIs(t *testing.T, what string, g impl.Grammar, code int, index int) {
	t.Helper()
	if c, i := impl.CheckGrammar(g); c != code || i != index {
		t.Errorf("%s: CheckGrammar = %d, %d; want %d, %d", what, c, i, code, index)
	}
}

func TestCheckGrammar(t *testing.T) {
	for i, text := range languages() {
		checkIs(t, fmt.Sprint("language ", i+1), grammarFrom(t, text), impl.GrOk, 0)
	}
	checkIs(t, "the zero grammar", impl.Grammar{}, impl.GrShape, 0)
	checkIs(t, "a wrong shape", changed(t, "eq $2.room := max($0.room - $1.width, 0)"), impl.GrMissing, 1)
	checkIs(t, "a wrong type before a wrong shape", changed(t, "eq $1.room := $0.room", "eq $1.room := {} | $1.room"), impl.GrUse, 1)
	// A literal is no number in a rule without a literal.
	checkIs(t, "no literal", changed(t, "rule box t : lit", "rule box t :"), impl.GrType, 2)
	checkIs(t, "a set", changed(t, "eq $0.width := $1.width", "eq $0.width := {1}"), impl.GrType, 0)
	checkIs(t, "no type", changed(t, "eq $1.room := $0.room", "eq $1.room := if true then 1 else {}"), impl.GrType, 1)
	checkIs(t, "an inherited truth value", changed(t, "eq $2.room := max($0.room - $1.width, 0)", "eq $2.room := $0.room < $1.width"), impl.GrType, 1)
}

func TestCheckGrammarOfContributions(t *testing.T) {
	with := func(put string) impl.Grammar {
		return grammarOf(t, "symbol s c:col:set a:syn:set", "symbol t d:col:set e:inh:node", "rule p s : t lit", "eq $0.a := {}", "eq $1.e := self(0)", "rule q t :", "put t.d of none := {}", put)
	}
	for _, put := range []string{"put s.c of $0.e := {1}", "put t.d of self(0) := with({}, 1)", "put t.d of none := s.a of $0.e", "put s.c of t.e of none := s.c of none"} {
		checkIs(t, put, with(put), impl.GrOk, 0)
	}
	for _, put := range []string{
		"put s.c of 1 := {1}", "put s.c of {} := {}", "put s.c of true := {}", "put s.c of self(0) := 1", "put s.c of none := none", "put s.c of none := true", "put s.c of none := lit",
		"put s.a of none := {}", "put t.e of none := {}", "put s.d of none := {}", "put t.c of none := {}", "put z.c of none := {}", "put s.z of none := {}",
		"put s.c of z.e of none := {}", "put s.c of none := z.e of none",
	} {
		checkIs(t, put, with(put), impl.GrType, 1)
	}
}

func TestOrderOfTypesAndEmptySymbols(t *testing.T) {
	checkIs(t, "a loop", grammarOf(t, "symbol s", "symbol t", "rule p s :", "rule q t : t"), impl.GrEmpty, 1)
	checkIs(t, "no rule", grammarOf(t, "symbol s", "symbol t", "symbol u", "rule p s :", "rule r u : s"), impl.GrEmpty, 1)
	checkIs(t, "the start symbol", grammarOf(t, "symbol s", "symbol t", "rule p s : s", "rule q t : t"), impl.GrEmpty, 0)
	checkIs(t, "the last symbol", grammarOf(t, "symbol s", "symbol t", "symbol u", "symbol v", "rule p s :", "rule q t : s", "rule r u : t", "rule w v : u v"), impl.GrEmpty, 3)
	checkIs(t, "a wrong type before it", grammarOf(t, "symbol s a:syn:num", "symbol t", "rule q t : t", "rule p s :", "eq $0.a := {}"), impl.GrType, 1)
	checkIs(t, "two wrong types", grammarOf(t, "symbol s a:syn:num", "rule p s :", "eq $0.a := 1", "rule q s : s", "eq $0.a := true", "rule r s :", "eq $0.a := {}"), impl.GrType, 1)
	checkIs(t, "a wrong shape before it", grammarOf(t, "symbol s", "symbol t", "rule q t : t", "rule p s : z"), impl.GrSymbol, 1)
	checkIs(t, "the second equation", grammarOf(t, "symbol s a:syn:num b:syn:set", "rule p s :", "eq $0.a := 1", "eq $0.b := 1"), impl.GrType, 0)
}

// TestAcceptedGrammars: promise 12, for the languages with one right-hand side replaced by each sample.
func TestAcceptedGrammars(t *testing.T) {
	codes := []string{"1", "{1}", "true", "lit", "none", "self(0)", "self(1)", "1 < 2", "with({}, 3)", "$1.width", "$0.room", "$0.env", "$0.before", "$1.after", "s.errs of self(0)", "s.decls of none", "if true then {} else {1}"}
	accepted, rejected := 0, 0
	for _, text := range languages() {
		lines := strings.Split(strings.TrimSuffix(text, "\n"), "\n")
		for i, line := range lines {
			for _, code := range codes {
				list := slices.Clone(lines)
				if place, _, ok := strings.Cut(line, " := "); ok {
					list[i] = place + " := " + code
				}
				g, ok := impl.ParseGrammar(strings.Join(list, "\n") + "\n")
				if result, at := impl.CheckGrammar(g); !ok || result != impl.GrOk {
					rejected++
					continue
				} else if at != 0 {
					t.Fatalf("GrOk with the index %d", at)
				}
				accepted++
				everyEquationHasItsType(t, g)
			}
		}
	}
	if accepted < 100 || rejected < 100 {
		t.Errorf("%d accepted and %d rejected grammars", accepted, rejected)
	}
}

func everyEquationHasItsType(t *testing.T, g impl.Grammar) {
	t.Helper()
	for _, r := range g.Rules {
		for _, q := range r.Equations {
			s, _ := impl.FindSymbol(g, impl.SymbolAt(r, q.At.Pos))
			if a, ok := impl.FindAttribute(s, q.At.Name); !ok || impl.TypeOfExpr(g, r, q.Expr) != a.Type {
				t.Fatalf("%s has not the type of %v in\n%s", impl.FormatExpr(q.Expr), q.At, impl.FormatGrammar(g))
			}
		}
	}
	for _, s := range g.Symbols {
		if !impl.IsProductive(g, s.Name) || !hasTree(g, s.Name, 5) {
			t.Fatalf("%s is not productive", s.Name)
		}
	}
}

// TestChecksLeaveTheGrammar: no check changes the grammar, and each gives the same result again.
func TestChecksLeaveTheGrammar(t *testing.T) {
	for _, text := range languages() {
		g := grammarFrom(t, text)
		for range 2 {
			checkIs(t, "again", g, impl.GrOk, 0)
			shapeIs(t, "again", g, impl.GrOk, 0)
			for _, r := range g.Rules {
				impl.RequiredOccurrences(g, r)
				for _, q := range r.Equations {
					impl.TypeOfExpr(g, r, q.Expr)
				}
			}
		}
		if impl.FormatGrammar(g) != text {
			t.Errorf("the grammar became\n%s", impl.FormatGrammar(g))
		}
	}
}
