package tests

import (
	"math/rand"
	"slices"
	"testing"

	"loop.example/g00512/impl"
)

func wantUses(e impl.Expr, list []impl.Occurrence) bool {
	if e.Kind == impl.ExprAttr && slices.Contains(list, occurrence(e.Pos, e.Name)) {
		return true
	}
	return slices.ContainsFunc(e.Args, func(a impl.Expr) bool { return wantUses(a, list) })
}

// wantMonotone has the sentences of chapter 32 for valid expressions.
func wantMonotone(e impl.Expr, list []impl.Occurrence) bool {
	if !wantUses(e, list) || e.Kind == impl.ExprAttr {
		return true
	}
	if e.Kind == impl.ExprIf {
		return !wantUses(e.Args[0], list) && wantMonotone(e.Args[1], list) && wantMonotone(e.Args[2], list)
	}
	if e.Kind != impl.ExprOp {
		return false
	}
	switch e.N {
	case impl.OpUnion, impl.OpMeet:
		return wantMonotone(e.Args[0], list) && wantMonotone(e.Args[1], list)
	case impl.OpMinus, impl.OpWith:
		return wantMonotone(e.Args[0], list) && !wantUses(e.Args[1], list)
	}
	return false
}

func isSubset(a int, b int) bool {
	return a|b == b
}

// sets is the style of grammars in which most attributes are sets.
func sets() style {
	return style{types: []int{impl.TypeSet, impl.TypeSet, impl.TypeSet, impl.TypeNumber, impl.TypeBool}, circular: true, weight: 6}
}

// growsWithSets compares values for sets and for greater ones; the other attributes are the same.
func growsWithSets(t *testing.T, random *rand.Rand, g impl.Grammar, r impl.Rule, e impl.Expr, list []impl.Occurrence) (strict bool) {
	t.Helper()
	ids := []int{1, 2, 3, 4}
	for range 30 {
		var small, great []impl.Slot
		for _, o := range impl.OccurrencesOf(g, r) {
			s, _ := impl.FindSymbol(g, impl.SymbolAt(r, o.Pos))
			a, _ := impl.FindAttribute(s, o.Name)
			v := impl.Coerce(random.Intn(1<<12)&random.Intn(1<<12), a.Type)
			small = append(small, slot(o.Pos, o.Name, v))
			if slices.Contains(list, o) {
				v |= random.Intn(1 << 12)
			}
			great = append(great, slot(o.Pos, o.Name, v))
		}
		lit := random.Intn(14)
		a, b := impl.EvalLocal(e, small, lit, ids), impl.EvalLocal(e, great, lit, ids)
		if !isSubset(a, b) {
			t.Fatalf("%s is %d, and %d for greater sets", impl.FormatExpr(e), a, b)
		}
		strict = strict || a != b
	}
	return strict
}

// TestMonotoneExpressionsGrow is promise 32.
func TestMonotoneExpressionsGrow(t *testing.T) {
	random := rand.New(rand.NewSource(32))
	monotone, rejected, strict := 0, 0, 0
	for range 200 {
		m := &maker{random: random, style: sets(), g: randomGrammar(t, random, sets())}
		r := m.g.Rules[random.Intn(len(m.g.Rules))]
		list := impl.CircularOccurrences(m.g, r)
		for _, o := range impl.OccurrencesOf(m.g, r) {
			if random.Intn(8) == 0 {
				list = append(list, o)
			}
		}
		for range 20 {
			e := m.expr(r, impl.TypeSet)
			if got := impl.UsesAny(e, list); got != wantUses(e, list) {
				t.Fatalf("UsesAny(%s, %v) = %v", impl.FormatExpr(e), list, got)
			}
			got := impl.IsMonotone(e, list)
			if got != wantMonotone(e, list) {
				t.Fatalf("IsMonotone(%s, %v) = %v", impl.FormatExpr(e), list, got)
			}
			if !got {
				rejected++
				continue
			}
			// Only sets may become greater.
			sets := slices.DeleteFunc(slices.Clone(list), func(o impl.Occurrence) bool {
				s, _ := impl.FindSymbol(m.g, impl.SymbolAt(r, o.Pos))
				a, _ := impl.FindAttribute(s, o.Name)
				return a.Type != impl.TypeSet
			})
			if growsWithSets(t, random, m.g, r, e, sets) {
				strict++
			}
			if wantUses(e, list) {
				monotone++
			}
		}
	}
	if monotone < 200 || rejected < 200 || strict < 100 {
		t.Errorf("%d monotone expressions, %d rejected ones; the values of %d become greater", monotone, rejected, strict)
	}
}

func monotoneIs(t *testing.T, want bool, list []impl.Occurrence, codes ...string) {
	t.Helper()
	for _, code := range codes {
		e, bad := impl.ParseExpr(code)
		if bad >= 0 {
			t.Fatalf("%q has an error at %d", code, bad)
		}
		if got := impl.IsMonotone(e, list); got != want {
			t.Errorf("IsMonotone(%s) = %v", code, got)
		}
	}
}

func TestIsMonotone(t *testing.T) {
	list := []impl.Occurrence{occurrence(1, "a"), occurrence(0, "b")}
	monotoneIs(t, true, list, "{}", "lit", "none", "self(1)", "1 + 2 < 3", "$0.a", "$1.b", "$2.a \\ $0.a", "has($2.b, 1)", "{1} \\ $1.b", "if has($0.a, 1) then {1} else {}", "s.a of self(1)")
	monotoneIs(t, true, list, "$1.a", "$0.b", "$1.a | $0.b", "$1.a & {1 2}", "{3} & ($1.a | $1.a)", "$1.a \\ {1}", "$1.a \\ $0.a", "($1.a | $0.b) \\ {1}", "with($1.a, 3)", "with($1.a, lit)", "with($1.a, $0.a)", "with($1.a \\ {2}, 3) | $0.b")
	monotoneIs(t, true, list, "if has($0.a, 1) then $1.a else {}", "if true then {} else $1.a | $0.b", "if lit < 3 then $1.a else if true then $0.b else {1}")
	// Operands that must not be used.
	monotoneIs(t, false, list, "{1} \\ $1.a", "$1.a \\ $1.a", "$0.b \\ $1.a", "{1} \\ ($0.a | $1.a)", "with({}, if has($1.a, 1) then 1 else 2)", "with($1.a, if has($1.a, 1) then 1 else 2)", "with({}, max(0, $1.a))")
	monotoneIs(t, false, list, "if has($1.a, 1) then {1} else {}", "if has($0.b, 1) then $1.a else $1.a", "if 1 < $1.a then 1 else 2", "if true then {1} \\ $1.a else {}", "if true then {} else {1} \\ $1.a", "{1} | ({1} \\ $1.a)", "({1} \\ $1.a) & {1}", "({1} \\ $1.a) \\ {2}", "with({1} \\ $1.a, 2)")
	// What is not a set, a union, an intersection, OpMinus, OpWith or an if.
	monotoneIs(t, false, list, "has($1.a, 1)", "$1.a + 1", "1 - $1.a", "$1.a * 1", "max($1.a, 1)", "min(1, $1.a)", "$1.a < 1", "1 == $1.a", "s.a of $1.a", "s.a of (if true then self(0) else $0.b)")
	for _, empty := range [][]impl.Occurrence{nil, {}, {occurrence(2, "a"), occurrence(1, "aa"), {}}} {
		monotoneIs(t, true, empty, "{1} \\ $1.a", "has($1.a, 1)", "s.a of $1.a", "if has($1.a, 1) then {1} else {}", "with({}, if has($1.a, 1) then 1 else 2)")
	}
}

func TestUsesAny(t *testing.T) {
	list := []impl.Occurrence{occurrence(1, "a"), occurrence(0, "b")}
	for code, want := range map[string]bool{"$1.a": true, "$0.b": true, "$0.a": false, "$1.b": false, "{1}": false, "lit": false, "self(1)": false, "s.a of self(1)": false, "s.x of $1.a": true,
		"1 + $1.a": true, "if true then 1 else $0.b": true, "if $0.b then 1 else 2": true, "max(1, min(2, with({}, $1.a)))": true, "max(1, min(2, with({}, $2.a)))": false} {
		e, bad := impl.ParseExpr(code)
		if bad >= 0 {
			t.Fatal(code)
		}
		if got := impl.UsesAny(e, list); got != want {
			t.Errorf("UsesAny(%s) = %v", code, got)
		}
		if impl.UsesAny(e, nil) {
			t.Errorf("%s uses nothing of an empty list", code)
		}
	}
}

// TestMonotoneDamaged: expressions that are not valid, as far as the sentences of the chapter say something about them.
func TestMonotoneDamaged(t *testing.T) {
	a := attr(1, "a")
	list := []impl.Occurrence{occurrence(1, "a"), {}}
	damaged := []impl.Expr{op(impl.OpUnion, a, a), op(impl.OpMinus, a, number(0)), ifThen(a, a, a)}
	for i := range damaged {
		damaged[i].Args = damaged[i].Args[:1]
		if impl.IsMonotone(damaged[i], list) || !impl.UsesAny(damaged[i], list) || !impl.IsMonotone(damaged[i], nil) {
			t.Errorf("%v has not enough operands", damaged[i])
		}
	}
	for _, kind := range []int{0, -1, 9} {
		e := impl.Expr{Kind: kind, Args: []impl.Expr{a}}
		if impl.IsMonotone(e, list) || !impl.UsesAny(e, list) || !impl.IsMonotone(e, nil) {
			t.Errorf("%v is no expression", e)
		}
		if e.Args = nil; !impl.IsMonotone(e, list) || impl.UsesAny(e, list) {
			t.Errorf("%v uses nothing", e)
		}
	}
	deep := a
	for range 100000 {
		deep = op(impl.OpUnion, deep, setOf(1))
	}
	if !impl.IsMonotone(deep, list) || !impl.UsesAny(deep, list) || impl.IsMonotone(op(impl.OpHas, deep, number(1)), list) {
		t.Error("a deep expression")
	}
	if !impl.UsesAny(attr(0, ""), list) {
		t.Error("an attribute without a name")
	}
}

func TestCircularOccurrences(t *testing.T) {
	g := grammarOf(t, "symbol s a:syn:set! b:syn:set", "symbol t i:inh:set j:inh:set! k:syn:num l:syn:set!", "rule p s : t s t lit", "rule q t :", "rule r u : t u")
	want := map[string][]impl.Occurrence{
		"p": {occurrence(0, "a"), occurrence(1, "j"), occurrence(1, "l"), occurrence(2, "a"), occurrence(3, "j"), occurrence(3, "l")},
		"q": {occurrence(0, "j"), occurrence(0, "l")},
		"r": {occurrence(1, "j"), occurrence(1, "l")},
	}
	for name, list := range want {
		if got := impl.CircularOccurrences(g, ruleOf(t, g, name)); !slices.Equal(got, list) {
			t.Errorf("CircularOccurrences of %s = %v; want %v", name, got, list)
		}
	}
	g = grammarFrom(t, boxes)
	if got := impl.CircularOccurrences(g, g.Rules[1]); len(got) != 0 || len(impl.CircularOccurrences(impl.Grammar{}, g.Rules[1])) != 0 {
		t.Errorf("boxes have the circular occurrences %v", got)
	}
}

func wellFormedIs(t *testing.T, want bool, what string, lines ...string) {
	t.Helper()
	g := grammarOf(t, lines...)
	if code, at := impl.CheckGrammar(g); code != impl.GrOk {
		t.Fatalf("%s: the code %d at %d", what, code, at)
	}
	if got := impl.IsWellFormed(g); got != want {
		t.Errorf("%s: IsWellFormed = %v", what, got)
	}
}

func TestIsWellFormed(t *testing.T) {
	for i, text := range languages() {
		if got := impl.IsWellFormed(grammarFrom(t, text)); got != (i > 0) {
			t.Errorf("language %d: IsWellFormed = %v", i+1, got)
		}
	}
	for code, g := range wrongGrammars(t) {
		if impl.IsWellFormed(g) {
			t.Errorf("a grammar with the code %d is not well-formed", code)
		}
	}
	head := []string{"symbol s a:syn:set! b:syn:set n:syn:num", "symbol t a:syn:set! i:inh:set! j:inh:set", "rule q t :", "eq $0.a := $0.i", "rule p s : t"}
	with := func(a string, b string, i string, j string) []string {
		return append(slices.Clone(head), "eq $0.a := "+a, "eq $0.b := "+b, "eq $0.n := 1", "eq $1.i := "+i, "eq $1.j := "+j)
	}
	wellFormedIs(t, true, "constants", with("{}", "{}", "{}", "{}")...)
	wellFormedIs(t, true, "monotone equations", with("$1.a \\ {1}", "{1} \\ $1.a", "$1.a & $1.a", "if has($1.a, 1) then {} else {2}")...)
	wellFormedIs(t, false, "an equation at position 0", with("{1} \\ $1.a", "{}", "{}", "{}")...)
	wellFormedIs(t, false, "an equation of a child", with("{}", "{}", "{1} \\ $1.a", "{}")...)
	wellFormedIs(t, false, "an if", with("{}", "{}", "if has($1.a, 1) then {1} else {}", "{}")...)
	wellFormedIs(t, false, "a remote attribute in an equation that is not circular", with("{}", "t.a of self(1)", "{}", "{}")...)
	wellFormedIs(t, false, "a remote attribute without a use", with("{}", "{}", "t.a of none", "{}")...)
	wellFormedIs(t, false, "a remote attribute that is not needed", with("{}", "if true then {} else t.a of none", "{}", "{}")...)
	// An attribute that is not circular may depend on a circular one in any way, and a circular one on it.
	wellFormedIs(t, true, "two symbols", "symbol s a:syn:set! b:syn:set", "rule p s : s", "eq $0.a := {1} \\ $1.b", "eq $0.b := {2} \\ $1.a", "rule q s :", "eq $0.a := {}", "eq $0.b := {}")
	wellFormedIs(t, false, "a circular attribute of a child", "symbol s a:syn:set! b:syn:set", "rule p s : s", "eq $0.a := {1} \\ $1.a", "eq $0.b := {2} \\ $1.a", "rule q s :", "eq $0.a := {}", "eq $0.b := {}")
	wellFormedIs(t, false, "a collected attribute", "symbol s a:syn:num c:col:set", "rule p s :", "eq $0.a := 1")
	wellFormedIs(t, false, "a collected attribute of another symbol", "symbol s a:syn:num", "symbol t c:col:set", "rule p s :", "eq $0.a := 1", "rule q t :")
	wellFormedIs(t, false, "the last rule", "symbol s a:syn:set!", "rule p s :", "eq $0.a := {}", "rule q s : s", "eq $0.a := {1} \\ $1.a")
	wellFormedIs(t, true, "no attributes", "symbol s", "rule p s :")
}

func TestRandomWellFormed(t *testing.T) {
	random := rand.New(rand.NewSource(321))
	counts := map[bool]int{}
	for _, g := range randomGrammars(t, random, 60, sets(), anything(), numbers()) {
		want := true
		for _, s := range g.Symbols {
			for _, a := range s.Attributes {
				want = want && a.Mode != impl.ModeCollected
			}
		}
		for _, r := range g.Rules {
			circular := impl.CircularOccurrences(g, r)
			for _, q := range r.Equations {
				want = want && !impl.HasRemote(q.Expr) && (!slices.Contains(circular, q.At) || wantMonotone(q.Expr, circular))
			}
		}
		if got := impl.IsWellFormed(g); got != want {
			t.Fatalf("IsWellFormed = %v: %s", got, impl.FormatGrammar(g))
		}
		counts[want]++
	}
	if counts[true] < 30 || counts[false] < 30 {
		t.Error(counts)
	}
}
