package tests

import (
	"math/rand"
	"slices"
	"strings"
	"testing"

	"loop.example/g00512/impl"
)

// wantEvaluated evaluates a tree with the oracles of chapters 21 and 34.
func wantEvaluated(g impl.Grammar, x impl.Tree) ([]int, int) {
	circular := false
	for _, s := range g.Symbols {
		for _, a := range s.Attributes {
			circular = circular || a.Circular
		}
	}
	code, _ := impl.CheckGrammar(g)
	if code != impl.GrOk || !impl.IsTreeOf(g, x, impl.SymbolOfNode(g, x, 0)) || circular && !impl.IsWellFormed(g) {
		return nil, impl.EvBad
	}
	if circular {
		if run := wantFixRun(g, x); run.Ok {
			return run.Values, impl.EvOk
		}
		return nil, impl.EvCyclic
	}
	if d := wantDemand(g, x, impl.Instances(g, x)); !d.Cyclic {
		return d.Values, impl.EvOk
	}
	return nil, impl.EvCyclic
}

// wantShown formats the values of all instances.
func wantShownValues(g impl.Grammar, x impl.Tree, values []int) string {
	var text strings.Builder
	for i, y := range impl.Instances(g, x) {
		a, _ := impl.AttributeOf(g, x, y)
		text.WriteString(impl.FormatInstance(y) + " = " + impl.FormatTyped(values[i], a.Type) + "\n")
	}
	return text.String()
}

func evaluationIsRight(t *testing.T, g impl.Grammar, x impl.Tree) int {
	t.Helper()
	values, code := impl.EvaluateTree(g, x)
	want, wantCode := wantEvaluated(g, x)
	if code != wantCode || !slices.Equal(values, want) {
		t.Fatalf("EvaluateTree = %v, %d; want %v, %d: %s", values, code, want, wantCode, impl.FormatGrammar(g))
	}
	list := impl.Instances(g, x)
	for i, y := range append(list, at(1000, "x"), impl.Instance{}) {
		v, ok := impl.ValueOf(g, x, y)
		if known := code == impl.EvOk && i < len(list); ok != known || known && v != want[i] || !known && v != 0 {
			t.Fatalf("ValueOf(%v) = %d, %v", y, v, ok)
		}
	}
	shown := ""
	if code == impl.EvOk {
		shown = wantShownValues(g, x, want)
	}
	if got := impl.ShowValues(g, x); got != shown {
		t.Fatalf("ShowValues = %q; want %q", got, shown)
	}
	return code
}

// TestTreesAreEvaluated is promise 35.
func TestTreesAreEvaluated(t *testing.T) {
	random := rand.New(rand.NewSource(35))
	codes := map[int]int{}
	grammars := randomGrammars(t, random, 25, numbers(), anyTypes(), anything(), sets())
	for n := range 60 {
		grammars = append(grammars, wellFormed(t, random, []style{sets(), circularSets()}[n%2], n%2 == 1))
	}
	for _, g := range grammars {
		for range 2 {
			x := randomTree(random, g, symbolNames(g)[random.Intn(len(g.Symbols))])
			code := evaluationIsRight(t, g, x)
			codes[code]++
			plain := !impl.HasCircular(g) && impl.IsStatic(g)
			if _, ordered := impl.TreeOrder(g, x); ordered && code != impl.EvOk && (plain || impl.IsWellFormed(g)) {
				t.Fatalf("a tree without a cycle has the code %d", code)
			}
		}
	}
	if min(codes[impl.EvOk], codes[impl.EvBad], codes[impl.EvCyclic]) < 20 {
		t.Error(codes)
	}
}

func evaluatesTo(t *testing.T, what string, g impl.Grammar, x impl.Tree, want int) {
	t.Helper()
	evaluationIsRight(t, g, x)
	if values, code := impl.EvaluateTree(g, x); code != want || code != impl.EvOk && len(values) != 0 {
		t.Errorf("%s: EvaluateTree = %v, %d; want %d", what, values, code, want)
	}
}

func TestHasCircular(t *testing.T) {
	for i, text := range languages() {
		if got := impl.HasCircular(grammarFrom(t, text)); got != (i == 1) {
			t.Errorf("language %d: HasCircular = %v", i+1, got)
		}
	}
	g := grammarFrom(t, boxes)
	g.Symbols[1].Attributes[1].Circular = true
	if !impl.HasCircular(g) || impl.HasCircular(impl.Grammar{}) || !impl.HasCircular(impl.Grammar{Symbols: g.Symbols}) {
		t.Error("any symbol and any attribute counts")
	}
}

// TestWhichEvaluationApplies: with one circular attribute, all attributes are evaluated statically; without, on demand.
func TestWhichEvaluationApplies(t *testing.T) {
	// v depends on itself, but only in an argument that is not chosen.
	lines := func(attribute string) []string {
		return []string{"symbol s v:syn:num", "symbol t i:inh:num v:syn:num " + attribute, "rule p s : t", "eq $0.v := $1.v", "eq $1.i := $1.v", "rule q t : lit", "eq $0.v := if 5 < lit then $0.i else lit", "eq $0.c := {}"}
	}
	g := grammarOf(t, lines("c:syn:set")...)
	evaluatesTo(t, "on demand", g, treeOf(t, g, "(p (q 4))"), impl.EvOk)
	evaluatesTo(t, "on demand with a cycle", g, treeOf(t, g, "(p (q 6))"), impl.EvCyclic)
	g = grammarOf(t, lines("c:syn:set!")...)
	evaluatesTo(t, "statically", g, treeOf(t, g, "(p (q 4))"), impl.EvCyclic)
	evaluatesTo(t, "statically without a cycle", g, treeOf(t, g, "(q 6)"), impl.EvOk)
	// A circular attribute anywhere, also of a symbol that the tree does not have, excludes remote and collected ones.
	for _, mark := range []string{"", "!"} {
		code := impl.EvOk
		if mark != "" {
			code = impl.EvBad
		}
		g = grammarOf(t, "symbol s a:syn:num c:col:set", "symbol t b:syn:set"+mark, "rule p s :", "eq $0.a := 1", "rule q t :", "eq $0.b := {}")
		evaluatesTo(t, "a collected attribute", g, treeOf(t, g, "(p)"), code)
		g = grammarOf(t, "symbol s a:syn:num", "symbol t b:syn:set"+mark, "rule p s :", "eq $0.a := s.a of none", "rule q t :", "eq $0.b := {}")
		evaluatesTo(t, "a remote attribute", g, treeOf(t, g, "(p)"), code)
		g = grammarOf(t, "symbol s a:syn:set"+mark, "rule p s : s", "eq $0.a := {1} \\ $1.a", "rule q s :", "eq $0.a := {2}")
		evaluatesTo(t, "an equation that is not monotone", g, treeOf(t, g, "(p (q))"), code)
	}
	l := grammarFrom(t, loops)
	x := treeOf(t, l, exampleTrees()[1])
	evaluatesTo(t, "circular attributes", l, x, impl.EvOk)
	for i := range l.Symbols[1].Attributes {
		l.Symbols[1].Attributes[i].Circular = false
	}
	evaluatesTo(t, "the same attributes on demand", l, x, impl.EvCyclic)
	// Only one of them is circular.
	l.Symbols[1].Attributes[0].Circular = true
	evaluatesTo(t, "a cycle with an attribute that is not circular", l, x, impl.EvCyclic)
	evaluatesTo(t, "a tree without a cycle", l, treeOf(t, l, "(main (seq (gen 1) (kill 2)))"), impl.EvOk)
}

func TestEvaluateTreeFails(t *testing.T) {
	for code, wrong := range wrongGrammars(t) {
		evaluatesTo(t, "a grammar that is not accepted", wrong, treeOf(t, grammarFrom(t, boxes), exampleTrees()[2]), impl.EvBad)
		if _, got := impl.EvaluateTree(wrong, impl.Tree{}); got != impl.EvBad {
			t.Errorf("a grammar with the code %d and no tree: %d", code, got)
		}
	}
	for k, text := range languages() {
		g := grammarFrom(t, text)
		x := treeOf(t, g, exampleTrees()[k])
		evaluatesTo(t, "the example", g, x, impl.EvOk)
		evaluatesTo(t, "a subtree", g, impl.Subtree(x, 1), impl.EvOk)
		evaluatesTo(t, "no node", g, impl.Tree{}, impl.EvBad)
		x.Nodes[2].Id = x.Nodes[1].Id
		evaluatesTo(t, "a broken tree", g, x, impl.EvBad)
		evaluatesTo(t, "a tree of another grammar", g, treeOf(t, grammarFrom(t, languages()[(k+1)%3]), exampleTrees()[(k+1)%3]), impl.EvBad)
	}
	bare := grammarOf(t, "symbol s", "rule p s :")
	evaluatesTo(t, "no instances", bare, treeOf(t, bare, "(p)"), impl.EvOk)
}

func TestShowValues(t *testing.T) {
	g := grammarOf(t, "symbol s n:syn:num b:syn:bool c:col:set", "symbol t up:inh:node k:syn:set", "rule p s : t t", "eq $0.n := 1 - 5", "eq $0.b := 1 < 2", "eq $1.up := self(2)", "eq $2.up := none", "put s.c of self(0) := $2.k", "rule q t : lit", "eq $0.k := with({0 11}, lit)")
	x, _ := impl.ParseTree(g, "(p (q 3) (q 0))", 40)
	if got, want := impl.ShowValues(g, x), "#40.n = -4\n#40.b = true\n#40.c = {0 11}\n#41.up = #42\n#41.k = {0 3 11}\n#42.up = none\n#42.k = {0 11}\n"; got != want {
		t.Errorf("ShowValues = %q; want %q", got, want)
	}
	if got, want := impl.ShowValues(g, impl.Subtree(x, 1)), "#41.up = none\n#41.k = {0 3 11}\n"; got != want {
		t.Errorf("ShowValues = %q; want %q", got, want)
	}
	for _, y := range []impl.Instance{at(40, "up"), at(1, "n"), at(41, "n"), at(40, ""), {}} {
		if v, ok := impl.ValueOf(g, x, y); ok || v != 0 {
			t.Errorf("ValueOf(%v) = %d, %v", y, v, ok)
		}
	}
	if v, ok := impl.ValueOf(g, x, at(41, "up")); !ok || v != 42 {
		t.Errorf("ValueOf = %d, %v", v, ok)
	}
	if v, ok := impl.ValueOf(g, x, at(42, "up")); !ok || v != 0 {
		t.Errorf("ValueOf = %d, %v", v, ok)
	}
	bare := grammarOf(t, "symbol s", "rule p s :")
	if got := impl.ShowValues(bare, treeOf(t, bare, "(p)")); got != "" {
		t.Errorf("ShowValues = %q", got)
	}
}
