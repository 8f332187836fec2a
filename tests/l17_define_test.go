package tests

import (
	"math"
	"math/rand"
	"reflect"
	"slices"
	"testing"

	"loop.example/g00512/impl"
)

func definitionIs(t *testing.T, g impl.Grammar, x impl.Tree, y impl.Instance, owner int, code string) {
	t.Helper()
	d, ok := impl.DefinitionOf(g, x, y)
	if !ok || d.Owner != owner || impl.FormatExpr(d.Expr) != code {
		t.Errorf("DefinitionOf(%v) = %v, %v; want %d, %q", y, d, ok, owner, code)
	}
}

func hasNoDefinition(t *testing.T, g impl.Grammar, x impl.Tree, y impl.Instance) {
	t.Helper()
	if d, ok := impl.DefinitionOf(g, x, y); ok || !reflect.DeepEqual(d, impl.Definition{}) || len(impl.StaticInputs(g, x, y)) != 0 {
		t.Errorf("DefinitionOf(%v) = %v, %v", y, d, ok)
	}
}

func TestDefinitionOf(t *testing.T) {
	g := grammarFrom(t, boxes)
	x, _ := impl.ParseTree(g, exampleTrees()[2], 10)
	definitionIs(t, g, x, at(10, "width"), 0, "$1.width")
	definitionIs(t, g, x, at(11, "room"), 0, "lit")
	definitionIs(t, g, x, at(11, "width"), 1, "$1.width + $2.width")
	definitionIs(t, g, x, at(12, "room"), 1, "$0.room")
	definitionIs(t, g, x, at(12, "width"), 2, "min(lit, $0.room)")
	definitionIs(t, g, x, at(13, "room"), 1, "max($0.room - $1.width, 0)")
	definitionIs(t, g, x, at(13, "width"), 3, "$1.width + $2.width")
	definitionIs(t, g, x, at(15, "room"), 3, "max($0.room - $1.width, 0)")
	for _, y := range []impl.Instance{at(10, "room"), at(9, "width"), at(16, "width"), at(0, "width"), at(11, "errs"), at(11, ""), {}, at(math.MinInt, "room")} {
		hasNoDefinition(t, g, x, y)
	}
	sub := impl.Subtree(x, 1)
	hasNoDefinition(t, g, sub, at(11, "room"))
	definitionIs(t, g, sub, at(13, "room"), 0, "max($0.room - $1.width, 0)")
	d := grammarFrom(t, declarations)
	y := treeOf(t, d, exampleTrees()[0])
	hasNoDefinition(t, d, y, at(1, "decls"))
	definitionIs(t, d, y, at(4, "errs"), 3, "if has(s.decls of $0.env, lit) then 0 else 1")
	definitionIs(t, d, y, at(2, "env"), 0, "self(0)")
	hasNoDefinition(t, impl.Grammar{}, x, at(10, "width"))
	hasNoDefinition(t, g, impl.Tree{}, at(0, "width"))
}

// TestDefinitionOfWrongGrammars: other modes are treated as synthesized, and equations may be missing or stand twice.
func TestDefinitionOfWrongGrammars(t *testing.T) {
	g := impl.Grammar{
		Symbols: []impl.Symbol{{Name: "s", Attributes: []impl.Attribute{{Name: "a", Mode: 0}, {Name: "b", Mode: 9}, {Name: "c", Mode: impl.ModeCollected}, {Name: "d", Mode: impl.ModeSynthesized}, {Name: "i", Mode: impl.ModeInherited}}}},
		Rules: []impl.Rule{
			{Name: "p", Left: "s", Right: []string{"s"}, Equations: []impl.Equation{equation(0, "a", number(1)), equation(0, "b", number(2)), equation(0, "c", number(3)), equation(1, "i", number(4)), equation(1, "i", number(5)), equation(1, "a", number(6))}},
			{Name: "q", Left: "s", Equations: []impl.Equation{equation(0, "i", number(7)), equation(0, "b", attr(3, "a"))}},
		},
	}
	x := treeFrom(grow("p", 0, grow("q", 0)), 1)
	definitionIs(t, g, x, at(1, "a"), 0, "1")
	definitionIs(t, g, x, at(1, "b"), 0, "2")
	hasNoDefinition(t, g, x, at(1, "c"))
	hasNoDefinition(t, g, x, at(1, "d"))
	hasNoDefinition(t, g, x, at(1, "i"))
	hasNoDefinition(t, g, x, at(2, "a"))
	definitionIs(t, g, x, at(2, "i"), 0, "4")
	definitionIs(t, g, x, at(2, "b"), 1, "$3.a")
	if in := impl.StaticInputs(g, x, at(2, "b")); len(in) != 0 {
		t.Error("there is no child 3", in)
	}
	// The links decide which equation defines an instance; they may lead nowhere.
	for _, parent := range []int{-1, 2, 77, math.MaxInt, math.MinInt, 1} {
		y := cloneTree(x)
		y.Nodes[1].Parent = parent
		hasNoDefinition(t, g, y, at(2, "i"))
	}
}

// TestEveryInstanceHasADefinition is promise 17.
func TestEveryInstanceHasADefinition(t *testing.T) {
	random := rand.New(rand.NewSource(17))
	for _, g := range randomGrammars(t, random, 60, anyTypes(), anything()) {
		for range 5 {
			x := randomTree(random, g, symbolNames(g)[random.Intn(len(g.Symbols))])
			for _, y := range impl.Instances(g, x) {
				a, _ := impl.AttributeOf(g, x, y)
				i := impl.NodeIndex(x, y.Node)
				d, ok := impl.DefinitionOf(g, x, y)
				if want := a.Mode == impl.ModeSynthesized || a.Mode == impl.ModeInherited && i > 0; ok != want {
					t.Fatalf("the definition of %v (%v) exists: %v", y, a, ok)
				}
				if ok {
					inputsAreRight(t, g, x, y, d)
				}
			}
		}
	}
}

// inputsAreRight looks for the equation in the rules, from the children to the parents.
func inputsAreRight(t *testing.T, g impl.Grammar, x impl.Tree, y impl.Instance, d impl.Definition) {
	t.Helper()
	owner := x.Nodes[d.Owner]
	r, _ := impl.FindRule(g, owner.Rule)
	ids := impl.Tree{Nodes: []impl.Node{owner}}
	for _, c := range owner.Children {
		ids.Nodes = append(ids.Nodes, x.Nodes[c])
	}
	pos := impl.NodeIndex(ids, y.Node)
	a, _ := impl.AttributeOf(g, x, y)
	if pos < 0 || (pos == 0) != (a.Mode == impl.ModeSynthesized) {
		t.Fatalf("the owner of %v is node %d", y, d.Owner)
	}
	e, ok := impl.FindEquation(r, impl.Occurrence{Pos: pos, Name: y.Name})
	if !ok || !impl.EqualExpr(e, d.Expr) {
		t.Fatalf("the expression of %v is %s", y, impl.FormatExpr(d.Expr))
	}
	var want []impl.Instance
	for _, u := range impl.AttributeUses(e) {
		want = append(want, at(ids.Nodes[u.Pos].Id, u.Name))
	}
	if got := impl.StaticInputs(g, x, y); !slices.Equal(got, want) {
		t.Fatalf("StaticInputs(%v) = %v; want %v", y, got, want)
	}
	for _, in := range want {
		if _, ok := impl.AttributeOf(g, x, in); !ok {
			t.Fatalf("the input %v is no instance", in)
		}
	}
}

func TestDefinitionsShareNothing(t *testing.T) {
	g := grammarFrom(t, boxes)
	x := treeOf(t, g, exampleTrees()[2])
	before := impl.FormatGrammar(g)
	d, _ := impl.DefinitionOf(g, x, at(4, "room"))
	d.Expr.Args[0].Args[1] = number(5)
	if impl.FormatGrammar(g) != before {
		t.Error("the grammar is changed")
	}
}

func TestInstanceAt(t *testing.T) {
	g := grammarFrom(t, boxes)
	x := treeOf(t, g, exampleTrees()[2])
	cases := []struct {
		i, pos int
		want   impl.Instance
	}{{0, 0, at(1, "width")}, {0, 1, at(2, "width")}, {1, 0, at(2, "width")}, {1, 1, at(3, "width")}, {1, 2, at(4, "width")}, {3, 2, at(6, "width")}, {5, 0, at(6, "width")}}
	for _, c := range cases {
		if got, ok := impl.InstanceAt(g, x, c.i, impl.Occurrence{Pos: c.pos, Name: "width"}); !ok || got != c.want {
			t.Errorf("InstanceAt(%d, %d) = %v, %v", c.i, c.pos, got, ok)
		}
	}
	if got, ok := impl.InstanceAt(g, x, 0, impl.Occurrence{Name: "zz"}); !ok || got != at(1, "zz") {
		t.Error("the attribute need not exist", got, ok)
	}
	for _, c := range [][2]int{{-1, 0}, {6, 0}, {6, 1}, {0, 2}, {0, -1}, {2, 1}, {1, 3}, {1, math.MaxInt}, {1, math.MinInt}, {math.MinInt, 0}} {
		if got, ok := impl.InstanceAt(g, x, c[0], impl.Occurrence{Pos: c[1], Name: "width"}); ok || got != (impl.Instance{}) {
			t.Errorf("InstanceAt(%d, %d) = %v, %v", c[0], c[1], got, ok)
		}
	}
	x.Nodes[1].Children = []int{9, -1}
	for pos := 1; pos <= 2; pos++ {
		if got, ok := impl.InstanceAt(g, x, 1, impl.Occurrence{Pos: pos, Name: "width"}); ok {
			t.Errorf("there is no child %d, but %v", pos, got)
		}
	}
}

func TestStaticInputs(t *testing.T) {
	g := grammarFrom(t, loops)
	x := treeOf(t, g, exampleTrees()[1])
	cases := map[impl.Instance][]impl.Instance{
		at(1, "out"): {at(2, "after")}, at(2, "before"): nil, at(2, "after"): {at(4, "after")}, at(4, "before"): {at(3, "after")},
		at(5, "before"): {at(4, "before"), at(5, "after")}, at(4, "after"): {at(4, "before"), at(5, "after")}, at(3, "after"): {at(3, "before")},
		at(1, "zz"): nil, at(9, "after"): nil, at(1, "before"): nil,
	}
	for y, want := range cases {
		if got := impl.StaticInputs(g, x, y); !slices.Equal(got, want) {
			t.Errorf("StaticInputs(%v) = %v; want %v", y, got, want)
		}
	}
	// A remote attribute is no static input, but the uses of its argument are.
	d := grammarFrom(t, declarations)
	if got := impl.StaticInputs(d, treeOf(t, d, exampleTrees()[0]), at(4, "errs")); !slices.Equal(got, []impl.Instance{at(4, "env")}) {
		t.Error(got)
	}
}

func TestIsStatic(t *testing.T) {
	want := []bool{false, false, true}
	for k, text := range languages() {
		if got := impl.IsStatic(grammarFrom(t, text)); got != want[k] {
			t.Errorf("language %d: %v", k+1, got)
		}
	}
	for code, g := range wrongGrammars(t) {
		if impl.IsStatic(g) {
			t.Errorf("a grammar with the code %d is static", code)
		}
	}
	lines := []string{"symbol s a:syn:set", "symbol t b:inh:num", "rule p s : t", "eq $0.a := {1}", "eq $1.b := 1", "rule q t :"}
	replaced := func(k int, line string, more ...string) impl.Grammar {
		with := slices.Clone(lines)
		with[k] = line
		return grammarOf(t, append(with, more...)...)
	}
	cases := map[string]struct {
		g    impl.Grammar
		want bool
	}{
		"plain":            {replaced(0, lines[0]), true},
		"remote":           {replaced(4, "eq $1.b := t.b of none"), false},
		"remote deep":      {replaced(3, "eq $0.a := if 1 < 2 then {} else with({}, t.b of self(1))"), false},
		"circular":         {replaced(0, "symbol s a:syn:set!"), false},
		"collected":        {replaced(1, "symbol t b:inh:num c:col:set"), false},
		"node":             {replaced(1, "symbol t b:inh:num d:syn:node", "eq $0.d := self(0)"), true},
		"literal":          {grammarOf(t, "symbol s", "rule p s : lit"), true},
		"no attributes":    {grammarOf(t, "symbol s", "rule p s :"), true},
		"unused circular":  {grammarOf(t, "symbol s", "symbol t x:inh:set!", "rule p s :", "rule q t :"), false},
		"unused collected": {grammarOf(t, "symbol s", "symbol t x:col:set", "rule p s :", "rule q t :"), false},
	}
	for what, c := range cases {
		if code, _ := impl.CheckGrammar(c.g); code != impl.GrOk || impl.IsStatic(c.g) != c.want {
			t.Errorf("%s: code %d, IsStatic %v", what, code, impl.IsStatic(c.g))
		}
	}
}
