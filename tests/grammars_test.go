package tests

import (
	"math/rand"
	"slices"
	"testing"

	"loop.example/g00512/impl"
)

// style says what a random grammar may contain.
type style struct {
	types                       []int
	remote, collected, circular bool
	// weight is the number of times that a use of an attribute stands among the leaves of expressions.
	weight int
}

// numbers is the style of grammars that have only numbers, so that most expressions use attributes.
func numbers() style {
	return style{types: []int{impl.TypeNumber}, weight: 8}
}

func anyTypes() style {
	return style{types: allTypes(), weight: 2}
}

func anything() style {
	return style{types: allTypes(), remote: true, collected: true, circular: true, weight: 2}
}

// maker makes a random grammar that is accepted.
type maker struct {
	random *rand.Rand
	style  style
	g      impl.Grammar
}

func randomGrammar(t *testing.T, random *rand.Rand, s style) impl.Grammar {
	t.Helper()
	m := &maker{random: random, style: s}
	for _, name := range []string{"s", "t", "u"}[:1+max(random.Intn(3), random.Intn(3))] {
		m.g.Symbols = append(m.g.Symbols, impl.Symbol{Name: name, Attributes: m.attributes(name == "s")})
	}
	names := []string{"a", "b", "c", "d", "e", "f", "g", "h"}
	for i, name := range names[:len(m.g.Symbols)+random.Intn(9-len(m.g.Symbols))] {
		m.g.Rules = append(m.g.Rules, m.rule(name, i))
	}
	for i := range m.g.Rules {
		m.addEquations(&m.g.Rules[i])
		m.addContributions(&m.g.Rules[i])
	}
	if code, at := impl.CheckGrammar(m.g); code != impl.GrOk {
		t.Fatalf("a random grammar has the code %d at %d: %s", code, at, impl.FormatGrammar(m.g))
	}
	return m.g
}

func (m *maker) attributes(start bool) []impl.Attribute {
	var list []impl.Attribute
	for _, name := range []string{"p", "q", "x", "y"}[:max(m.random.Intn(5), m.random.Intn(5))] {
		a := impl.Attribute{Name: name, Type: m.style.types[m.random.Intn(len(m.style.types))], Mode: 1 + m.random.Intn(2)}
		if start {
			a.Mode = impl.ModeSynthesized
		}
		if m.style.collected && m.random.Intn(4) == 0 {
			a.Mode, a.Type = impl.ModeCollected, impl.TypeSet
		}
		a.Circular = m.style.circular && a.Type == impl.TypeSet && a.Mode != impl.ModeCollected && m.random.Intn(2) == 0
		list = append(list, a)
	}
	return list
}

// rule makes rule number i without equations. The first rules have leaves only, so that every symbol is productive.
func (m *maker) rule(name string, i int) impl.Rule {
	r := impl.Rule{Name: name, Left: m.anySymbol(), Literal: m.random.Intn(2) == 0}
	if i < len(m.g.Symbols) {
		r.Left = m.g.Symbols[i].Name
		return r
	}
	for range m.random.Intn(impl.MaxChildren + 1) {
		r.Right = append(r.Right, m.anySymbol())
	}
	return r
}

func (m *maker) anySymbol() string {
	return m.g.Symbols[m.random.Intn(len(m.g.Symbols))].Name
}

func (m *maker) addEquations(r *impl.Rule) {
	for _, o := range impl.RequiredOccurrences(m.g, *r) {
		s, _ := impl.FindSymbol(m.g, impl.SymbolAt(*r, o.Pos))
		a, _ := impl.FindAttribute(s, o.Name)
		r.Equations = append(r.Equations, impl.Equation{At: o, Expr: m.expr(*r, a.Type)})
	}
	m.random.Shuffle(len(r.Equations), func(i int, k int) { r.Equations[i], r.Equations[k] = r.Equations[k], r.Equations[i] })
}

func (m *maker) addContributions(r *impl.Rule) {
	for _, s := range m.g.Symbols {
		for _, a := range s.Attributes {
			if a.Mode == impl.ModeCollected && len(r.Contributions) < impl.MaxContributions && m.random.Intn(2) == 0 {
				r.Contributions = append(r.Contributions, impl.Contribution{Symbol: s.Name, Name: a.Name, Target: m.expr(*r, impl.TypeNode), Value: m.expr(*r, impl.TypeSet)})
			}
		}
	}
}

// expr makes a valid expression of this type.
func (m *maker) expr(r impl.Rule, kind int) impl.Expr {
	for {
		if e := m.typedExpr(r, kind, 1+m.random.Intn(4)); impl.IsValidExpr(e) {
			return e
		}
	}
}

func (m *maker) typedExpr(r impl.Rule, kind int, depth int) impl.Expr {
	leaves := m.leaves(r, kind)
	if depth <= 1 {
		return leaves[m.random.Intn(len(leaves))]
	}
	var ops []int
	for n := 1; n <= 12; n++ {
		if _, _, result := impl.OperandTypes(n); result == kind {
			ops = append(ops, n)
		}
	}
	switch choice := m.random.Intn(6); {
	case choice == 0:
		return leaves[m.random.Intn(len(leaves))]
	case choice == 1 && m.style.remote:
		if symbol, name, ok := m.anyAttribute(kind); ok {
			return remote(symbol, name, m.typedExpr(r, impl.TypeNode, depth-1))
		}
	case choice > 2 && len(ops) > 0:
		n := ops[m.random.Intn(len(ops))]
		left, right, _ := impl.OperandTypes(n)
		return op(n, m.typedExpr(r, left, depth-1), m.typedExpr(r, right, depth-1))
	}
	return ifThen(m.typedExpr(r, impl.TypeBool, depth-1), m.typedExpr(r, kind, depth-1), m.typedExpr(r, kind, depth-1))
}

// leaves returns the expressions of one node.
func (m *maker) leaves(r impl.Rule, kind int) []impl.Expr {
	var list []impl.Expr
	for pos := range len(r.Right) + 1 {
		s, _ := impl.FindSymbol(m.g, impl.SymbolAt(r, pos))
		for _, a := range s.Attributes {
			if a.Type == kind && impl.MayUse(m.g, r, impl.Occurrence{Pos: pos, Name: a.Name}) {
				list = append(list, slices.Repeat([]impl.Expr{attr(pos, a.Name)}, m.style.weight)...)
			}
		}
		if kind == impl.TypeNode {
			list = append(list, self(pos))
		}
	}
	switch kind {
	case impl.TypeNumber:
		list = append(list, number(m.random.Intn(12)))
		if r.Literal {
			list = append(list, literal())
		}
	case impl.TypeSet:
		list = append(list, setOf(m.random.Intn(1<<12)))
	case impl.TypeBool:
		list = append(list, truth(m.random.Intn(2)))
	case impl.TypeNode:
		list = append(list, none())
	}
	return list
}

// anyAttribute returns the symbol and the name of an attribute of this type, if there is one.
func (m *maker) anyAttribute(kind int) (string, string, bool) {
	for _, i := range m.random.Perm(len(m.g.Symbols)) {
		s := m.g.Symbols[i]
		for _, k := range m.random.Perm(len(s.Attributes)) {
			if s.Attributes[k].Type == kind {
				return s.Name, s.Attributes[k].Name, true
			}
		}
	}
	return "", "", false
}

// randomGrammars returns the example languages and n random grammars of each style.
func randomGrammars(t *testing.T, random *rand.Rand, n int, styles ...style) []impl.Grammar {
	var list []impl.Grammar
	for _, text := range languages() {
		list = append(list, grammarFrom(t, text))
	}
	for _, s := range styles {
		for range n {
			list = append(list, randomGrammar(t, random, s))
		}
	}
	return list
}

// symbolNames returns the names of the symbols of a grammar.
func symbolNames(g impl.Grammar) []string {
	var names []string
	for _, s := range g.Symbols {
		names = append(names, s.Name)
	}
	return names
}

// wrongGrammars returns grammars that are not accepted, one for each code of CheckGrammar.
func wrongGrammars(t *testing.T) map[int]impl.Grammar {
	start := grammarFrom(t, boxes)
	start.Symbols[0].Attributes[0].Mode = impl.ModeInherited
	symbol := grammarFrom(t, boxes)
	symbol.Rules[1].Right[1] = "zz"
	extra := grammarFrom(t, boxes)
	extra.Rules[1].Equations = append(extra.Rules[1].Equations, extra.Rules[1].Equations[0])
	use := grammarFrom(t, boxes)
	use.Rules[2].Equations[0].Expr = attr(0, "width")
	missing := grammarFrom(t, boxes)
	missing.Rules[1].Equations = missing.Rules[1].Equations[:2]
	kind := grammarFrom(t, boxes)
	kind.Rules[2].Equations[0].Expr = setOf(1)
	empty := grammarFrom(t, boxes)
	empty.Rules = empty.Rules[:2]
	list := map[int]impl.Grammar{impl.GrShape: {}, impl.GrStart: start, impl.GrSymbol: symbol, impl.GrMissing: missing, impl.GrExtra: extra, impl.GrUse: use, impl.GrType: kind, impl.GrEmpty: empty}
	for code, g := range list {
		if got, _ := impl.CheckGrammar(g); got != code {
			t.Fatalf("CheckGrammar = %d; want %d", got, code)
		}
	}
	return list
}

func TestRandomGrammarsVary(t *testing.T) {
	random := rand.New(rand.NewSource(1))
	static, children := 0, map[int]int{}
	for range 200 {
		g := randomGrammar(t, random, anything())
		if impl.IsStatic(g) {
			static++
		}
		for _, r := range g.Rules {
			children[len(r.Right)]++
		}
	}
	if static == 0 || static == 200 || slices.Contains([]int{children[0], children[1], children[2], children[3]}, 0) {
		t.Error(static, children)
	}
}
