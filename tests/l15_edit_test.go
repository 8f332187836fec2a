package tests

import (
	"math"
	"math/rand"
	"reflect"
	"testing"

	"loop.example/g00512/impl"
)

func memberOf(x impl.Tree, i int) *member {
	n := x.Nodes[i]
	m := &member{id: n.Id, literal: n.Literal, rule: n.Rule}
	for _, c := range n.Children {
		m.children = append(m.children, memberOf(x, c))
	}
	return m
}

func (m *member) all() []*member {
	list := []*member{m}
	for _, c := range m.children {
		list = append(list, c.all()...)
	}
	return list
}

func (m *member) find(id int) *member {
	for _, x := range m.all() {
		if x.id == id {
			return x
		}
	}
	return nil
}

// wantEdit performs an edit of a valid tree of an accepted grammar on members.
func wantEdit(g impl.Grammar, x impl.Tree, e impl.Edit) (impl.Tree, int) {
	leftOf := func(m *member) string { r, _ := impl.FindRule(g, m.rule); return r.Left }
	root := memberOf(x, 0)
	at, other := root.find(e.Node), root.find(e.Other)
	switch {
	case e.Kind < 1 || e.Kind > 3:
		return x, impl.EdBad
	case at == nil || e.Kind == impl.EditSwap && other == nil:
		return x, impl.EdMissing
	}
	switch e.Kind {
	case impl.EditLiteral:
		if r, _ := impl.FindRule(g, at.rule); !r.Literal || e.Literal > 1000000 || e.Literal < -1000000 {
			return x, impl.EdLiteral
		}
		at.literal = e.Literal
	case impl.EditReplace:
		if !impl.IsTreeOf(g, e.Tree, leftOf(at)) {
			return x, impl.EdSymbol
		}
		sub := memberOf(e.Tree, 0)
		for _, m := range root.all() {
			if at.find(m.id) == nil && sub.find(m.id) != nil {
				return x, impl.EdIds
			}
		}
		*at = *sub
		if len(root.all()) > 16 {
			return x, impl.EdSize
		}
	case impl.EditSwap:
		if at.find(other.id) != nil || other.find(at.id) != nil {
			return x, impl.EdNested
		}
		if leftOf(at) != leftOf(other) {
			return x, impl.EdSymbol
		}
		*at, *other = *other, *at
	}
	return root.tree(), impl.EdOk
}

// twoKinds has leaves of two symbols, so that exchanges may fail.
func twoKinds(t *testing.T) impl.Grammar {
	return grammarOf(t, "symbol s a:syn:num", "symbol t b:syn:num", "rule top s : s t", "eq $0.a := $1.a + $2.b", "rule one s : t", "eq $0.a := $1.b", "rule leaf s : lit", "eq $0.a := lit", "rule node t : t s t", "eq $0.b := $1.b", "rule end t :", "eq $0.b := 1")
}

func randomEdit(random *rand.Rand, g impl.Grammar, x impl.Tree) impl.Edit {
	anyId := func() int {
		if random.Intn(12) == 0 {
			return random.Intn(1002) - 1
		}
		return x.Nodes[random.Intn(len(x.Nodes))].Id
	}
	literals := []int{0, 7, -3, 1000000, -1000000, 1000001, -1000001, math.MaxInt, math.MinInt}
	e := impl.Edit{Kind: 1 + random.Intn(3), Node: anyId(), Other: anyId(), Literal: literals[random.Intn(len(literals))]}
	if random.Intn(30) == 0 {
		e.Kind = []int{0, 4, -1, math.MaxInt}[random.Intn(4)]
	}
	symbol := []string{"s", "t"}[random.Intn(2)]
	e.Tree = randomTree(random, g, symbol)
	if random.Intn(3) == 0 {
		e.Tree.Nodes[random.Intn(len(e.Tree.Nodes))].Id = anyId()
	}
	return e
}

// TestRandomEdits is promise 15.
func TestRandomEdits(t *testing.T) {
	random := rand.New(rand.NewSource(15))
	seen := map[[2]int]int{}
	for _, g := range []impl.Grammar{twoKinds(t), grammarFrom(t, boxes), grammarFrom(t, loops)} {
		for range 60 {
			x := randomTree(random, g, "s")
			var edits []impl.Edit
			var codes []int
			start := cloneTree(x)
			for range 25 {
				e := randomEdit(random, g, x)
				before, edit := cloneTree(x), cloneTree(e.Tree)
				y, code := impl.ApplyEdit(g, x, e)
				want, wantCode := wantEdit(g, x, e)
				if code != wantCode || !impl.EqualTree(y, want) {
					t.Fatalf("edit %v of %v: %v, %d; want %v, %d", e, x, y, code, want, wantCode)
				}
				if !impl.EqualTree(x, before) || !impl.EqualTree(e.Tree, edit) {
					t.Fatal("an argument is changed")
				}
				if !impl.IsValidTree(g, y) || code != impl.EdOk && !impl.EqualTree(x, y) {
					t.Fatal("a valid tree stays valid, and a rejected edit changes nothing")
				}
				if e.Kind == impl.EditSwap && code == impl.EdOk {
					if z, again := impl.ApplyEdit(g, y, e); again != impl.EdOk || !impl.EqualTree(x, z) {
						t.Fatal("a second exchange does not restore the tree")
					}
				}
				seen[[2]int{e.Kind, code}]++
				edits, codes, x = append(edits, e), append(codes, code), y
			}
			end, got := impl.ApplyEdits(g, start, edits)
			if !impl.EqualTree(end, x) || !reflect.DeepEqual(got, codes) {
				t.Fatal("ApplyEdits performs the edits one after the other")
			}
		}
	}
	for _, k := range [][2]int{{1, 0}, {1, 2}, {1, 7}, {2, 0}, {2, 2}, {2, 3}, {2, 4}, {2, 5}, {3, 0}, {3, 2}, {3, 3}, {3, 6}, {0, 1}, {4, 1}} {
		if seen[k] == 0 {
			t.Errorf("no edit of the kind %d had the code %d", k[0], k[1])
		}
	}
}

func TestSubtree(t *testing.T) {
	g := grammarFrom(t, boxes)
	x := treeOf(t, g, exampleTrees()[2])
	want := impl.Tree{Nodes: []impl.Node{{Id: 4, Parent: -1, Rule: "row", Children: []int{1, 2}}, {Id: 5, Parent: 0, Place: 1, Literal: 5, Rule: "box"}, {Id: 6, Parent: 0, Place: 2, Literal: 3, Rule: "box"}}}
	if got := impl.Subtree(x, 3); !impl.EqualTree(got, want) {
		t.Errorf("Subtree(3) = %v", got)
	}
	for _, i := range []int{-1, 6, math.MaxInt, math.MinInt} {
		if got := impl.Subtree(x, i); len(got.Nodes) != 0 || !impl.EqualTree(impl.ReplaceSubtree(x, i, want), x) {
			t.Errorf("there is no node %d", i)
		}
	}
	if !impl.EqualTree(impl.ReplaceSubtree(x, 3, impl.Tree{}), x) || len(impl.ReplaceSubtree(impl.Tree{}, 0, want).Nodes) != 0 || len(impl.Subtree(impl.Tree{}, 0).Nodes) != 0 {
		t.Error("a tree is changed although it has no node i or the new subtree has no nodes")
	}
	random := rand.New(rand.NewSource(151))
	for range 500 {
		g := twoKinds(t)
		x, y := randomTree(random, g, "s"), randomTree(random, g, "t")
		i := random.Intn(len(x.Nodes))
		sub := impl.Subtree(x, i)
		if !impl.EqualTree(sub, memberOf(x, i).tree()) || !impl.IsTreeOf(g, sub, impl.SymbolOfNode(g, x, i)) {
			t.Fatalf("Subtree(%v, %d) = %v", x, i, sub)
		}
		if !impl.EqualTree(impl.ReplaceSubtree(x, i, sub), x) {
			t.Fatal("a subtree that is replaced by itself changes the tree")
		}
		root := memberOf(x, 0)
		*root.all()[i] = *memberOf(y, 0)
		if got := impl.ReplaceSubtree(x, i, y); !impl.EqualTree(got, root.tree()) {
			t.Fatalf("ReplaceSubtree(%v, %d, %v) = %v", x, i, y, got)
		}
	}
}

// TestEditsShareNothing changes all results, and looks at the arguments.
func TestEditsShareNothing(t *testing.T) {
	g := twoKinds(t)
	x := treeOf(t, g, "(top (one (node (end) (leaf 1) (end))) (node (end) (leaf 2) (end)))")
	sub, _ := impl.ParseTree(g, "(node (end) (leaf 3) (end))", 50)
	xx, ss := cloneTree(x), cloneTree(sub)
	spoil := func(y impl.Tree) {
		for i := range y.Nodes {
			y.Nodes[i].Id = -1
			for k := range y.Nodes[i].Children {
				y.Nodes[i].Children[k] = -1
			}
		}
		_ = append(y.Nodes, impl.Node{Id: 77})
	}
	spoil(impl.Subtree(x, 0))
	spoil(impl.Subtree(x, 2))
	spoil(impl.ReplaceSubtree(x, 2, sub))
	spoil(impl.ReplaceSubtree(x, 9, sub))
	spoil(impl.ReplaceSubtree(x, 2, impl.Tree{}))
	for _, e := range []impl.Edit{{}, {Kind: 1, Node: 5, Literal: 4}, {Kind: 1, Node: 99}, {Kind: 2, Node: 4, Tree: sub}, {Kind: 2, Node: 1, Tree: sub}, {Kind: 3, Node: 4, Other: 8}} {
		y, _ := impl.ApplyEdit(g, x, e)
		spoil(y)
		y, _ = impl.ApplyEdits(g, x, []impl.Edit{e})
		spoil(y)
	}
	y, _ := impl.ApplyEdits(g, x, nil)
	spoil(y)
	if !impl.EqualTree(x, xx) || !impl.EqualTree(sub, ss) {
		t.Error("a result shares memory with an argument")
	}
	// The capacity of the nodes of a subtree is that of the tree; nothing is appended there.
	part := impl.Tree{Nodes: x.Nodes[:1]}
	impl.ReplaceSubtree(part, 0, sub)
	impl.Subtree(part, 0)
	if !impl.EqualTree(x, xx) {
		t.Error("the unused capacity is changed")
	}
}

func codeIs(t *testing.T, what string, g impl.Grammar, x impl.Tree, e impl.Edit, want int) {
	t.Helper()
	y, code := impl.ApplyEdit(g, x, e)
	if code != want || code != impl.EdOk && !impl.EqualTree(x, y) {
		t.Errorf("%s: code %d; want %d", what, code, want)
	}
}

func TestEditCodes(t *testing.T) {
	g := twoKinds(t)
	x := treeOf(t, g, "(top (one (node (end) (leaf 1) (end))) (node (end) (leaf 2) (end)))")
	tree := func(s string, first int) impl.Tree {
		y, _ := impl.ParseTree(g, s, first)
		return y
	}
	codeIs(t, "literal", g, x, impl.Edit{Kind: 1, Node: 5, Literal: -impl.MaxValue}, impl.EdOk)
	codeIs(t, "great literal", g, x, impl.Edit{Kind: 1, Node: 5, Literal: impl.MaxValue + 1}, impl.EdLiteral)
	codeIs(t, "literal 0 without a literal", g, x, impl.Edit{Kind: 1, Node: 4}, impl.EdLiteral)
	codeIs(t, "literal and a missing other node", g, x, impl.Edit{Kind: 1, Node: 5, Other: -4, Literal: 1}, impl.EdOk)
	codeIs(t, "missing and bad literal", g, x, impl.Edit{Kind: 1, Node: 500, Literal: impl.MaxValue + 1}, impl.EdMissing)
	codeIs(t, "replace with the same Ids", g, x, impl.Edit{Kind: 2, Node: 3, Tree: impl.Subtree(x, 2)}, impl.EdOk)
	codeIs(t, "replace with Ids of the other subtree", g, x, impl.Edit{Kind: 2, Node: 3, Tree: impl.Subtree(x, 6)}, impl.EdIds)
	codeIs(t, "replace with another symbol and used Ids", g, x, impl.Edit{Kind: 2, Node: 3, Tree: tree("(leaf 1)", 1)}, impl.EdSymbol)
	codeIs(t, "replace without nodes", g, x, impl.Edit{Kind: 2, Node: 3}, impl.EdSymbol)
	codeIs(t, "replace the root", g, x, impl.Edit{Kind: 2, Node: 1, Tree: tree("(leaf 1)", 10)}, impl.EdOk)
	wide := "(node (node (end) (leaf 1) (end)) (leaf 1) (node (end) (leaf 1) (end)))"
	codeIs(t, "16 nodes", g, x, impl.Edit{Kind: 2, Node: 3, Tree: tree(wide, 20)}, impl.EdOk)
	codeIs(t, "17 nodes", g, x, impl.Edit{Kind: 2, Node: 3, Tree: tree("(node "+wide+" (one (end)) (end))", 20)}, impl.EdSize)
	codeIs(t, "17 nodes and used Ids", g, x, impl.Edit{Kind: 2, Node: 3, Tree: tree("(node "+wide+" (one (end)) (end))", 1)}, impl.EdIds)
	codeIs(t, "replace and a missing other node", g, x, impl.Edit{Kind: 2, Node: 3, Other: 99, Tree: tree("(end)", 20)}, impl.EdOk)
	codeIs(t, "exchange", g, x, impl.Edit{Kind: 3, Node: 3, Other: 7}, impl.EdOk)
	codeIs(t, "exchange backwards", g, x, impl.Edit{Kind: 3, Node: 7, Other: 4}, impl.EdOk)
	codeIs(t, "exchange with itself", g, x, impl.Edit{Kind: 3, Node: 3, Other: 3}, impl.EdNested)
	codeIs(t, "exchange with a descendant of another symbol", g, x, impl.Edit{Kind: 3, Node: 5, Other: 1}, impl.EdNested)
	codeIs(t, "exchange symbols", g, x, impl.Edit{Kind: 3, Node: 2, Other: 7}, impl.EdSymbol)
	codeIs(t, "exchange with a missing node", g, x, impl.Edit{Kind: 3, Node: 3, Other: 0}, impl.EdMissing)
	codeIs(t, "exchange of a missing node", g, x, impl.Edit{Kind: 3, Node: 11, Other: 3}, impl.EdMissing)
	codeIs(t, "unknown kind of a missing node", g, x, impl.Edit{Kind: 4, Node: 99}, impl.EdBad)
	codeIs(t, "no kind", g, x, impl.Edit{Node: 1}, impl.EdBad)
	ok := impl.Edit{Kind: 1, Node: 5, Literal: 1}
	sample := treeOf(t, grammarFrom(t, boxes), exampleTrees()[2])
	codeIs(t, "an accepted grammar", grammarFrom(t, boxes), sample, ok, impl.EdOk)
	codeIs(t, "a grammar that is not accepted", changed(t, "eq $0.width := min(lit, $0.room)", "eq $0.width := {}"), sample, ok, impl.EdBad)
	wrong := g
	wrong.Rules = append([]impl.Rule(nil), g.Rules...)
	wrong.Rules[2].Equations = nil
	codeIs(t, "a grammar without an equation", wrong, x, ok, impl.EdBad)
	codeIs(t, "no grammar", impl.Grammar{}, x, ok, impl.EdBad)
	codeIs(t, "no tree", g, impl.Tree{}, impl.Edit{Kind: 2, Tree: x}, impl.EdBad)
	codeIs(t, "a tree of another symbol", g, impl.Subtree(x, 2), ok, impl.EdBad)
	broken := cloneTree(x)
	broken.Nodes[3].Parent = 9
	codeIs(t, "a broken tree", g, broken, ok, impl.EdBad)
}

func TestApplyEdits(t *testing.T) {
	g := grammarFrom(t, boxes)
	x := treeOf(t, g, exampleTrees()[2])
	y, codes := impl.ApplyEdits(g, x, nil)
	if !impl.EqualTree(x, y) || len(codes) != 0 {
		t.Error("no edits change the tree")
	}
	sub, _ := impl.ParseTree(g, "(row (box 1) (box 2))", 20)
	y, codes = impl.ApplyEdits(g, x, []impl.Edit{{Kind: 2, Node: 3, Tree: sub}, {Kind: 2, Node: 4, Tree: sub}, {Kind: 1, Node: 21, Literal: 8}, {Kind: 3, Node: 20, Other: 5}, {Kind: 3, Node: 20, Other: 4}, {Kind: 9}, {Kind: 2, Node: 20, Tree: sub}})
	if got := impl.FormatTree(g, y); got != "(page 10 (row (box 5) (row (row (box 1) (box 2)) (box 3))))" {
		t.Error(got)
	}
	if !reflect.DeepEqual(codes, []int{impl.EdOk, impl.EdIds, impl.EdOk, impl.EdOk, impl.EdNested, impl.EdBad, impl.EdOk}) {
		t.Error(codes)
	}
	y, codes = impl.ApplyEdits(g, impl.Tree{}, []impl.Edit{{Kind: 1}, {Kind: 2}})
	if len(y.Nodes) != 0 || !reflect.DeepEqual(codes, []int{impl.EdBad, impl.EdBad}) {
		t.Error("edits of no tree", codes)
	}
}
