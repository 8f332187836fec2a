package tests

import (
	"math"
	"math/rand"
	"reflect"
	"slices"
	"testing"

	"loop.example/g00512/impl"
)

// branch is a tree whose nodes contain their children.
type branch struct {
	rule     string
	literal  int
	children []branch
}

func grow(rule string, literal int, children ...branch) branch {
	return branch{rule, literal, children}
}

// member is a node with an Id that points to its children, so that edits need no indices.
type member struct {
	id, literal int
	rule        string
	children    []*member
}

// members returns b with Ids from *next on in preorder.
func (b branch) members(next *int) *member {
	m := &member{id: *next, literal: b.literal, rule: b.rule}
	*next++
	for _, c := range b.children {
		m.children = append(m.children, c.members(next))
	}
	return m
}

func (m *member) tree() impl.Tree {
	var x impl.Tree
	var list func(m *member, parent int, place int) int
	list = func(m *member, parent int, place int) int {
		i := len(x.Nodes)
		x.Nodes = append(x.Nodes, impl.Node{Id: m.id, Parent: parent, Place: place, Literal: m.literal, Rule: m.rule})
		for k, c := range m.children {
			child := list(c, i, k+1)
			x.Nodes[i].Children = append(x.Nodes[i].Children, child)
		}
		return i
	}
	list(m, -1, 0)
	return x
}

// treeFrom lists the nodes of b with Ids from first on.
func treeFrom(b branch, first int) impl.Tree {
	return b.members(&first).tree()
}

// branches returns all trees of a symbol with at most size nodes; the literals of rules with a literal are 0.
func branches(g impl.Grammar, symbol string, size int) []branch {
	var list []branch
	for _, name := range impl.RulesOf(g, symbol) {
		r, _ := impl.FindRule(g, name)
		for _, children := range rowsOf(g, r.Right, size-1) {
			list = append(list, branch{rule: name, children: children})
		}
	}
	return list
}

func rowsOf(g impl.Grammar, symbols []string, size int) [][]branch {
	if len(symbols) == 0 && size >= 0 {
		return [][]branch{nil}
	}
	var rows [][]branch
	if size < len(symbols) {
		return rows
	}
	for _, first := range branches(g, symbols[0], size-len(symbols)+1) {
		for _, rest := range rowsOf(g, symbols[1:], size-first.size()) {
			rows = append(rows, append([]branch{first}, rest...))
		}
	}
	return rows
}

func (b branch) size() int {
	n := 1
	for _, c := range b.children {
		n += c.size()
	}
	return n
}

// randomBranch returns a tree of a productive symbol; it prefers rules with trees of small height beyond a depth.
func randomBranch(random *rand.Rand, g impl.Grammar, symbol string, depth int) branch {
	names := impl.RulesOf(g, symbol)
	if depth <= 0 {
		names = slices.DeleteFunc(names, func(name string) bool {
			r, _ := impl.FindRule(g, name)
			return slices.ContainsFunc(r.Right, func(s string) bool { return impl.MinHeight(g, s) >= impl.MinHeight(g, symbol) })
		})
	}
	r, _ := impl.FindRule(g, names[random.Intn(len(names))])
	b := branch{rule: r.Name}
	if r.Literal {
		b.literal = random.Intn(25) - 6
	}
	for _, s := range r.Right {
		b.children = append(b.children, randomBranch(random, g, s, depth-1))
	}
	return b
}

// randomTree returns a tree with at most MaxTreeNodes nodes and with distinct Ids in any order.
func randomTree(random *rand.Rand, g impl.Grammar, symbol string) impl.Tree {
	b := randomBranch(random, g, symbol, 4)
	for b.size() > impl.MaxTreeNodes {
		b = randomBranch(random, g, symbol, random.Intn(4))
	}
	t := treeFrom(b, 1)
	for i, id := range random.Perm(impl.MaxId)[:len(t.Nodes)] {
		t.Nodes[i].Id = id + 1
	}
	return t
}

func cloneTree(t impl.Tree) impl.Tree {
	var c impl.Tree
	for _, n := range t.Nodes {
		n.Children = slices.Clone(n.Children)
		c.Nodes = append(c.Nodes, n)
	}
	return c
}

// sampleBranch is the tree of language 3 in chapter 41.
func sampleBranch() branch {
	return grow("page", 10, grow("row", 0, grow("box", 4), grow("row", 0, grow("box", 5), grow("box", 3))))
}

// deepBranch has n nodes: a page, rows and boxes; n is even.
func deepBranch(n int) branch {
	b := grow("box", 1)
	for k := 4; k <= n; k += 2 {
		b = grow("row", 0, grow("box", 1), b)
	}
	return grow("page", 1, b)
}

func TestIsTreeOf(t *testing.T) {
	g := grammarFrom(t, boxes)
	x := treeFrom(sampleBranch(), 1)
	want := impl.Tree{Nodes: []impl.Node{
		{Id: 1, Parent: -1, Literal: 10, Rule: "page", Children: []int{1}},
		{Id: 2, Parent: 0, Place: 1, Rule: "row", Children: []int{2, 3}},
		{Id: 3, Parent: 1, Place: 1, Literal: 4, Rule: "box"},
		{Id: 4, Parent: 1, Place: 2, Rule: "row", Children: []int{4, 5}},
		{Id: 5, Parent: 3, Place: 1, Literal: 5, Rule: "box"},
		{Id: 6, Parent: 3, Place: 2, Literal: 3, Rule: "box"},
	}}
	if !reflect.DeepEqual(x, want) || !impl.IsValidTree(g, x) || !impl.IsTreeOf(g, x, "s") {
		t.Error("the sample is no tree", x)
	}
	for _, symbol := range []string{"t", "", "page", "u"} {
		if impl.IsTreeOf(g, x, symbol) {
			t.Errorf("the sample is a tree of %q", symbol)
		}
	}
	row := treeFrom(sampleBranch().children[0], 7)
	if impl.IsValidTree(g, row) || !impl.IsTreeOf(g, row, "t") || impl.IsTreeOf(g, row, "s") {
		t.Error("a row is a tree of t")
	}
	empty := cloneTree(x)
	for i := range empty.Nodes {
		if empty.Nodes[i].Children == nil {
			empty.Nodes[i].Children = []int{}
		}
	}
	if !impl.IsValidTree(g, empty) {
		t.Error("an empty list of children is rejected")
	}
}

// changeOf is a change of the sample that makes it no tree.
type changeOf func(x *impl.Tree)

func TestIsNoTree(t *testing.T) {
	g := grammarFrom(t, boxes)
	changes := map[string]changeOf{
		"no node":             func(x *impl.Tree) { x.Nodes = nil },
		"Id 0":                func(x *impl.Tree) { x.Nodes[0].Id = 0 },
		"Id -1":               func(x *impl.Tree) { x.Nodes[3].Id = -1 },
		"Id 1000":             func(x *impl.Tree) { x.Nodes[3].Id = impl.MaxId + 1 },
		"same Ids":            func(x *impl.Tree) { x.Nodes[5].Id = 1 },
		"parent of root":      func(x *impl.Tree) { x.Nodes[0].Parent = 0 },
		"far parent of root":  func(x *impl.Tree) { x.Nodes[0].Parent = -2 },
		"place of root":       func(x *impl.Tree) { x.Nodes[0].Place = 1 },
		"no parent":           func(x *impl.Tree) { x.Nodes[3].Parent = -1 },
		"other parent":        func(x *impl.Tree) { x.Nodes[4].Parent = 1 },
		"own parent":          func(x *impl.Tree) { x.Nodes[4].Parent = 4 },
		"parent outside":      func(x *impl.Tree) { x.Nodes[4].Parent = 6 },
		"places exchanged":    func(x *impl.Tree) { x.Nodes[4].Place, x.Nodes[5].Place = 2, 1 },
		"place 0":             func(x *impl.Tree) { x.Nodes[4].Place = 0 },
		"children exchanged":  func(x *impl.Tree) { x.Nodes[3].Children = []int{5, 4} },
		"child too many":      func(x *impl.Tree) { x.Nodes[3].Children = []int{4, 5, 5} },
		"child of a box":      func(x *impl.Tree) { x.Nodes[5].Children = []int{4} },
		"child missing":       func(x *impl.Tree) { x.Nodes[3].Children = []int{4} },
		"no children":         func(x *impl.Tree) { x.Nodes[3].Children = nil },
		"child outside":       func(x *impl.Tree) { x.Nodes[3].Children = []int{4, 6} },
		"negative child":      func(x *impl.Tree) { x.Nodes[3].Children = []int{4, -1} },
		"root as child":       func(x *impl.Tree) { x.Nodes[3].Children = []int{4, 0} },
		"no rule":             func(x *impl.Tree) { x.Nodes[5].Rule = "" },
		"unknown rule":        func(x *impl.Tree) { x.Nodes[5].Rule = "sphere" },
		"rule with children":  func(x *impl.Tree) { x.Nodes[5].Rule = "row" },
		"rule without":        func(x *impl.Tree) { x.Nodes[3].Rule = "box" },
		"rule of root":        func(x *impl.Tree) { x.Nodes[0].Rule = "box" },
		"literal of a row":    func(x *impl.Tree) { x.Nodes[1].Literal = 1 },
		"great literal":       func(x *impl.Tree) { x.Nodes[2].Literal = impl.MaxValue + 1 },
		"small literal":       func(x *impl.Tree) { x.Nodes[2].Literal = -impl.MaxValue - 1 },
		"smallest integer":    func(x *impl.Tree) { x.Nodes[2].Literal = math.MinInt },
		"node missing":        func(x *impl.Tree) { x.Nodes = x.Nodes[:5] },
		"first node missing":  func(x *impl.Tree) { x.Nodes = x.Nodes[1:] },
		"node too many":       func(x *impl.Tree) { x.Nodes = append(x.Nodes, impl.Node{Id: 7, Parent: 3, Place: 3, Rule: "box"}) },
		"second root":         func(x *impl.Tree) { x.Nodes = append(x.Nodes, impl.Node{Id: 7, Parent: -1, Rule: "box"}) },
		"not in preorder":     func(x *impl.Tree) { breadthFirst(x) },
		"symbol of a child":   func(x *impl.Tree) { x.Nodes[1].Rule, x.Nodes[1].Children = "page", []int{2} },
		"Ids of other nodes":  func(x *impl.Tree) { x.Nodes[2].Id = x.Nodes[4].Id },
		"Parent is an Id":     func(x *impl.Tree) { x.Nodes[4].Parent = x.Nodes[3].Id },
		"Children are Ids":    func(x *impl.Tree) { x.Nodes[3].Children = []int{x.Nodes[4].Id, x.Nodes[5].Id} },
		"Place counts from 0": func(x *impl.Tree) { x.Nodes[2].Place, x.Nodes[3].Place = 0, 1 },
	}
	for what, change := range changes {
		x := treeFrom(sampleBranch(), 1)
		change(&x)
		if impl.IsValidTree(g, x) || impl.IsTreeOf(g, x, "s") {
			t.Errorf("%s: %v is a tree", what, x)
		}
	}
	for _, n := range []int{impl.MaxValue, -impl.MaxValue, 0} {
		x := treeFrom(sampleBranch(), impl.MaxId-5)
		x.Nodes[2].Literal = n
		if !impl.IsValidTree(g, x) {
			t.Errorf("literal %d is rejected", n)
		}
	}
}

// breadthFirst exchanges a box with the row after it, with correct links.
func breadthFirst(x *impl.Tree) {
	x.Nodes = []impl.Node{
		{Id: 1, Parent: -1, Literal: 10, Rule: "page", Children: []int{1}},
		{Id: 2, Parent: 0, Place: 1, Rule: "row", Children: []int{3, 2}},
		{Id: 4, Parent: 1, Place: 2, Rule: "row", Children: []int{4, 5}},
		{Id: 3, Parent: 1, Place: 1, Literal: 4, Rule: "box"},
		{Id: 5, Parent: 2, Place: 1, Literal: 5, Rule: "box"},
		{Id: 6, Parent: 2, Place: 2, Literal: 3, Rule: "box"},
	}
}

func TestTreeSizes(t *testing.T) {
	g := grammarFrom(t, boxes)
	if x := treeFrom(deepBranch(impl.MaxTreeNodes), 1); len(x.Nodes) != impl.MaxTreeNodes || !impl.IsValidTree(g, x) {
		t.Error("a tree with the most nodes is rejected")
	}
	if x := treeFrom(deepBranch(impl.MaxTreeNodes+2), 1); impl.IsValidTree(g, x) {
		t.Error("a tree with too many nodes is accepted")
	}
	h := grammarOf(t, "symbol s a:syn:num", "rule p s : s", "eq $0.a := 0", "rule q s :", "eq $0.a := 0")
	b := grow("q", 0)
	for n := 1; n <= impl.MaxTreeNodes+1; n++ {
		if got := impl.IsValidTree(h, treeFrom(b, 1)); got != (n <= impl.MaxTreeNodes) {
			t.Errorf("a tree with %d nodes: %v", n, got)
		}
		b = grow("p", 0, b)
	}
}

// TestTreesOfWrongGrammars: the first rule with a name counts, and a grammar need not be accepted.
func TestTreesOfWrongGrammars(t *testing.T) {
	leaf := impl.Tree{Nodes: []impl.Node{{Id: 1, Parent: -1, Rule: "p"}}}
	if impl.IsValidTree(impl.Grammar{}, leaf) || impl.IsTreeOf(impl.Grammar{}, leaf, "") || impl.IsValidTree(impl.Grammar{}, impl.Tree{}) {
		t.Error("a grammar without rules has a tree")
	}
	twice := impl.Grammar{Rules: []impl.Rule{{Name: "p", Left: "s"}, {Name: "p", Left: "t", Right: []string{"s"}}}}
	if !impl.IsTreeOf(twice, leaf, "s") || impl.IsTreeOf(twice, leaf, "t") || impl.IsValidTree(twice, leaf) {
		t.Error("the first rule with the name does not count")
	}
	nameless := impl.Grammar{Rules: []impl.Rule{{Name: "p"}}}
	if !impl.IsTreeOf(nameless, leaf, "") || !impl.IsValidTree(nameless, leaf) {
		t.Error("without symbols, the start symbol is the empty string")
	}
}

func TestNodes(t *testing.T) {
	g := grammarFrom(t, boxes)
	x := treeFrom(sampleBranch(), 1)
	slices.Reverse(x.Nodes[3:])
	for i, n := range x.Nodes {
		symbol := "t"
		if i == 0 {
			symbol = "s"
		}
		if impl.NodeIndex(x, n.Id) != i || impl.SymbolOfNode(g, x, i) != symbol {
			t.Errorf("node %d: index %d, symbol %q", i, impl.NodeIndex(x, n.Id), impl.SymbolOfNode(g, x, i))
		}
	}
	for _, n := range append(someInts(), -1, 0, 7, 999) {
		if n >= 1 && n <= 6 {
			continue
		}
		if impl.NodeIndex(x, n) != -1 || n != 0 && impl.SymbolOfNode(g, x, n) != "" || n != 0 && impl.SubtreeSize(x, n) != 0 {
			t.Errorf("there is no node %d", n)
		}
	}
	x.Nodes[4].Id, x.Nodes[5].Rule = 1, "q"
	if impl.NodeIndex(x, 1) != 0 || impl.SymbolOfNode(g, x, 5) != "" || impl.SymbolOfNode(impl.Grammar{}, x, 0) != "" {
		t.Error("the first node with the Id; a node without a rule has no symbol")
	}
	if impl.NodeIndex(impl.Tree{}, 0) != -1 || impl.SymbolOfNode(g, impl.Tree{}, 0) != "" || impl.SubtreeSize(impl.Tree{}, 0) != 0 {
		t.Error("the zero Tree has no node")
	}
}

// TestSubtreeSizes is promise 13: a subtree has its root and the subtrees of its children.
func TestSubtreeSizes(t *testing.T) {
	x := treeFrom(sampleBranch(), 1)
	for i, want := range []int{6, 5, 1, 3, 1, 1} {
		if got := impl.SubtreeSize(x, i); got != want {
			t.Errorf("SubtreeSize(%d) = %d; want %d", i, got, want)
		}
	}
	random := rand.New(rand.NewSource(13))
	for _, text := range languages() {
		g := grammarFrom(t, text)
		for range 300 {
			x := randomTree(random, g, "s")
			if !impl.IsValidTree(g, x) || impl.SubtreeSize(x, 0) != len(x.Nodes) {
				t.Fatal("the subtree of the root is not the tree", x)
			}
			for i, n := range x.Nodes {
				sum := 1
				for _, c := range n.Children {
					sum += impl.SubtreeSize(x, c)
				}
				if impl.SubtreeSize(x, i) != sum {
					t.Fatalf("the sizes at node %d do not add up: %v", i, x)
				}
			}
		}
	}
}

// TestSubtreeSizesOfWrongTrees: only the parents after a node count.
func TestSubtreeSizesOfWrongTrees(t *testing.T) {
	parents := []int{5, 3, 0, 1, 9, -4, 2, math.MaxInt, 6}
	var x impl.Tree
	for _, p := range parents {
		x.Nodes = append(x.Nodes, impl.Node{Parent: p})
	}
	for i, want := range []int{5, 1, 1, 2, 1, 1, 3, 1, 1} {
		if got := impl.SubtreeSize(x, i); got != want {
			t.Errorf("SubtreeSize(%d) = %d; want %d", i, got, want)
		}
	}
}

func TestEqualTree(t *testing.T) {
	x := treeFrom(sampleBranch(), 1)
	if !impl.EqualTree(x, cloneTree(x)) || !impl.SameShape(x, cloneTree(x)) || !impl.EqualTree(impl.Tree{}, impl.Tree{Nodes: []impl.Node{}}) {
		t.Error("a copy is not equal")
	}
	changes := []changeOf{
		func(x *impl.Tree) { x.Nodes = x.Nodes[:5] },
		func(x *impl.Tree) { x.Nodes = nil },
		func(x *impl.Tree) { x.Nodes[4].Parent++ },
		func(x *impl.Tree) { x.Nodes[4].Place++ },
		func(x *impl.Tree) { x.Nodes[4].Literal++ },
		func(x *impl.Tree) { x.Nodes[4].Rule = "row" },
		func(x *impl.Tree) { x.Nodes[3].Children[1]++ },
		func(x *impl.Tree) { x.Nodes[3].Children = x.Nodes[3].Children[:1] },
		func(x *impl.Tree) { x.Nodes[5].Children = []int{0} },
	}
	for i, change := range changes {
		y := cloneTree(x)
		change(&y)
		if impl.EqualTree(x, y) || impl.SameShape(x, y) || impl.EqualTree(y, x) || impl.SameShape(y, x) {
			t.Errorf("after change %d, the trees are still equal", i)
		}
	}
	y := cloneTree(x)
	y.Nodes[5].Id, y.Nodes[4].Children = 99, []int{}
	if impl.EqualTree(x, y) || !impl.SameShape(x, y) {
		t.Error("SameShape does not compare Ids, but EqualTree does")
	}
	for _, z := range []impl.Tree{treeFrom(sampleBranch(), 2), treeFrom(sampleBranch(), -9)} {
		if impl.EqualTree(x, z) || !impl.SameShape(x, z) {
			t.Error("other Ids")
		}
	}
}
