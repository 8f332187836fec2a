package tests

import (
	"math"
	"math/rand"
	"slices"
	"strconv"
	"strings"
	"testing"

	"loop.example/g00512/impl"
)

// format is written independently of FormatTree.
func (b branch) format(g impl.Grammar) string {
	words := []string{b.rule}
	if r, _ := impl.FindRule(g, b.rule); r.Literal {
		words = append(words, strconv.Itoa(b.literal))
	}
	for _, c := range b.children {
		words = append(words, c.format(g))
	}
	return "(" + strings.Join(words, " ") + ")"
}

// treeOf parses a tree with Ids from 1 on.
func treeOf(t *testing.T, g impl.Grammar, s string) impl.Tree {
	t.Helper()
	x, ok := impl.ParseTree(g, s, 1)
	if !ok {
		t.Fatalf("%q is no tree", s)
	}
	return x
}

// exampleTrees returns the trees of the languages of chapter 41.
func exampleTrees() []string {
	return []string{"(block (pair (pair (use 3) (decl 3)) (use 4)))", "(main (seq (gen 1) (loop (seq (kill 1) (gen 2)))))", "(page 10 (row (box 4) (row (box 5) (box 3))))"}
}

func parseTreeFails(t *testing.T, g impl.Grammar, s string, first int) {
	t.Helper()
	if x, ok := impl.ParseTree(g, s, first); ok || len(x.Nodes) != 0 {
		t.Errorf("ParseTree(%q, %d) = %v, %v", s, first, x, ok)
	}
}

func TestTreeText(t *testing.T) {
	for k, text := range languages() {
		g := grammarFrom(t, text)
		s := exampleTrees()[k]
		x := treeOf(t, g, s)
		if got := impl.FormatTree(g, x); got != s || !impl.IsValidTree(g, x) {
			t.Errorf("FormatTree = %q; want %q", got, s)
		}
	}
	g := grammarFrom(t, boxes)
	if x := treeOf(t, g, exampleTrees()[2]); !impl.EqualTree(x, treeFrom(sampleBranch(), 1)) {
		t.Error("the sample is parsed differently", x)
	}
	pair := grammarOf(t, "symbol s a:syn:num", "rule pair s : s s", "eq $0.a := 0", "rule leaf s : lit", "eq $0.a := 0")
	x := treeOf(t, pair, "(pair (leaf 3) (leaf -4))")
	if len(x.Nodes) != 3 || x.Nodes[1].Literal != 3 || x.Nodes[2].Literal != -4 || impl.FormatTree(pair, x) != "(pair (leaf 3) (leaf -4))" {
		t.Error("the example of the document", x)
	}
}

// TestTreesAreParsed is promise 14.
func TestTreesAreParsed(t *testing.T) {
	random := rand.New(rand.NewSource(14))
	for _, text := range languages() {
		g := grammarFrom(t, text)
		for range 300 {
			symbol := []string{"s", "t"}[random.Intn(2)]
			b := randomBranch(random, g, symbol, 3)
			x := treeFrom(b, 1+random.Intn(900))
			s := impl.FormatTree(g, x)
			if b.size() > impl.MaxTreeNodes {
				if s != "" {
					t.Errorf("%q is too large", s)
				}
				parseTreeFails(t, g, b.format(g), 1)
				continue
			}
			if s != b.format(g) {
				t.Errorf("FormatTree = %q; want %q", s, b.format(g))
			}
			y, ok := impl.ParseTree(g, s, x.Nodes[0].Id)
			if !ok || !impl.EqualTree(x, y) {
				t.Errorf("%q is parsed as %v, %v", s, y, ok)
			}
			z, ok := impl.ParseTree(g, s, 5)
			if !ok || !impl.SameShape(x, z) || z.Nodes[0].Id != 5 || z.Nodes[len(z.Nodes)-1].Id != 4+len(z.Nodes) {
				t.Errorf("%q is parsed with Ids from 5 on as %v, %v", s, z, ok)
			}
			damagedTreeFails(t, random, g, s)
		}
	}
}

// damagedTreeFails changes a byte; what is still parsed has that representation.
func damagedTreeFails(t *testing.T, random *rand.Rand, g impl.Grammar, s string) {
	t.Helper()
	const alphabet = "() -0123456789boxrwuse\n\x00\xff"
	at := random.Intn(len(s))
	insert := string(alphabet[random.Intn(len(alphabet))])
	for _, d := range []string{s[:at] + s[at+1:], s[:at] + insert + s[at:], s[:at] + insert + s[at+1:], s[:at]} {
		if x, ok := impl.ParseTree(g, d, 1); ok && (impl.FormatTree(g, x) != d || x.Nodes[0].Id != 1) {
			t.Errorf("%q is parsed as %v", d, x)
		}
		if _, ok := impl.ParseTree(g, d, 1); ok && strings.Count(d, "(") != strings.Count(d, ")") {
			t.Errorf("%q is parsed", d)
		}
	}
}

func TestParseTreeFails(t *testing.T) {
	g := grammarFrom(t, boxes)
	for _, s := range []string{
		"", "(", ")", "()", "( )", "page", "box 1", "(box)", "(box 1", "box 1)", "((box 1))", "(box  1)", "( box 1)", "(box 1 )", "(box 1) ", " (box 1)", "(box 1)\n", "(box 1))", "(box 1) (box 2)", "(box 1)(box 2)", "(box 1) x", "x (box 1)",
		"(box 01)", "(box -0)", "(box +1)", "(box 1.0)", "(box x)", "(box 1 2)", "(box 1000001)", "(box -1000001)", "(box 99999999999999999999)", "(box -)", "(box 1 (box 1))",
		"(page 10)", "(page (box 1))", "(page 10 (box 1) (box 2))", "(page 10 (page 1 (box 1)))", "(page 10  (box 1))", "(page 10(box 1))", "(page (box 1) 10)", "(page 10 (box 1)", "(page\t10 (box 1))",
		"(row)", "(row (box 1))", "(row (box 1) (box 2) (box 3))", "(row 0 (box 1) (box 2))", "(row 1 (box 1) (box 2))", "(row (box 1)(box 2))", "(row (box 1) 5 (box 2))", "(row (box 1) (page 1 (box 1)))", "(row (box 1) (box 2)) (box 3)", "(ro (box 1) (box 2))", "(ROW (box 1) (box 2))",
		"(box \u0661)", "(box 1)\xff", "(b\u00f6x 1)", "(box\u00a01)", strings.Repeat("(", 1000), strings.Repeat("(row ", 20), strings.Repeat(" ", 1000), strings.Repeat("(box 1)", 100),
	} {
		parseTreeFails(t, g, s, 1)
	}
	for _, s := range []string{"(box 0)", "(box 1000000)", "(box -1000000)", "(box -1)"} {
		treeOf(t, g, s)
	}
}

func TestSizesOfParsedTrees(t *testing.T) {
	g := grammarFrom(t, boxes)
	if x := treeOf(t, g, deepBranch(impl.MaxTreeNodes).format(g)); len(x.Nodes) != impl.MaxTreeNodes {
		t.Error(x)
	}
	parseTreeFails(t, g, deepBranch(impl.MaxTreeNodes+2).format(g), 1)
	h := grammarOf(t, "symbol s", "rule p s : s", "rule q s :")
	for n := 1; n <= impl.MaxTreeNodes+3; n++ {
		s := strings.Repeat("(p ", n-1) + "(q)" + strings.Repeat(")", n-1)
		if _, ok := impl.ParseTree(h, s, 1); ok != (n <= impl.MaxTreeNodes) {
			t.Errorf("a tree with %d nodes: %v", n, ok)
		}
	}
}

func TestIdsOfParsedTrees(t *testing.T) {
	g := grammarFrom(t, boxes)
	const s = "(row (box 1) (box 2))"
	for _, first := range []int{1, 2, 500, 996, 997} {
		x, ok := impl.ParseTree(g, s, first)
		if !ok || x.Nodes[0].Id != first || x.Nodes[1].Id != first+1 || x.Nodes[2].Id != first+2 {
			t.Errorf("Ids from %d on: %v, %v", first, x, ok)
		}
	}
	for _, first := range []int{0, -1, -2, -3, 998, 999, 1000, math.MaxInt, math.MaxInt - 1, math.MinInt} {
		parseTreeFails(t, g, s, first)
	}
}

// TestTreeTextOfWrongGrammars: names of rules that are not valid are written, but not parsed.
func TestTreeTextOfWrongGrammars(t *testing.T) {
	for _, name := range []string{"", "P", "lit", "if", "a b", "(p", "p)", "ninechars", "1", "p 1"} {
		g := impl.Grammar{Rules: []impl.Rule{{Name: name, Left: "s", Literal: true}}}
		x := treeFrom(grow(name, 7), 1)
		if got, want := impl.FormatTree(g, x), "("+name+" 7)"; got != want {
			t.Errorf("FormatTree with the rule %q = %q; want %q", name, got, want)
		}
		parseTreeFails(t, g, "("+name+" 7)", 1)
	}
	twice := impl.Grammar{Rules: []impl.Rule{{Name: "p", Left: "s"}, {Name: "p", Left: "s", Literal: true}, {Name: "q", Left: "", Right: []string{"s"}}}}
	if x := treeOf(t, twice, "(q (p))"); impl.FormatTree(twice, x) != "(q (p))" || impl.IsValidTree(twice, x) != true {
		t.Error("the first rule with the name counts; a symbol needs no name")
	}
	parseTreeFails(t, twice, "(p 0)", 1)
}

func TestFormatTreeOfWrongTrees(t *testing.T) {
	g := grammarFrom(t, boxes)
	x := treeFrom(sampleBranch(), 1)
	for what, change := range map[string]changeOf{
		"no node":      func(x *impl.Tree) { x.Nodes = nil },
		"Ids":          func(x *impl.Tree) { x.Nodes[1].Id = 1 },
		"loop":         func(x *impl.Tree) { x.Nodes[1].Children = []int{1, 0} },
		"outside":      func(x *impl.Tree) { x.Nodes[1].Children = []int{2, 77} },
		"literal":      func(x *impl.Tree) { x.Nodes[1].Literal = 1 },
		"unknown rule": func(x *impl.Tree) { x.Nodes[0].Rule = "" },
	} {
		y := cloneTree(x)
		change(&y)
		if s := impl.FormatTree(g, y); s != "" {
			t.Errorf("%s: %q", what, s)
		}
	}
	if s := impl.FormatTree(impl.Grammar{}, x); s != "" {
		t.Errorf("a tree without rules: %q", s)
	}
	if s := impl.FormatTree(g, treeFrom(sampleBranch().children[0], 4)); s != "(row (box 4) (row (box 5) (box 3)))" {
		t.Errorf("a tree of another symbol: %q", s)
	}
}

// heightOf follows the children with a greater index.
func heightOf(x impl.Tree, i int) int {
	if i < 0 || i >= len(x.Nodes) {
		return 0
	}
	best := 0
	for _, c := range x.Nodes[i].Children {
		if c > i {
			best = max(best, heightOf(x, c))
		}
	}
	return best + 1
}

func TestTreeHeight(t *testing.T) {
	x := treeFrom(sampleBranch(), 1)
	for i, want := range []int{4, 3, 1, 2, 1, 1} {
		if got := impl.TreeHeight(x, i); got != want {
			t.Errorf("TreeHeight(%d) = %d; want %d", i, got, want)
		}
	}
	for _, i := range []int{-1, 6, 7, math.MaxInt, math.MinInt} {
		if got := impl.TreeHeight(x, i); got != 0 {
			t.Errorf("TreeHeight(%d) = %d", i, got)
		}
	}
	if impl.TreeHeight(impl.Tree{}, 0) != 0 {
		t.Error("the zero Tree has a height")
	}
	random := rand.New(rand.NewSource(141))
	for range 2000 {
		var y impl.Tree
		for range random.Intn(8) {
			n := impl.Node{Rule: "x", Parent: random.Intn(9) - 1}
			for range random.Intn(4) {
				n.Children = append(n.Children, random.Intn(11)-2)
			}
			y.Nodes = append(y.Nodes, n)
		}
		for i := -1; i <= len(y.Nodes); i++ {
			if got, want := impl.TreeHeight(y, i), heightOf(y, i); got != want {
				t.Fatalf("TreeHeight(%v, %d) = %d; want %d", y, i, got, want)
			}
		}
	}
}

// TestTreeHeightOfManyPaths: the number of paths is not a matter of time, and neither is the depth.
func TestTreeHeightOfManyPaths(t *testing.T) {
	var x impl.Tree
	const n = 100000
	for i := range n {
		x.Nodes = append(x.Nodes, impl.Node{Children: []int{i + 1, i + 2, i + 1, 0, i}})
	}
	if got := impl.TreeHeight(x, 0); got != n {
		t.Errorf("TreeHeight = %d; want %d", got, n)
	}
	if slices.ContainsFunc(x.Nodes, func(n impl.Node) bool { return len(n.Children) != 5 }) {
		t.Error("the tree is changed")
	}
}
