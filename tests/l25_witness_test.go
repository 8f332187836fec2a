package tests

import (
	"math/rand"
	"slices"
	"testing"

	"loop.example/g00512/impl"
)

// shown is a summary and the tree with which it was found first.
type shown struct {
	summary impl.Relation
	tree    branch
}

// summaries returns the summaries of a list.
func summariesIn(list []shown) []impl.Relation {
	var all []impl.Relation
	for _, x := range list {
		all = append(all, x.summary)
	}
	return all
}

// wantShown performs all rounds completely and keeps the trees.
func wantShown(g impl.Grammar) map[string][]shown {
	known := map[string][]shown{}
	for {
		next := map[string][]shown{}
		for name, list := range known {
			next[name] = slices.Clone(list)
		}
		for _, r := range g.Rules {
			for _, children := range combineShown(r.Right, known) {
				summary := wantSummary(g, r, wantComposed(g, r, summariesIn(children)))
				if !slices.ContainsFunc(next[r.Left], func(x shown) bool { return impl.EqualRelation(x.summary, summary) }) {
					next[r.Left] = append(next[r.Left], shown{summary, branchOf(r, children)})
				}
			}
		}
		same := true
		for name := range next {
			same = same && len(next[name]) == len(known[name])
		}
		if same {
			return known
		}
		known = next
	}
}

func combineShown(symbols []string, known map[string][]shown) [][]shown {
	if len(symbols) == 0 {
		return [][]shown{nil}
	}
	var all [][]shown
	for _, first := range known[symbols[0]] {
		for _, rest := range combineShown(symbols[1:], known) {
			all = append(all, append([]shown{first}, rest...))
		}
	}
	return all
}

func branchOf(r impl.Rule, children []shown) branch {
	b := grow(r.Name, 0)
	for _, c := range children {
		b.children = append(b.children, c.tree)
	}
	return b
}

func wantCircular(g impl.Grammar, known map[string][]shown) (branch, bool) {
	for _, r := range g.Rules {
		for _, children := range combineShown(r.Right, known) {
			for _, p := range pairsOf(wantComposed(g, r, summariesIn(children))) {
				if p[0] == p[1] {
					return branchOf(r, children), true
				}
			}
		}
	}
	return branch{}, false
}

// treeIs checks that a tree is b with Ids from 1 on, or that there is none if b is too large.
func treeIs(t *testing.T, what string, got impl.Tree, ok bool, b branch) {
	t.Helper()
	if b.size() > impl.MaxTreeNodes {
		if ok || len(got.Nodes) != 0 {
			t.Fatalf("%s: %v, %v, but the tree is too large", what, got, ok)
		}
		return
	}
	if !ok || !impl.EqualTree(got, treeFrom(b, 1)) {
		t.Fatalf("%s: %v, %v; want %v", what, got, ok, treeFrom(b, 1))
	}
}

// TestShownTrees is promise 25.
func TestShownTrees(t *testing.T) {
	random := rand.New(rand.NewSource(25))
	circular, deep := 0, 0
	for _, g := range randomGrammars(t, random, 40, numbers(), numbers(), anything()) {
		known := wantShown(g)
		for _, s := range g.Symbols {
			for _, want := range known[s.Name] {
				x, ok := impl.SummaryTree(g, s.Name, want.summary)
				treeIs(t, "SummaryTree", x, ok, want.tree)
				if ok && !impl.IsTreeOf(g, x, s.Name) || ok && !impl.EqualRelation(summaryOfTree(g, x), want.summary) {
					t.Fatalf("the tree %v does not have the summary %v", x, want.summary)
				}
				if want.tree.size() > 4 {
					deep++
				}
			}
			if x, ok := impl.SummaryTree(g, s.Name, impl.EmptyRelation(5)); ok || len(x.Nodes) != 0 {
				t.Fatal("a summary that the symbol does not have is shown")
			}
		}
		b, found := wantCircular(g, known)
		x, ok := impl.CircularTree(g)
		if found != impl.IsCircular(g) {
			t.Fatalf("IsCircular = %v", !found)
		}
		if !found {
			if ok || len(x.Nodes) != 0 {
				t.Fatalf("CircularTree = %v of a grammar that is not circular", x)
			}
			continue
		}
		circular++
		treeIs(t, "CircularTree", x, ok, b)
		if ok && impl.TreeCycle(g, x) == nil {
			t.Fatalf("the tree %v has no cycle", x)
		}
	}
	if circular < 10 || deep < 5 {
		t.Errorf("%d grammars are circular, %d trees are deep", circular, deep)
	}
}

func summaryTreeIs(t *testing.T, g impl.Grammar, symbol string, summary impl.Relation, want string) {
	t.Helper()
	x, ok := impl.SummaryTree(g, symbol, summary)
	if want == "" && (ok || len(x.Nodes) != 0) || want != "" && (!ok || impl.FormatTree(g, x) != want || x.Nodes[0].Id != 1) {
		t.Errorf("SummaryTree(%q, %v) = %v, %v; want %q", symbol, summary, x, ok, want)
	}
}

func TestSummaryTree(t *testing.T) {
	g := grammarOf(t, circularLines()...)
	summaryTreeIs(t, g, "t", relation(0, 0), "(q)")
	summaryTreeIs(t, g, "t", relation(2, 0), "(r (q))")
	summaryTreeIs(t, g, "s", relation(0), "(p (q))")
	for _, r := range append(wrongRelations(), relation(), relation(0), relation(0, 1), relation(3, 0), relation(0, 0, 0)) {
		summaryTreeIs(t, g, "t", r, "")
	}
	summaryTreeIs(t, g, "u", relation(), "")
	summaryTreeIs(t, g, "", relation(), "")
	x, ok := impl.CircularTree(g)
	if !ok || impl.FormatTree(g, x) != "(p (r (q)))" || !slices.Equal(impl.NodeIds(x, 0), []int{1, 2}) || x.Nodes[2].Id != 3 {
		t.Errorf("CircularTree = %v, %v", x, ok)
	}
	h := grammarFrom(t, loops)
	summaryTreeIs(t, h, "t", relation(2, 0), "(gen 0)")
	if x, ok := impl.CircularTree(h); !ok || impl.FormatTree(h, x) != "(loop (gen 0))" || impl.IsValidTree(h, x) {
		t.Errorf("CircularTree = %v, %v", x, ok)
	}
	d := grammarFrom(t, declarations)
	summaryTreeIs(t, d, "t", relation(0, 0), "(decl 0)")
	summaryTreeIs(t, d, "t", relation(2, 0), "(use 0)")
	summaryTreeIs(t, d, "s", relation(0), "(block (decl 0))")
	for _, k := range []impl.Grammar{twoWays(t), grammarFrom(t, boxes), d} {
		if x, ok := impl.CircularTree(k); ok || len(x.Nodes) != 0 {
			t.Errorf("CircularTree = %v of a grammar that is not circular", x)
		}
	}
}

// TestFirstTrees: what counts is the rule and the combination with which a summary is found first.
func TestFirstTrees(t *testing.T) {
	g := manySummaries(t)
	summaryTreeIs(t, g, "t", relation(4, 0, 0, 0), "(c)")
	summaryTreeIs(t, g, "t", relation(0, 8, 0, 0), "(f)")
	summaryTreeIs(t, g, "t", relation(12, 0, 0, 0), "(g (c) (c) (e))")
	summaryTreeIs(t, g, "t", relation(4, 4, 0, 0), "(g (c) (c) (d))")
	summaryTreeIs(t, g, "t", relation(12, 4, 0, 0), "(g (c) (d) (e))")
	summaryTreeIs(t, g, "t", relation(0, 0, 0, 0), "(h (c) (c) (d))")
	summaryTreeIs(t, g, "t", relation(12, 12, 0, 0), "(g (c) (c) (g (d) (e) (f)))")
}

// chainOf has trees of s with 1 + t + others nodes, where u has n leaves and t three of u.
func chainOf(t *testing.T, leaves string, others string) impl.Grammar {
	lines := []string{"symbol s n:syn:num", "symbol t", "symbol u", "symbol v i:inh:num o:syn:num", "rule p s : t " + others, "eq $0.n := 1"}
	for k, c := range others {
		if c == 'v' {
			lines = append(lines, "eq $"+string(rune('2'+k/2))+".i := $"+string(rune('2'+k/2))+".o")
		}
	}
	lines = append(lines, "rule q t : u u u", "rule r u : "+leaves)
	for k := range (len(leaves) + 1) / 2 {
		lines = append(lines, "eq $"+string(rune('1'+k))+".i := 1")
	}
	return grammarOf(t, append(lines, "rule w v :", "eq $0.o := $0.i")...)
}

func TestLargeTrees(t *testing.T) {
	g := chainOf(t, "v v v", "v v")
	x, ok := impl.SummaryTree(g, "s", relation(0))
	if !ok || len(x.Nodes) != impl.MaxTreeNodes || !impl.IsValidTree(g, x) {
		t.Errorf("SummaryTree = %v, %v", x, ok)
	}
	x, ok = impl.CircularTree(g)
	if !ok || len(x.Nodes) != impl.MaxTreeNodes || impl.TreeCycle(g, x) == nil {
		t.Errorf("CircularTree = %v, %v", x, ok)
	}
	// Here, the tree would have 17 nodes: 10 of t, two times 3 of u, and the root.
	g = chainOf(t, "v v", "u u")
	summaryTreeIs(t, g, "s", relation(0), "")
	summaryTreeIs(t, g, "t", relation(), "(q (r (w) (w)) (r (w) (w)) (r (w) (w)))")
	g = chainOf(t, "v v v", "u v")
	summaryTreeIs(t, g, "s", relation(0), "")
	if x, ok := impl.CircularTree(g); ok || len(x.Nodes) != 0 || !impl.IsCircular(g) {
		t.Errorf("CircularTree = %v, %v; it is too large", x, ok)
	}
}

func TestWitnessesOfWrongGrammars(t *testing.T) {
	for code, g := range wrongGrammars(t) {
		summaryTreeIs(t, g, "t", relation(2, 0), "")
		summaryTreeIs(t, g, "s", relation(0), "")
		if x, ok := impl.CircularTree(g); ok || len(x.Nodes) != 0 {
			t.Errorf("code %d: CircularTree = %v", code, x)
		}
	}
}
