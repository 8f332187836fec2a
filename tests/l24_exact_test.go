package tests

import (
	"math/rand"
	"reflect"
	"slices"
	"testing"
	"time"

	"loop.example/g00512/impl"
)

// wantComposed adds the uses of the equations and the pairs of the summaries on the occurrences of a rule.
func wantComposed(g impl.Grammar, r impl.Rule, list []impl.Relation) impl.Relation {
	occurrences := impl.OccurrencesOf(g, r)
	all := impl.EmptyRelation(len(occurrences))
	for i, u := range occurrences {
		for k, o := range occurrences {
			if e, _ := impl.FindEquation(r, o); slices.Contains(impl.AttributeUses(e), u) {
				all = impl.AddPair(all, i, k)
			}
		}
	}
	for child, summary := range list {
		names := impl.PlainAttributes(g, r.Right[child])
		for _, p := range pairsOf(summary) {
			i := slices.Index(occurrences, occurrence(child+1, names[p[0]].Name))
			k := slices.Index(occurrences, occurrence(child+1, names[p[1]].Name))
			all = impl.AddPair(all, i, k)
		}
	}
	for p := range wantClosed(all) {
		all = impl.AddPair(all, p[0], p[1])
	}
	return all
}

func wantSummary(g impl.Grammar, r impl.Rule, composed impl.Relation) impl.Relation {
	names := impl.PlainAttributes(g, r.Left)
	summary := impl.EmptyRelation(len(names))
	// The occurrences at position 0 are the first ones.
	for _, p := range pairsOf(composed) {
		if max(p[0], p[1]) < len(names) && names[p[0]].Mode == impl.ModeInherited && names[p[1]].Mode == impl.ModeSynthesized {
			summary = impl.AddPair(summary, p[0], p[1])
		}
	}
	return summary
}

// combine returns all lists with one element of each list, the last one varying fastest.
func combine(lists [][]impl.Relation) [][]impl.Relation {
	if len(lists) == 0 {
		return [][]impl.Relation{nil}
	}
	var all [][]impl.Relation
	for _, first := range lists[0] {
		for _, rest := range combine(lists[1:]) {
			all = append(all, append([]impl.Relation{first}, rest...))
		}
	}
	return all
}

func listsFor(g impl.Grammar, r impl.Rule, known map[string][]impl.Relation) [][]impl.Relation {
	var lists [][]impl.Relation
	for _, name := range r.Right {
		lists = append(lists, known[name])
	}
	return combine(lists)
}

// wantSummaries performs all rounds completely.
func wantSummaries(g impl.Grammar) map[string][]impl.Relation {
	known := map[string][]impl.Relation{}
	for {
		next := map[string][]impl.Relation{}
		for name, list := range known {
			next[name] = slices.Clone(list)
		}
		for _, r := range g.Rules {
			for _, list := range listsFor(g, r, known) {
				summary := wantSummary(g, r, wantComposed(g, r, list))
				if !slices.ContainsFunc(next[r.Left], func(x impl.Relation) bool { return impl.EqualRelation(x, summary) }) {
					next[r.Left] = append(next[r.Left], summary)
				}
			}
		}
		if reflect.DeepEqual(known, next) {
			return known
		}
		known = next
	}
}

// summaryOfTree follows the inputs of the instances at the root.
func summaryOfTree(g impl.Grammar, x impl.Tree) impl.Relation {
	list := impl.Instances(g, x)
	names := impl.PlainAttributes(g, impl.SymbolOfNode(g, x, 0))
	summary := impl.EmptyRelation(len(names))
	for i, a := range names {
		for k, b := range names {
			from, to := impl.InstanceIndex(list, at(x.Nodes[0].Id, a.Name)), impl.InstanceIndex(list, at(x.Nodes[0].Id, b.Name))
			if a.Mode == impl.ModeInherited && b.Mode == impl.ModeSynthesized && impl.DependsOn(g, x, to, from) {
				summary = impl.AddPair(summary, i, k)
			}
		}
	}
	return summary
}

// someTrees returns small trees of a symbol, at most n.
func someTrees(g impl.Grammar, symbol string, n int) []impl.Tree {
	size := 2
	for size < 9 && len(branches(g, symbol, size+1)) <= n {
		size++
	}
	var list []impl.Tree
	for _, b := range branches(g, symbol, size) {
		if len(list) < n {
			list = append(list, treeFrom(b, 1))
		}
	}
	return list
}

func TestRandomSummaries(t *testing.T) {
	random := rand.New(rand.NewSource(24))
	circular, several := 0, 0
	for _, g := range randomGrammars(t, random, 40, numbers(), numbers(), anything()) {
		all, ok := impl.Summaries(g)
		want := wantSummaries(g)
		if !ok || len(all) != len(g.Symbols) {
			t.Fatal("Summaries fails")
		}
		for i, s := range g.Symbols {
			if !slices.EqualFunc(all[i], want[s.Name], impl.EqualRelation) {
				t.Fatalf("the summaries of %s are %v; want %v; %s", s.Name, all[i], want[s.Name], impl.FormatGrammar(g))
			}
			if len(all[i]) > 1 {
				several++
			}
		}
		loop := false
		for _, r := range g.Rules {
			for _, list := range listsFor(g, r, want) {
				composed, wanted := impl.ComposeRule(g, r, list), wantComposed(g, r, list)
				if !impl.EqualRelation(composed, wanted) || !impl.EqualRelation(impl.SummaryOf(g, r, composed), wantSummary(g, r, wanted)) {
					t.Fatalf("ComposeRule(%v) = %v; want %v", list, composed, wanted)
				}
				loop = loop || slices.ContainsFunc(pairsOf(wanted), func(p [2]int) bool { return p[0] == p[1] })
			}
		}
		if impl.IsCircular(g) != loop {
			t.Fatalf("IsCircular = %v", !loop)
		}
		if loop {
			circular++
		}
		treesAgree(t, g, want, loop)
	}
	if circular < 10 || several < 15 {
		t.Errorf("%d grammars are circular, %d symbols have several summaries", circular, several)
	}
}

// treesAgree is promise 24: the summaries are those of trees, and only a circular grammar has a tree with a cycle.
func treesAgree(t *testing.T, g impl.Grammar, known map[string][]impl.Relation, circular bool) {
	t.Helper()
	for _, s := range g.Symbols {
		for _, x := range someTrees(g, s.Name, 12) {
			summary := summaryOfTree(g, x)
			if !slices.ContainsFunc(known[s.Name], func(r impl.Relation) bool { return impl.EqualRelation(r, summary) }) {
				t.Fatalf("the summary %v of a tree is not known", summary)
			}
			if cycle := impl.TreeCycle(g, x); cycle != nil && !circular {
				t.Fatalf("a tree has the cycle %v", cycle)
			}
		}
	}
}

// circularLines is a grammar with a cycle in some of its trees, but not in the smallest one.
func circularLines() []string {
	return []string{"symbol s v:syn:num", "symbol t i:inh:num o:syn:num", "rule p s : t", "eq $0.v := $1.o", "eq $1.i := $1.o", "rule q t :", "eq $0.o := 1", "rule r t : t", "eq $0.o := $0.i", "eq $1.i := $0.i"}
}

// twoWays is not circular, but the union of the summaries of t has a cycle with the rule p.
func twoWays(t *testing.T) impl.Grammar {
	return grammarOf(t, "symbol s v:syn:num", "symbol t a:inh:num b:inh:num x:syn:num y:syn:num",
		"rule p s : t", "eq $0.v := $1.x + $1.y", "eq $1.a := $1.y", "eq $1.b := $1.x",
		"rule q t :", "eq $0.x := $0.a", "eq $0.y := 1", "rule r t :", "eq $0.x := 2", "eq $0.y := $0.b")
}

func TestSummaries(t *testing.T) {
	g := grammarOf(t, circularLines()...)
	all, ok := impl.Summaries(g)
	if !ok || len(all) != 2 || !reflect.DeepEqual(all[0], []impl.Relation{relation(0)}) || !reflect.DeepEqual(all[1], []impl.Relation{relation(0, 0), relation(2, 0)}) || !impl.IsCircular(g) {
		t.Errorf("Summaries = %v", all)
	}
	all, ok = impl.Summaries(twoWays(t))
	if !ok || !reflect.DeepEqual(all[1], []impl.Relation{relation(4, 0, 0, 0), relation(0, 8, 0, 0)}) || impl.IsCircular(twoWays(t)) {
		t.Errorf("Summaries = %v", all)
	}
	all, ok = impl.Summaries(grammarFrom(t, boxes))
	if !ok || !reflect.DeepEqual(all, [][]impl.Relation{{relation(0)}, {relation(2, 0)}}) || impl.IsCircular(grammarFrom(t, boxes)) {
		t.Errorf("Summaries = %v", all)
	}
	// The circular attributes of the loops depend on themselves; a remote attribute is no static input.
	if !impl.IsCircular(grammarFrom(t, loops)) || impl.IsCircular(grammarFrom(t, declarations)) {
		t.Error("IsCircular")
	}
	all, ok = impl.Summaries(grammarOf(t, "symbol s", "rule p s :", "rule q s : s s"))
	if !ok || len(all) != 1 || len(all[0]) != 1 || all[0][0].N != 0 {
		t.Errorf("a symbol without attributes has one summary: %v", all)
	}
}

// TestRounds: a summary that is found in a round is used from the next round on.
func TestRounds(t *testing.T) {
	const zero = "eq $0.x := 0"
	g := grammarOf(t, "symbol s", "symbol t a:inh:num b:inh:num x:syn:num y:syn:num", "rule o s :",
		"rule p t : t", "eq $0.x := $1.y", "eq $0.y := $1.x", "eq $1.a := $0.b", "eq $1.b := $0.a",
		"rule q t :", "eq $0.x := $0.a", "eq $0.y := 0",
		"rule r t : t t", "eq $0.x := $1.x + $2.x", "eq $0.y := $1.y + $2.y", "eq $1.a := $0.a", "eq $1.b := $0.b", "eq $2.a := $0.a", "eq $2.b := $0.b",
		"rule z t :", zero, "eq $0.y := 0")
	// Round 1 finds q and z; round 2 finds p of q; round 3 finds r of q and p.
	all, ok := impl.Summaries(g)
	if want := []impl.Relation{relation(4, 0, 0, 0), relation(0, 0, 0, 0), relation(0, 8, 0, 0), relation(4, 8, 0, 0)}; !ok || !reflect.DeepEqual(all[1], want) {
		t.Errorf("Summaries = %v; want %v", all[1], want)
	}
	// Within a round, the rules are in order, and the last child varies fastest.
	h := grammarOf(t, "symbol s", "symbol t a:inh:num b:inh:num x:syn:num y:syn:num", "rule o s :",
		"rule r t : t t", "eq $0.x := $1.x + $2.y", "eq $0.y := $2.x", "eq $1.a := $0.a", "eq $1.b := $0.b", "eq $2.a := $0.b", "eq $2.b := $0.a",
		"rule z t :", zero, "eq $0.y := 0",
		"rule q t :", "eq $0.x := $0.a", "eq $0.y := 0")
	all, ok = impl.Summaries(h)
	if want := []impl.Relation{relation(0, 0, 0, 0), relation(4, 0, 0, 0), relation(0, 8, 0, 0), relation(4, 8, 0, 0)}; !ok || !reflect.DeepEqual(all[1], want) {
		t.Errorf("Summaries = %v; want %v", all[1], want)
	}
}

func TestExactTestFails(t *testing.T) {
	for code, g := range wrongGrammars(t) {
		all, ok := impl.Summaries(g)
		if ok || len(all) != 0 || impl.IsCircular(g) {
			t.Errorf("code %d: Summaries = %v, %v", code, all, ok)
		}
	}
	wrong := grammarOf(t, circularLines()...)
	wrong.Rules[1].Equations[0].Expr = setOf(1)
	if impl.IsCircular(wrong) {
		t.Error("a grammar that is not accepted is circular")
	}
}

func TestComposeRule(t *testing.T) {
	g := grammarFrom(t, boxes)
	row := ruleOf(t, g, "row")
	empty, full := relation(0, 0), relation(2, 0)
	if got := impl.ComposeRule(g, row, []impl.Relation{full, full}); !reflect.DeepEqual(pairsOf(got), [][2]int{{0, 1}, {0, 2}, {0, 3}, {0, 4}, {0, 5}, {2, 1}, {2, 3}, {2, 4}, {2, 5}, {3, 1}, {3, 4}, {3, 5}, {4, 1}, {4, 5}, {5, 1}}) {
		t.Error(pairsOf(got))
	}
	if got := impl.ComposeRule(g, row, []impl.Relation{empty, full}); !reflect.DeepEqual(pairsOf(got), [][2]int{{0, 1}, {0, 2}, {0, 4}, {0, 5}, {3, 1}, {3, 4}, {3, 5}, {4, 1}, {4, 5}, {5, 1}}) {
		t.Error(pairsOf(got))
	}
	// The relation of a child may contain any pairs, and one that is not valid has none.
	wrong := impl.Relation{N: 2, Rows: []int{2, 4}}
	if got := impl.ComposeRule(g, row, []impl.Relation{relation(1, 1), wrong}); !reflect.DeepEqual(got, wantComposed(g, row, []impl.Relation{relation(1, 1), empty})) || !impl.HasLoop(got) {
		t.Error(pairsOf(got))
	}
	for _, list := range [][]impl.Relation{nil, {full}, {full, full, full}, {full, relation(0)}, {relation(0, 0, 0), full}, {{}, full}, {{N: -1}, full}} {
		if got := impl.ComposeRule(g, row, list); got.N != 0 || len(got.Rows) != 0 {
			t.Errorf("ComposeRule(%v) = %v", list, got)
		}
	}
	list := []impl.Relation{relation(2, 0), relation(2, 0)}
	impl.ComposeRule(g, row, list).Rows[0] = 99
	if !reflect.DeepEqual(list, []impl.Relation{full, full}) {
		t.Error("an argument is changed")
	}
	many := impl.Grammar{Symbols: []impl.Symbol{{Name: "m", Attributes: []impl.Attribute{plain("a"), plain("b"), plain("c"), plain("d"), plain("e")}}}}
	four := impl.Rule{Left: "m", Right: []string{"m", "m", "m"}}
	if got := impl.ComposeRule(many, four, slices.Repeat([]impl.Relation{impl.EmptyRelation(5)}, 3)); got.N != 0 {
		t.Error("there are too many occurrences", got)
	}
	four.Right = four.Right[:2]
	if got := impl.ComposeRule(many, four, slices.Repeat([]impl.Relation{impl.EmptyRelation(5)}, 2)); got.N != 15 {
		t.Error("15 occurrences are accepted", got)
	}
}

func TestSummaryOf(t *testing.T) {
	g := twoWays(t)
	q := ruleOf(t, g, "q")
	if got := impl.SummaryOf(g, q, relation(15, 15, 15, 15)); !reflect.DeepEqual(got, relation(12, 12, 0, 0)) {
		t.Error("from inherited to synthesized attributes only", got)
	}
	for _, wrong := range []impl.Relation{{}, relation(1), {N: 4, Rows: []int{31, 31, 31, 31}}, {N: -1}} {
		if got := impl.SummaryOf(g, q, wrong); !reflect.DeepEqual(got, impl.EmptyRelation(4)) {
			t.Errorf("SummaryOf(%v) = %v", wrong, got)
		}
	}
	if got := impl.SummaryOf(g, impl.Rule{Left: "zz"}, relation(1)); got.N != 0 || len(got.Rows) != 0 {
		t.Error(got)
	}
	p := ruleOf(t, g, "p")
	if got := impl.SummaryOf(g, p, relation(31, 31, 31, 31, 31)); !reflect.DeepEqual(got, relation(0)) {
		t.Error(got)
	}
}

// manySummaries has a symbol with all 16 summaries and rules with three children.
func manySummaries(t *testing.T) impl.Grammar {
	return grammarOf(t, "symbol s", "symbol t a:inh:num b:inh:num x:syn:num y:syn:num", "rule o s :",
		"rule c t :", "eq $0.x := $0.a", "eq $0.y := 0", "rule d t :", "eq $0.x := $0.b", "eq $0.y := 0", "rule e t :", "eq $0.x := 0", "eq $0.y := $0.a", "rule f t :", "eq $0.x := 0", "eq $0.y := $0.b",
		"rule g t : t t t", "eq $0.x := $1.x + $2.x + $3.x", "eq $0.y := $1.y + $2.y + $3.y", "eq $1.a := $0.a", "eq $1.b := $0.b", "eq $2.a := $0.a", "eq $2.b := $0.b", "eq $3.a := $0.a", "eq $3.b := $0.b",
		"rule h t : t t t", "eq $0.x := $3.x", "eq $0.y := $3.y", "eq $1.a := $0.a", "eq $1.b := $0.b", "eq $2.a := $1.x", "eq $2.b := $1.y", "eq $3.a := $2.x", "eq $3.b := $2.y")
}

func TestManySummaries(t *testing.T) {
	g := manySummaries(t)
	start := time.Now()
	all, ok := impl.Summaries(g)
	if !ok || len(all[1]) != 16 || impl.IsCircular(g) {
		t.Errorf("Summaries = %v", all)
	}
	if took := time.Since(start); took > 10*time.Second {
		t.Errorf("it took %v", took)
	}
}

func TestSummariesShareNothing(t *testing.T) {
	g := twoWays(t)
	all, _ := impl.Summaries(g)
	for _, list := range all {
		for _, r := range list {
			for i := range r.Rows {
				r.Rows[i] = 77
			}
		}
	}
	again, _ := impl.Summaries(g)
	if !reflect.DeepEqual(again[1], []impl.Relation{relation(4, 0, 0, 0), relation(0, 8, 0, 0)}) {
		t.Error("a result shares memory with another one", again)
	}
	first := all[1]
	first[0].Rows[0] = 1
	if first[1].Rows[0] == 1 {
		t.Error("two relations share memory")
	}
}
