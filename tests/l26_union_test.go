package tests

import (
	"math/rand"
	"reflect"
	"slices"
	"testing"

	"loop.example/g00512/impl"
)

// wantUnions performs rounds on pairs of names until nothing changes.
func wantUnions(g impl.Grammar) map[string]impl.Relation {
	known := map[string]impl.Relation{}
	for _, s := range g.Symbols {
		known[s.Name] = impl.EmptyRelation(len(impl.PlainAttributes(g, s.Name)))
	}
	for changed := true; changed; {
		changed = false
		for _, r := range g.Rules {
			for _, p := range pairsOf(wantSummary(g, r, wantUnited(g, r, known))) {
				changed = changed || !impl.HasPair(known[r.Left], p[0], p[1])
				known[r.Left] = impl.AddPair(known[r.Left], p[0], p[1])
			}
		}
	}
	return known
}

func wantUnited(g impl.Grammar, r impl.Rule, known map[string]impl.Relation) impl.Relation {
	var list []impl.Relation
	for _, name := range r.Right {
		list = append(list, known[name])
	}
	return wantComposed(g, r, list)
}

func hasDiagonal(r impl.Relation) bool {
	return slices.ContainsFunc(pairsOf(r), func(p [2]int) bool { return p[0] == p[1] })
}

// TestRandomUnions is promise 26.
func TestRandomUnions(t *testing.T) {
	random := rand.New(rand.NewSource(26))
	accepted, circular := 0, 0
	for _, g := range randomGrammars(t, random, 25, numbers(), numbers(), anything()) {
		all, ok := impl.UnionSummaries(g)
		want := wantUnions(g)
		if !ok || len(all) != len(g.Symbols) {
			t.Fatal("UnionSummaries fails")
		}
		exact, _ := impl.Summaries(g)
		for i, s := range g.Symbols {
			if !impl.EqualRelation(all[i], want[s.Name]) {
				t.Fatalf("the union of %s is %v; want %v", s.Name, all[i], want[s.Name])
			}
			for _, summary := range exact[i] {
				if !impl.EqualRelation(impl.UnionRelation(all[i], summary), all[i]) {
					t.Fatalf("the union %v does not contain the summary %v", all[i], summary)
				}
			}
		}
		var rules []string
		for _, r := range g.Rules {
			if hasDiagonal(wantUnited(g, r, want)) {
				rules = append(rules, r.Name)
			}
		}
		if got := impl.CircularRules(g); !slices.Equal(got, rules) || impl.IsAbsolutelyAcyclic(g) != (len(rules) == 0) {
			t.Fatalf("CircularRules = %v; want %v", got, rules)
		}
		if impl.IsAbsolutelyAcyclic(g) && impl.IsCircular(g) {
			t.Fatal("an absolutely acyclic grammar is circular")
		}
		if len(rules) == 0 {
			accepted++
			noTreeHasACycle(t, g)
		} else {
			circular++
		}
	}
	if accepted < 10 || circular < 10 {
		t.Errorf("%d grammars are absolutely acyclic, %d are not", accepted, circular)
	}
}

func noTreeHasACycle(t *testing.T, g impl.Grammar) {
	t.Helper()
	for _, s := range g.Symbols {
		for _, x := range someTrees(g, s.Name, 10) {
			if cycle := impl.TreeCycle(g, x); cycle != nil {
				t.Fatalf("a tree has the cycle %v", cycle)
			}
		}
	}
}

func TestUnionSummaries(t *testing.T) {
	// The two ways of t are united, so that p seems to be circular.
	g := twoWays(t)
	all, ok := impl.UnionSummaries(g)
	if !ok || !reflect.DeepEqual(all, []impl.Relation{relation(0), relation(4, 8, 0, 0)}) {
		t.Errorf("UnionSummaries = %v", all)
	}
	if impl.IsAbsolutelyAcyclic(g) || impl.IsCircular(g) || !slices.Equal(impl.CircularRules(g), []string{"p"}) {
		t.Error("a grammar that is not circular need not be absolutely acyclic")
	}
	h := grammarOf(t, circularLines()...)
	all, ok = impl.UnionSummaries(h)
	if !ok || !reflect.DeepEqual(all, []impl.Relation{relation(0), relation(2, 0)}) || !slices.Equal(impl.CircularRules(h), []string{"p"}) || impl.IsAbsolutelyAcyclic(h) {
		t.Errorf("UnionSummaries = %v", all)
	}
	for k, want := range [][]string{nil, {"loop"}, nil} {
		g := grammarFrom(t, languages()[k])
		if got := impl.CircularRules(g); !slices.Equal(got, want) || impl.IsAbsolutelyAcyclic(g) != (want == nil) {
			t.Errorf("CircularRules = %v; want %v", got, want)
		}
	}
	all, ok = impl.UnionSummaries(grammarFrom(t, declarations))
	if !ok || !reflect.DeepEqual(all, []impl.Relation{relation(0), relation(2, 0)}) {
		t.Errorf("UnionSummaries = %v", all)
	}
	bare := grammarOf(t, "symbol s", "symbol t", "rule p s : t t", "rule q t :")
	all, ok = impl.UnionSummaries(bare)
	if !ok || len(all) != 2 || all[0].N != 0 || all[1].N != 0 || !impl.IsAbsolutelyAcyclic(bare) || len(impl.CircularRules(bare)) != 0 {
		t.Errorf("UnionSummaries = %v", all)
	}
}

// TestUnionsGrow: the relation of a symbol grows from rule to rule and from round to round.
func TestUnionsGrow(t *testing.T) {
	g := grammarOf(t, "symbol s v:syn:num", "symbol t a:inh:num b:inh:num x:syn:num y:syn:num", "symbol u i:inh:num o:syn:num",
		"rule p s : u t", "eq $0.v := $1.o", "eq $1.i := $1.o", "eq $2.a := $2.y", "eq $2.b := 0",
		"rule q u : t", "eq $0.o := $1.y", "eq $1.a := $0.i", "eq $1.b := 0",
		"rule r t : t", "eq $0.x := 0", "eq $0.y := $1.x", "eq $1.a := $0.a", "eq $1.b := $0.b",
		"rule z t :", "eq $0.x := $0.a", "eq $0.y := $0.b",
	)
	all, ok := impl.UnionSummaries(g)
	if !ok || !reflect.DeepEqual(all, []impl.Relation{relation(0), relation(12, 8, 0, 0), relation(2, 0)}) {
		t.Errorf("UnionSummaries = %v", all)
	}
	if got := impl.CircularRules(g); !slices.Equal(got, []string{"p"}) {
		t.Errorf("CircularRules = %v", got)
	}
	// Two rules may be circular; their names are in order.
	lines := append(circularLines(), "rule b s : t t", "eq $0.v := 0", "eq $1.i := 0", "eq $2.i := $2.o", "rule a s : t", "eq $0.v := 0", "eq $1.i := 0")
	if got := impl.CircularRules(grammarOf(t, lines...)); !slices.Equal(got, []string{"p", "b"}) {
		t.Errorf("CircularRules = %v", got)
	}
}

func TestUnionsOfWrongGrammars(t *testing.T) {
	for code, g := range wrongGrammars(t) {
		all, ok := impl.UnionSummaries(g)
		if ok || len(all) != 0 || len(impl.CircularRules(g)) != 0 || impl.IsAbsolutelyAcyclic(g) {
			t.Errorf("code %d: UnionSummaries = %v, %v", code, all, ok)
		}
	}
	wrong := grammarOf(t, circularLines()...)
	wrong.Rules[1].Equations[0].Expr = setOf(1)
	if impl.CircularRules(wrong) != nil {
		t.Error("a grammar that is not accepted has circular rules")
	}
}
