package tests

import (
	"math/rand"
	"reflect"
	"slices"
	"testing"

	"loop.example/g00512/impl"
)

func inherited(name string) impl.Attribute {
	return impl.Attribute{Name: name, Type: impl.TypeNumber, Mode: impl.ModeInherited}
}

// wantInduced adds pairs of names at symbols, rule by rule, until nothing changes; nil if there is a cycle.
func wantInduced(g impl.Grammar) map[string]map[[2]string]bool {
	known := map[string]map[[2]string]bool{}
	for _, s := range g.Symbols {
		known[s.Name] = map[[2]string]bool{}
	}
	for changed := true; changed; {
		changed = false
		for _, r := range g.Rules {
			occurrences := impl.OccurrencesOf(g, r)
			all := impl.LocalRelation(g, r)
			for i, a := range occurrences {
				for k, b := range occurrences {
					if a.Pos == b.Pos && known[impl.SymbolAt(r, a.Pos)][[2]string{a.Name, b.Name}] {
						all = impl.AddPair(all, i, k)
					}
				}
			}
			for p := range wantClosed(all) {
				a, b := occurrences[p[0]], occurrences[p[1]]
				pairs := known[impl.SymbolAt(r, a.Pos)]
				if a == b {
					return nil
				}
				if pair := [2]string{a.Name, b.Name}; a.Pos == b.Pos && !pairs[pair] {
					pairs[pair], changed = true, true
				}
			}
		}
	}
	return known
}

// wantPhases moves attributes from left into phases.
func wantPhases(list []impl.Attribute, r impl.Relation) ([]impl.Phase, bool) {
	var phases []impl.Phase
	left := upTo(len(list))
	take := func(mode int) []string {
		var names []string
		for n := 0; n < len(left); n++ {
			i := left[n]
			ready := list[i].Mode == mode
			for _, k := range left {
				ready = ready && !impl.HasPair(r, k, i)
			}
			if ready {
				names, left = append(names, list[i].Name), slices.Delete(slices.Clone(left), n, n+1)
				n = -1
			}
		}
		return names
	}
	for len(left) > 0 || phases == nil {
		before := len(left)
		p := impl.Phase{Inherited: take(impl.ModeInherited)}
		p.Synthesized = take(impl.ModeSynthesized)
		if before > 0 && len(left) == before {
			return nil, false
		}
		phases = append(phases, p)
	}
	return phases, true
}

func equalPhases(a []impl.Phase, b []impl.Phase) bool {
	return slices.EqualFunc(a, b, func(x impl.Phase, y impl.Phase) bool {
		return slices.Equal(x.Inherited, y.Inherited) && slices.Equal(x.Synthesized, y.Synthesized)
	})
}

// order returns the names of all phases in the order in which they are placed.
func order(phases []impl.Phase) []string {
	var names []string
	for _, p := range phases {
		names = append(names, p.Inherited...)
		names = append(names, p.Synthesized...)
	}
	return names
}

// TestRandomPhases is promise 27 for attributes and a relation.
func TestRandomPhases(t *testing.T) {
	random := rand.New(rand.NewSource(27))
	split, failed := 0, 0
	for range 4000 {
		n := random.Intn(7)
		var list []impl.Attribute
		for i := range n {
			mode := 1 + random.Intn(2)
			if random.Intn(40) == 0 {
				mode = random.Intn(5)
			}
			list = append(list, impl.Attribute{Name: string(rune('a' + i)), Mode: mode})
		}
		r := randomRelation(random, n)
		if random.Intn(3) > 0 {
			// Only pairs from a number to a greater one, so that there is no loop.
			for i := range n {
				r.Rows[i] = r.Rows[i] >> (i + 1) << (i + 1)
			}
		}
		got, ok := impl.PhasesOf(list, r)
		want, wantOk := wantPhases(list, r)
		if wantOk = wantOk && !impl.HasLoop(r); !wantOk {
			want = nil
		}
		if ok != wantOk || !equalPhases(got, want) {
			t.Fatalf("PhasesOf(%v, %v) = %v, %v; want %v, %v", list, r, got, ok, want, wantOk)
		}
		if !ok {
			failed++
			continue
		}
		split++
		names := order(got)
		if len(names) != n {
			t.Fatalf("%v are not all attributes", names)
		}
		for _, p := range pairsOf(r) {
			if slices.Index(names, list[p[0]].Name) > slices.Index(names, list[p[1]].Name) {
				t.Fatalf("attribute %d depends on %d, which comes later: %v", p[1], p[0], got)
			}
		}
	}
	if split < 500 || failed < 500 {
		t.Errorf("%d lists are split, %d are not", split, failed)
	}
}

// TestRandomInduced is promise 27 for the symbols of grammars and for their trees.
func TestRandomInduced(t *testing.T) {
	random := rand.New(rand.NewSource(271))
	induced, failed := 0, 0
	for _, g := range randomGrammars(t, random, 60, numbers(), numbers(), anyTypes()) {
		relations, ok := impl.InducedRelations(g)
		phases, phasesOk := impl.SymbolPhases(g)
		want := wantInduced(g)
		if ok != (want != nil && impl.IsStatic(g)) || phasesOk != ok {
			t.Fatalf("InducedRelations: %v, SymbolPhases: %v; %s", ok, phasesOk, impl.FormatGrammar(g))
		}
		if !ok {
			failed++
			if len(relations) != 0 || len(phases) != 0 {
				t.Fatal("a result without success")
			}
			continue
		}
		induced++
		if !impl.IsAbsolutelyAcyclic(g) {
			t.Fatal("a grammar with phases is absolutely acyclic")
		}
		for i, s := range g.Symbols {
			names := impl.PlainAttributes(g, s.Name)
			if relations[i].N != len(names) || len(pairsOf(relations[i])) != len(want[s.Name]) {
				t.Fatalf("the relation of %s is %v; want %v", s.Name, relations[i], want[s.Name])
			}
			for _, p := range pairsOf(relations[i]) {
				if !want[s.Name][[2]string{names[p[0]].Name, names[p[1]].Name}] {
					t.Fatalf("the relation of %s is %v; want %v", s.Name, relations[i], want[s.Name])
				}
			}
			if split, ok := wantPhases(names, relations[i]); !ok || !equalPhases(split, phases[i]) {
				t.Fatalf("the phases of %s are %v; want %v", s.Name, phases[i], split)
			}
		}
		for range 2 {
			phasesFit(t, g, phases, randomTree(random, g, symbolNames(g)[random.Intn(len(g.Symbols))]))
		}
	}
	if induced < 20 || failed < 20 {
		t.Errorf("%d grammars have phases, %d have none", induced, failed)
	}
}

// phasesFit checks that no instance of a tree depends on a later one of the same node.
func phasesFit(t *testing.T, g impl.Grammar, phases [][]impl.Phase, x impl.Tree) {
	t.Helper()
	list := impl.Instances(g, x)
	to := reaches(wantInputs(g, x))
	for i, n := range x.Nodes {
		names := order(phases[slices.Index(symbolNames(g), impl.SymbolOfNode(g, x, i))])
		for k, later := range names {
			for _, earlier := range names[:k] {
				a, b := impl.InstanceIndex(list, at(n.Id, earlier)), impl.InstanceIndex(list, at(n.Id, later))
				if to[a][b] {
					t.Fatalf("%s depends on the later %s", earlier, later)
				}
			}
		}
	}
}

func TestInducedRelations(t *testing.T) {
	relations, ok := impl.InducedRelations(grammarFrom(t, boxes))
	if !ok || !reflect.DeepEqual(relations, []impl.Relation{relation(0), relation(2, 0)}) {
		t.Errorf("InducedRelations = %v", relations)
	}
	// What depends on what above a node counts too: b is defined by x of the same node.
	g := grammarOf(t, "symbol s v:syn:num", "symbol t a:inh:num b:inh:num x:syn:num y:syn:num", "rule p s : t", "eq $0.v := $1.y", "eq $1.a := 1", "eq $1.b := $1.x", "rule q t :", "eq $0.x := $0.a", "eq $0.y := $0.b")
	relations, ok = impl.InducedRelations(g)
	if !ok || !reflect.DeepEqual(relations, []impl.Relation{relation(0), relation(14, 8, 10, 0)}) {
		t.Errorf("InducedRelations = %v", relations)
	}
	phases, ok := impl.SymbolPhases(g)
	if want := [][]impl.Phase{{{Synthesized: []string{"v"}}}, {{Inherited: []string{"a"}, Synthesized: []string{"x"}}, {Inherited: []string{"b"}, Synthesized: []string{"y"}}}}; !ok || len(phases) != 2 || !equalPhases(phases[0], want[0]) || !equalPhases(phases[1], want[1]) {
		t.Errorf("SymbolPhases = %v", phases)
	}
}

func inducedFails(t *testing.T, what string, g impl.Grammar) {
	t.Helper()
	relations, ok := impl.InducedRelations(g)
	phases, phasesOk := impl.SymbolPhases(g)
	if ok || phasesOk || len(relations) != 0 || len(phases) != 0 {
		t.Errorf("%s: %v, %v", what, relations, phases)
	}
}

func TestInducedRelationsFail(t *testing.T) {
	for _, g := range wrongGrammars(t) {
		inducedFails(t, "a grammar that is not accepted", g)
	}
	inducedFails(t, "collected attributes", grammarFrom(t, declarations))
	inducedFails(t, "circular attributes", grammarFrom(t, loops))
	inducedFails(t, "a circular grammar", grammarOf(t, circularLines()...))
	inducedFails(t, "a grammar that is not absolutely acyclic", twoWays(t))
	// One rule asks for a before y, another one for b before x, and a third one needs both orders at once.
	g := grammarOf(t, "symbol s v:syn:num", "symbol t a:inh:num b:inh:num x:syn:num y:syn:num",
		"rule c s : t", "eq $0.v := $1.y", "eq $1.a := 0", "eq $1.b := $1.x",
		"rule d s : t", "eq $0.v := $1.x", "eq $1.a := $1.y", "eq $1.b := 0",
		"rule q t :", "eq $0.x := $0.a", "eq $0.y := $0.b")
	if !impl.IsAbsolutelyAcyclic(g) || impl.IsCircular(g) {
		t.Error("the grammar has no cycle")
	}
	inducedFails(t, "two contexts", g)
	for _, rule := range []int{0, 1} {
		h := g
		h.Rules = slices.Delete(slices.Clone(g.Rules), rule, rule+1)
		if _, ok := impl.SymbolPhases(h); !ok {
			t.Error("one context alone has phases")
		}
	}
}

func phasesAre(t *testing.T, list []impl.Attribute, r impl.Relation, want ...impl.Phase) {
	t.Helper()
	got, ok := impl.PhasesOf(list, r)
	if ok != (want != nil) || !equalPhases(got, want) {
		t.Errorf("PhasesOf(%v, %v) = %v, %v; want %v", list, r, got, ok, want)
	}
}

func TestPhasesOf(t *testing.T) {
	a, b, x, y := inherited("a"), inherited("b"), plain("x"), plain("y")
	phasesAre(t, nil, relation(), impl.Phase{})
	phasesAre(t, []impl.Attribute{a}, relation(0), impl.Phase{Inherited: []string{"a"}})
	phasesAre(t, []impl.Attribute{x}, relation(0), impl.Phase{Synthesized: []string{"x"}})
	all := []impl.Attribute{x, a, y, b}
	phasesAre(t, all, relation(0, 0, 0, 0), impl.Phase{Inherited: []string{"a", "b"}, Synthesized: []string{"x", "y"}})
	phasesAre(t, all, relation(2, 0, 0, 0), impl.Phase{Inherited: []string{"b"}, Synthesized: []string{"x", "y"}}, impl.Phase{Inherited: []string{"a"}})
	phasesAre(t, all, relation(2, 4, 8, 0), impl.Phase{Synthesized: []string{"x"}}, impl.Phase{Inherited: []string{"a"}, Synthesized: []string{"y"}}, impl.Phase{Inherited: []string{"b"}})
	// Within a phase, an attribute may depend on a later one of the list; then the first of those that are left follows.
	phasesAre(t, all, relation(0, 0, 1, 2), impl.Phase{Inherited: []string{"b", "a"}, Synthesized: []string{"y", "x"}})
	phasesAre(t, []impl.Attribute{a, b, inherited("c")}, relation(0, 1, 2), impl.Phase{Inherited: []string{"c", "b", "a"}})
	phasesAre(t, []impl.Attribute{a, b, inherited("c")}, relation(0, 1, 0), impl.Phase{Inherited: []string{"b", "a", "c"}})
	// Loops, relations on other numbers and attributes that are neither inherited nor synthesized have no phases.
	phasesAre(t, all, relation(1, 0, 0, 0))
	phasesAre(t, all, relation(2, 4, 1, 0))
	phasesAre(t, all, relation(0, 0, 0))
	phasesAre(t, all, relation(0, 0, 0, 0, 0))
	phasesAre(t, nil, relation(0))
	phasesAre(t, nil, impl.Relation{N: -1})
	for _, r := range wrongRelations() {
		phasesAre(t, all[:2], r)
		phasesAre(t, nil, r)
	}
	for _, mode := range []int{0, impl.ModeCollected, 4, -1} {
		phasesAre(t, []impl.Attribute{a, {Name: "z", Mode: mode}}, relation(0, 0))
		phasesAre(t, []impl.Attribute{{Name: "z", Mode: mode}}, relation(0))
	}
	same := []impl.Attribute{a, a, x, x}
	phasesAre(t, same, relation(0, 4, 0, 0), impl.Phase{Inherited: []string{"a", "a"}, Synthesized: []string{"x", "x"}})
	many := slices.Repeat([]impl.Attribute{x}, 17)
	phasesAre(t, many, impl.Relation{N: 17, Rows: make([]int, 17)})
	phasesAre(t, many[:16], impl.EmptyRelation(16), impl.Phase{Synthesized: slices.Repeat([]string{"x"}, 16)})
}

func TestPhasesOfEmptySymbols(t *testing.T) {
	g := grammarOf(t, "symbol s", "symbol t", "symbol u a:syn:num", "rule p s : t u", "rule q t :", "rule r u :", "eq $0.a := 1")
	relations, ok := impl.InducedRelations(g)
	phases, phasesOk := impl.SymbolPhases(g)
	if !ok || len(relations) != 3 || relations[0].N != 0 || relations[2].N != 1 {
		t.Errorf("InducedRelations = %v", relations)
	}
	if !phasesOk || len(phases) != 3 || !equalPhases(phases[0], []impl.Phase{{}}) || !equalPhases(phases[1], []impl.Phase{{}}) || !equalPhases(phases[2], []impl.Phase{{Synthesized: []string{"a"}}}) {
		t.Errorf("a symbol without attributes has one empty phase: %v", phases)
	}
}
