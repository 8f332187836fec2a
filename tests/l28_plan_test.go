package tests

import (
	"math"
	"math/rand"
	"slices"
	"strconv"
	"strings"
	"testing"

	"loop.example/g00512/impl"
)

// phaseTable finds the phases of a symbol by its name.
func phaseTable(g impl.Grammar, phases [][]impl.Phase) map[string][]impl.Phase {
	table := map[string][]impl.Phase{}
	for i, s := range g.Symbols {
		table[s.Name] = phases[i]
	}
	return table
}

// wantSteps follows the sentences of chapter 28 for a rule, with occurrences written as in equations; false if the plan
// cannot be completed.
func wantSteps(g impl.Grammar, phases map[string][]impl.Phase, r impl.Rule) ([]string, bool) {
	known, visits := map[string]bool{}, map[int]int{}
	learn := func(pos int, names []string) {
		for _, name := range names {
			known[place(pos, name)] = true
		}
	}
	has := func(pos int, names []string) bool {
		return !slices.ContainsFunc(names, func(name string) bool { return !known[place(pos, name)] })
	}
	var steps []string
	again := func() bool {
		for _, o := range impl.RequiredOccurrences(g, r) {
			e, _ := impl.FindEquation(r, o)
			ready := !known[place(o.Pos, o.Name)]
			for _, u := range impl.AttributeUses(e) {
				ready = ready && known[place(u.Pos, u.Name)]
			}
			if ready {
				steps = append(steps, "eval "+place(o.Pos, o.Name))
				learn(o.Pos, []string{o.Name})
				return true
			}
		}
		for k, symbol := range r.Right {
			pos, v := k+1, visits[k]
			if v < len(phases[symbol]) && has(pos, phases[symbol][v].Inherited) {
				visits[k]++
				steps = append(steps, "visit "+strconv.Itoa(pos)+"."+strconv.Itoa(v+1))
				learn(pos, phases[symbol][v].Synthesized)
				return true
			}
		}
		return false
	}
	for v, phase := range phases[r.Left] {
		learn(0, phase.Inherited)
		for again() {
		}
		if !has(0, phase.Synthesized) {
			return nil, false
		}
		steps = append(steps, "leave "+strconv.Itoa(v+1))
	}
	for _, o := range impl.RequiredOccurrences(g, r) {
		if !known[place(o.Pos, o.Name)] {
			return nil, false
		}
	}
	for k, symbol := range r.Right {
		if visits[k] != len(phases[symbol]) {
			return nil, false
		}
	}
	return steps, true
}

func place(pos int, name string) string {
	return "$" + strconv.Itoa(pos) + "." + name
}

// phasesAllowPlan: what must happen before what at a node with this rule has no cycle.
func phasesAllowPlan(g impl.Grammar, phases map[string][]impl.Phase, r impl.Rule) bool {
	numbers := map[string]int{}
	var before [][]int
	index := func(name string) int {
		if _, ok := numbers[name]; !ok {
			numbers[name] = len(before)
			before = append(before, nil)
		}
		return numbers[name]
	}
	needs := func(later string, earlier string) {
		i, k := index(later), index(earlier)
		before[i] = append(before[i], k)
	}
	for pos := range len(r.Right) + 1 {
		for v, phase := range phases[impl.SymbolAt(r, pos)] {
			first, second := phase.Inherited, phase.Synthesized
			visit := "visit " + strconv.Itoa(pos) + "."
			// Of a child, the visit follows the inherited attributes; of the node itself, the inherited attributes
			// follow the end of the visit before.
			needs(visit+strconv.Itoa(v+1), visit+strconv.Itoa(v))
			for _, name := range first {
				if pos == 0 {
					needs(place(pos, name), visit+strconv.Itoa(v))
				} else {
					needs(visit+strconv.Itoa(v+1), place(pos, name))
				}
			}
			for _, name := range second {
				if pos == 0 {
					needs(visit+strconv.Itoa(v+1), place(pos, name))
				} else {
					needs(place(pos, name), visit+strconv.Itoa(v+1))
				}
			}
		}
	}
	for _, q := range r.Equations {
		for _, u := range impl.AttributeUses(q.Expr) {
			needs(place(q.At.Pos, q.At.Name), place(u.Pos, u.Name))
		}
	}
	_, ok := wantOrder(before)
	return ok
}

func formatSteps(steps []impl.Step) []string {
	var list []string
	for _, s := range steps {
		list = append(list, impl.FormatStep(s))
	}
	return list
}

// sparseGrammar has rules of three symbols whose equations use one attribute or none, so that many have phases.
func sparseGrammar(t *testing.T, random *rand.Rand) impl.Grammar {
	t.Helper()
	g := grammarOf(t, "symbol s v:syn:num", "symbol t a:inh:num b:inh:num x:syn:num y:syn:num", "symbol u x:syn:num a:inh:num y:syn:num", "rule p s : t u", "rule q t : lit", "rule r u :")
	children := [][]string{{"t"}, {"u"}, {"t", "t"}, {"u", "t"}, {"t", "u", "t"}, {"u", "u"}}
	for i := range random.Intn(4) {
		r := impl.Rule{Name: []string{"c", "d", "e"}[i], Left: []string{"s", "t", "u"}[random.Intn(3)], Right: children[random.Intn(len(children))], Literal: true}
		g.Rules = append(g.Rules, r)
	}
	m := &maker{random: random, style: style{types: []int{impl.TypeNumber}, weight: 1}, g: g}
	for i, r := range g.Rules {
		for _, o := range impl.RequiredOccurrences(g, r) {
			leaves := m.leaves(r, impl.TypeNumber)
			g.Rules[i].Equations = append(g.Rules[i].Equations, impl.Equation{At: o, Expr: leaves[random.Intn(len(leaves))]})
		}
	}
	return g
}

// plannable returns n grammars that have phases, among them some with several phases and some without plans.
func plannable(t *testing.T, random *rand.Rand, n int) []impl.Grammar {
	t.Helper()
	list := []impl.Grammar{grammarFrom(t, boxes), twoPhases(t), deadlock(t)}
	for len(list) < n {
		g := sparseGrammar(t, random)
		if len(list)%4 == 0 {
			g = randomGrammar(t, random, []style{numbers(), anyTypes()}[random.Intn(2)])
		}
		if _, ok := impl.SymbolPhases(g); ok {
			list = append(list, g)
		}
	}
	return list
}

// twoPhases needs two visits of t.
func twoPhases(t *testing.T) impl.Grammar {
	return grammarOf(t, "symbol s v:syn:num", "symbol t a:inh:num b:inh:num x:syn:num y:syn:num",
		"rule p s : t", "eq $0.v := $1.y", "eq $1.a := 1", "eq $1.b := $1.x + 1",
		"rule q t : lit", "eq $0.x := $0.a + lit", "eq $0.y := $0.b * 2",
		"rule r t : t t", "eq $0.x := $1.x + $2.x", "eq $0.y := $2.y", "eq $1.a := $0.a", "eq $1.b := $0.b", "eq $2.a := $1.x", "eq $2.b := $1.y")
}

// deadlock has phases, but the rule p needs parts of the visits of its children before the visits.
func deadlock(t *testing.T) impl.Grammar {
	return grammarOf(t, "symbol s v:syn:num", "symbol t a:inh:num b:inh:num x:syn:num y:syn:num",
		"rule p s : t t", "eq $0.v := $1.y + $2.y", "eq $1.a := 1", "eq $2.a := 2", "eq $1.b := $2.x", "eq $2.b := $1.x",
		"rule q t :", "eq $0.x := $0.a", "eq $0.y := $0.b")
}

func TestRandomPlans(t *testing.T) {
	random := rand.New(rand.NewSource(28))
	built, failed, several := 0, 0, 0
	for _, g := range plannable(t, random, 400) {
		phases, _ := impl.SymbolPhases(g)
		table := phaseTable(g, phases)
		plans, ok := impl.BuildPlan(g)
		allowed := true
		for i, r := range g.Rules {
			want, complete := wantSteps(g, table, r)
			if complete != phasesAllowPlan(g, table, r) {
				t.Fatalf("the oracles differ for %s of %s", r.Name, impl.FormatGrammar(g))
			}
			allowed = allowed && complete
			if !ok || !complete {
				continue
			}
			if got := formatSteps(plans[i].Steps); plans[i].Rule != r.Name || !slices.Equal(got, want) {
				t.Fatalf("the plan of %s is %v; want %v", r.Name, got, want)
			}
			if slices.Contains(want, "leave 2") {
				several++
			}
		}
		if ok != allowed {
			t.Fatalf("BuildPlan: %v; the phases allow a plan: %v", ok, allowed)
		}
		if !ok {
			failed++
			if len(plans) != 0 {
				t.Fatal("plans without success")
			}
			continue
		}
		built++
		if len(plans) != len(g.Rules) {
			t.Fatal("one plan for each rule")
		}
		for _, p := range plans {
			hasNoOtherFields(t, p.Steps)
		}
	}
	if built < 100 || failed < 3 || several < 20 {
		t.Errorf("%d grammars have plans, %d have none; %d plans have several visits", built, failed, several)
	}
}

func hasNoOtherFields(t *testing.T, steps []impl.Step) {
	t.Helper()
	for _, s := range steps {
		if s.Kind == impl.StepEval && s.Visit != 0 || s.Kind != impl.StepEval && s.Name != "" || s.Kind == impl.StepLeave && s.Pos != 0 {
			t.Fatalf("%v has more than it needs", s)
		}
	}
}

func planIs(t *testing.T, g impl.Grammar, rule string, want string) {
	t.Helper()
	plans, ok := impl.BuildPlan(g)
	if !ok {
		t.Fatal("BuildPlan fails")
	}
	if got := strings.Join(formatSteps(impl.StepsOf(plans, rule)), "; "); got != want {
		t.Errorf("the plan of %s is %q; want %q", rule, got, want)
	}
}

func TestPlans(t *testing.T) {
	g := grammarFrom(t, boxes)
	planIs(t, g, "page", "eval $1.room; visit 1.1; eval $0.width; leave 1")
	planIs(t, g, "row", "eval $1.room; visit 1.1; eval $2.room; visit 2.1; eval $0.width; leave 1")
	planIs(t, g, "box", "eval $0.width; leave 1")
	g = twoPhases(t)
	planIs(t, g, "p", "eval $1.a; visit 1.1; eval $1.b; visit 1.2; eval $0.v; leave 1")
	planIs(t, g, "q", "eval $0.x; leave 1; eval $0.y; leave 2")
	planIs(t, g, "r", "eval $1.a; visit 1.1; eval $2.a; visit 2.1; eval $0.x; leave 1; eval $1.b; visit 1.2; eval $2.b; visit 2.2; eval $0.y; leave 2")
	plans, _ := impl.BuildPlan(g)
	if len(plans) != 3 || plans[0].Rule != "p" || plans[1].Rule != "q" || plans[2].Rule != "r" {
		t.Error("the plans are in the order of the rules", plans)
	}
	if want := []impl.Step{{Kind: impl.StepEval, Name: "x"}, {Kind: impl.StepLeave, Visit: 1}, {Kind: impl.StepEval, Name: "y"}, {Kind: impl.StepLeave, Visit: 2}}; !slices.Equal(plans[1].Steps, want) {
		t.Error("steps", plans[1].Steps)
	}
}

// TestEvaluationComesBeforeVisits: whatever can be evaluated is evaluated before the next visit, also what a later visit
// of the node or nothing else needs.
func TestEvaluationComesBeforeVisits(t *testing.T) {
	g := grammarOf(t, "symbol s v:syn:num w:syn:num", "symbol t a:inh:num x:syn:num", "symbol e",
		"rule p s : t e t", "eq $3.a := $1.x", "eq $1.a := 5", "eq $0.w := 3", "eq $0.v := $3.x + $1.x",
		"rule q t :", "eq $0.x := $0.a", "rule n e : e", "rule o e :")
	// RequiredOccurrences are in the order of the symbols, not of the equations.
	planIs(t, g, "p", "eval $0.w; eval $1.a; visit 1.1; eval $3.a; visit 2.1; visit 3.1; eval $0.v; leave 1")
	planIs(t, g, "n", "visit 1.1; leave 1")
	planIs(t, g, "o", "leave 1")
	// y belongs to the second phase in some rules, but here it is known already in the first visit.
	g = grammarOf(t, "symbol s v:syn:num", "symbol t a:inh:num b:inh:num x:syn:num y:syn:num",
		"rule p s : t", "eq $0.v := $1.y", "eq $1.a := 1", "eq $1.b := $1.x",
		"rule q t :", "eq $0.x := $0.a", "eq $0.y := $0.b",
		"rule c t :", "eq $0.x := 2", "eq $0.y := $0.a",
		"rule d t : t", "eq $1.a := 4", "eq $1.b := 3", "eq $0.x := 0", "eq $0.y := $0.b")
	planIs(t, g, "c", "eval $0.x; eval $0.y; leave 1; leave 2")
	// All visits of a child may be over before the second visit of the node.
	planIs(t, g, "d", "eval $0.x; eval $1.a; eval $1.b; visit 1.1; visit 1.2; leave 1; eval $0.y; leave 2")
	// The first child with a visit left is visited again before the second one.
	g = grammarOf(t, "symbol s v:syn:num", "symbol t a:inh:num b:inh:num x:syn:num y:syn:num",
		"rule p s : t t", "eq $0.v := $1.y", "eq $1.a := 1", "eq $1.b := $1.x", "eq $2.a := 1", "eq $2.b := $2.x",
		"rule q t :", "eq $0.x := $0.a", "eq $0.y := $0.b")
	planIs(t, g, "p", "eval $1.a; eval $2.a; visit 1.1; eval $1.b; visit 1.2; eval $0.v; visit 2.1; eval $2.b; visit 2.2; leave 1")
}

func planFails(t *testing.T, what string, g impl.Grammar) {
	t.Helper()
	if plans, ok := impl.BuildPlan(g); ok || len(plans) != 0 {
		t.Errorf("%s: BuildPlan = %v, %v", what, plans, ok)
	}
}

func TestPlansFail(t *testing.T) {
	for _, g := range wrongGrammars(t) {
		planFails(t, "a grammar that is not accepted", g)
	}
	planFails(t, "collected and remote attributes", grammarFrom(t, declarations))
	planFails(t, "circular attributes", grammarFrom(t, loops))
	planFails(t, "a circular grammar", grammarOf(t, circularLines()...))
	planFails(t, "a grammar that is not absolutely acyclic", twoWays(t))
	if _, ok := impl.SymbolPhases(deadlock(t)); !ok {
		t.Error("the phases exist")
	}
	planFails(t, "a rule that needs more visits", deadlock(t))
	// The grammar has a plan without the rule, and the first rules do not matter.
	g := deadlock(t)
	g.Rules = append(g.Rules[1:], g.Rules[0])
	planFails(t, "the last rule needs more visits", g)
	g.Rules[1].Equations[4].Expr = number(3)
	planIs(t, g, "p", "eval $1.a; eval $2.a; eval $2.b; visit 2.1; eval $1.b; visit 1.1; eval $0.v; leave 1")
}

func TestStepsOf(t *testing.T) {
	one, two := []impl.Step{{Kind: impl.StepLeave, Visit: 1}}, []impl.Step{{Kind: impl.StepEval, Pos: 2, Name: "a"}, {Kind: 9}}
	plans := []impl.RulePlan{{Rule: "p", Steps: one}, {Rule: "q", Steps: two}, {Rule: "p", Steps: two}, {Rule: "r"}}
	for rule, want := range map[string][]impl.Step{"p": one, "q": two, "r": nil, "z": nil, "": nil} {
		if got := impl.StepsOf(plans, rule); !slices.Equal(got, want) {
			t.Errorf("StepsOf(%q) = %v; want %v", rule, got, want)
		}
	}
	impl.StepsOf(plans, "p")[0].Visit = 7
	if plans[0].Steps[0].Visit != 1 || impl.StepsOf(nil, "p") != nil {
		t.Error("the steps are a copy")
	}
}

func TestFormatStep(t *testing.T) {
	for want, s := range map[string]impl.Step{
		"eval $0.a":     {Kind: impl.StepEval, Name: "a"},
		"eval $3.width": {Kind: impl.StepEval, Pos: 3, Name: "width", Visit: 4},
		"eval $-2.":     {Kind: impl.StepEval, Pos: -2},
		"visit 2.1":     {Kind: impl.StepVisit, Pos: 2, Visit: 1, Name: "a"},
		"visit 0.-1":    {Kind: impl.StepVisit, Visit: -1},
		"leave 3":       {Kind: impl.StepLeave, Visit: 3, Pos: 2, Name: "a"},
		"leave 0":       {Kind: impl.StepLeave},
	} {
		if got := impl.FormatStep(s); got != want {
			t.Errorf("FormatStep(%v) = %q; want %q", s, got, want)
		}
	}
	for _, kind := range []int{0, -1, 4, math.MaxInt, math.MinInt} {
		if got := impl.FormatStep(impl.Step{Kind: kind, Pos: 1, Visit: 1, Name: "a"}); got != "?" {
			t.Errorf("FormatStep of kind %d = %q", kind, got)
		}
	}
}
