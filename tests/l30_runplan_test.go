package tests

import (
	"math/rand"
	"slices"
	"strings"
	"testing"

	"loop.example/g00512/impl"
)

// parts splits the steps of a plan into those of each visit, without the StepLeave.
func parts(steps []impl.Step) [][]impl.Step {
	list := [][]impl.Step{nil}
	for _, s := range steps {
		if s.Kind == impl.StepLeave {
			list = append(list, nil)
		} else {
			list[len(list)-1] = append(list[len(list)-1], s)
		}
	}
	return list[:len(list)-1]
}

// wantTrace returns the instances that visit number v of a node evaluates, in order.
func wantTrace(plans []impl.RulePlan, x impl.Tree, i int, v int) []impl.Instance {
	n := x.Nodes[i]
	k := slices.IndexFunc(plans, func(p impl.RulePlan) bool { return p.Rule == n.Rule })
	var list []impl.Instance
	for _, s := range parts(plans[k].Steps)[v-1] {
		switch {
		case s.Kind == impl.StepVisit:
			list = append(list, wantTrace(plans, x, n.Children[s.Pos-1], s.Visit)...)
		case s.Pos == 0:
			list = append(list, at(n.Id, s.Name))
		default:
			list = append(list, at(x.Nodes[n.Children[s.Pos-1]].Id, s.Name))
		}
	}
	return list
}

// traceIsRight: every instance is evaluated once, after its inputs, in the order of the visits.
func traceIsRight(t *testing.T, g impl.Grammar, plans []impl.RulePlan, x impl.Tree, trace []impl.TraceStep) {
	t.Helper()
	var want []impl.Instance
	phases, _ := impl.SymbolPhases(g)
	for v := range phases[0] {
		want = append(want, wantTrace(plans, x, 0, v+1)...)
	}
	var got []impl.Instance
	for _, s := range trace {
		for _, in := range s.Inputs {
			if !slices.Contains(got, in) {
				t.Fatalf("%v is evaluated before its input %v", s.At, in)
			}
		}
		if !slices.Equal(s.Inputs, impl.StaticInputs(g, x, s.At)) {
			t.Fatalf("the inputs of %v are %v", s.At, s.Inputs)
		}
		got = append(got, s.At)
	}
	if !slices.Equal(got, want) {
		t.Fatalf("the trace is %v; want %v", got, want)
	}
	list := impl.Instances(g, x)
	for _, y := range list {
		if !slices.Contains(got, y) {
			t.Fatalf("%v is not evaluated", y)
		}
	}
	if len(got) != len(list) {
		t.Fatalf("%d evaluations of %d instances", len(got), len(list))
	}
}

// TestPlansGiveTheStaticValues is promise 30.
func TestPlansGiveTheStaticValues(t *testing.T) {
	random := rand.New(rand.NewSource(30))
	repeated, nodes := 0, 0
	for _, g := range plannable(t, random, 300) {
		phases, _ := impl.SymbolPhases(g)
		plans, ok := impl.BuildPlan(g)
		if !ok {
			continue
		}
		var shuffled []impl.RulePlan
		for _, r := range g.Rules {
			shuffled = append(shuffled, impl.RulePlan{Rule: r.Name, Steps: anyPlan(random, g, phases, r)})
		}
		for _, p := range [][]impl.RulePlan{plans, shuffled} {
			x := randomTree(random, g, "s")
			trace, ok := impl.TracePlan(g, p, x)
			if !ok {
				t.Fatal("TracePlan fails")
			}
			traceIsRight(t, g, p, x, trace)
			values, ok := impl.RunPlan(g, p, x)
			want, static := impl.StaticRun(g, x)
			if !ok || !static || !slices.Equal(values, want) || !impl.IsSolution(g, x, values) && len(values) > 0 {
				t.Fatalf("RunPlan = %v, %v; want %v", values, ok, want)
			}
			nodes += len(x.Nodes)
			if strings.Contains(strings.Join(formatSteps(p[len(p)-1].Steps), " "), ".2") {
				repeated++
			}
		}
	}
	if repeated < 10 || nodes < 1000 {
		t.Errorf("%d plans have second visits; %d nodes", repeated, nodes)
	}
}

func traceIs(t *testing.T, g impl.Grammar, x impl.Tree, want string) {
	t.Helper()
	plans, _ := impl.BuildPlan(g)
	trace, ok := impl.TracePlan(g, plans, x)
	var words []string
	for _, s := range trace {
		words = append(words, impl.FormatInstance(s.At))
	}
	if got := strings.Join(words, " "); !ok || got != want {
		t.Errorf("the trace is %q, %v; want %q", got, ok, want)
	}
}

// TestVisitsContinue: each node continues where it was left, also if others have the same rule.
func TestVisitsContinue(t *testing.T) {
	g := twoPhases(t)
	traceIs(t, g, treeOf(t, g, "(p (q 5))"), "#2.a #2.x #2.b #2.y #1.v")
	x := treeOf(t, g, "(p (r (r (q 1) (q 2)) (q 3)))")
	traceIs(t, g, x, "#2.a #3.a #4.a #4.x #5.a #5.x #3.x #6.a #6.x #2.x #2.b #3.b #4.b #4.y #5.b #5.y #3.y #6.b #6.y #2.y #1.v")
	plans, _ := impl.BuildPlan(g)
	values, ok := impl.RunPlan(g, plans, x)
	// v, then a, b, x, y of each node: the leaves add their literals to a and double b.
	want := []int{128, 1, 16, 15, 128, 1, 16, 6, 64, 1, 16, 2, 32, 2, 32, 4, 64, 6, 64, 9, 128}
	if !ok || !slices.Equal(values, want) {
		t.Errorf("RunPlan = %v, %v; want %v", values, ok, want)
	}
	g = grammarFrom(t, boxes)
	x = treeOf(t, g, exampleTrees()[2])
	traceIs(t, g, x, "#2.room #3.room #3.width #4.room #5.room #5.width #6.room #6.width #4.width #2.width #1.width")
	plans, _ = impl.BuildPlan(g)
	trace, _ := impl.TracePlan(g, plans, x)
	if want := []impl.Instance{at(2, "room"), at(3, "width")}; !slices.Equal(trace[3].Inputs, want) || len(trace[0].Inputs) != 0 {
		t.Errorf("the inputs are %v", trace[3].Inputs)
	}
	if values, ok := impl.RunPlan(g, plans, x); !ok || !slices.Equal(values, []int{10, 10, 10, 10, 4, 6, 6, 6, 5, 1, 1}) {
		t.Errorf("RunPlan = %v, %v", values, ok)
	}
	// The Ids say nothing about the order.
	for i, id := range []int{7, 3, 999, 1, 20, 2} {
		x.Nodes[i].Id = id
	}
	traceIs(t, g, x, "#3.room #999.room #999.width #1.room #20.room #20.width #2.room #2.width #1.width #3.width #7.width")
}

// TestSecondVisitsLater: between two visits of a child, others are visited, and a visit may do nothing.
func TestSecondVisitsLater(t *testing.T) {
	g := grammarOf(t, "symbol s v:syn:num", "symbol t a:inh:num b:inh:num x:syn:num y:syn:num", "symbol e",
		"rule p s : t e t", "eq $0.v := $1.y - $3.y", "eq $1.a := 3", "eq $3.a := $1.x", "eq $1.b := $3.x * 2", "eq $3.b := $1.y",
		"rule q t : lit", "eq $0.x := $0.a + lit", "eq $0.y := $0.b - 1",
		"rule c t :", "eq $0.x := 100", "eq $0.y := 1000",
		"rule d t : t", "eq $1.a := $0.a", "eq $1.b := $1.x", "eq $0.x := $1.y", "eq $0.y := $0.b + $1.x",
		"rule f e :")
	x := treeOf(t, g, "(p (q 4) (f) (q 9))")
	traceIs(t, g, x, "#2.a #2.x #4.a #4.x #2.b #2.y #4.b #4.y #1.v")
	traceIs(t, g, treeOf(t, g, "(p (c) (f) (d (c)))"), "#2.a #2.x #2.y #4.a #5.a #5.x #5.y #5.b #4.x #2.b #4.b #4.y #1.v")
	plans, _ := impl.BuildPlan(g)
	if values, ok := impl.RunPlan(g, plans, x); !ok || !slices.Equal(values, []int{1, 3, 32, 7, 31, 7, 31, 16, 30}) {
		t.Errorf("RunPlan = %v, %v", values, ok)
	}
}

func TestTreesWithoutAttributes(t *testing.T) {
	g := grammarOf(t, "symbol s", "rule p s : s s", "rule q s :")
	plans, _ := impl.BuildPlan(g)
	x := treeOf(t, g, "(p (q) (p (q) (q)))")
	trace, ok := impl.TracePlan(g, plans, x)
	values, runs := impl.RunPlan(g, plans, x)
	if !ok || !runs || len(trace) != 0 || len(values) != 0 {
		t.Errorf("%v, %v; %v, %v", trace, ok, values, runs)
	}
}

func runFails(t *testing.T, what string, g impl.Grammar, plans []impl.RulePlan, x impl.Tree) {
	t.Helper()
	if trace, ok := impl.TracePlan(g, plans, x); ok || len(trace) != 0 {
		t.Errorf("%s: TracePlan = %v, %v", what, trace, ok)
	}
	if values, ok := impl.RunPlan(g, plans, x); ok || len(values) != 0 {
		t.Errorf("%s: RunPlan = %v, %v", what, values, ok)
	}
}

func TestRunsFail(t *testing.T) {
	g := twoPhases(t)
	plans, _ := impl.BuildPlan(g)
	x := treeOf(t, g, "(p (r (q 1) (q 2)))")
	for _, wrong := range wrongGrammars(t) {
		runFails(t, "a grammar that is not accepted", wrong, plans, x)
	}
	runFails(t, "another grammar", grammarFrom(t, boxes), plans, x)
	runFails(t, "no phases", twoWays(t), plans, x)
	runFails(t, "no plans", g, nil, x)
	runFails(t, "a plan is missing", g, plans[1:], x)
	runFails(t, "another order of plans", g, []impl.RulePlan{plans[0], plans[2], plans[1]}, x)
	// The tree does not have the rule with the wrong plan.
	small := treeOf(t, g, "(p (q 1))")
	wrong := slices.Clone(plans)
	wrong[2].Steps = wrong[2].Steps[1:]
	runFails(t, "a wrong plan", g, wrong, small)
	if _, ok := impl.RunPlan(g, plans, small); !ok {
		t.Error("the tree is evaluated")
	}
	runFails(t, "no nodes", g, plans, impl.Tree{})
	runFails(t, "a tree of another symbol", g, plans, impl.Subtree(x, 1))
	for _, change := range []changeOf{breadthFirst, func(x *impl.Tree) { x.Nodes[1].Id = 1 }, func(x *impl.Tree) { x.Nodes[2].Place = 2 }, func(x *impl.Tree) { x.Nodes[0].Literal = 1 }, func(x *impl.Tree) { x.Nodes[3].Rule = "zz" }, func(x *impl.Tree) { x.Nodes = x.Nodes[:3] }} {
		broken := treeOf(t, g, "(p (r (r (q 1) (q 2)) (q 3)))")
		change(&broken)
		runFails(t, "a broken tree", g, plans, broken)
	}
	// A plan that would fit other phases: y is evaluated in the first visit.
	early := slices.Clone(plans)
	early[1].Steps = []impl.Step{stepEval(0, "x"), stepEval(0, "y"), stepLeave(1), stepLeave(2)}
	runFails(t, "a plan for other phases", g, early, x)
}
