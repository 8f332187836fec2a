package tests

import (
	"math"
	"math/rand"
	"slices"
	"testing"

	"loop.example/g00512/impl"
)

// attempts returns the steps that are possible after some steps of a rule, in no particular order; phases has the phases
// of each position.
func attempts(g impl.Grammar, phases [][]impl.Phase, r impl.Rule, done []impl.Step) []impl.Step {
	visits := make([]int, len(phases))
	known := map[impl.Occurrence]bool{}
	learn := func(pos int, names []string) {
		for _, name := range names {
			known[occurrence(pos, name)] = true
		}
	}
	all := func(pos int, names []string) bool {
		ok := true
		for _, name := range names {
			ok = ok && known[occurrence(pos, name)]
		}
		return ok
	}
	if len(phases[0]) > 0 {
		learn(0, phases[0][0].Inherited)
	}
	for _, s := range done {
		switch s.Kind {
		case impl.StepEval:
			learn(s.Pos, []string{s.Name})
		case impl.StepVisit:
			learn(s.Pos, phases[s.Pos][s.Visit-1].Synthesized)
			visits[s.Pos]++
		case impl.StepLeave:
			visits[0]++
			if visits[0] < len(phases[0]) {
				learn(0, phases[0][visits[0]].Inherited)
			}
		}
	}
	var list []impl.Step
	if visits[0] == len(phases[0]) {
		return list
	}
	for _, o := range impl.RequiredOccurrences(g, r) {
		e, defined := impl.FindEquation(r, o)
		ready := defined && !known[o]
		for _, u := range impl.AttributeUses(e) {
			ready = ready && known[u]
		}
		if ready {
			list = append(list, impl.Step{Kind: impl.StepEval, Pos: o.Pos, Name: o.Name})
		}
	}
	for pos := 1; pos < len(phases); pos++ {
		if v := visits[pos]; v < len(phases[pos]) && all(pos, phases[pos][v].Inherited) {
			list = append(list, impl.Step{Kind: impl.StepVisit, Pos: pos, Visit: v + 1})
		}
	}
	if v := visits[0]; all(0, phases[0][v].Synthesized) {
		list = append(list, impl.Step{Kind: impl.StepLeave, Visit: v + 1})
	}
	return list
}

func phasesAt(g impl.Grammar, phases [][]impl.Phase, r impl.Rule) [][]impl.Phase {
	var list [][]impl.Phase
	for pos := range len(r.Right) + 1 {
		i := slices.Index(symbolNames(g), impl.SymbolAt(r, pos))
		if i < 0 || i >= len(phases) {
			list = append(list, nil)
		} else {
			list = append(list, phases[i])
		}
	}
	return list
}

// wantChecked: each step is possible after those before it, the last one leaves the node for the last time, and nothing
// is left over.
func wantChecked(g impl.Grammar, phases [][]impl.Phase, r impl.Rule, steps []impl.Step) bool {
	if len(steps) == 0 {
		return false
	}
	at := phasesAt(g, phases, r)
	for i, s := range steps {
		if !slices.Contains(attempts(g, at, r, steps[:i]), s) {
			return false
		}
	}
	last := steps[len(steps)-1]
	if last.Kind != impl.StepLeave || last.Visit != len(at[0]) {
		return false
	}
	evaluated, visits := map[impl.Occurrence]bool{}, 0
	for _, s := range steps {
		switch s.Kind {
		case impl.StepEval:
			evaluated[occurrence(s.Pos, s.Name)] = true
		case impl.StepVisit:
			visits++
		}
	}
	for pos, list := range at {
		for _, phase := range list {
			if pos > 0 {
				visits--
			}
			// What becomes known without an evaluation must not be evaluated, also if it is required.
			given := phase.Inherited
			if pos > 0 {
				given = phase.Synthesized
			}
			for _, name := range given {
				evaluated[occurrence(pos, name)] = true
			}
		}
	}
	for _, o := range impl.RequiredOccurrences(g, r) {
		if !evaluated[o] {
			return false
		}
	}
	return visits == 0
}

// anyPlan performs possible steps in a random order until the node is left for the last time.
func anyPlan(random *rand.Rand, g impl.Grammar, phases [][]impl.Phase, r impl.Rule) []impl.Step {
	at := phasesAt(g, phases, r)
	var steps []impl.Step
	for {
		list := attempts(g, at, r, steps)
		last := impl.Step{Kind: impl.StepLeave, Visit: len(at[0])}
		if len(list) > 1 {
			list = slices.DeleteFunc(list, func(s impl.Step) bool { return s == last })
		}
		if len(list) == 0 {
			return steps
		}
		steps = append(steps, list[random.Intn(len(list))])
		if steps[len(steps)-1] == last {
			return steps
		}
	}
}

// damagedSteps changes one or two things in a list of steps.
func damagedSteps(random *rand.Rand, steps []impl.Step) []impl.Step {
	list := slices.Clone(steps)
	for range 1 + random.Intn(2) {
		if len(list) == 0 {
			return append(list, impl.Step{Kind: impl.StepLeave, Visit: 1})
		}
		i, k := random.Intn(len(list)), random.Intn(len(list))
		switch random.Intn(8) {
		case 0:
			list[i], list[k] = list[k], list[i]
		case 1:
			list = slices.Delete(list, i, i+1)
		case 2:
			list = slices.Insert(list, i, list[k])
		case 3:
			list = append(list, list[i])
		case 4:
			list[i].Kind = random.Intn(6) - 1
		case 5:
			list[i].Pos = random.Intn(6) - 1
		case 6:
			list[i].Visit = random.Intn(5) - 1
		case 7:
			list[i].Name = []string{"", "a", "x", "v", "zz"}[random.Intn(5)]
		}
	}
	return list
}

// damagedPhases changes one thing in the phases of the symbols.
func damagedPhases(random *rand.Rand, phases [][]impl.Phase) [][]impl.Phase {
	var list [][]impl.Phase
	for _, row := range phases {
		list = append(list, slices.Clone(row))
	}
	i := random.Intn(len(list))
	name := []string{"a", "b", "x", "y", "v", "zz"}[random.Intn(6)]
	k := 0
	if len(list[i]) > 0 {
		k = random.Intn(len(list[i]))
	}
	switch random.Intn(7) {
	case 0:
		list[i] = append(list[i], impl.Phase{Inherited: []string{name}})
	case 1:
		list[i] = list[i][:k]
	case 2:
		list = list[:i]
	case 3:
		list[i] = append([]impl.Phase{{Synthesized: []string{name}}}, list[i]...)
	case 4:
		list[i] = append(list[i], impl.Phase{})
	case 5:
		list[i][k] = impl.Phase{Inherited: append([]string{name}, list[i][k].Inherited...), Synthesized: list[i][k].Synthesized}
	default:
		list[i][k] = impl.Phase{Inherited: list[i][k].Synthesized, Synthesized: list[i][k].Inherited}
	}
	return list
}

func checkIsRight(t *testing.T, g impl.Grammar, phases [][]impl.Phase, r impl.Rule, steps []impl.Step) bool {
	t.Helper()
	got, want := impl.CheckRulePlan(g, phases, r, steps), wantChecked(g, phases, r, steps)
	if got != want {
		t.Fatalf("CheckRulePlan(%v, %v, %s) = %v: %s", phases, formatSteps(steps), r.Name, got, impl.FormatGrammar(g))
	}
	return got
}

// TestRandomChecks is promise 29, also for plans that are changed.
func TestRandomChecks(t *testing.T) {
	random := rand.New(rand.NewSource(29))
	changed, accepted, other, incomplete := 0, 0, 0, 0
	for _, g := range plannable(t, random, 200) {
		phases, _ := impl.SymbolPhases(g)
		plans, ok := impl.BuildPlan(g)
		if !ok {
			continue
		}
		if !impl.CheckPlan(g, phases, plans) {
			t.Fatalf("a plan that is built is not accepted: %s", impl.FormatGrammar(g))
		}
		for i, r := range g.Rules {
			if !checkIsRight(t, g, phases, r, plans[i].Steps) {
				t.Fatal("the plan of a rule is not accepted")
			}
			shuffled := anyPlan(random, g, phases, r)
			if !checkIsRight(t, g, phases, r, shuffled) {
				t.Fatalf("steps in another order are not accepted: %v", formatSteps(shuffled))
			}
			if !slices.Equal(shuffled, plans[i].Steps) {
				other++
			}
			for range 20 {
				steps := damagedSteps(random, shuffled)
				if slices.Equal(steps, shuffled) {
					continue
				}
				changed++
				if checkIsRight(t, g, phases, r, steps) {
					accepted++
				}
			}
			for range 5 {
				wrong := damagedPhases(random, phases)
				checkIsRight(t, g, wrong, r, shuffled)
				checkIsRight(t, g, wrong, r, anyPlan(random, g, append(wrong, phases[len(wrong):]...), r))
			}
			for k, q := range r.Equations {
				lacking := r
				lacking.Equations = slices.Delete(slices.Clone(r.Equations), k, k+1)
				if checkIsRight(t, g, phases, lacking, shuffled) {
					t.Fatalf("%s has no equation for %v: %v", r.Name, q.At, formatSteps(shuffled))
				}
				checkIsRight(t, g, phases, lacking, anyPlan(random, g, phases, lacking))
				incomplete++
			}
		}
	}
	if accepted < 50 || accepted > changed/2 || other < 50 || incomplete < 50 {
		t.Errorf("%d of %d changed plans are accepted; %d plans in another order; %d rules lack an equation", accepted, changed, other, incomplete)
	}
}

func stepEval(pos int, name string) impl.Step {
	return impl.Step{Kind: impl.StepEval, Pos: pos, Name: name}
}

func stepVisit(pos int, visit int) impl.Step {
	return impl.Step{Kind: impl.StepVisit, Pos: pos, Visit: visit}
}

func stepLeave(visit int) impl.Step {
	return impl.Step{Kind: impl.StepLeave, Visit: visit}
}

// ruleChecker checks plans of one rule.
type ruleChecker struct {
	g      impl.Grammar
	phases [][]impl.Phase
	r      impl.Rule
}

func checkerOf(t *testing.T, g impl.Grammar, rule string) ruleChecker {
	phases, ok := impl.SymbolPhases(g)
	if !ok {
		t.Fatal("no phases")
	}
	return ruleChecker{g, phases, ruleOf(t, g, rule)}
}

func (c ruleChecker) is(t *testing.T, want bool, what string, steps ...impl.Step) {
	t.Helper()
	if got := impl.CheckRulePlan(c.g, c.phases, c.r, steps); got != want {
		t.Errorf("%s: CheckRulePlan = %v", what, got)
	}
}

func TestStepsAreChecked(t *testing.T) {
	c := checkerOf(t, twoPhases(t), "p")
	a, b, v := stepEval(1, "a"), stepEval(1, "b"), stepEval(0, "v")
	one, two, leave := stepVisit(1, 1), stepVisit(1, 2), stepLeave(1)
	c.is(t, true, "the plan", a, one, b, two, v, leave)
	c.is(t, false, "no steps")
	c.is(t, false, "only the last step", leave)
	c.is(t, false, "v before the second visit", a, one, b, v, two, leave)
	c.is(t, false, "b before the first visit", a, b, one, two, v, leave)
	c.is(t, false, "the first visit before a", one, a, b, two, v, leave)
	c.is(t, false, "the second visit before b", a, one, two, b, v, leave)
	c.is(t, false, "the second visit first", a, two, b, one, v, leave)
	c.is(t, false, "the first visit twice", a, one, b, one, two, v, leave)
	c.is(t, false, "the second visit twice", a, one, b, two, two, v, leave)
	c.is(t, false, "a third visit", a, one, b, two, stepVisit(1, 3), v, leave)
	c.is(t, false, "visit 0", a, stepVisit(1, 0), one, b, two, v, leave)
	c.is(t, false, "a visit of the node itself", a, one, b, two, v, stepVisit(0, 1), leave)
	c.is(t, false, "a visit of no child", a, one, b, two, stepVisit(2, 1), v, leave)
	c.is(t, false, "a visit at a negative position", a, one, b, two, stepVisit(-1, 1), v, leave)
	c.is(t, false, "a visit with a name", a, impl.Step{Kind: impl.StepVisit, Pos: 1, Visit: 1, Name: "a"}, b, two, v, leave)
	c.is(t, false, "an evaluation with a visit", impl.Step{Kind: impl.StepEval, Pos: 1, Name: "a", Visit: 1}, one, b, two, v, leave)
	c.is(t, false, "an evaluation at another position", stepEval(0, "a"), a, one, b, two, v, leave)
	c.is(t, false, "an evaluation of what the child defines", a, one, stepEval(1, "x"), b, two, v, leave)
	c.is(t, false, "an evaluation of what the child defines, before the visit", a, stepEval(1, "x"), one, b, two, v, leave)
	c.is(t, false, "an evaluation of an unknown name", a, one, b, two, v, stepEval(0, "zz"), leave)
	c.is(t, false, "an evaluation at no position", a, one, b, two, v, stepEval(2, "a"), leave)
	c.is(t, false, "a twice", a, a, one, b, two, v, leave)
	c.is(t, false, "v is missing", a, one, b, two, leave)
	c.is(t, false, "the second visit is missing", a, one, b, v, leave)
	c.is(t, false, "the last step is missing", a, one, b, two, v)
	c.is(t, false, "leaving visit 2", a, one, b, two, v, stepLeave(2))
	c.is(t, false, "leaving visit 0", a, one, b, two, v, stepLeave(0))
	c.is(t, false, "leaving at a position", a, one, b, two, v, impl.Step{Kind: impl.StepLeave, Visit: 1, Pos: 1})
	c.is(t, false, "leaving with a name", a, one, b, two, v, impl.Step{Kind: impl.StepLeave, Visit: 1, Name: "v"})
	c.is(t, false, "leaving too early", a, one, b, leave, two, v, leave)
	for _, kind := range []int{0, 4, -1, math.MaxInt, math.MinInt} {
		c.is(t, false, "a step of no kind", a, one, b, two, v, impl.Step{Kind: kind}, leave)
		c.is(t, false, "only a step of no kind", impl.Step{Kind: kind, Visit: 1})
	}
}

// TestStepsAfterTheLastVisit: nothing follows the last StepLeave, also what would have been possible before it.
func TestStepsAfterTheLastVisit(t *testing.T) {
	g := grammarOf(t, "symbol s v:syn:num w:syn:num", "symbol e", "rule p s : e e", "eq $0.v := 1", "eq $0.w := 2", "rule q e :")
	c := checkerOf(t, g, "p")
	v, w, leave := stepEval(0, "v"), stepEval(0, "w"), stepLeave(1)
	c.is(t, true, "the plan", v, w, stepVisit(1, 1), stepVisit(2, 1), leave)
	c.is(t, true, "visits first", stepVisit(2, 1), stepVisit(1, 1), w, v, leave)
	c.is(t, false, "a visit is missing", v, w, stepVisit(1, 1), leave)
	c.is(t, false, "a visit afterwards", v, w, stepVisit(1, 1), leave, stepVisit(2, 1))
	c.is(t, false, "a visit afterwards, and leaving again", v, w, stepVisit(1, 1), leave, stepVisit(2, 1), leave)
	c.is(t, false, "leaving twice", v, w, stepVisit(1, 1), stepVisit(2, 1), leave, leave)
	c.is(t, false, "leaving again as visit 2", v, w, stepVisit(1, 1), stepVisit(2, 1), leave, stepLeave(2))
	c.is(t, false, "an evaluation afterwards", v, stepVisit(1, 1), stepVisit(2, 1), leave, w)
	c.is(t, false, "an evaluation afterwards that is repeated", v, w, stepVisit(1, 1), stepVisit(2, 1), leave, w)
	c = checkerOf(t, g, "q")
	c.is(t, true, "a node without attributes", leave)
	c.is(t, false, "a node without attributes is left twice", leave, leave)
	// y is not needed in the first visit, and no longer possible after the second one.
	c = checkerOf(t, twoPhases(t), "q")
	x, y := stepEval(0, "x"), stepEval(0, "y")
	c.is(t, true, "two visits", x, leave, y, stepLeave(2))
	c.is(t, false, "y in the first visit", x, y, leave, stepLeave(2))
	c.is(t, false, "x in the second visit", leave, x, y, stepLeave(2))
	c.is(t, false, "the second visit is missing", x, leave)
	c.is(t, false, "the second visit is not left", x, leave, y)
	c.is(t, false, "both visits at once", x, y, stepLeave(2))
	c.is(t, false, "the first visit twice", x, leave, y, leave)
	c.is(t, false, "three visits", x, leave, y, stepLeave(2), stepLeave(3))
	c.is(t, false, "y after the last visit", x, leave, stepLeave(2), y)
}

// TestOtherPhases: the phases are those that are given, whatever the grammar asks for.
func TestOtherPhases(t *testing.T) {
	g := twoPhases(t)
	names := func(list ...string) []string { return list }
	all := []impl.Phase{{Inherited: names("a", "b"), Synthesized: names("x", "y")}}
	start := []impl.Phase{{Synthesized: names("v")}}
	q := ruleChecker{g, [][]impl.Phase{start, all}, ruleOf(t, g, "q")}
	q.is(t, true, "one phase", stepEval(0, "y"), stepEval(0, "x"), stepLeave(1))
	q.is(t, false, "one phase has one visit", stepEval(0, "x"), stepLeave(1), stepEval(0, "y"), stepLeave(2))
	p := ruleChecker{g, [][]impl.Phase{start, all}, ruleOf(t, g, "p")}
	p.is(t, false, "b needs a visit that needs b", stepEval(1, "a"), stepVisit(1, 1), stepEval(1, "b"), stepEval(0, "v"), stepLeave(1))
	q.phases = [][]impl.Phase{start, {{Synthesized: names("x")}, all[0]}}
	q.is(t, false, "x without a", stepEval(0, "x"), stepLeave(1), stepEval(0, "y"), stepLeave(2))
	q.phases = [][]impl.Phase{start, {{}, all[0], {}}}
	q.is(t, true, "empty phases", stepLeave(1), stepEval(0, "x"), stepEval(0, "y"), stepLeave(2), stepLeave(3))
	// What is not in a phase never becomes known, and what is required must be evaluated nevertheless.
	q.phases = [][]impl.Phase{start, {{Inherited: names("a", "b")}}}
	q.is(t, true, "no synthesized attributes in phases", stepEval(0, "x"), stepEval(0, "y"), stepLeave(1))
	q.is(t, false, "y is required", stepEval(0, "x"), stepLeave(1))
	q.phases = [][]impl.Phase{start, {{Inherited: names("a"), Synthesized: names("x")}}}
	q.is(t, false, "b is in no phase", stepEval(0, "x"), stepEval(0, "y"), stepLeave(1))
	q.phases = [][]impl.Phase{start, {{Inherited: names("a", "b", "zz"), Synthesized: names("zz")}}}
	q.is(t, true, "a name that is no attribute", stepEval(0, "x"), stepEval(0, "y"), stepLeave(1))
	q.phases = [][]impl.Phase{start, {{Inherited: names("a", "b"), Synthesized: names("zz")}}}
	q.is(t, false, "an unknown name", stepEval(0, "x"), stepEval(0, "y"), stepLeave(1))
	for _, phases := range [][][]impl.Phase{nil, {start}, {start, nil}, {start, {}}} {
		q.phases, p.phases = phases, phases
		q.is(t, false, "no phases of the node", stepEval(0, "x"), stepEval(0, "y"), stepLeave(1))
		q.is(t, false, "no phases and no steps")
		p.is(t, false, "no phases of the child", stepEval(1, "a"), stepVisit(1, 1), stepEval(1, "b"), stepVisit(1, 2), stepEval(0, "v"), stepLeave(1))
	}
	// A rule of another grammar.
	c := ruleChecker{g, [][]impl.Phase{start, all}, impl.Rule{Name: "z", Left: "zz", Right: []string{"yy"}}}
	c.is(t, false, "an unknown symbol")
	c.is(t, false, "an unknown symbol is left", stepLeave(1))
	c.r.Left = "s"
	c.r.Equations = []impl.Equation{equation(0, "v", number(1))}
	c.is(t, true, "a child without phases", stepEval(0, "v"), stepLeave(1))
	c.is(t, false, "a visit of a child without phases", stepEval(0, "v"), stepVisit(1, 1), stepLeave(1))
}

// TestEvaluationNeedsAnEquation: in a grammar that is not accepted, a rule may lack the equation of an occurrence that it
// must define.
func TestEvaluationNeedsAnEquation(t *testing.T) {
	g := grammarOf(t, "symbol s v:syn:num", "symbol t a:inh:num x:syn:num", "rule p s : t", "rule q t :")
	phases := [][]impl.Phase{{{Synthesized: []string{"v"}}}, {{Inherited: []string{"a"}, Synthesized: []string{"x"}}}}
	plan := func(want bool, what string, rule string, steps []impl.Step, equations ...impl.Equation) {
		t.Helper()
		r := ruleOf(t, g, rule)
		r.Equations = equations
		ruleChecker{g, phases, r}.is(t, want, what, steps...)
	}
	x := []impl.Step{stepEval(0, "x"), stepLeave(1)}
	plan(true, "the equation of x", "q", x, equation(0, "x", attr(0, "a")))
	plan(true, "an equation that uses nothing", "q", x, equation(0, "x", number(1)))
	plan(true, "an equation without a valid expression", "q", x, equation(0, "x", impl.Expr{}))
	plan(false, "no equations", "q", x)
	plan(false, "an equation of another attribute", "q", x, equation(0, "v", number(1)))
	plan(false, "an equation at another position", "q", x, equation(1, "x", number(1)))
	plan(false, "without the equation, x is still required", "q", x[1:])
	plan(false, "the first equation of x counts", "q", x, equation(0, "x", attr(1, "x")), equation(0, "x", number(1)))
	all := []impl.Step{stepEval(1, "a"), stepVisit(1, 1), stepEval(0, "v"), stepLeave(1)}
	a, v := equation(1, "a", number(1)), equation(0, "v", attr(1, "x"))
	plan(true, "the equations of a and v", "p", all, a, v)
	plan(false, "no equation of a", "p", all, v)
	plan(false, "no equation of v", "p", all, a)
	plan(false, "neither of them", "p", all)
	// What becomes known without an evaluation needs no equation.
	phases[1] = []impl.Phase{{Inherited: []string{"a", "x"}, Synthesized: []string{"x"}}}
	plan(true, "x is known from the beginning", "q", x[1:])
	plan(false, "x is known, and evaluated", "q", x)
}

func TestCheckPlan(t *testing.T) {
	g := twoPhases(t)
	phases, _ := impl.SymbolPhases(g)
	plans, _ := impl.BuildPlan(g)
	check := func(want bool, what string, phases [][]impl.Phase, plans []impl.RulePlan) {
		t.Helper()
		if got := impl.CheckPlan(g, phases, plans); got != want {
			t.Errorf("%s: CheckPlan = %v", what, got)
		}
	}
	with := func(i int, p impl.RulePlan) []impl.RulePlan {
		list := slices.Clone(plans)
		list[i] = p
		return list
	}
	check(true, "the plan", phases, plans)
	check(false, "no plans", phases, nil)
	check(false, "no phases", nil, plans)
	check(false, "a plan is missing", phases, plans[1:])
	check(false, "the last plan is missing", phases, plans[:2])
	check(false, "a plan too much", phases, append(slices.Clone(plans), plans[0]))
	check(false, "a plan twice", phases, with(1, plans[0]))
	check(false, "another order", phases, []impl.RulePlan{plans[1], plans[0], plans[2]})
	for i, p := range plans {
		check(false, "another name", phases, with(i, impl.RulePlan{Rule: "zz", Steps: p.Steps}))
		check(false, "no name", phases, with(i, impl.RulePlan{Steps: p.Steps}))
		check(false, "no steps", phases, with(i, impl.RulePlan{Rule: p.Rule}))
		check(false, "a step is missing", phases, with(i, impl.RulePlan{Rule: p.Rule, Steps: p.Steps[1:]}))
		check(false, "the last step is missing", phases, with(i, impl.RulePlan{Rule: p.Rule, Steps: p.Steps[:len(p.Steps)-1]}))
	}
	check(false, "phases of a symbol are missing", phases[:1], plans)
	check(false, "phases of a symbol too much", append(slices.Clone(phases), phases[1]), plans)
	check(false, "no phases of a symbol", [][]impl.Phase{phases[0], nil}, plans)
	check(false, "phases in another order", [][]impl.Phase{phases[1], phases[0]}, plans)
	// A symbol that no rule uses needs a phase, too.
	g = grammarOf(t, "symbol s", "symbol e", "rule p s :", "rule q e :")
	leave := []impl.Step{stepLeave(1)}
	lone := []impl.RulePlan{{Rule: "p", Steps: leave}, {Rule: "q", Steps: leave}}
	check(true, "two symbols", [][]impl.Phase{{{}}, {{}}}, lone)
	check(false, "a symbol without a phase", [][]impl.Phase{{{}}, {}}, lone)
	check(false, "two phases", [][]impl.Phase{{{}}, {{}, {}}}, lone)
}

// TestCheckPlanNeedsAStaticGrammar: for a grammar that is not static, steps that would fit are not accepted.
func TestCheckPlanNeedsAStaticGrammar(t *testing.T) {
	for _, text := range []string{"symbol s a:syn:set!\nrule p s :\neq $0.a := {}\n", "symbol s a:syn:num c:col:set\nrule p s :\neq $0.a := 1\n",
		"symbol s a:syn:num\nsymbol t b:syn:num\nrule p s :\neq $0.a := t.b of none\nrule q t :\neq $0.b := 1\n"} {
		g := grammarFrom(t, text)
		phases := [][]impl.Phase{{{Synthesized: []string{"a"}}}, {{Synthesized: []string{"b"}}}}[:len(g.Symbols)]
		plans := []impl.RulePlan{{Rule: "p", Steps: []impl.Step{stepEval(0, "a"), stepLeave(1)}}, {Rule: "q", Steps: []impl.Step{stepEval(0, "b"), stepLeave(1)}}}[:len(g.Rules)]
		for i, r := range g.Rules {
			if !impl.CheckRulePlan(g, phases, r, plans[i].Steps) {
				t.Errorf("the plan of %s fits", r.Name)
			}
		}
		if impl.IsStatic(g) || impl.CheckPlan(g, phases, plans) {
			t.Errorf("%q is not static", text)
		}
	}
	g := grammarFrom(t, boxes)
	phases, _ := impl.SymbolPhases(g)
	plans, _ := impl.BuildPlan(g)
	for code, wrong := range wrongGrammars(t) {
		if impl.CheckPlan(wrong, phases, plans) || impl.CheckPlan(wrong, nil, nil) {
			t.Errorf("a grammar with the code %d has no plans", code)
		}
	}
}

func TestCountSteps(t *testing.T) {
	plans, _ := impl.BuildPlan(twoPhases(t))
	plans = append(plans, impl.RulePlan{}, impl.RulePlan{Steps: []impl.Step{{Kind: 7}, {Kind: 7, Pos: 1}}})
	for kind, want := range map[int]int{impl.StepEval: 11, impl.StepVisit: 6, impl.StepLeave: 5, 7: 2, 0: 0, -1: 0} {
		if got := impl.CountSteps(plans, kind); got != want {
			t.Errorf("CountSteps of kind %d = %d; want %d", kind, got, want)
		}
	}
	if impl.CountSteps(nil, impl.StepEval) != 0 {
		t.Error("no plans have no steps")
	}
}
