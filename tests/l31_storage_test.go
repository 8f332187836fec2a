package tests

import (
	"math"
	"math/rand"
	"slices"
	"testing"

	"loop.example/g00512/impl"
)

func wantLastUse(trace []impl.TraceStep, i int) int {
	last := i
	for k, s := range trace {
		if k > i && slices.Contains(s.Inputs, trace[i].At) {
			last = k
		}
	}
	return last
}

// isFree reports whether step i may take a cell that was assigned to some earlier steps.
func isFree(trace []impl.TraceStep, keep []impl.Instance, cells []int, cell int, i int) bool {
	for k, c := range cells[:i] {
		if c == cell && (wantLastUse(trace, k) > i || slices.Contains(keep, trace[k].At)) {
			return false
		}
	}
	return true
}

func wantAssigned(trace []impl.TraceStep, keep []impl.Instance) ([]int, int) {
	cells, n := make([]int, len(trace)), 0
	for i := range trace {
		for !isFree(trace, keep, cells, cells[i], i) {
			cells[i]++
		}
		n = max(n, cells[i]+1)
	}
	return cells, n
}

func wantSlotsChecked(trace []impl.TraceStep, keep []impl.Instance, cells []int) bool {
	if len(cells) != len(trace) {
		return false
	}
	for i, c := range cells {
		if c < 0 || !isFree(trace, keep, cells, c, i) {
			return false
		}
	}
	return true
}

// wantStored runs the steps and looks up each value backwards.
func wantStored(g impl.Grammar, x impl.Tree, trace []impl.TraceStep, cells []int, keep []impl.Instance) []int {
	contents := map[int]int{}
	find := func(y impl.Instance, steps []impl.TraceStep) int {
		for k := len(steps) - 1; k >= 0; k-- {
			if steps[k].At == y {
				return contents[cells[k]]
			}
		}
		return 0
	}
	for i, s := range trace {
		d, _ := impl.DefinitionOf(g, x, s.At)
		owner := x.Nodes[d.Owner]
		ids := []int{owner.Id}
		for _, c := range owner.Children {
			ids = append(ids, x.Nodes[c].Id)
		}
		var slots []impl.Slot
		for _, u := range impl.AttributeUses(d.Expr) {
			slots = append(slots, slot(u.Pos, u.Name, find(at(ids[u.Pos], u.Name), trace[:i])))
		}
		contents[cells[i]] = wantLocal(d.Expr, slots, owner.Literal, ids)
	}
	var values []int
	for _, y := range keep {
		values = append(values, find(y, trace))
	}
	return values
}

func randomTrace(random *rand.Rand, n int) []impl.TraceStep {
	pool := []impl.Instance{at(1, "a"), at(1, "b"), at(2, "a"), at(2, "b"), at(3, "a"), at(4, "b"), {}}
	var trace []impl.TraceStep
	for range n {
		s := impl.TraceStep{At: pool[random.Intn(len(pool))]}
		for range random.Intn(3) {
			s.Inputs = append(s.Inputs, pool[random.Intn(len(pool))])
		}
		trace = append(trace, s)
	}
	return trace
}

// someOf returns each element with a probability of 1 to n.
func someOf(random *rand.Rand, list []impl.Instance, n int) []impl.Instance {
	var some []impl.Instance
	for _, x := range list {
		if random.Intn(n) == 0 {
			some = append(some, x)
		}
	}
	return some
}

func TestRandomTraces(t *testing.T) {
	random := rand.New(rand.NewSource(31))
	accepted, rejected, shared := 0, 0, 0
	for range 3000 {
		trace := randomTrace(random, random.Intn(9))
		var keep []impl.Instance
		for _, s := range trace {
			keep = append(keep, s.At)
		}
		keep = someOf(random, append(keep, at(9, "a")), 4)
		for i := range trace {
			if got, want := impl.LastUse(trace, i), wantLastUse(trace, i); got != want {
				t.Fatalf("LastUse(%v, %d) = %d; want %d", trace, i, got, want)
			}
		}
		cells, n := impl.AssignSlots(trace, keep)
		if want, count := wantAssigned(trace, keep); !slices.Equal(cells, want) || n != count {
			t.Fatalf("AssignSlots(%v, %v) = %v, %d; want %v, %d", trace, keep, cells, n, want, count)
		}
		if n < len(trace) {
			shared++
		}
		if !impl.CheckSlots(trace, keep, cells) {
			t.Fatalf("the assigned cells %v are rejected", cells)
		}
		for range 8 {
			changed := slices.Clone(cells)
			for range 1 + random.Intn(2) {
				if len(changed) > 0 {
					changed[random.Intn(len(changed))] = random.Intn(len(changed)+3) - 1
				}
			}
			got, want := impl.CheckSlots(trace, keep, changed), wantSlotsChecked(trace, keep, changed)
			if got != want {
				t.Fatalf("CheckSlots(%v, %v, %v) = %v", trace, keep, changed, got)
			}
			if got {
				accepted++
			} else {
				rejected++
			}
		}
	}
	if accepted < 1000 || rejected < 1000 || shared < 1000 {
		t.Errorf("%d lists of cells are accepted, %d rejected; %d share cells", accepted, rejected, shared)
	}
}

// TestAcceptedCellsKeepValues is promise 31.
func TestAcceptedCellsKeepValues(t *testing.T) {
	random := rand.New(rand.NewSource(311))
	saved, others := 0, 0
	for _, g := range plannable(t, random, 150) {
		plans, ok := impl.BuildPlan(g)
		if !ok {
			continue
		}
		x := randomTree(random, g, "s")
		list := impl.Instances(g, x)
		values, _ := impl.StaticRun(g, x)
		trace, _ := impl.TracePlan(g, plans, x)
		for range 4 {
			keep := someOf(random, list, 1+random.Intn(6))
			random.Shuffle(len(keep), func(i int, k int) { keep[i], keep[k] = keep[k], keep[i] })
			cells, n := impl.AssignSlots(trace, keep)
			saved += len(trace) - n
			all := [][]int{cells, upTo(len(trace))}
			for range 10 {
				changed := slices.Clone(cells)
				for i := range changed {
					if random.Intn(4) == 0 {
						changed[i] = random.Intn(len(trace))
					}
				}
				all = append(all, changed)
			}
			for i, c := range all {
				got, ok := impl.RunSlots(g, x, trace, c, keep)
				if ok != wantSlotsChecked(trace, keep, c) {
					t.Fatalf("RunSlots with the cells %v: %v", c, ok)
				}
				if !ok {
					continue
				}
				if i > 1 && !slices.Equal(c, cells) {
					others++
				}
				for k, y := range keep {
					if len(got) != len(keep) || got[k] != values[slices.Index(list, y)] {
						t.Fatalf("RunSlots = %v for %v with the cells %v", got, keep, c)
					}
				}
			}
		}
	}
	if saved < 100 || others < 50 {
		t.Errorf("%d cells are saved; %d other lists of cells are accepted", saved, others)
	}
}

// TestTracesInAnyOrder runs steps in any order, with repetitions and with inputs that have nothing to do with the
// equations.
func TestTracesInAnyOrder(t *testing.T) {
	random := rand.New(rand.NewSource(312))
	ran := 0
	for _, g := range randomGrammars(t, random, 40, numbers(), anyTypes()) {
		if !impl.IsStatic(g) {
			continue
		}
		x := randomTree(random, g, "s")
		list := impl.Instances(g, x)
		for range 5 {
			var trace []impl.TraceStep
			var cells []int
			n := random.Intn(12)
			for range min(n, n*len(list)) {
				s := impl.TraceStep{At: list[random.Intn(len(list))]}
				if random.Intn(3) == 0 {
					s.Inputs = impl.StaticInputs(g, x, s.At)
				}
				trace, cells = append(trace, s), append(cells, random.Intn(n))
			}
			keep := someOf(random, append(slices.Clone(list), at(1, "zz")), 8)
			got, ok := impl.RunSlots(g, x, trace, cells, keep)
			if ok != wantSlotsChecked(trace, keep, cells) {
				t.Fatalf("RunSlots(%v, %v, %v): %v", trace, cells, keep, ok)
			}
			if !ok {
				continue
			}
			ran++
			if want := wantStored(g, x, trace, cells, keep); !slices.Equal(got, want) {
				t.Fatalf("RunSlots(%v, %v, %v) = %v; want %v", trace, cells, keep, got, want)
			}
		}
	}
	if ran < 30 {
		t.Errorf("%d traces", ran)
	}
}

// step evaluates the attribute of this name of node 1.
func step(name string, inputs ...string) impl.TraceStep {
	s := impl.TraceStep{At: at(1, name)}
	for _, in := range inputs {
		s.Inputs = append(s.Inputs, at(1, in))
	}
	return s
}

func TestLastUse(t *testing.T) {
	trace := []impl.TraceStep{step("a", "b"), step("b", "a"), step("c", "a", "b", "a"), step("a"), step("d", "c"), step("d", "d")}
	for i, want := range map[int]int{0: 2, 1: 2, 2: 4, 3: 3, 4: 5, 5: 5, -1: -1, 6: -1, math.MaxInt: -1, math.MinInt: -1} {
		if got := impl.LastUse(trace, i); got != want {
			t.Errorf("LastUse(%d) = %d; want %d", i, got, want)
		}
	}
	if impl.LastUse(nil, 0) != -1 {
		t.Error("no step has no use")
	}
}

func cellsAre(t *testing.T, trace []impl.TraceStep, keep []impl.Instance, n int, want ...int) {
	t.Helper()
	cells, count := impl.AssignSlots(trace, keep)
	if !slices.Equal(cells, want) || count != n {
		t.Errorf("AssignSlots = %v, %d; want %v, %d", cells, count, want, n)
	}
}

func TestAssignSlots(t *testing.T) {
	cellsAre(t, nil, nil, 0)
	cellsAre(t, nil, []impl.Instance{at(1, "a")}, 0)
	// The step of the last use takes the cell, but the step before it does not.
	trace := []impl.TraceStep{step("a"), step("b"), step("c", "a"), step("d", "b", "c"), step("e")}
	cellsAre(t, trace, nil, 2, 0, 1, 0, 0, 0)
	cellsAre(t, trace, []impl.Instance{at(1, "a")}, 3, 0, 1, 2, 1, 1)
	cellsAre(t, trace, []impl.Instance{at(1, "d")}, 2, 0, 1, 0, 0, 1)
	cellsAre(t, trace, []impl.Instance{at(1, "e"), at(1, "c"), at(1, "c")}, 2, 0, 1, 0, 1, 1)
	all := []impl.Instance{at(1, "a"), at(1, "b"), at(1, "c"), at(1, "d"), at(1, "e")}
	cellsAre(t, trace, all, 5, 0, 1, 2, 3, 4)
	// Values that nothing uses are not needed after their step, and other nodes have other instances.
	unused := []impl.TraceStep{step("a"), step("b"), step("c")}
	cellsAre(t, unused, nil, 1, 0, 0, 0)
	cellsAre(t, unused, []impl.Instance{at(2, "a")}, 1, 0, 0, 0)
	// An instance that is computed twice is needed from both steps on.
	cellsAre(t, []impl.TraceStep{step("a"), step("a"), step("b", "a")}, nil, 2, 0, 1, 0)
}

func TestCheckSlots(t *testing.T) {
	trace := []impl.TraceStep{step("a"), step("b"), step("c", "a"), step("d", "b", "c")}
	check := func(want bool, what string, keep []impl.Instance, cells ...int) {
		t.Helper()
		if got := impl.CheckSlots(trace, keep, cells); got != want {
			t.Errorf("%s: CheckSlots(%v) = %v", what, cells, got)
		}
	}
	keepA, keepD := []impl.Instance{at(1, "a")}, []impl.Instance{at(1, "d")}
	check(true, "own cells", nil, 0, 1, 2, 3)
	check(true, "other numbers", nil, 7, 4, math.MaxInt, 9)
	check(true, "used again by the last use", nil, 0, 1, 0, 0)
	check(true, "used again later", nil, 0, 1, 2, 0)
	check(false, "a is overwritten by b", nil, 0, 0, 1, 2)
	check(false, "b is overwritten by c", nil, 0, 1, 1, 2)
	check(false, "all in one cell", nil, 0, 0, 0, 0)
	check(false, "a is kept", keepA, 0, 1, 0, 2)
	check(false, "a is kept until the end", keepA, 0, 1, 2, 0)
	check(true, "a is kept in its own cell", keepA, 0, 1, 2, 1)
	check(true, "the last step is kept", keepD, 0, 1, 0, 0)
	check(false, "a negative cell", nil, 0, 1, 2, -1)
	check(false, "a negative cell at first", nil, math.MinInt, 1, 2, 3)
	check(false, "a cell is missing", nil, 0, 1, 2)
	check(false, "a cell too much", nil, 0, 1, 2, 3, 4)
	check(false, "no cells", nil)
	if !impl.CheckSlots(nil, keepA, nil) || impl.CheckSlots(nil, nil, []int{0}) {
		t.Error("no steps have no cells")
	}
}

func storedAre(t *testing.T, what string, g impl.Grammar, x impl.Tree, trace []impl.TraceStep, cells []int, keep []impl.Instance, want ...int) {
	t.Helper()
	got, ok := impl.RunSlots(g, x, trace, cells, keep)
	if !ok || !slices.Equal(got, want) {
		t.Errorf("%s: RunSlots = %v, %v; want %v", what, got, ok, want)
	}
}

func storageFails(t *testing.T, what string, g impl.Grammar, x impl.Tree, trace []impl.TraceStep, cells []int, keep []impl.Instance) {
	t.Helper()
	if got, ok := impl.RunSlots(g, x, trace, cells, keep); ok || len(got) != 0 {
		t.Errorf("%s: RunSlots = %v, %v", what, got, ok)
	}
}

func TestRunSlots(t *testing.T) {
	g := grammarOf(t, "symbol s v:syn:num", "symbol t i:inh:num n:syn:node o:syn:num", "rule p s : t t lit",
		"eq $0.v := $1.o - $2.o + lit", "eq $1.i := 5", "eq $2.i := $1.o * 10",
		"rule q t : lit", "eq $0.n := self(0)", "eq $0.o := $0.i + lit")
	x := treeOf(t, g, "(p 100 (q 1) (q 2))")
	i1, o1, i2, o2, v := at(2, "i"), at(2, "o"), at(3, "i"), at(3, "o"), at(1, "v")
	trace := []impl.TraceStep{{At: i1}, {At: o1, Inputs: []impl.Instance{i1}}, {At: i2, Inputs: []impl.Instance{o1}}, {At: o2, Inputs: []impl.Instance{i2}}, {At: v, Inputs: []impl.Instance{o1, o2}}, {At: at(3, "n")}}
	keep := []impl.Instance{v, o1, at(3, "n"), v, at(2, "n"), at(9, "v"), {}}
	storedAre(t, "the trace", g, x, trace, []int{0, 0, 1, 1, 2, 1}, keep, 6-62+100, 6, 3, 6-62+100, 0, 0, 0)
	storedAre(t, "nothing is kept", g, x, trace, []int{0, 0, 1, 1, 1, 1}, nil)
	storedAre(t, "own cells", g, x, trace, []int{5, 4, 3, 2, 1, 0}, []impl.Instance{i1, o1, i2, o2}, 5, 6, 60, 62)
	storageFails(t, "o1 is kept", g, x, trace, []int{0, 0, 1, 1, 0, 1}, keep)
	storageFails(t, "o1 is needed", g, x, trace, []int{0, 0, 0, 0, 0, 0}, nil)
	storageFails(t, "a cell too great", g, x, trace, []int{0, 0, 1, 1, 6, 1}, keep)
	storageFails(t, "a much too great cell", g, x, trace, []int{0, 0, 1, 1, math.MaxInt, 1}, keep)
	storageFails(t, "a negative cell", g, x, trace, []int{0, 0, 1, 1, -1, 1}, keep)
	storageFails(t, "a cell is missing", g, x, trace, []int{0, 0, 1, 1, 2}, keep)
	// What is not computed is 0, also if it is computed later.
	storedAre(t, "no inputs", g, x, trace[4:5], []int{0}, []impl.Instance{v, o1}, 100, 0)
	storedAre(t, "later inputs", g, x, []impl.TraceStep{{At: v}, {At: i1}, {At: o1}}, []int{0, 1, 2}, []impl.Instance{v, o1}, 100, 6)
	// Inputs that the trace does not tell are not protected: o1 reads what is in the cell of i1 now.
	storedAre(t, "hidden inputs", g, x, []impl.TraceStep{{At: i1}, {At: at(3, "n")}, {At: o1}}, []int{0, 0, 1}, []impl.Instance{o1}, 4)
	// Of several steps that compute an instance, the last one before counts; at the end, the last one.
	storedAre(t, "two steps", g, x, []impl.TraceStep{{At: i1}, {At: o1}, {At: i2}, {At: o2}, {At: o1}, {At: i2}}, []int{0, 1, 2, 3, 4, 5}, []impl.Instance{i2, o2}, 60, 62)
	storedAre(t, "an earlier step without inputs", g, x, []impl.TraceStep{{At: o1}, {At: i1}, {At: i2}, {At: o1}}, []int{0, 1, 2, 3}, []impl.Instance{o1, i2}, 6, 10)
	storedAre(t, "no steps", g, x, nil, nil, []impl.Instance{v, o1}, 0, 0)
	for _, y := range []impl.Instance{at(9, "v"), at(1, "o"), at(2, "v"), at(2, ""), {}} {
		storageFails(t, "no definition", g, x, []impl.TraceStep{{At: i1}, {At: y}}, []int{0, 1}, []impl.Instance{i1})
	}
	storageFails(t, "no tree", g, impl.Tree{}, trace, []int{0, 0, 1, 1, 2, 1}, keep)
	storageFails(t, "no grammar", impl.Grammar{}, x, trace, []int{0, 0, 1, 1, 2, 1}, keep)
	// The root of a subtree has inherited instances without a definition, but the others have one.
	storageFails(t, "an inherited instance of the root", g, impl.Subtree(x, 1), trace[:2], []int{0, 1}, nil)
	storedAre(t, "a subtree", g, impl.Subtree(x, 1), trace[1:2], []int{0}, []impl.Instance{o1}, 1)
	c := grammarFrom(t, declarations)
	storageFails(t, "a collected instance", c, treeOf(t, c, exampleTrees()[0]), []impl.TraceStep{{At: at(1, "decls")}}, []int{0}, nil)
	storedAre(t, "a remote attribute is 0", c, treeOf(t, c, exampleTrees()[0]), []impl.TraceStep{{At: at(4, "errs")}}, []int{0}, []impl.Instance{at(4, "errs")}, 1)
}
