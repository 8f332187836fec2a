package tests

import (
	"math"
	"math/rand"
	"slices"
	"testing"

	"loop.example/g00512/impl"
)

// wantDefined evaluates the equation of an instance for values of the instances in list.
func wantDefined(g impl.Grammar, x impl.Tree, list []impl.Instance, values []int, y impl.Instance) int {
	d, ok := impl.DefinitionOf(g, x, y)
	if !ok {
		return 0
	}
	owner := x.Nodes[d.Owner]
	ids := []int{owner.Id}
	for _, c := range owner.Children {
		ids = append(ids, x.Nodes[c].Id)
	}
	var slots []impl.Slot
	for i, z := range list {
		if pos := slices.Index(ids, z.Node); pos >= 0 {
			slots = append(slots, slot(pos, z.Name, values[i]))
		}
	}
	return wantLocal(d.Expr, slots, owner.Literal, ids)
}

// settle evaluates all instances again and again, beginning with values, until nothing changes; false after many rounds.
func settle(g impl.Grammar, x impl.Tree, values []int) ([]int, bool) {
	list := impl.Instances(g, x)
	values = slices.Clone(values)
	for range len(list) + 2 {
		before := slices.Clone(values)
		for i, y := range list {
			values[i] = wantDefined(g, x, list, before, y)
		}
		if slices.Equal(values, before) {
			return values, true
		}
	}
	return nil, false
}

// TestStaticRunIsTheOnlySolution is promise 20.
func TestStaticRunIsTheOnlySolution(t *testing.T) {
	random := rand.New(rand.NewSource(20))
	evaluated, cyclic := 0, 0
	for _, g := range randomGrammars(t, random, 80, numbers(), anyTypes()) {
		for range 3 {
			x := randomTree(random, g, symbolNames(g)[random.Intn(len(g.Symbols))])
			list := impl.Instances(g, x)
			values, ok := impl.StaticRun(g, x)
			if _, ordered := impl.TreeOrder(g, x); ok != (ordered && impl.IsStatic(g)) {
				t.Fatalf("StaticRun: %v", ok)
			}
			if !ok {
				if len(values) != 0 {
					t.Fatal("values without an evaluation")
				}
				cyclic++
				continue
			}
			evaluated++
			if len(values) != len(list) || impl.IsSolution(g, x, values) != (len(list) > 0) {
				t.Fatalf("%v is no solution", values)
			}
			for range 3 {
				start := make([]int, len(list))
				for i := range start {
					start[i] = random.Intn(100) - 50
				}
				if want, settled := settle(g, x, start); !settled || !slices.Equal(values, want) {
					t.Fatalf("StaticRun = %v; want %v", values, want)
				}
				if impl.IsSolution(g, x, start) && !slices.Equal(start, values) {
					t.Fatalf("%v is a second solution", start)
				}
			}
			for i := range values {
				other := slices.Clone(values)
				other[i] += 1 + random.Intn(3)
				if impl.IsSolution(g, x, other) {
					t.Fatalf("%v is a second solution", other)
				}
			}
			valuesAreOfTheirTypes(t, g, x, values)
		}
	}
	if evaluated < 100 || cyclic < 5 {
		t.Errorf("%d trees are evaluated, %d are not", evaluated, cyclic)
	}
}

func valuesAreOfTheirTypes(t *testing.T, g impl.Grammar, x impl.Tree, values []int) {
	t.Helper()
	for i, y := range impl.Instances(g, x) {
		if a, _ := impl.AttributeOf(g, x, y); !impl.IsOfType(values[i], a.Type) {
			t.Fatalf("%v has the value %d", a, values[i])
		}
	}
}

func TestStaticRun(t *testing.T) {
	g := grammarFrom(t, boxes)
	x := treeOf(t, g, exampleTrees()[2])
	want := []int{10, 10, 10, 10, 4, 6, 6, 6, 5, 1, 1}
	values, ok := impl.StaticRun(g, x)
	if !ok || !slices.Equal(values, want) || !impl.IsSolution(g, x, want) {
		t.Errorf("StaticRun = %v, %v; want %v", values, ok, want)
	}
	// The root of another symbol has an inherited attribute without a definition.
	sub := impl.Subtree(x, 1)
	want = []int{0, 0, 0, 0, 0, 0, 0, 0, 0, 0}
	if values, ok := impl.StaticRun(g, sub); !ok || !slices.Equal(values, want) || !impl.IsSolution(g, sub, want) {
		t.Errorf("StaticRun = %v, %v", values, ok)
	}
	want[0] = 5
	if impl.IsSolution(g, sub, want) {
		t.Error("an instance without a definition has the value 0")
	}
	nodes := grammarOf(t, "symbol s n:syn:node", "symbol t m:inh:node k:syn:node", "rule p s : t", "eq $0.n := $1.k", "eq $1.m := self(1)", "rule q t :", "eq $0.k := if 1 < 2 then $0.m else self(0)")
	y, _ := impl.ParseTree(nodes, "(p (q))", 30)
	if values, ok := impl.StaticRun(nodes, y); !ok || !slices.Equal(values, []int{31, 31, 31}) {
		t.Errorf("StaticRun = %v, %v", values, ok)
	}
}

func TestStaticRunFails(t *testing.T) {
	g := grammarFrom(t, boxes)
	x := treeOf(t, g, exampleTrees()[2])
	values, _ := impl.StaticRun(g, x)
	fails := func(what string, g impl.Grammar, x impl.Tree) {
		t.Helper()
		if got, ok := impl.StaticRun(g, x); ok || len(got) != 0 {
			t.Errorf("%s: StaticRun = %v, %v", what, got, ok)
		}
	}
	for code, wrong := range wrongGrammars(t) {
		fails("a grammar that is not accepted", wrong, x)
		if impl.IsSolution(wrong, x, values) {
			t.Errorf("a grammar with the code %d has a solution", code)
		}
	}
	for k, text := range languages()[:2] {
		h := grammarFrom(t, text)
		y := treeOf(t, h, exampleTrees()[k])
		fails("a grammar that is not static", h, y)
		if settled, ok := settle(h, y, make([]int, len(impl.Instances(h, y)))); ok && impl.IsSolution(h, y, settled) {
			t.Error("a grammar that is not static has a solution")
		}
	}
	broken := cloneTree(x)
	broken.Nodes[2].Place = 3
	for what, y := range map[string]impl.Tree{"no node": {}, "a broken tree": broken, "Ids": treeFrom(sampleBranch(), 0)} {
		fails(what, g, y)
		if impl.IsSolution(g, y, values) || impl.IsSolution(g, y, nil) {
			t.Errorf("%s: a solution", what)
		}
	}
	for what, list := range map[string][]int{"none": nil, "too few": values[:10], "too many": append(slices.Clone(values), 0)} {
		if impl.IsSolution(g, x, list) {
			t.Errorf("%s: a solution", what)
		}
	}
	loop := grammarOf(t, "symbol s v:syn:num", "symbol t i:inh:num o:syn:num", "rule p s : t", "eq $0.v := $1.o", "eq $1.i := $1.o", "rule q t :", "eq $0.o := $0.i", "rule r t :", "eq $0.o := 7")
	fails("a cycle", loop, treeOf(t, loop, "(p (q))"))
	for _, v := range []int{0, 5, math.MinInt} {
		if !impl.IsSolution(loop, treeOf(t, loop, "(p (q))"), []int{v, v, v}) {
			t.Error("with a cycle, there may be several solutions")
		}
	}
	if got, ok := impl.StaticRun(loop, treeOf(t, loop, "(p (r))")); !ok || !slices.Equal(got, []int{7, 7, 7}) {
		t.Error("this tree has no cycle", got, ok)
	}
}

func TestStaticRunWithoutInstances(t *testing.T) {
	g := grammarOf(t, "symbol s", "rule p s :")
	x := treeOf(t, g, "(p)")
	if got, ok := impl.StaticRun(g, x); !ok || len(got) != 0 || impl.IsSolution(g, x, nil) {
		t.Error("there are no instances", got, ok)
	}
}

func TestSlotsFor(t *testing.T) {
	g := grammarFrom(t, boxes)
	x := treeOf(t, g, exampleTrees()[2])
	values := []int{100, 101, 102, 103, 104, 105, 106, 107, 108, 109, 110}
	cases := map[int][]impl.Slot{
		0: {slot(0, "width", 100), slot(1, "room", 101), slot(1, "width", 102)},
		1: {slot(0, "room", 101), slot(0, "width", 102), slot(1, "room", 103), slot(1, "width", 104), slot(2, "room", 105), slot(2, "width", 106)},
		2: {slot(0, "room", 103), slot(0, "width", 104)},
		3: {slot(0, "room", 105), slot(0, "width", 106), slot(1, "room", 107), slot(1, "width", 108), slot(2, "room", 109), slot(2, "width", 110)},
		5: {slot(0, "room", 109), slot(0, "width", 110)},
	}
	for i, want := range cases {
		if got := impl.SlotsFor(g, x, i, values); !slices.Equal(got, want) {
			t.Errorf("SlotsFor(%d) = %v; want %v", i, got, want)
		}
	}
	for _, i := range []int{-1, 6, math.MaxInt, math.MinInt} {
		if got := impl.SlotsFor(g, x, i, values); len(got) != 0 {
			t.Errorf("SlotsFor(%d) = %v", i, got)
		}
	}
	for _, list := range [][]int{nil, values[:10], append(slices.Clone(values), 1)} {
		if got := impl.SlotsFor(g, x, 0, list); len(got) != 0 {
			t.Errorf("SlotsFor with %d values = %v", len(list), got)
		}
	}
	broken := cloneTree(x)
	broken.Nodes[1].Id = 1
	if len(impl.SlotsFor(g, broken, 0, values)) != 0 || len(impl.SlotsFor(g, broken, 0, nil)) != 0 || len(impl.SlotsFor(impl.Grammar{}, x, 0, nil)) != 0 {
		t.Error("what is no tree has no slots")
	}
	d := grammarFrom(t, declarations)
	if got := impl.SlotsFor(d, treeOf(t, d, "(block (use 1))"), 0, []int{4, 5, 6, 7}); !slices.Equal(got, []impl.Slot{slot(0, "errs", 4), slot(0, "decls", 5), slot(1, "env", 6), slot(1, "errs", 7)}) {
		t.Error("collected attributes have slots", got)
	}
}

func TestNodeIds(t *testing.T) {
	x := treeFrom(sampleBranch(), 11)
	for i, want := range [][]int{{11, 12}, {12, 13, 14}, {13}, {14, 15, 16}, {15}, {16}} {
		if got := impl.NodeIds(x, i); !slices.Equal(got, want) {
			t.Errorf("NodeIds(%d) = %v; want %v", i, got, want)
		}
	}
	for _, i := range []int{-1, 6, math.MaxInt, math.MinInt} {
		if got := impl.NodeIds(x, i); len(got) != 0 {
			t.Errorf("NodeIds(%d) = %v", i, got)
		}
	}
	x.Nodes[1].Children = []int{5, -1, 6, 1}
	if got := impl.NodeIds(x, 1); !slices.Equal(got, []int{12, 16, 12}) {
		t.Errorf("children that do not exist have no Ids: %v", got)
	}
}
