package tests

import (
	"math/rand"
	"reflect"
	"slices"
	"testing"

	"loop.example/g00512/impl"
)

// wantInputs looks up the inputs of all instances, and leaves out those that are no instances.
func wantInputs(g impl.Grammar, x impl.Tree) [][]int {
	list := impl.Instances(g, x)
	table := make([][]int, len(list))
	for i, y := range list {
		for _, in := range impl.StaticInputs(g, x, y) {
			if k := impl.InstanceIndex(list, in); k >= 0 {
				table[i] = append(table[i], k)
			}
		}
	}
	return table
}

// wantOrder repeatedly takes the smallest instance whose inputs are taken.
func wantOrder(inputs [][]int) ([]int, bool) {
	var order []int
	for len(order) < len(inputs) {
		found := false
		for i := 0; i < len(inputs) && !found; i++ {
			ready := !slices.Contains(order, i)
			for _, k := range inputs[i] {
				ready = ready && slices.Contains(order, k)
			}
			if ready {
				order, found = append(order, i), true
			}
		}
		if !found {
			return nil, false
		}
	}
	return order, true
}

// wantCycle tries all lists of distinct instances, the shorter ones first, in lexicographic order.
func wantCycle(inputs [][]int) []int {
	for length := 1; length <= len(inputs); length++ {
		for i := range inputs {
			if list := extend(inputs, []int{i}, length); list != nil {
				return list
			}
		}
	}
	return nil
}

func extend(inputs [][]int, list []int, length int) []int {
	last := inputs[list[len(list)-1]]
	if len(list) == length {
		if slices.Contains(last, list[0]) {
			return list
		}
		return nil
	}
	next := slices.Clone(last)
	slices.Sort(next)
	for _, k := range next {
		if !slices.Contains(list, k) {
			if found := extend(inputs, append(slices.Clone(list), k), length); found != nil {
				return found
			}
		}
	}
	return nil
}

// reaches closes the relation of inputs.
func reaches(inputs [][]int) [][]bool {
	n := len(inputs)
	to := make([][]bool, n)
	for i := range to {
		to[i] = make([]bool, n)
		for _, k := range inputs[i] {
			to[i][k] = true
		}
	}
	for m := range n {
		for i := range n {
			for k := range n {
				to[i][k] = to[i][k] || to[i][m] && to[m][k]
			}
		}
	}
	return to
}

func orderIsRight(t *testing.T, g impl.Grammar, x impl.Tree) (cyclic int) {
	t.Helper()
	inputs := wantInputs(g, x)
	table := impl.InputTable(g, x)
	for i, row := range table {
		table[i] = slices.DeleteFunc(slices.Clone(row), func(k int) bool { return k == -1 })
	}
	if !slices.EqualFunc(table, inputs, slices.Equal[[]int]) {
		t.Fatalf("InputTable = %v; want %v", table, inputs)
	}
	order, ok := impl.TreeOrder(g, x)
	want, wantOk := wantOrder(inputs)
	if ok != wantOk || !slices.Equal(order, want) {
		t.Fatalf("TreeOrder = %v, %v; want %v, %v", order, ok, want, wantOk)
	}
	cycle := impl.TreeCycle(g, x)
	if ok != (len(cycle) == 0) {
		t.Fatalf("an order exists: %v; the cycle is %v", ok, cycle)
	}
	if wanted := wantCycle(inputs); !slices.Equal(cycle, wanted) {
		t.Fatalf("TreeCycle = %v; want %v; inputs %v", cycle, wanted, inputs)
	}
	for i, row := range reaches(inputs) {
		for k, want := range row {
			if impl.DependsOn(g, x, i, k) != want {
				t.Fatalf("DependsOn(%d, %d) = %v", i, k, !want)
			}
		}
	}
	if !ok {
		return 1
	}
	return 0
}

// TestOrderOrCycle is promise 18.
func TestOrderOrCycle(t *testing.T) {
	random := rand.New(rand.NewSource(18))
	cyclic, count := 0, 0
	for _, g := range randomGrammars(t, random, 30, numbers(), numbers(), anything()) {
		for range 3 {
			x := treeFrom(randomBranch(random, g, symbolNames(g)[random.Intn(len(g.Symbols))], 2), 1)
			if len(x.Nodes) > 9 {
				continue
			}
			cyclic += orderIsRight(t, g, x)
			count++
		}
	}
	if cyclic < 10 || count-cyclic < 10 {
		t.Errorf("%d of %d trees have a cycle", cyclic, count)
	}
}

// graphGrammar has a node with n attributes whose inputs are given; such a grammar is not accepted.
func graphGrammar(inputs [][]int) (impl.Grammar, impl.Tree) {
	names := func(i int) string { return string(rune('a' + i)) }
	r := impl.Rule{Name: "p", Left: "s"}
	s := impl.Symbol{Name: "s"}
	for i, row := range inputs {
		s.Attributes = append(s.Attributes, impl.Attribute{Name: names(i), Type: impl.TypeNumber, Mode: impl.ModeSynthesized})
		e := number(0)
		for _, k := range row {
			e = op(impl.OpAdd, e, attr(0, names(k)))
		}
		r.Equations = append(r.Equations, equation(0, names(i), e))
	}
	return impl.Grammar{Symbols: []impl.Symbol{s}, Rules: []impl.Rule{r}}, treeFrom(grow("p", 0), 1)
}

// TestOrderOfAllGraphs tries all relations on three instances, and random ones on more.
func TestOrderOfAllGraphs(t *testing.T) {
	random := rand.New(rand.NewSource(181))
	for bits := range 1 << 9 {
		inputs := make([][]int, 3)
		for p := range 9 {
			if bits>>p&1 == 1 {
				inputs[p/3] = append(inputs[p/3], p%3)
			}
		}
		g, x := graphGrammar(inputs)
		orderIsRight(t, g, x)
	}
	for range 400 {
		inputs := make([][]int, 4+random.Intn(5))
		for range random.Intn(3 * len(inputs)) {
			i := random.Intn(len(inputs))
			inputs[i] = append(inputs[i], random.Intn(len(inputs)))
		}
		g, x := graphGrammar(inputs)
		orderIsRight(t, g, x)
	}
}

func TestTreeCycle(t *testing.T) {
	cases := []struct {
		inputs [][]int
		want   []int
	}{
		{[][]int{{1}, {2}, {0}}, []int{0, 1, 2}},
		{[][]int{{2}, {0}, {1}}, []int{0, 2, 1}},
		{[][]int{{1}, {0}, {3}, {2}}, []int{0, 1}},
		{[][]int{{1}, {2}, {0}, {4}, {3}}, []int{3, 4}},
		{[][]int{{1}, {2}, {0}, {3}}, []int{3}},
		{[][]int{{3, 2, 1}, {4}, {4}, {4}, {0}}, []int{0, 1, 4}},
		{[][]int{{1}, {2}, {1}}, []int{1, 2}},
		{[][]int{{0, 1}, {0, 1}}, []int{0}},
		{[][]int{{1, 2}, {3}, {0, 3}, {0}}, []int{0, 2}},
		{[][]int{{1, 2}, {3}, {3}, {2, 4}, {0}}, []int{2, 3}},
		{[][]int{{1}, {2}, {}}, nil},
		{[][]int{{}, {}}, nil},
	}
	for _, c := range cases {
		g, x := graphGrammar(c.inputs)
		if got := impl.TreeCycle(g, x); !slices.Equal(got, c.want) {
			t.Errorf("TreeCycle of %v = %v; want %v", c.inputs, got, c.want)
		}
	}
}

func TestOrderOfBoxes(t *testing.T) {
	g := grammarFrom(t, boxes)
	x := treeOf(t, g, exampleTrees()[2])
	want := [][]int{{2}, {}, {4, 6}, {1}, {3}, {1, 4}, {8, 10}, {5}, {7}, {5, 8}, {9}}
	if got := impl.InputTable(g, x); !slices.EqualFunc(got, want, slices.Equal[[]int]) {
		t.Errorf("InputTable = %v; want %v", got, want)
	}
	order, ok := impl.TreeOrder(g, x)
	if !ok || !slices.Equal(order, []int{1, 3, 4, 5, 7, 8, 9, 10, 6, 2, 0}) {
		t.Errorf("TreeOrder = %v, %v", order, ok)
	}
	if !impl.DependsOn(g, x, 0, 1) || impl.DependsOn(g, x, 1, 0) || impl.DependsOn(g, x, 0, 0) || !impl.DependsOn(g, x, 6, 4) || impl.DependsOn(g, x, 4, 6) {
		t.Error("DependsOn")
	}
	for _, k := range append(someInts(), -1, 11, 12) {
		if k >= 0 && k < 11 {
			continue
		}
		if impl.DependsOn(g, x, k, 1) || impl.DependsOn(g, x, 0, k) || impl.DependsOn(g, x, k, k) {
			t.Errorf("there is no instance %d", k)
		}
	}
}

func TestOrderOfNoTree(t *testing.T) {
	g := grammarFrom(t, boxes)
	none := grammarOf(t, "symbol s", "rule p s :")
	for _, c := range []struct {
		g impl.Grammar
		x impl.Tree
	}{{g, impl.Tree{}}, {impl.Grammar{}, treeFrom(sampleBranch(), 1)}, {g, treeFrom(sampleBranch(), 0)}, {none, treeFrom(grow("p", 0), 1)}} {
		order, ok := impl.TreeOrder(c.g, c.x)
		if len(impl.InputTable(c.g, c.x)) != 0 || len(order) != 0 || !ok || len(impl.TreeCycle(c.g, c.x)) != 0 || impl.DependsOn(c.g, c.x, 0, 0) {
			t.Error("without instances, the order is empty, and there is no cycle", order, ok)
		}
	}
}

// TestInputsOutsideTheList: equations of a grammar that is not accepted may use what is no instance.
func TestInputsOutsideTheList(t *testing.T) {
	g := impl.Grammar{
		Symbols: []impl.Symbol{{Name: "s", Attributes: []impl.Attribute{plain("a"), plain("b")}}},
		Rules:   []impl.Rule{{Name: "p", Left: "s", Equations: []impl.Equation{equation(0, "a", op(impl.OpAdd, attr(0, "zz"), attr(0, "b"))), equation(0, "b", op(impl.OpAdd, attr(0, "A"), attr(1, "a")))}}},
	}
	x := treeFrom(grow("p", 0), 1)
	if got := impl.InputTable(g, x); !reflect.DeepEqual(got, [][]int{{1, -1}, {-1}}) {
		t.Errorf("InputTable = %v", got)
	}
	order, ok := impl.TreeOrder(g, x)
	if !ok || !slices.Equal(order, []int{1, 0}) || impl.TreeCycle(g, x) != nil || !impl.DependsOn(g, x, 0, 1) || impl.DependsOn(g, x, 0, -1) || impl.DependsOn(g, x, -1, -1) {
		t.Error("what is no instance is not ignored", order, ok)
	}
	// An attribute that is listed twice has the index of the first one.
	g.Symbols[0].Attributes = []impl.Attribute{plain("b"), plain("a"), plain("a"), plain("b")}
	g.Rules[0].Equations[0].Expr = op(impl.OpAdd, attr(0, "a"), attr(0, "b"))
	if got := impl.InputTable(g, x); !reflect.DeepEqual(got, [][]int{{-1}, {1, 0}, {1, 0}, {-1}}) {
		t.Errorf("InputTable = %v", got)
	}
	if got := impl.TreeCycle(g, x); !slices.Equal(got, []int{1}) {
		t.Errorf("TreeCycle = %v", got)
	}
}
