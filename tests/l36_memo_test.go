package tests

import (
	"math/rand"
	"reflect"
	"slices"
	"testing"

	"loop.example/g00512/impl"
)

func reading(y impl.Instance, value int) impl.Reading {
	return impl.Reading{At: y, Value: value}
}

func symbolReading(node int, symbol string) impl.Reading {
	return impl.Reading{At: at(node, ""), Symbol: symbol}
}

// wantSource looks at the rules of a node and of its parent.
func wantSource(g impl.Grammar, x impl.Tree, y impl.Instance) impl.Entry {
	e := impl.Entry{At: y}
	i := slices.IndexFunc(x.Nodes, func(n impl.Node) bool { return n.Id == y.Node })
	if i < 0 {
		return e
	}
	n := x.Nodes[i]
	rule, _ := impl.FindRule(g, n.Rule)
	s, _ := impl.FindSymbol(g, rule.Left)
	a, ok := impl.FindAttribute(s, y.Name)
	if !ok {
		return e
	}
	switch {
	case a.Mode == impl.ModeCollected:
		for _, m := range x.Nodes {
			for k, r := range g.Rules {
				if r.Name == m.Rule {
					e.Shape = append(e.Shape, m.Id, k, m.Literal)
				}
			}
		}
		return e
	case a.Mode == impl.ModeInherited && n.Parent < 0:
		return e
	case a.Mode == impl.ModeInherited:
		n = x.Nodes[n.Parent]
	}
	e.Owner, e.Literal, e.Rule, e.Ids = n.Id, n.Literal, n.Rule, []int{n.Id}
	for _, c := range n.Children {
		e.Ids = append(e.Ids, x.Nodes[c].Id)
	}
	return e
}

// equalEntries compares all fields; no elements are as good as none.
func equalEntries(a impl.Entry, b impl.Entry) bool {
	return a.At == b.At && a.Value == b.Value && a.Owner == b.Owner && a.Literal == b.Literal && a.Rule == b.Rule &&
		slices.Equal(a.Ids, b.Ids) && slices.Equal(a.Shape, b.Shape) && slices.Equal(a.Reads, b.Reads)
}

// editedTree performs random edits of a valid tree, at least one of which changes it.
func editedTree(random *rand.Rand, g impl.Grammar, x impl.Tree) impl.Tree {
	y := x
	for n := 0; n < 40 && impl.EqualTree(x, y); n++ {
		for range 1 + random.Intn(3) {
			e := impl.Edit{Kind: 1 + random.Intn(3), Node: y.Nodes[random.Intn(len(y.Nodes))].Id, Other: y.Nodes[random.Intn(len(y.Nodes))].Id, Literal: random.Intn(16) - 2}
			if e.Kind == impl.EditReplace {
				symbol := impl.SymbolOfNode(g, y, impl.NodeIndex(y, e.Node))
				e.Tree = randomTree(random, g, symbol)
				if random.Intn(2) == 0 {
					e.Tree.Nodes[0].Id = e.Node
				}
			}
			y, _ = impl.ApplyEdit(g, y, e)
		}
	}
	return y
}

// TestSameSourcesHaveSameDefinitions is promise 36.
func TestSameSourcesHaveSameDefinitions(t *testing.T) {
	random := rand.New(rand.NewSource(36))
	same, changed := 0, 0
	for _, g := range append(randomGrammars(t, random, 40, numbers(), anything(), anything()), twoKinds(t)) {
		x := randomTree(random, g, "s")
		for range 3 {
			y := editedTree(random, g, x)
			for _, z := range append(impl.Instances(g, y), impl.Instances(g, x)...) {
				a, b := impl.SourceOf(g, x, z), impl.SourceOf(g, y, z)
				if !equalEntries(a, wantSource(g, x, z)) || !equalEntries(b, wantSource(g, y, z)) {
					t.Fatalf("SourceOf(%v) = %v, then %v; want %v, then %v", z, a, b, wantSource(g, x, z), wantSource(g, y, z))
				}
				if impl.SameSource(a, b) != equalEntries(a, b) {
					t.Fatalf("SameSource(%v, %v) = %v", a, b, !equalEntries(a, b))
				}
				if !impl.SameSource(a, b) {
					changed++
					continue
				}
				same++
				d, ok := impl.DefinitionOf(g, x, z)
				e, again := impl.DefinitionOf(g, y, z)
				if ok != again || !impl.EqualExpr(d.Expr, e.Expr) {
					t.Fatalf("%v has the source %v, but not the same definition", z, a)
				}
			}
			x = y
		}
	}
	if same < 500 || changed < 500 {
		t.Errorf("%d instances have the same source, %d another one", same, changed)
	}
}

func TestSourceOf(t *testing.T) {
	is := func(g impl.Grammar, x impl.Tree, want impl.Entry) {
		t.Helper()
		if got := impl.SourceOf(g, x, want.At); !equalEntries(got, want) {
			t.Errorf("SourceOf = %v; want %v", got, want)
		}
	}
	g := grammarFrom(t, declarations)
	x := treeOf(t, g, exampleTrees()[0])
	is(g, x, impl.Entry{At: at(1, "errs"), Owner: 1, Rule: "block", Ids: []int{1, 2}})
	is(g, x, impl.Entry{At: at(2, "env"), Owner: 1, Rule: "block", Ids: []int{1, 2}})
	is(g, x, impl.Entry{At: at(4, "env"), Owner: 3, Rule: "pair", Ids: []int{3, 4, 5}})
	is(g, x, impl.Entry{At: at(4, "errs"), Owner: 4, Literal: 3, Rule: "use", Ids: []int{4}})
	is(g, x, impl.Entry{At: at(1, "decls"), Shape: []int{1, 0, 0, 2, 1, 0, 3, 1, 0, 4, 3, 3, 5, 2, 3, 6, 3, 4}})
	// The owner is denoted by its Id, not by its index.
	for i, id := range []int{50, 40, 30, 20, 10, 999} {
		x.Nodes[i].Id = id
	}
	is(g, x, impl.Entry{At: at(20, "env"), Owner: 30, Rule: "pair", Ids: []int{30, 20, 10}})
	is(g, x, impl.Entry{At: at(50, "decls"), Shape: []int{50, 0, 0, 40, 1, 0, 30, 1, 0, 20, 3, 3, 10, 2, 3, 999, 3, 4}})
	// What has no definition, or does not exist.
	is(g, impl.Subtree(x, 1), impl.Entry{At: at(40, "env")})
	for _, y := range []impl.Instance{at(50, "env"), at(40, "decls"), at(1, "errs"), at(20, ""), at(0, ""), at(-1, "env")} {
		is(g, x, impl.Entry{At: y})
		is(g, impl.Tree{}, impl.Entry{At: y})
		is(impl.Grammar{}, x, impl.Entry{At: y})
	}
	b := grammarFrom(t, boxes)
	x = treeOf(t, b, exampleTrees()[2])
	is(b, x, impl.Entry{At: at(2, "room"), Owner: 1, Literal: 10, Rule: "page", Ids: []int{1, 2}})
	is(b, x, impl.Entry{At: at(3, "width"), Owner: 3, Literal: 4, Rule: "box", Ids: []int{3}})
}

func fullEntry() impl.Entry {
	return impl.Entry{At: at(3, "a"), Value: 4, Owner: 2, Literal: 5, Rule: "p", Ids: []int{2, 3}, Shape: []int{1, 2, 3}, Reads: []impl.Reading{reading(at(1, "b"), 6), symbolReading(1, "s")}}
}

// changedEntries returns entries of which one field is another one, by the names of the fields.
func changedEntries() map[string][]impl.Entry {
	list := map[string][]impl.Entry{}
	add := func(field string, change func(e *impl.Entry)) {
		e := fullEntry()
		change(&e)
		list[field] = append(list[field], e)
	}
	add("At", func(e *impl.Entry) { e.At.Node = 4 })
	add("At", func(e *impl.Entry) { e.At.Name = "aa" })
	add("Value", func(e *impl.Entry) { e.Value = 0 })
	add("Owner", func(e *impl.Entry) { e.Owner = 3 })
	add("Literal", func(e *impl.Entry) { e.Literal = -5 })
	add("Rule", func(e *impl.Entry) { e.Rule = "" })
	add("Ids", func(e *impl.Entry) { e.Ids = []int{3, 2} })
	add("Ids", func(e *impl.Entry) { e.Ids = []int{2} })
	add("Ids", func(e *impl.Entry) { e.Ids = nil })
	add("Ids", func(e *impl.Entry) { e.Ids = []int{2, 3, 0} })
	add("Shape", func(e *impl.Entry) { e.Shape = []int{1, 2, 4} })
	add("Shape", func(e *impl.Entry) { e.Shape = e.Shape[:2] })
	add("Reads", func(e *impl.Entry) { e.Reads = e.Reads[:1] })
	add("Reads", func(e *impl.Entry) { e.Reads = nil })
	add("Reads", func(e *impl.Entry) { slices.Reverse(e.Reads) })
	add("Reads", func(e *impl.Entry) { e.Reads[0].Value = 7 })
	add("Reads", func(e *impl.Entry) { e.Reads[1].Symbol = "t" })
	add("Reads", func(e *impl.Entry) { e.Reads[0].At.Name = "c" })
	add("Reads", func(e *impl.Entry) { e.Reads[1].At.Node = 2 })
	add("Reads", func(e *impl.Entry) { e.Reads = append(e.Reads, e.Reads[0]) })
	return list
}

func TestSameSource(t *testing.T) {
	e := fullEntry()
	if !impl.SameSource(e, fullEntry()) || !impl.SameSource(impl.Entry{}, impl.Entry{Ids: []int{}, Shape: []int{}}) {
		t.Error("equal entries have the same source")
	}
	for field, list := range changedEntries() {
		for _, other := range list {
			want := field == "Value" || field == "Reads"
			if impl.SameSource(e, other) != want || impl.SameSource(other, e) != want {
				t.Errorf("SameSource with another %s: %v", field, !want)
			}
		}
	}
}

func TestFindEntry(t *testing.T) {
	first, second := fullEntry(), fullEntry()
	second.Value, second.Ids = 9, []int{7}
	m := impl.Memo{Entries: []impl.Entry{{At: at(3, "b"), Value: 1}, first, {At: at(4, "a")}, second, {}}, Evaluated: []impl.Instance{at(5, "a")}}
	if e, ok := impl.FindEntry(m, at(3, "a")); !ok || !equalEntries(e, first) {
		t.Errorf("FindEntry = %v, %v", e, ok)
	}
	if e, ok := impl.FindEntry(m, impl.Instance{}); !ok || !equalEntries(e, impl.Entry{}) {
		t.Errorf("FindEntry = %v, %v", e, ok)
	}
	for _, y := range []impl.Instance{at(5, "a"), at(3, "c"), at(4, "b"), at(3, "")} {
		if e, ok := impl.FindEntry(m, y); ok || !reflect.DeepEqual(e, impl.Entry{}) {
			t.Errorf("FindEntry(%v) = %v, %v", y, e, ok)
		}
	}
	e, _ := impl.FindEntry(m, at(3, "a"))
	e.Ids[0], e.Shape[0], e.Reads[0].Value = 100, 100, 100
	if !equalEntries(m.Entries[1], fullEntry()) {
		t.Error("the entry is no copy")
	}
}

func TestMemoValues(t *testing.T) {
	m := impl.Memo{Entries: []impl.Entry{{At: at(1, "a"), Value: 7}, {At: at(1, "b"), Value: -3}, {At: at(1, "a"), Value: 8}}}
	for _, c := range []struct {
		list   []impl.Instance
		values []int
		ok     bool
	}{
		{nil, nil, true},
		{[]impl.Instance{at(1, "b"), at(1, "a"), at(1, "b")}, []int{-3, 7, -3}, true},
		{[]impl.Instance{at(1, "b"), at(2, "a")}, nil, false},
		{[]impl.Instance{at(1, "c"), at(1, "a")}, nil, false},
		{[]impl.Instance{{}}, nil, false},
	} {
		if values, ok := impl.MemoValues(m, c.list); ok != c.ok || !slices.Equal(values, c.values) {
			t.Errorf("MemoValues(%v) = %v, %v; want %v, %v", c.list, values, ok, c.values, c.ok)
		}
	}
	if values, ok := impl.MemoValues(impl.Memo{}, []impl.Instance{at(1, "a")}); ok || len(values) != 0 {
		t.Error("an empty memo has no values")
	}
}
