package tests

import (
	"math"
	"math/rand"
	"reflect"
	"testing"

	"loop.example/g00512/impl"
)

func at(node int, name string) impl.Instance {
	return impl.Instance{Node: node, Name: name}
}

func TestInstances(t *testing.T) {
	g := grammarFrom(t, declarations)
	x, _ := impl.ParseTree(g, exampleTrees()[0], 10)
	want := []impl.Instance{at(10, "errs"), at(10, "decls"), at(11, "env"), at(11, "errs"), at(12, "env"), at(12, "errs"), at(13, "env"), at(13, "errs"), at(14, "env"), at(14, "errs"), at(15, "env"), at(15, "errs")}
	if got := impl.Instances(g, x); !reflect.DeepEqual(got, want) {
		t.Errorf("Instances = %v; want %v", got, want)
	}
	if got := impl.Instances(g, impl.Subtree(x, 2)); !reflect.DeepEqual(got, want[4:10]) {
		t.Errorf("Instances of a tree of another symbol = %v; want %v", got, want[4:10])
	}
	slice := cloneTree(x)
	for i := range slice.Nodes {
		slice.Nodes[i].Id = 16 - slice.Nodes[i].Id
	}
	if got := impl.Instances(g, slice); len(got) != 12 || got[0] != at(6, "errs") || got[11] != at(1, "errs") {
		t.Errorf("instances are in preorder, not in the order of the Ids: %v", got)
	}
}

func TestInstancesOfNoTree(t *testing.T) {
	g := grammarFrom(t, boxes)
	x := treeOf(t, g, exampleTrees()[2])
	for what, change := range map[string]changeOf{
		"no node":      func(x *impl.Tree) { x.Nodes = nil },
		"same Ids":     func(x *impl.Tree) { x.Nodes[1].Id = 1 },
		"links":        func(x *impl.Tree) { x.Nodes[5].Parent = 1 },
		"literal":      func(x *impl.Tree) { x.Nodes[1].Literal = 1 },
		"unknown rule": func(x *impl.Tree) { x.Nodes[0].Rule = "q" },
		"wrong symbol": func(x *impl.Tree) { x.Nodes[0].Rule, x.Nodes[0].Literal = "box", 1 },
	} {
		y := cloneTree(x)
		change(&y)
		if got := impl.Instances(g, y); len(got) != 0 {
			t.Errorf("%s: %v", what, got)
		}
	}
	if got := impl.Instances(impl.Grammar{}, x); len(got) != 0 {
		t.Errorf("without a grammar: %v", got)
	}
	// The symbol of the rule need not exist, and a symbol need not have attributes.
	free := impl.Grammar{Symbols: []impl.Symbol{{Name: "t"}, {Name: "u", Attributes: []impl.Attribute{{Name: "a"}, {Name: "a", Mode: 7}}}}, Rules: []impl.Rule{{Name: "p", Left: "s", Right: []string{"t", "u"}}, {Name: "q", Left: "t"}, {Name: "r", Left: "u"}}}
	y := treeFrom(grow("p", 0, grow("q", 0), grow("r", 0)), 1)
	if got := impl.Instances(free, y); !reflect.DeepEqual(got, []impl.Instance{at(3, "a"), at(3, "a")}) {
		t.Errorf("a grammar that is not accepted: %v", got)
	}
}

// TestEveryAttributeIsAnInstanceOnce is promise 16.
func TestEveryAttributeIsAnInstanceOnce(t *testing.T) {
	random := rand.New(rand.NewSource(16))
	for _, text := range languages() {
		g := grammarFrom(t, text)
		for range 200 {
			x := randomTree(random, g, []string{"s", "t"}[random.Intn(2)])
			list := impl.Instances(g, x)
			count := map[impl.Instance]int{}
			for _, y := range list {
				count[y]++
			}
			for i, n := range x.Nodes {
				s, _ := impl.FindSymbol(g, impl.SymbolOfNode(g, x, i))
				for _, a := range s.Attributes {
					y := at(n.Id, a.Name)
					if count[y] != 1 || list[impl.InstanceIndex(list, y)] != y {
						t.Fatalf("%v is an instance %d times", y, count[y])
					}
					if b, ok := impl.AttributeOf(g, x, y); !ok || b != a {
						t.Fatalf("AttributeOf(%v) = %v, %v; want %v", y, b, ok, a)
					}
					delete(count, y)
				}
			}
			if len(count) != 0 {
				t.Fatalf("%v are no attributes of nodes", count)
			}
		}
	}
}

func TestInstanceIndex(t *testing.T) {
	list := []impl.Instance{at(1, "a"), at(2, "a"), at(1, "b"), at(2, "a"), {}}
	for i, want := range []int{0, 1, 2, 1, 4} {
		if got := impl.InstanceIndex(list, list[i]); got != want {
			t.Errorf("InstanceIndex(%v) = %d; want %d", list[i], got, want)
		}
	}
	for _, x := range []impl.Instance{at(2, "b"), at(3, "a"), at(0, "a"), at(1, ""), at(-1, "a")} {
		if got := impl.InstanceIndex(list, x); got != -1 {
			t.Errorf("InstanceIndex(%v) = %d", x, got)
		}
	}
	if impl.InstanceIndex(nil, impl.Instance{}) != -1 {
		t.Error("no instance is in no list")
	}
}

func TestAttributeOf(t *testing.T) {
	g := grammarFrom(t, boxes)
	x := treeOf(t, g, exampleTrees()[2])
	if a, ok := impl.AttributeOf(g, x, at(4, "room")); !ok || a != (impl.Attribute{Name: "room", Type: impl.TypeNumber, Mode: impl.ModeInherited}) {
		t.Error(a, ok)
	}
	for _, y := range []impl.Instance{at(1, "room"), at(0, "width"), at(7, "width"), at(-1, "width"), at(math.MaxInt, "width"), at(1, ""), at(1, "errs"), {}} {
		if a, ok := impl.AttributeOf(g, x, y); ok || a != (impl.Attribute{}) {
			t.Errorf("AttributeOf(%v) = %v, %v", y, a, ok)
		}
	}
	// The node exists also if the tree is not correct, but a node without a rule has no attributes.
	x.Nodes[5].Parent, x.Nodes[4].Rule = 0, "q"
	if _, ok := impl.AttributeOf(g, x, at(6, "room")); !ok {
		t.Error("the node has an attribute")
	}
	if _, ok := impl.AttributeOf(g, x, at(5, "room")); ok {
		t.Error("a node without a rule has an attribute")
	}
}

func TestFormatInstance(t *testing.T) {
	for want, x := range map[string]impl.Instance{"#1.a": at(1, "a"), "#999.room": at(999, "room"), "#0.": {}, "#-5.x y": at(-5, "x y"), "#-9223372036854775808.a": at(math.MinInt, "a")} {
		if got := impl.FormatInstance(x); got != want {
			t.Errorf("FormatInstance(%v) = %q; want %q", x, got, want)
		}
	}
}
