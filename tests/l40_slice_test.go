package tests

import (
	"math/rand"
	"slices"
	"strings"
	"testing"

	"loop.example/g00512/impl"
)

// wantSlice follows what an instance reads.
func wantSlice(g impl.Grammar, x impl.Tree, y impl.Instance) []impl.Instance {
	list := impl.Instances(g, x)
	if code, _ := impl.CheckGrammar(g); code != impl.GrOk || !slices.Contains(list, y) {
		return nil
	}
	r := newReader(g, x)
	r.read(y)
	if r.cyclic {
		return nil
	}
	found := map[impl.Instance]bool{}
	var follow func(z impl.Instance)
	follow = func(z impl.Instance) {
		if !found[z] {
			found[z] = true
			for _, in := range r.reads[z] {
				follow(in)
			}
		}
	}
	follow(y)
	return slices.DeleteFunc(list, func(z impl.Instance) bool { return !found[z] })
}

func wantOwners(g impl.Grammar, x impl.Tree, list []impl.Instance) []int {
	var ids []int
	for i, n := range x.Nodes {
		for _, y := range list {
			a, _ := impl.AttributeOf(g, x, y)
			d, ok := impl.DefinitionOf(g, x, y)
			if a.Mode == impl.ModeCollected || ok && d.Owner == i {
				ids = append(ids, n.Id)
				break
			}
		}
	}
	return ids
}

func wantExplained(g impl.Grammar, x impl.Tree, y impl.Instance) string {
	var text strings.Builder
	for _, z := range wantSlice(g, x, y) {
		r := newReader(g, x)
		r.read(y)
		a, _ := impl.AttributeOf(g, x, z)
		text.WriteString(impl.FormatInstance(z) + " = " + impl.FormatTyped(r.values[z], a.Type))
		if d, ok := impl.DefinitionOf(g, x, z); ok {
			text.WriteString(" := " + impl.FormatExpr(d.Expr))
		}
		text.WriteString("\n")
	}
	return text.String()
}

// TestLiteralsOutsideASliceDoNotMatter is promise 40.
func TestLiteralsOutsideASliceDoNotMatter(t *testing.T) {
	random := rand.New(rand.NewSource(40))
	unchanged, changed, empty := 0, 0, 0
	for _, g := range append(randomGrammars(t, random, 15, numbers(), anyTypes(), anything(), anything()), wide(t), wide(t)) {
		for range 2 {
			x := randomTree(random, g, "s")
			list := impl.Instances(g, x)
			if len(list) == 0 {
				continue
			}
			for range 4 {
				y := list[random.Intn(len(list))]
				slice, want := impl.SliceOf(g, x, y), wantSlice(g, x, y)
				if !slices.Equal(slice, want) {
					t.Fatalf("SliceOf(%v) = %v; want %v", y, slice, want)
				}
				if got, want := impl.ExplainValue(g, x, y), wantExplained(g, x, y); got != want {
					t.Fatalf("ExplainValue(%v) = %q; want %q", y, got, want)
				}
				owners := impl.SliceOwners(g, x, slice)
				if want := wantOwners(g, x, slice); !slices.Equal(owners, want) {
					t.Fatalf("SliceOwners(%v) = %v; want %v", slice, owners, want)
				}
				if len(slice) == 0 {
					empty++
				}
				for _, n := range x.Nodes {
					independent := impl.IsIndependent(g, x, y, n.Id)
					if independent != (len(slice) > 0 && !slices.Contains(owners, n.Id)) {
						t.Fatalf("IsIndependent(%v, %d) = %v", y, n.Id, independent)
					}
					z, code := impl.ApplyEdit(g, x, setting(n.Id, random.Intn(20)-3))
					if code != impl.EdOk || len(slice) == 0 {
						continue
					}
					before, after := impl.RunDemand(g, x, []impl.Instance{y}), impl.RunDemand(g, z, []impl.Instance{y})
					same := !after.Cyclic && slices.Equal(before.Values, after.Values) && slices.Equal(before.Known, after.Known)
					if independent && !same {
						t.Fatalf("the literal of %d matters for %v", n.Id, y)
					}
					if independent {
						unchanged++
					} else if !same {
						changed++
					}
				}
			}
		}
	}
	if unchanged < 200 || changed < 50 || empty < 20 {
		t.Errorf("%d changes do not matter, %d matter; %d slices are empty", unchanged, changed, empty)
	}
}

func sliceIs(t *testing.T, g impl.Grammar, x impl.Tree, y impl.Instance, want ...impl.Instance) {
	t.Helper()
	if got := impl.SliceOf(g, x, y); !slices.Equal(got, want) {
		t.Errorf("SliceOf(%v) = %v; want %v", y, got, want)
	}
}

func TestSliceOf(t *testing.T) {
	g := grammarFrom(t, boxes)
	x := treeOf(t, g, exampleTrees()[2])
	sliceIs(t, g, x, at(2, "room"), at(2, "room"))
	sliceIs(t, g, x, at(3, "width"), at(2, "room"), at(3, "room"), at(3, "width"))
	sliceIs(t, g, x, at(4, "room"), at(2, "room"), at(3, "room"), at(3, "width"), at(4, "room"))
	sliceIs(t, g, x, at(6, "room"), at(2, "room"), at(3, "room"), at(3, "width"), at(4, "room"), at(5, "room"), at(5, "width"), at(6, "room"))
	sliceIs(t, g, x, at(1, "width"), impl.Instances(g, x)...)
	d := grammarFrom(t, declarations)
	x = treeOf(t, d, exampleTrees()[0])
	// A collected instance rests on the targets of all contributions to it.
	sliceIs(t, d, x, at(1, "decls"), at(1, "decls"), at(2, "env"), at(3, "env"), at(5, "env"))
	sliceIs(t, d, x, at(6, "errs"), at(1, "decls"), at(2, "env"), at(3, "env"), at(5, "env"), at(6, "env"), at(6, "errs"))
	// What is not chosen is not in the slice.
	h := grammarOf(t, "symbol s a:syn:num", "symbol t x:syn:num y:syn:num", "rule p s : t", "eq $0.a := if $1.x < 5 then $1.y else $1.x", "rule q t : lit", "eq $0.x := lit", "eq $0.y := 1")
	sliceIs(t, h, treeOf(t, h, "(p (q 4))"), at(1, "a"), at(1, "a"), at(2, "x"), at(2, "y"))
	sliceIs(t, h, treeOf(t, h, "(p (q 5))"), at(1, "a"), at(1, "a"), at(2, "x"))
	sliceIs(t, h, treeOf(t, h, "(p (q 5))"), at(2, "y"), at(2, "y"))
}

func TestSliceOwners(t *testing.T) {
	g := grammarFrom(t, declarations)
	x := treeOf(t, g, exampleTrees()[0])
	for i, id := range []int{60, 50, 40, 30, 20, 10} {
		x.Nodes[i].Id = id
	}
	is := func(list []impl.Instance, want ...int) {
		t.Helper()
		if got := impl.SliceOwners(g, x, list); !slices.Equal(got, want) {
			t.Errorf("SliceOwners(%v) = %v; want %v", list, got, want)
		}
	}
	is(nil)
	is([]impl.Instance{at(60, "errs")}, 60)
	is([]impl.Instance{at(50, "env")}, 60)
	is([]impl.Instance{at(30, "env"), at(30, "errs"), at(20, "env"), at(60, "errs")}, 60, 40, 30)
	is([]impl.Instance{at(10, "errs"), at(10, "env"), at(10, "env")}, 50, 10)
	is([]impl.Instance{at(60, "decls")}, 60, 50, 40, 30, 20, 10)
	is([]impl.Instance{at(10, "errs"), at(60, "decls"), at(30, "env")}, 60, 50, 40, 30, 20, 10)
	// What is no instance has no owner.
	is([]impl.Instance{at(50, "decls"), at(1, "errs"), {}, at(60, "env")})
	sub := impl.Subtree(x, 1)
	if got := impl.SliceOwners(g, sub, []impl.Instance{at(50, "env"), at(40, "env")}); !slices.Equal(got, []int{50}) {
		t.Errorf("the root of a subtree inherits nothing: %v", got)
	}
	if got := impl.SliceOwners(g, impl.Tree{}, []impl.Instance{at(60, "errs"), at(60, "decls")}); len(got) != 0 {
		t.Errorf("no tree has no owners: %v", got)
	}
}

func TestExplainValue(t *testing.T) {
	g := grammarFrom(t, boxes)
	x := treeOf(t, g, exampleTrees()[2])
	is := func(g impl.Grammar, x impl.Tree, y impl.Instance, want ...string) {
		t.Helper()
		text := strings.Join(append(want, ""), "\n")
		if got := impl.ExplainValue(g, x, y); got != text {
			t.Errorf("ExplainValue(%v) = %q; want %q", y, got, text)
		}
	}
	is(g, x, at(4, "room"), "#2.room = 10 := lit", "#3.room = 10 := $0.room", "#3.width = 4 := min(lit, $0.room)", "#4.room = 6 := max($0.room - $1.width, 0)")
	d := grammarFrom(t, declarations)
	x = treeOf(t, d, exampleTrees()[0])
	is(d, x, at(6, "errs"), "#1.decls = {3}", "#2.env = #1 := self(0)", "#3.env = #1 := $0.env", "#5.env = #1 := $0.env", "#6.env = #1 := $0.env", "#6.errs = 1 := if has(s.decls of $0.env, lit) then 0 else 1")
	// What the root of a subtree inherits has no definition.
	is(d, impl.Subtree(x, 3), at(4, "errs"), "#4.env = none", "#4.errs = 1 := if has(s.decls of $0.env, lit) then 0 else 1")
	h := grammarOf(t, "symbol s b:syn:bool k:syn:set", "rule p s :", "eq $0.b := has({3}, 3)", "eq $0.k := {}", "rule q s :", "eq $0.b := true", "eq $0.k := {0 11}")
	is(h, treeOf(t, h, "(p)"), at(1, "b"), "#1.b = true := has({3}, 3)")
	is(h, treeOf(t, h, "(q)"), at(1, "k"), "#1.k = {0 11} := {0 11}")
}

// TestNoSlice: an instance that does not exist or that is cyclic has no slice, no explanation and no independent nodes.
func TestNoSlice(t *testing.T) {
	none := func(what string, g impl.Grammar, x impl.Tree, y impl.Instance) {
		t.Helper()
		if slice, text := impl.SliceOf(g, x, y), impl.ExplainValue(g, x, y); len(slice) != 0 || text != "" {
			t.Errorf("%s: %v, %q", what, slice, text)
		}
		for _, n := range x.Nodes {
			if impl.IsIndependent(g, x, y, n.Id) {
				t.Errorf("%s: %v is independent of %d", what, y, n.Id)
			}
		}
	}
	g := grammarFrom(t, boxes)
	x := treeOf(t, g, exampleTrees()[2])
	for _, y := range []impl.Instance{at(1, "room"), at(7, "width"), at(2, ""), {}, at(-1, "width")} {
		none("no instance", g, x, y)
	}
	for _, wrong := range wrongGrammars(t) {
		none("a grammar that is not accepted", wrong, x, at(1, "width"))
	}
	none("no node", g, impl.Tree{}, at(1, "width"))
	broken := cloneTree(x)
	broken.Nodes[5].Place = 1
	none("a broken tree", g, broken, at(1, "width"))
	l := grammarFrom(t, loops)
	y := treeOf(t, l, exampleTrees()[1])
	none("a cycle of circular attributes", l, y, at(1, "out"))
	sliceIs(t, l, y, at(3, "after"), at(2, "before"), at(3, "before"), at(3, "after"))
	c := grammarOf(t, circularLines()...)
	none("a cycle", c, treeOf(t, c, "(p (r (q)))"), at(1, "v"))
	sliceIs(t, c, treeOf(t, c, "(p (r (q)))"), at(3, "o"), at(3, "o"))
}

func TestIsIndependent(t *testing.T) {
	g := grammarFrom(t, boxes)
	x := treeOf(t, g, exampleTrees()[2])
	is := func(y impl.Instance, ids ...int) {
		t.Helper()
		for id := -1; id < 9; id++ {
			if got := impl.IsIndependent(g, x, y, id); got != slices.Contains(ids, id) {
				t.Errorf("IsIndependent(%v, %d) = %v", y, id, got)
			}
		}
	}
	is(at(1, "width"))
	is(at(2, "room"), 2, 3, 4, 5, 6)
	is(at(4, "room"), 4, 5, 6)
	is(at(5, "width"), 6)
	g = grammarFrom(t, declarations)
	x = treeOf(t, g, exampleTrees()[0])
	is(at(4, "env"), 4, 5, 6)
	is(at(5, "errs"), 1, 2, 3, 4, 6)
	// Every literal may be used by a contribution.
	is(at(4, "errs"))
	is(at(1, "decls"))
}
