package tests

import (
	"math/rand"
	"reflect"
	"slices"
	"testing"

	"loop.example/g00512/impl"
)

// computer evaluates the equations of instances; it leaves the reading to others.
type computer struct {
	g        impl.Grammar
	x        impl.Tree
	read     func(y impl.Instance) int
	symbolOf func(id int) string
}

// reader evaluates instances on demand; open are those being computed, reads has what each one reads.
type reader struct {
	computer
	values map[impl.Instance]int
	open   []impl.Instance
	reads  map[impl.Instance][]impl.Instance
	cyclic bool
}

func newReader(g impl.Grammar, x impl.Tree) *reader {
	r := &reader{values: map[impl.Instance]int{}, reads: map[impl.Instance][]impl.Instance{}}
	r.computer = computer{g, x, r.readOnce, func(id int) string { return impl.SymbolOfNode(g, x, impl.NodeIndex(x, id)) }}
	return r
}

func (r *reader) readOnce(y impl.Instance) int {
	if len(r.open) > 0 {
		user := r.open[len(r.open)-1]
		r.reads[user] = append(r.reads[user], y)
	}
	if v, ok := r.values[y]; ok {
		return v
	}
	if slices.Contains(r.open, y) {
		r.cyclic = true
	}
	if r.cyclic {
		return 0
	}
	r.open = append(r.open, y)
	v := r.compute(y)
	r.open = r.open[:len(r.open)-1]
	r.values[y] = v
	return v
}

func (r *computer) compute(y impl.Instance) int {
	i := slices.IndexFunc(r.x.Nodes, func(n impl.Node) bool { return n.Id == y.Node })
	n := r.x.Nodes[i]
	rule, _ := impl.FindRule(r.g, n.Rule)
	s, _ := impl.FindSymbol(r.g, rule.Left)
	a, _ := impl.FindAttribute(s, y.Name)
	switch {
	case a.Mode == impl.ModeCollected:
		set := 0
		for k, m := range r.x.Nodes {
			from, _ := impl.FindRule(r.g, m.Rule)
			for _, c := range from.Contributions {
				if c.Symbol == s.Name && c.Name == y.Name && r.eval(k, c.Target) == y.Node {
					set |= r.eval(k, c.Value)
				}
			}
		}
		return set
	case a.Mode == impl.ModeSynthesized:
		e, _ := impl.FindEquation(rule, impl.Occurrence{Name: y.Name})
		return r.eval(i, e)
	case n.Parent < 0:
		return 0
	}
	above, _ := impl.FindRule(r.g, r.x.Nodes[n.Parent].Rule)
	e, _ := impl.FindEquation(above, impl.Occurrence{Pos: n.Place, Name: y.Name})
	return r.eval(n.Parent, e)
}

func (r *computer) eval(i int, e impl.Expr) int {
	n := r.x.Nodes[i]
	id := func(pos int) int {
		if pos == 0 {
			return n.Id
		}
		return r.x.Nodes[n.Children[pos-1]].Id
	}
	switch e.Kind {
	case impl.ExprLiteral:
		return n.Literal
	case impl.ExprAttr:
		return r.read(at(id(e.Pos), e.Name))
	case impl.ExprSelf:
		return id(e.Pos)
	case impl.ExprOp:
		left := r.eval(i, e.Args[0])
		right := r.eval(i, e.Args[1])
		return impl.ApplyOp(e.N, left, right)
	case impl.ExprIf:
		if r.eval(i, e.Args[0]) == 1 {
			return r.eval(i, e.Args[1])
		}
		return r.eval(i, e.Args[2])
	case impl.ExprRemote:
		to := r.eval(i, e.Args[0])
		if r.symbolOf(to) != e.Symbol {
			return 0
		}
		return r.read(at(to, e.Name))
	}
	return e.N
}

// wantDemand is the result of RunDemand for an accepted grammar and a tree.
func wantDemand(g impl.Grammar, x impl.Tree, wanted []impl.Instance) impl.Demand {
	r := newReader(g, x)
	list := impl.Instances(g, x)
	for _, y := range wanted {
		if slices.Contains(list, y) {
			r.read(y)
		}
	}
	if r.cyclic {
		return impl.Demand{Cyclic: true}
	}
	d := impl.Demand{Instances: list, Steps: len(r.values)}
	for _, y := range list {
		v, known := r.values[y]
		d.Values, d.Known = append(d.Values, v), append(d.Known, known)
	}
	return d
}

func equalDemand(a impl.Demand, b impl.Demand) bool {
	return slices.Equal(a.Instances, b.Instances) && slices.Equal(a.Values, b.Values) && slices.Equal(a.Known, b.Known) && a.Steps == b.Steps && a.Cyclic == b.Cyclic
}

func TestRandomDemand(t *testing.T) {
	random := rand.New(rand.NewSource(21))
	cyclic, count := 0, 0
	for _, g := range randomGrammars(t, random, 60, numbers(), anyTypes(), anything(), anything()) {
		for range 4 {
			x := randomTree(random, g, symbolNames(g)[random.Intn(len(g.Symbols))])
			list := impl.Instances(g, x)
			all := impl.RunAll(g, x)
			if want := wantDemand(g, x, list); !equalDemand(all, want) {
				t.Fatalf("RunAll = %v; want %v", all, want)
			}
			count++
			if all.Cyclic {
				cyclic++
			} else if all.Steps != len(list) || slices.Contains(all.Known, false) {
				t.Fatal("RunAll does not compute all instances")
			} else {
				valuesAreOfTheirTypes(t, g, x, all.Values)
			}
			agreesWithStatic(t, g, x, all)
			var wanted []impl.Instance
			for range random.Intn(4) {
				if len(list) > 0 {
					wanted = append(wanted, list[random.Intn(len(list))], at(random.Intn(1000), "p"))
				}
			}
			some := impl.RunDemand(g, x, wanted)
			if want := wantDemand(g, x, wanted); !equalDemand(some, want) {
				t.Fatalf("RunDemand(%v) = %v; want %v", wanted, some, want)
			}
			for _, y := range wanted {
				readsAreRight(t, g, x, y)
			}
		}
	}
	if cyclic < 20 || count-cyclic < 20 {
		t.Errorf("%d of %d evaluations are cyclic", cyclic, count)
	}
}

// agreesWithStatic is promise 21.
func agreesWithStatic(t *testing.T, g impl.Grammar, x impl.Tree, all impl.Demand) {
	t.Helper()
	if values, ok := impl.StaticRun(g, x); ok && !slices.Equal(values, all.Values) {
		t.Fatalf("RunAll has the values %v; StaticRun %v", all.Values, values)
	}
}

func readsAreRight(t *testing.T, g impl.Grammar, x impl.Tree, y impl.Instance) {
	t.Helper()
	var want []impl.Instance
	if r := newReader(g, x); impl.InstanceIndex(impl.Instances(g, x), y) >= 0 {
		r.read(y)
		if !r.cyclic {
			want = r.reads[y]
		}
	}
	if got := impl.ReadsOf(g, x, y); !slices.Equal(got, want) {
		t.Fatalf("ReadsOf(%v) = %v; want %v", y, got, want)
	}
}

func TestDemandOfDeclarations(t *testing.T) {
	g := grammarFrom(t, declarations)
	x := treeOf(t, g, exampleTrees()[0])
	all := impl.RunAll(g, x)
	if want := []int{1, 8, 1, 1, 1, 0, 1, 0, 1, 0, 1, 1}; !slices.Equal(all.Values, want) || all.Steps != 12 || all.Cyclic || !slices.Equal(all.Instances, impl.Instances(g, x)) {
		t.Errorf("RunAll = %v", all)
	}
	some := impl.RunDemand(g, x, []impl.Instance{at(4, "errs"), at(99, "errs"), at(4, "zz"), at(4, "errs")})
	known := []bool{false, true, true, false, true, false, true, true, true, false, false, false}
	if !slices.Equal(some.Known, known) || some.Steps != 6 || !slices.Equal(some.Values, []int{0, 8, 1, 0, 1, 0, 1, 0, 1, 0, 0, 0}) {
		t.Errorf("RunDemand = %v", some)
	}
	if got := impl.ReadsOf(g, x, at(4, "errs")); !slices.Equal(got, []impl.Instance{at(4, "env"), at(1, "decls")}) {
		t.Errorf("ReadsOf = %v", got)
	}
	if got := impl.ReadsOf(g, x, at(1, "decls")); !slices.Equal(got, []impl.Instance{at(5, "env")}) {
		t.Errorf("ReadsOf = %v", got)
	}
	if got := impl.ReadsOf(g, x, at(2, "env")); len(got) != 0 {
		t.Errorf("ReadsOf = %v", got)
	}
	// Two blocks cannot be nested here, but a tree of t has no block: env is 0, and no node has this Id.
	sub := impl.RunAll(g, impl.Subtree(x, 1))
	if !slices.Equal(sub.Values, []int{0, 2, 0, 1, 0, 1, 0, 0, 0, 1}) {
		t.Errorf("RunAll = %v", sub)
	}
}

func TestDemandOfNothing(t *testing.T) {
	g := grammarFrom(t, boxes)
	x := treeOf(t, g, exampleTrees()[2])
	for _, wanted := range [][]impl.Instance{nil, {at(7, "width"), at(1, "room"), {}}} {
		d := impl.RunDemand(g, x, wanted)
		if d.Steps != 0 || d.Cyclic || !slices.Equal(d.Values, make([]int, 11)) || slices.Contains(d.Known, true) || len(d.Known) != 11 || len(d.Instances) != 11 {
			t.Errorf("RunDemand(%v) = %v", wanted, d)
		}
	}
	bare := grammarOf(t, "symbol s", "rule p s :")
	if d := impl.RunAll(bare, treeOf(t, bare, "(p)")); !equalDemand(d, impl.Demand{}) {
		t.Errorf("RunAll without instances = %v", d)
	}
}

func TestDemandFails(t *testing.T) {
	g := grammarFrom(t, boxes)
	x := treeOf(t, g, exampleTrees()[2])
	zero := func(what string, g impl.Grammar, x impl.Tree) {
		t.Helper()
		for _, d := range []impl.Demand{impl.RunAll(g, x), impl.RunDemand(g, x, []impl.Instance{at(1, "width")}), impl.RunDemand(g, x, nil)} {
			if !equalDemand(d, impl.Demand{}) {
				t.Errorf("%s: %v", what, d)
			}
		}
		if got := impl.ReadsOf(g, x, at(1, "width")); len(got) != 0 {
			t.Errorf("%s: ReadsOf = %v", what, got)
		}
	}
	for _, wrong := range wrongGrammars(t) {
		zero("a grammar that is not accepted", wrong, x)
	}
	broken := cloneTree(x)
	broken.Nodes[2].Place = 3
	zero("no node", g, impl.Tree{})
	zero("a broken tree", g, broken)
	for _, y := range []impl.Instance{at(1, "room"), at(7, "width"), {}, at(-1, "width")} {
		if got := impl.ReadsOf(g, x, y); len(got) != 0 {
			t.Errorf("ReadsOf(%v) = %v", y, got)
		}
	}
}

// demandIs checks the value and the reads of an instance, or that its evaluation is cyclic if there are no values.
func demandIs(t *testing.T, g impl.Grammar, x impl.Tree, y impl.Instance, value int, reads ...impl.Instance) {
	t.Helper()
	d := impl.RunDemand(g, x, []impl.Instance{y})
	i := impl.InstanceIndex(d.Instances, y)
	if i < 0 || !d.Known[i] || d.Values[i] != value {
		t.Errorf("%v: %v; want %d", y, d, value)
	}
	if got := impl.ReadsOf(g, x, y); !slices.Equal(got, reads) {
		t.Errorf("ReadsOf(%v) = %v; want %v", y, got, reads)
	}
}

func cyclicIs(t *testing.T, g impl.Grammar, x impl.Tree, y impl.Instance) {
	t.Helper()
	if d := impl.RunDemand(g, x, []impl.Instance{y}); !reflect.DeepEqual(d, impl.Demand{Cyclic: true}) || len(impl.ReadsOf(g, x, y)) != 0 {
		t.Errorf("RunDemand(%v) = %v; it is cyclic", y, d)
	}
}

// TestChosenArguments: what is not chosen is not read, so that there may be no cycle.
func TestChosenArguments(t *testing.T) {
	g := grammarOf(t, "symbol s a:syn:num b:syn:num c:syn:num", "symbol t i:inh:num x:syn:num y:syn:num",
		"rule p s : t lit", "eq $0.a := if lit < 5 then $1.x else 7", "eq $0.b := if $1.y < 1 then $1.y + $1.y else $1.x", "eq $0.c := $1.x * 0",
		"eq $1.i := if 10 < lit then lit else $1.x",
		"rule q t :", "eq $0.x := $0.i", "eq $0.y := 0")
	low, mid, high := treeOf(t, g, "(p 3 (q))"), treeOf(t, g, "(p 7 (q))"), treeOf(t, g, "(p 11 (q))")
	cyclicIs(t, g, low, at(1, "a"))
	demandIs(t, g, mid, at(1, "a"), 7)
	demandIs(t, g, mid, at(1, "b"), 0, at(2, "y"), at(2, "y"), at(2, "y"))
	cyclicIs(t, g, mid, at(1, "c"))
	cyclicIs(t, g, mid, at(2, "i"))
	cyclicIs(t, g, mid, at(2, "x"))
	demandIs(t, g, high, at(2, "x"), 11, at(2, "i"))
	demandIs(t, g, high, at(1, "c"), 0, at(2, "x"))
	if d := impl.RunAll(g, mid); !reflect.DeepEqual(d, impl.Demand{Cyclic: true}) {
		t.Errorf("RunAll = %v", d)
	}
	if d := impl.RunAll(g, high); d.Steps != 6 || d.Cyclic {
		t.Errorf("RunAll = %v", d)
	}
	// What precedes a cycle does not matter.
	if d := impl.RunDemand(g, mid, []impl.Instance{at(1, "a"), at(1, "b"), at(1, "c")}); !reflect.DeepEqual(d, impl.Demand{Cyclic: true}) {
		t.Errorf("RunDemand = %v", d)
	}
	if d := impl.RunDemand(g, mid, []impl.Instance{at(1, "b"), at(1, "a")}); d.Steps != 3 || d.Cyclic {
		t.Errorf("RunDemand = %v", d)
	}
}

// TestRemoteAttributes: the argument may be no node, a node of another symbol or any node of the tree.
func TestRemoteAttributes(t *testing.T) {
	g := grammarOf(t, "symbol s a:syn:num b:syn:num n:syn:node", "symbol t up:inh:node v:syn:num w:syn:num",
		"rule p s : t t", "eq $0.a := t.w of self(2) * 10 + t.w of self(1)", "eq $0.b := s.a of self(1) + t.v of self(0) + t.v of none", "eq $0.n := t.up of t.up of self(1)", "eq $1.up := self(2)", "eq $2.up := self(0)",
		"rule q t : lit", "eq $0.v := s.a of $0.up", "eq $0.w := lit + t.w of $0.up")
	x := treeOf(t, g, "(p (q 1) (q 2))")
	demandIs(t, g, x, at(1, "a"), 23, at(3, "w"), at(2, "w"))
	demandIs(t, g, x, at(1, "b"), 0)
	demandIs(t, g, x, at(1, "n"), 1, at(2, "up"), at(3, "up"))
	demandIs(t, g, x, at(2, "v"), 0, at(2, "up"))
	demandIs(t, g, x, at(3, "v"), 23, at(3, "up"), at(1, "a"))
	demandIs(t, g, x, at(2, "w"), 3, at(2, "up"), at(3, "w"))
	demandIs(t, g, x, at(3, "w"), 2, at(3, "up"))
	if d := impl.RunAll(g, x); d.Steps != 9 {
		t.Errorf("RunAll = %v", d)
	}
	// Node 3 is the second child, also if the Ids have another order.
	y := cloneTree(x)
	y.Nodes[0].Id, y.Nodes[2].Id = 3, 1
	demandIs(t, g, y, at(3, "a"), 23, at(1, "w"), at(2, "w"))
}

// TestCollectedAttributes: contributions to other nodes, to another symbol and to no node do not count.
func TestCollectedAttributes(t *testing.T) {
	g := grammarOf(t, "symbol s all:col:set few:col:set", "symbol t up:inh:node own:col:set k:syn:set",
		"rule p s : t t", "eq $1.up := self(0)", "eq $2.up := self(1)", "put s.all of self(0) := {0}", "put t.own of self(2) := s.all of self(0)",
		"rule q t : lit", "eq $0.k := t.own of self(0)", "put s.all of $0.up := with({}, lit)", "put t.own of $0.up := with({10}, lit)",
		"rule r t : s", "eq $0.k := s.all of self(1)", "put s.few of none := {1}")
	x := treeOf(t, g, "(p (q 1) (q 2))")
	demandIs(t, g, x, at(1, "all"), 1|2, at(2, "up"), at(3, "up"))
	demandIs(t, g, x, at(1, "few"), 0)
	demandIs(t, g, x, at(2, "own"), 1<<10|4, at(2, "up"), at(3, "up"))
	demandIs(t, g, x, at(3, "own"), 1|2, at(1, "all"), at(2, "up"), at(3, "up"))
	demandIs(t, g, x, at(3, "k"), 3, at(3, "own"))
	nested := treeOf(t, g, "(p (r (p (q 5) (q 6))) (q 20))")
	demandIs(t, g, nested, at(1, "all"), 1, at(4, "up"), at(5, "up"), at(6, "up"))
	demandIs(t, g, nested, at(3, "all"), 1|1<<5, at(4, "up"), at(5, "up"), at(6, "up"))
	demandIs(t, g, nested, at(2, "own"), 1<<10, at(4, "up"), at(5, "up"), at(6, "up"))
	demandIs(t, g, nested, at(2, "k"), 1|1<<5, at(3, "all"))
	loop := grammarOf(t, "symbol s all:col:set", "rule p s :", "put s.all of self(0) := s.all of self(0)", "rule q s : s", "put s.all of self(1) := {1}", "rule r s : s", "put s.all of if has(s.all of self(1), 1) then self(0) else none := {2}")
	cyclicIs(t, loop, treeOf(t, loop, "(p)"), at(1, "all"))
	cyclicIs(t, loop, treeOf(t, loop, "(q (p))"), at(2, "all"))
	// The target of a contribution is evaluated for every collected instance of the symbol and the name.
	cyclicIs(t, loop, treeOf(t, loop, "(r (q (p)))"), at(2, "all"))
}

// TestOnlyTheTargetIsEvaluated: the value of a contribution to another node is not read.
func TestOnlyTheTargetIsEvaluated(t *testing.T) {
	g := grammarOf(t, "symbol s c:col:set v:syn:set", "rule p s : s", "eq $0.v := s.c of self(1)", "put s.c of self(0) := $1.v", "rule q s :", "eq $0.v := {3}")
	x := treeOf(t, g, "(p (p (q)))")
	demandIs(t, g, x, at(3, "c"), 0)
	demandIs(t, g, x, at(2, "c"), 8, at(3, "v"))
	demandIs(t, g, x, at(2, "v"), 0, at(3, "c"))
	demandIs(t, g, x, at(1, "c"), 0, at(2, "v"))
	demandIs(t, g, x, at(1, "v"), 8, at(2, "c"))
}

// TestRepeatedReads: a value is kept, but every use of it is a read, from left to right.
func TestRepeatedReads(t *testing.T) {
	g := grammarOf(t, "symbol s a:syn:num", "symbol t b:syn:num c:syn:num", "rule p s : t t", "eq $0.a := $2.c - $1.b * $2.c + (if $1.b < $1.c then $2.b else $1.b)", "rule q t : lit", "eq $0.b := lit", "eq $0.c := $0.b", "rule r t : t", "eq $0.b := $1.c + $1.c", "eq $0.c := $1.b")
	g.Rules[1].Equations[1].Expr = literal()
	x := treeOf(t, g, "(p (q 2) (r (q 3)))")
	demandIs(t, g, x, at(1, "a"), 3-2*3+2, at(3, "c"), at(2, "b"), at(3, "c"), at(2, "b"), at(2, "c"), at(2, "b"))
	demandIs(t, g, x, at(3, "b"), 6, at(4, "c"), at(4, "c"))
	if d := impl.RunDemand(g, x, []impl.Instance{at(3, "b"), at(3, "b")}); d.Steps != 2 {
		t.Errorf("an instance is computed twice: %v", d)
	}
}

func TestCircularAttributesOnDemand(t *testing.T) {
	g := grammarFrom(t, loops)
	cyclicIs(t, g, treeOf(t, g, exampleTrees()[1]), at(1, "out"))
	x := treeOf(t, g, "(main (seq (gen 1) (seq (kill 1) (gen 2))))")
	demandIs(t, g, x, at(1, "out"), 4, at(2, "after"))
}
