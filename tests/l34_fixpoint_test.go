package tests

import (
	"math/rand"
	"reflect"
	"slices"
	"testing"

	"loop.example/g00512/impl"
)

// circularSets is the style of grammars that have only circular attributes.
func circularSets() style {
	return style{types: []int{impl.TypeSet}, circular: true, weight: 8}
}

// wellFormed makes a random grammar whose circular attributes have monotone equations. With all, all its attributes are
// circular.
func wellFormed(t *testing.T, random *rand.Rand, s style, all bool) impl.Grammar {
	t.Helper()
	m := &maker{random: random, style: s, g: randomGrammar(t, random, s)}
	for _, s := range m.g.Symbols {
		for i := range s.Attributes {
			s.Attributes[i].Circular = s.Attributes[i].Circular || all
		}
	}
	for _, r := range m.g.Rules {
		circular := impl.CircularOccurrences(m.g, r)
		for i, q := range r.Equations {
			for slices.Contains(circular, q.At) && !wantMonotone(r.Equations[i].Expr, circular) {
				r.Equations[i].Expr = m.expr(r, impl.TypeSet)
			}
		}
	}
	if !impl.IsWellFormed(m.g) {
		t.Fatalf("a random grammar is not well-formed: %s", impl.FormatGrammar(m.g))
	}
	return m.g
}

func isCircular(g impl.Grammar, x impl.Tree, y impl.Instance) bool {
	a, _ := impl.AttributeOf(g, x, y)
	return a.Circular
}

// wantFixRun evaluates the components of a tree of a well-formed grammar one after the other.
func wantFixRun(g impl.Grammar, x impl.Tree) impl.FixRun {
	list := impl.Instances(g, x)
	inputs := wantInputs(g, x)
	run := impl.FixRun{Values: make([]int, len(list)), Ok: true}
	for _, component := range wantComponents(inputs) {
		cyclic := len(component) > 1 || slices.Contains(inputs[component[0]], component[0])
		for {
			before := slices.Clone(run.Values)
			for _, i := range component {
				if cyclic && !isCircular(g, x, list[i]) {
					return impl.FixRun{}
				}
				run.Values[i] = wantDefined(g, x, list, run.Values, list[i])
			}
			if !cyclic {
				break
			}
			run.Rounds++
			if slices.Equal(run.Values, before) {
				break
			}
		}
	}
	return run
}

func equalRun(a impl.FixRun, b impl.FixRun) bool {
	return a.Ok == b.Ok && a.Rounds == b.Rounds && slices.Equal(a.Values, b.Values)
}

// risen adds elements to circular instances and evaluates all instances until nothing changes.
func risen(random *rand.Rand, g impl.Grammar, x impl.Tree, values []int) ([]int, bool) {
	values = slices.Clone(values)
	list := impl.Instances(g, x)
	for i, y := range list {
		if isCircular(g, x, y) && random.Intn(3) > 0 {
			values[i] |= random.Intn(1<<12) & random.Intn(1<<12)
		}
	}
	for range 15 {
		if next, ok := settle(g, x, values); ok {
			return next, true
		}
		for i, y := range list {
			values[i] = wantDefined(g, x, list, values, y)
		}
	}
	return nil, false
}

// TestLeastSolutions is promise 34.
func TestLeastSolutions(t *testing.T) {
	random := rand.New(rand.NewSource(34))
	cyclic, failed, greater := 0, 0, 0
	for n := range 250 {
		g := grammarFrom(t, loops)
		switch n % 5 {
		case 0, 1:
			g = wellFormed(t, random, sets(), false)
		case 2, 3:
			g = wellFormed(t, random, circularSets(), true)
		}
		for range 3 {
			x := randomTree(random, g, symbolNames(g)[random.Intn(len(g.Symbols))])
			run := impl.FixpointRun(g, x)
			if want := wantFixRun(g, x); !equalRun(run, want) {
				t.Fatalf("FixpointRun = %v; want %v: %s of %s", run, want, impl.FormatTree(g, x), impl.FormatGrammar(g))
			}
			if !run.Ok {
				failed++
				continue
			}
			list := impl.Instances(g, x)
			if len(list) > 0 && !impl.IsFixpoint(g, x, run.Values) {
				t.Fatal("the values are not those of the equations")
			}
			if run.Rounds > 0 {
				cyclic++
			}
			valuesAreOfTheirTypes(t, g, x, run.Values)
			// Here all attributes are circular, or no circular one depends on the others.
			if n%5 > 1 && len(list) > 0 {
				greater += areLeast(t, random, g, x, run.Values)
			}
		}
	}
	if cyclic < 60 || failed < 10 || greater < 50 {
		t.Errorf("%d trees with cycles, %d that fail; %d other solutions", cyclic, failed, greater)
	}
}

// areLeast compares values with other solutions, and returns the number of those that differ.
func areLeast(t *testing.T, random *rand.Rand, g impl.Grammar, x impl.Tree, values []int) (greater int) {
	t.Helper()
	for range 4 {
		other, ok := risen(random, g, x, values)
		if !ok {
			continue
		}
		if !impl.IsFixpoint(g, x, other) {
			t.Fatalf("%v is another solution", other)
		}
		for i, y := range impl.Instances(g, x) {
			if isCircular(g, x, y) && !isSubset(values[i], other[i]) {
				t.Fatalf("%v is not the least solution; another one is %v", values, other)
			}
		}
		if !slices.Equal(other, values) {
			greater++
		}
	}
	return greater
}

func wantFixpoint(g impl.Grammar, x impl.Tree, values []int) bool {
	list := impl.Instances(g, x)
	if !impl.IsWellFormed(g) || len(list) == 0 || len(values) != len(list) {
		return false
	}
	for i, y := range list {
		if values[i] != wantDefined(g, x, list, values, y) {
			return false
		}
	}
	return true
}

func wantBelow(g impl.Grammar, x impl.Tree, a []int, b []int) bool {
	for i, y := range impl.Instances(g, x) {
		if isCircular(g, x, y) && !isSubset(a[i], b[i]) || !isCircular(g, x, y) && a[i] != b[i] {
			return false
		}
	}
	return true
}

// TestRandomSolutions changes solutions.
func TestRandomSolutions(t *testing.T) {
	random := rand.New(rand.NewSource(341))
	solutions, below := map[bool]int{}, map[bool]int{}
	for n := range 150 {
		g := wellFormed(t, random, []style{sets(), circularSets()}[n%2], n%2 == 1)
		x := randomTree(random, g, symbolNames(g)[random.Intn(len(g.Symbols))])
		run := impl.FixpointRun(g, x)
		for range 10 {
			if len(run.Values) == 0 {
				break
			}
			a, b := slices.Clone(run.Values), slices.Clone(run.Values)
			for range random.Intn(3) {
				i, bit := random.Intn(len(a)), 1<<random.Intn(12)
				a[i], b[i] = a[i]^bit, b[i]|random.Intn(2)*bit
				a[random.Intn(len(a))] |= random.Intn(2)
			}
			got := impl.IsFixpoint(g, x, a)
			if got != wantFixpoint(g, x, a) {
				t.Fatalf("IsFixpoint(%v) = %v", a, got)
			}
			solutions[got]++
			got = impl.IsBelow(g, x, a, b)
			if got != wantBelow(g, x, a, b) {
				t.Fatalf("IsBelow(%v, %v) = %v", a, b, got)
			}
			below[got]++
		}
	}
	if min(solutions[true], solutions[false], below[true], below[false]) < 50 {
		t.Error(solutions, below)
	}
}

func runIs(t *testing.T, g impl.Grammar, x impl.Tree, rounds int, want ...int) {
	t.Helper()
	if run := impl.FixpointRun(g, x); !equalRun(run, impl.FixRun{Values: want, Rounds: rounds, Ok: true}) {
		t.Errorf("FixpointRun = %v; want %v in %d rounds", run, want, rounds)
	}
}

func runIsZero(t *testing.T, what string, g impl.Grammar, x impl.Tree) {
	t.Helper()
	if run := impl.FixpointRun(g, x); run.Ok || run.Rounds != 0 || len(run.Values) != 0 {
		t.Errorf("%s: FixpointRun = %v", what, run)
	}
}

func TestFixpointRun(t *testing.T) {
	g := grammarFrom(t, loops)
	// out; before and after of the first seq, gen, the loop, the second seq, kill, gen.
	runIs(t, g, treeOf(t, g, exampleTrees()[1]), 4, 6, 0, 6, 0, 2, 2, 6, 6, 4, 6, 4, 4, 4)
	runIs(t, g, treeOf(t, g, "(main (seq (gen 1) (kill 2)))"), 0, 2, 0, 2, 0, 2, 2, 2)
	runIs(t, g, treeOf(t, g, "(main (loop (gen 0)))"), 3, 1, 0, 1, 1, 1)
	// The root of a subtree has the value 0 for what it inherits.
	runIs(t, g, treeOf(t, g, "(loop (kill 3))"), 1, 0, 0, 0, 0)
	runIs(t, g, treeOf(t, g, "(gen 3)"), 0, 0, 8)
	b := grammarFrom(t, boxes)
	runIs(t, b, treeOf(t, b, exampleTrees()[2]), 0, 10, 10, 10, 10, 4, 6, 6, 6, 5, 1, 1)
	bare := grammarOf(t, "symbol s", "rule p s :")
	runIs(t, bare, treeOf(t, bare, "(p)"), 0)
}

// TestFixpointRounds: a value that is computed before another one in a round needs one more round.
func TestFixpointRounds(t *testing.T) {
	head := []string{"symbol s a:syn:set! b:syn:set! c:syn:set!", "symbol t i:inh:set! x:syn:set!", "rule q t :", "eq $0.x := $0.i", "rule p s : t"}
	with := func(a string, b string, c string, i string) (impl.Grammar, impl.Tree) {
		g := grammarOf(t, append(slices.Clone(head), "eq $0.a := "+a, "eq $0.b := "+b, "eq $0.c := "+c, "eq $1.i := "+i)...)
		return g, treeOf(t, g, "(p (q))")
	}
	g, x := with("{1}", "{2}", "{3}", "$1.x | {5}")
	runIs(t, g, x, 2, 2, 4, 8, 32, 32)
	g, x = with("$1.x", "$1.x", "$1.x", "$1.x")
	runIs(t, g, x, 1, 0, 0, 0, 0, 0)
	g, x = with("$1.x & {5}", "$1.x \\ {5}", "with($1.x, 1)", "if true then $1.x | {5 6} else {}")
	runIs(t, g, x, 2, 32, 64, 98, 96, 96)
	// Two components: their rounds are added.
	g = grammarOf(t, append(slices.Clone(head[:4]), "rule p s : t t", "eq $0.a := $2.x", "eq $0.b := {}", "eq $0.c := {}", "eq $1.i := $1.x | {1}", "eq $2.i := $2.x | $1.x | {2}")...)
	runIs(t, g, treeOf(t, g, "(p (q) (q))"), 4, 6, 0, 0, 2, 2, 6, 6)
	// y, the last one, is known in the first round; then i and x, and then j.
	g = grammarOf(t, "symbol s v:syn:set", "symbol t i:inh:set! j:inh:set! x:syn:set! y:syn:set!", "rule p s : t", "eq $0.v := $1.x", "eq $1.i := $1.y", "eq $1.j := $1.x", "rule q t : lit", "eq $0.x := $0.i", "eq $0.y := with($0.j, lit)")
	runIs(t, g, treeOf(t, g, "(p (q 7))"), 4, 128, 128, 128, 128, 128)
}

// TestCyclesOfOtherAttributes: all attributes of a cycle must be circular.
func TestCyclesOfOtherAttributes(t *testing.T) {
	head := []string{"symbol s v:syn:set", "symbol t i:inh:set! j:inh:set x:syn:set! y:syn:set", "rule q t :", "eq $0.x := $0.i", "eq $0.y := $0.j", "rule p s : t"}
	with := func(i string, j string) (impl.Grammar, impl.Tree) {
		g := grammarOf(t, append(slices.Clone(head), "eq $0.v := $1.y", "eq $1.i := "+i, "eq $1.j := "+j)...)
		if !impl.IsWellFormed(g) {
			t.Errorf("the grammar with %s and %s is well-formed", i, j)
		}
		return g, treeOf(t, g, "(p (q))")
	}
	g, x := with("$1.x | {1}", "{1 2} \\ $1.x")
	runIs(t, g, x, 2, 4, 2, 4, 2, 4)
	g, x = with("{1} \\ $1.y", "{2}")
	runIs(t, g, x, 0, 4, 2, 4, 2, 4)
	g, x = with("{1}", "$1.y")
	runIsZero(t, "a cycle of others", g, x)
	runIs(t, g, treeOf(t, g, "(q)"), 0, 0, 0, 0, 0)
	// i and x are circular, but j and y are on the cycle, too.
	g = grammarOf(t, append(slices.Clone(head[:2]), "rule q t :", "eq $0.x := $0.j", "eq $0.y := $0.i", "rule r t :", "eq $0.x := $0.i", "eq $0.y := $0.j", "rule p s : t", "eq $0.v := $1.y", "eq $1.i := $1.x", "eq $1.j := $1.y")...)
	runIsZero(t, "a cycle with others", g, treeOf(t, g, "(p (q))"))
	runIsZero(t, "two cycles", g, treeOf(t, g, "(p (r))"))
	// An attribute that is its own input.
	g = grammarOf(t, "symbol s a:syn:num", "symbol t x:syn:num", "rule p s : t", "eq $0.a := $1.x", "rule q t : t", "eq $0.x := $1.x", "rule r t :", "eq $0.x := 2")
	runIs(t, g, treeOf(t, g, "(p (q (r)))"), 0, 2, 2, 2)
}

func TestFixpointRunFails(t *testing.T) {
	g := grammarFrom(t, loops)
	x := treeOf(t, g, exampleTrees()[1])
	for _, wrong := range wrongGrammars(t) {
		runIsZero(t, "a grammar that is not accepted", wrong, treeOf(t, grammarFrom(t, boxes), exampleTrees()[2]))
	}
	c := grammarFrom(t, declarations)
	runIsZero(t, "a grammar with collected attributes", c, treeOf(t, c, exampleTrees()[0]))
	runIsZero(t, "another grammar", grammarFrom(t, boxes), x)
	runIsZero(t, "no node", g, impl.Tree{})
	broken := cloneTree(x)
	broken.Nodes[3].Id = 1
	runIsZero(t, "a broken tree", g, broken)
	g.Rules[3].Equations[0].Expr = op(impl.OpMinus, setOf(3), attr(0, "before"))
	runIsZero(t, "an equation that is not monotone", g, x)
	if impl.IsFixpoint(g, x, make([]int, 13)) {
		t.Error("a grammar that is not well-formed has no solutions")
	}
}

func TestIsFixpoint(t *testing.T) {
	g := grammarFrom(t, loops)
	x := treeOf(t, g, "(main (loop (gen 0)))")
	is := func(want bool, values ...int) {
		t.Helper()
		if got := impl.IsFixpoint(g, x, values); got != want {
			t.Errorf("IsFixpoint(%v) = %v", values, got)
		}
	}
	is(true, 1, 0, 1, 1, 1)
	is(true, 5, 0, 5, 5, 5)
	is(true, 4095, 0, 4095, 4095, 4095)
	is(false, 1, 1, 1, 1, 1)
	is(false, 0, 0, 0, 0, 0)
	is(false, 0, 0, 1, 1, 1)
	is(false, 1, 0, 1, 0, 1)
	is(false, 4, 0, 4, 4, 4)
	is(false, 1, 0, 1, 1)
	is(false, 1, 0, 1, 1, 1, 0)
	is(false)
	bare := grammarOf(t, "symbol s", "rule p s :")
	if impl.IsFixpoint(bare, treeOf(t, bare, "(p)"), nil) || impl.IsFixpoint(g, impl.Tree{}, nil) || impl.IsFixpoint(impl.Grammar{}, x, nil) {
		t.Error("without instances, there are no values")
	}
	b := grammarFrom(t, boxes)
	if y := treeOf(t, b, "(page 3 (box 4))"); !impl.IsFixpoint(b, y, []int{3, 3, 3}) || impl.IsFixpoint(b, y, []int{4, 3, 3}) {
		t.Error("a grammar without circular attributes")
	}
	// A value that is no set is not the result of a union, but a copy of it is equal.
	is(false, 1<<13, 0, 1<<13, 1<<13, 1<<13)
}

func TestIsBelow(t *testing.T) {
	g := grammarFrom(t, loops)
	x := treeOf(t, g, "(main (gen 0))")
	is := func(want bool, a []int, b []int) {
		t.Helper()
		if got := impl.IsBelow(g, x, a, b); got != want {
			t.Errorf("IsBelow(%v, %v) = %v", a, b, got)
		}
	}
	is(true, []int{1, 2, 3}, []int{1, 2, 3})
	is(true, []int{1, 0, 3}, []int{1, 2, 7})
	is(false, []int{1, 2, 7}, []int{1, 2, 3})
	is(false, []int{1, 4, 3}, []int{1, 2, 3})
	is(false, []int{0, 2, 3}, []int{1, 2, 3})
	is(false, []int{3, 2, 3}, []int{1, 2, 3})
	is(false, []int{1, 2, 3}, []int{1, 2})
	is(false, []int{1, 2}, []int{1, 2, 3})
	is(false, []int{1, 2}, []int{1, 2})
	is(false, []int{1, 2, 3, 4}, []int{1, 2, 3, 4})
	is(false, nil, nil)
	// Neither the equations nor the other attributes need to fit.
	b := grammarFrom(t, boxes)
	if y := treeOf(t, b, "(page 3 (box 4))"); !impl.IsBelow(b, y, []int{9, -9, 2}, []int{9, -9, 2}) || impl.IsBelow(b, y, []int{9, -9, 2}, []int{9, -9, 3}) {
		t.Error("a grammar without circular attributes")
	}
	if !impl.IsBelow(g, impl.Tree{}, nil, nil) || impl.IsBelow(g, impl.Tree{}, []int{1}, []int{1}) {
		t.Error("no tree has no instances")
	}
	if got := impl.FixpointRun(g, x); !reflect.DeepEqual(got, impl.FixRun{Values: []int{1, 0, 1}, Ok: true}) {
		t.Errorf("FixpointRun = %v", got)
	}
}
