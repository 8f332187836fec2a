package tests

import (
	"math"
	"math/rand"
	"reflect"
	"strings"
	"testing"

	"loop.example/g00512/impl"
)

// listed has the functions of all chapters.
func listed() []any {
	return []any{
		impl.FormatInt, impl.ParseNumber, impl.ParseInt, impl.SplitByte, impl.Join,
		impl.IsReserved, impl.IsValidName, impl.IndexOf, impl.AllDistinct, impl.SortNames, impl.Without,
		impl.Saturate, impl.IsOfType, impl.Coerce, impl.OperandTypes, impl.ApplyOp, impl.FormatTyped, impl.ParseTyped,
		impl.CountExpr, impl.DepthOfExpr, impl.IsValidExpr, impl.EqualExpr, impl.AttributeUses, impl.HasRemote,
		impl.Tokenize, impl.FormatTokens, impl.IsWord, impl.ParseExpr, impl.LevelOf, impl.FormatExpr, impl.NormalizeExpr,
		impl.IsValidAttribute, impl.IsValidSymbol, impl.FindAttribute, impl.FormatSymbol, impl.ParseSymbol,
		impl.IsValidRule, impl.SymbolAt, impl.FindEquation, impl.FormatRule, impl.ParseRule, impl.EqualRule,
		impl.FindSymbol, impl.FindRule, impl.RulesOf, impl.FormatGrammar, impl.ParseGrammar, impl.EqualGrammar,
		impl.RequiredOccurrences, impl.MayUse, impl.CheckShape, impl.TypeOfExpr, impl.IsProductive, impl.CheckGrammar, impl.MinHeight,
		impl.IsTreeOf, impl.IsValidTree, impl.NodeIndex, impl.SymbolOfNode, impl.SubtreeSize, impl.EqualTree, impl.SameShape,
		impl.FormatTree, impl.ParseTree, impl.TreeHeight, impl.Subtree, impl.ReplaceSubtree, impl.ApplyEdit, impl.ApplyEdits,
		impl.Instances, impl.InstanceIndex, impl.AttributeOf, impl.FormatInstance,
		impl.DefinitionOf, impl.InstanceAt, impl.StaticInputs, impl.IsStatic,
		impl.InputTable, impl.TreeOrder, impl.TreeCycle, impl.DependsOn, impl.SlotValue, impl.EvalLocal, impl.ConstantValue,
		impl.SlotsFor, impl.NodeIds, impl.StaticRun, impl.IsSolution, impl.RunDemand, impl.RunAll, impl.ReadsOf,
		impl.EmptyRelation, impl.IsValidRelation, impl.HasPair, impl.AddPair, impl.UnionRelation, impl.CloseRelation, impl.HasLoop, impl.ProjectRelation, impl.EqualRelation,
		impl.PlainAttributes, impl.OccurrencesOf, impl.OccurrenceIndex, impl.LocalRelation, impl.PositionIndices,
		impl.ComposeRule, impl.SummaryOf, impl.Summaries, impl.IsCircular, impl.SummaryTree, impl.CircularTree,
		impl.UnionSummaries, impl.CircularRules, impl.IsAbsolutelyAcyclic, impl.InducedRelations, impl.PhasesOf, impl.SymbolPhases,
		impl.BuildPlan, impl.StepsOf, impl.FormatStep, impl.CheckRulePlan, impl.CheckPlan, impl.CountSteps, impl.TracePlan, impl.RunPlan,
		impl.LastUse, impl.AssignSlots, impl.CheckSlots, impl.RunSlots, impl.UsesAny, impl.IsMonotone, impl.CircularOccurrences, impl.IsWellFormed,
		impl.Components, impl.IsCyclicComponent, impl.FixpointRun, impl.IsFixpoint, impl.IsBelow,
		impl.HasCircular, impl.EvaluateTree, impl.ValueOf, impl.ShowValues, impl.SourceOf, impl.SameSource, impl.FindEntry, impl.MemoValues,
		impl.UpdateMemo, impl.FreshMemo, impl.SameResults, impl.EqualMemo, impl.IsJustified, impl.UnjustifiedOf, impl.ChangedValues, impl.AffectedBy,
		impl.IsValidStore, impl.InternTree, impl.ExpandCell, impl.SharedSize, impl.SliceOf, impl.SliceOwners, impl.ExplainValue, impl.IsIndependent,
		impl.ExampleGrammar, impl.ExampleTree, impl.RunExample, impl.EqualSession, impl.NewSession, impl.EditName, impl.ExecuteLine, impl.RunSession,
	}
}

// chaos makes arguments: parts of a grammar and of its trees, sometimes with damage.
type chaos struct {
	random *rand.Rand
	g      impl.Grammar
	x      impl.Tree
	damage bool
	// sources are the values whose parts become arguments.
	sources []any
}

func newChaos(t *testing.T, random *rand.Rand) *chaos {
	grammars := []impl.Grammar{randomGrammar(t, random, numbers()), randomGrammar(t, random, anything()), grammarFrom(t, languages()[random.Intn(3)])}
	c := &chaos{random: random, g: grammars[random.Intn(3)], damage: random.Intn(2) == 0}
	c.x = randomTree(random, c.g, symbolNames(c.g)[random.Intn(len(c.g.Symbols))])
	c.x = copyOf(reflect.ValueOf(c.x)).Interface().(impl.Tree)
	c.g = copyOf(reflect.ValueOf(c.g)).Interface().(impl.Grammar)
	if c.damage {
		for range 1 + random.Intn(3) {
			c.spoil(reflect.ValueOf(&c.g).Elem())
			c.spoil(reflect.ValueOf(&c.x).Elem())
		}
	}
	c.addSources()
	return c
}

func (c *chaos) addSources() {
	summaries, _ := impl.Summaries(c.g)
	phases, _ := impl.SymbolPhases(c.g)
	plans, _ := impl.BuildPlan(c.g)
	trace, _ := impl.TracePlan(c.g, plans, c.x)
	cells, _ := impl.AssignSlots(trace, nil)
	values, _ := impl.EvaluateTree(c.g, c.x)
	memo, _ := impl.FreshMemo(c.g, c.x)
	store, _ := impl.InternTree(impl.Store{}, c.x, 0)
	c.sources = []any{c.g, c.x, impl.Instances(c.g, c.x), summaries, phases, plans, trace, cells, values, memo, store, impl.InputTable(c.g, c.x)}
	c.sources = append(c.sources, impl.Session{Grammar: c.g, Tree: c.x, Memo: memo, Next: 1 + c.random.Intn(1000)})
}

func (c *chaos) number() int {
	return []int{-1, 0, 1, 2, 3, 4, 5, 7, 16, 17, 63, 64, 999, 1000, impl.MaxValue + 1, math.MaxInt, math.MinInt, c.random.Intn(20), c.random.Intn(20), c.random.Intn(1000)}[c.random.Intn(20)]
}

func (c *chaos) text() string {
	list := []string{"", "p", "q", "s", "t", "u", "width", "room", "a b", "ninechars", "lit", "\xff", "(", "a:syn:num", "1", "-5", "$1.p + 1", impl.FormatTree(c.g, c.x), impl.FormatGrammar(c.g), "symbol s p:syn:num"}
	if c.random.Intn(3) == 0 {
		list = []string{"load 1", "load 2\nupdate", "load 3\nset 3 5\nupdate\nvalues", "set 1 2", "swap 2 3", "update", "values", "show", "plan a", "value 1 p", "why 1 x", "check", "circular", "what", "tree " + impl.FormatTree(c.g, c.x), "replace 1 " + impl.FormatTree(c.g, c.x), strings.Repeat("\n", 40)}
	}
	return list[c.random.Intn(len(list))]
}

// spoil changes a random part of a value.
func (c *chaos) spoil(v reflect.Value) {
	switch v.Kind() {
	case reflect.Struct:
		c.spoil(v.Field(c.random.Intn(v.NumField())))
	case reflect.Int:
		v.SetInt(int64(c.number()))
	case reflect.String:
		v.SetString(c.text())
	case reflect.Bool:
		v.SetBool(!v.Bool())
	case reflect.Slice:
		switch n := v.Len(); {
		case n == 0 || c.random.Intn(12) == 0:
			v.Set(reflect.Append(v, reflect.Zero(v.Type().Elem())))
		case c.random.Intn(12) == 0:
			v.Set(v.Slice(0, n-1))
		case c.random.Intn(12) == 0:
			v.Set(reflect.Append(v, v.Index(c.random.Intn(n))))
		default:
			c.spoil(v.Index(c.random.Intn(n)))
		}
	}
}

// argument returns a value of a type, found in the grammar or the tree if there is one.
func (c *chaos) argument(kind reflect.Type) reflect.Value {
	var found []reflect.Value
	for _, from := range c.sources {
		collect(reflect.ValueOf(from), kind, &found)
	}
	v := reflect.New(kind).Elem()
	switch {
	case kind == reflect.TypeFor[impl.Edit]():
		v.Set(reflect.ValueOf(impl.Edit{Kind: c.random.Intn(5), Node: c.anyId(), Other: c.anyId(), Literal: c.number(), Tree: c.x}))
	case kind == reflect.TypeFor[impl.Slot]():
		v.Set(reflect.ValueOf(slot(c.random.Intn(4), c.text(), c.number())))
	case kind == reflect.TypeFor[impl.Relation]():
		v.Set(reflect.ValueOf(randomRelation(c.random, c.random.Intn(17))))
	case kind.Kind() == reflect.Int:
		v.SetInt(int64(c.number()))
	case kind.Kind() == reflect.Uint8:
		v.SetUint(uint64(c.random.Intn(256)))
	case kind.Kind() == reflect.String:
		v.SetString(c.text())
	case len(found) > 0:
		v.Set(found[c.random.Intn(len(found))])
	case kind.Kind() == reflect.Slice:
		for range c.random.Intn(5) {
			v.Set(reflect.Append(v, c.argument(kind.Elem())))
		}
	}
	v.Set(copyOf(v))
	if c.damage && c.random.Intn(3) == 0 {
		c.spoil(v)
		v.Set(copyOf(v))
	}
	return v
}

func (c *chaos) anyId() int {
	if len(c.x.Nodes) == 0 {
		return 1
	}
	return c.x.Nodes[c.random.Intn(len(c.x.Nodes))].Id
}

// collect appends the parts of a value that have a type.
func collect(v reflect.Value, kind reflect.Type, found *[]reflect.Value) {
	if v.Type() == kind {
		*found = append(*found, v)
	}
	switch v.Kind() {
	case reflect.Struct:
		for i := range v.NumField() {
			collect(v.Field(i), kind, found)
		}
	case reflect.Slice:
		for i := range v.Len() {
			collect(v.Index(i), kind, found)
		}
	}
}

// copyOf copies a value; its slices have unused capacity that is not zero.
func copyOf(v reflect.Value) reflect.Value {
	c := reflect.New(v.Type()).Elem()
	switch v.Kind() {
	case reflect.Struct:
		for i := range v.NumField() {
			c.Field(i).Set(copyOf(v.Field(i)))
		}
	case reflect.Slice:
		if v.Len() == 0 {
			return c
		}
		c.Set(reflect.MakeSlice(v.Type(), v.Len()+1, v.Len()+1))
		for i := range v.Len() {
			c.Index(i).Set(copyOf(v.Index(i)))
		}
		c.Index(v.Len()).Set(c.Index(0))
		return c.Slice(0, v.Len())
	default:
		c.Set(v)
	}
	return c
}

// memory appends the slices of a value that have elements, with their capacity.
func memory(v reflect.Value, slices *[]reflect.Value) {
	switch v.Kind() {
	case reflect.Struct:
		for i := range v.NumField() {
			memory(v.Field(i), slices)
		}
	case reflect.Slice:
		if v.Cap() > 0 && v.Type().Elem().Size() > 0 {
			*slices = append(*slices, v)
		}
		for i := range v.Len() {
			memory(v.Index(i), slices)
		}
	}
}

func overlap(a reflect.Value, b reflect.Value) bool {
	sizeA, sizeB := uintptr(a.Cap())*a.Type().Elem().Size(), uintptr(b.Cap())*b.Type().Elem().Size()
	return a.Pointer() < b.Pointer()+sizeB && b.Pointer() < a.Pointer()+sizeA
}

// sharesNothing: no two slices of the results overlap, and none overlaps one of the arguments.
func sharesNothing(results []reflect.Value, arguments []reflect.Value) bool {
	var own, given []reflect.Value
	for _, v := range results {
		memory(v, &own)
	}
	for _, v := range arguments {
		memory(v, &given)
	}
	for i, a := range own {
		for _, b := range append(own[:i:i], given...) {
			if overlap(a, b) {
				return false
			}
		}
	}
	return true
}

// equalWhole compares values, including the unused capacity of their slices.
func equalWhole(a reflect.Value, b reflect.Value) bool {
	switch a.Kind() {
	case reflect.Struct:
		for i := range a.NumField() {
			if !equalWhole(a.Field(i), b.Field(i)) {
				return false
			}
		}
		return true
	case reflect.Slice:
		if a.Len() != b.Len() || a.Cap() != b.Cap() {
			return false
		}
		for i := range a.Cap() {
			if !equalWhole(a.Slice(0, a.Cap()).Index(i), b.Slice(0, a.Cap()).Index(i)) {
				return false
			}
		}
		return true
	}
	return a.Interface() == b.Interface()
}

// TestFunctionsAreTotal calls all functions with all kinds of arguments: they end without a panic, give the same result
// again, change no argument and share no memory.
func TestFunctionsAreTotal(t *testing.T) {
	random := rand.New(rand.NewSource(43))
	for range 40 {
		c := newChaos(t, random)
		for _, f := range listed() {
			call := reflect.ValueOf(f)
			for range 2 {
				var arguments, before, copies []reflect.Value
				for i := range call.Type().NumIn() {
					v := c.argument(call.Type().In(i))
					arguments, before, copies = append(arguments, v), append(before, copyOf(v)), append(copies, copyOf(v))
				}
				results := call.Call(arguments)
				if !sharesNothing(results, arguments) {
					t.Fatalf("%v: the results %v share memory; arguments %v", call.Type(), results, arguments)
				}
				again := call.Call(before)
				for i := range arguments {
					if !equalWhole(arguments[i], copies[i]) {
						t.Fatalf("%v: argument %d is %v; it was %v", call.Type(), i, arguments[i], copies[i])
					}
				}
				for i := range results {
					if !reflect.DeepEqual(results[i].Interface(), again[i].Interface()) {
						t.Fatalf("%v: result %d is %v, then %v", call.Type(), i, results[i], again[i])
					}
				}
			}
		}
	}
}

// TestEndlessExpressions: a slice that is the Args of its own element has no end, but the functions do.
func TestEndlessExpressions(t *testing.T) {
	args := []impl.Expr{{Kind: impl.ExprOp, N: impl.OpUnion}, attr(0, "a")}
	args[0].Args = args
	e := impl.Expr{Kind: impl.ExprOp, N: impl.OpUnion, Args: args}
	if list := []impl.Occurrence{occurrence(0, "a")}; !impl.UsesAny(e, list) || impl.UsesAny(e, nil) || !impl.IsMonotone(e, nil) {
		t.Error("an endless expression")
	}
	g := grammarOf(t, "symbol s a:syn:set", "rule p s :", "eq $0.a := {}")
	x := treeOf(t, g, "(p)")
	g.Rules[0].Equations[0].Expr = e
	y := at(1, "a")
	trace := []impl.TraceStep{{At: y}}
	if v, ok := impl.RunSlots(g, x, trace, []int{0}, []impl.Instance{y}); !ok || !reflect.DeepEqual(v, []int{0}) {
		t.Errorf("RunSlots = %v, %v", v, ok)
	}
	phases := [][]impl.Phase{{{Synthesized: []string{"a"}}}}
	if impl.CheckRulePlan(g, phases, g.Rules[0], []impl.Step{stepEval(0, "a"), stepLeave(1)}) {
		t.Error("a uses itself")
	}
	if entry := impl.SourceOf(g, x, y); entry.Owner != 1 || entry.Rule != "p" {
		t.Errorf("SourceOf = %v", entry)
	}
	s := impl.Session{Grammar: g, Tree: x, Next: 2}
	for line, want := range map[string]string{"check": "1 0", "values": "no", "update": "no", "plan p": "no", "set 1 1": "bad", "show": "(p)", "hm": "what"} {
		if _, output := impl.ExecuteLine(s, line); output != want {
			t.Errorf("%q: %s; want %s", line, output, want)
		}
	}
}
