package tests

import (
	"math"
	"strings"
	"testing"

	"loop.example/g00512/impl"
)

// TestExampleLanguages is promise 41.
func TestExampleLanguages(t *testing.T) {
	for i, text := range languages() {
		k := i + 1
		if got := impl.ExampleGrammar(k); got != text {
			t.Errorf("ExampleGrammar(%d) = %q; want %q", k, got, text)
		}
		if got := impl.ExampleTree(k); got != exampleTrees()[i] {
			t.Errorf("ExampleTree(%d) = %q", k, got)
		}
		g := grammarFrom(t, impl.ExampleGrammar(k))
		if code, at := impl.CheckGrammar(g); code != impl.GrOk || at != 0 || impl.FormatGrammar(g) != text {
			t.Errorf("language %d has the code %d at %d", k, code, at)
		}
		x := treeOf(t, g, impl.ExampleTree(k))
		if !impl.IsValidTree(g, x) {
			t.Errorf("the tree of language %d is not valid", k)
		}
		if values, code := impl.EvaluateTree(g, x); code != impl.EvOk || len(values) != len(impl.Instances(g, x)) {
			t.Errorf("the tree of language %d is not evaluated: %d", k, code)
		}
		if got := impl.RunExample(k); got != impl.ShowValues(g, x) || got == "" {
			t.Errorf("RunExample(%d) = %q", k, got)
		}
	}
}

func TestRunExample(t *testing.T) {
	for k, want := range map[int]string{
		1: "#1.errs = 1,#1.decls = {3},#2.env = #1,#2.errs = 1,#3.env = #1,#3.errs = 0,#4.env = #1,#4.errs = 0,#5.env = #1,#5.errs = 0,#6.env = #1,#6.errs = 1,",
		2: "#1.out = {1 2},#2.before = {},#2.after = {1 2},#3.before = {},#3.after = {1},#4.before = {1},#4.after = {1 2},#5.before = {1 2},#5.after = {2},#6.before = {1 2},#6.after = {2},#7.before = {2},#7.after = {2},",
		3: "#1.width = 10,#2.room = 10,#2.width = 10,#3.room = 10,#3.width = 4,#4.room = 6,#4.width = 6,#5.room = 6,#5.width = 5,#6.room = 1,#6.width = 1,",
	} {
		if got := impl.RunExample(k); got != strings.ReplaceAll(want, ",", "\n") {
			t.Errorf("RunExample(%d) = %q", k, got)
		}
	}
}

func TestNoExample(t *testing.T) {
	for _, k := range []int{0, 4, -1, 10, math.MaxInt, math.MinInt} {
		if g, x, text := impl.ExampleGrammar(k), impl.ExampleTree(k), impl.RunExample(k); g != "" || x != "" || text != "" {
			t.Errorf("example %d: %q, %q, %q", k, g, x, text)
		}
	}
}
