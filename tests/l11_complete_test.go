package tests

import (
	"fmt"
	"slices"
	"strings"
	"testing"

	"loop.example/g00512/impl"
)

func TestConstantsOfChecks(t *testing.T) {
	got := []int{impl.GrOk, impl.GrShape, impl.GrStart, impl.GrSymbol, impl.GrMissing, impl.GrExtra, impl.GrUse, impl.GrType, impl.GrEmpty}
	if want := upTo(9); !slices.Equal(got, want) {
		t.Errorf("constants: %v; want %v", got, want)
	}
}

// mixed has every mode, in an order that is not that of the modes.
func mixed(t *testing.T) impl.Grammar {
	return grammarOf(t, "symbol s c:col:set b:syn:num i:inh:num a:syn:set", "symbol t x:inh:set! y:syn:num z:inh:num w:col:set", "rule p s : t z t", "rule q t :")
}

func TestRequiredOccurrences(t *testing.T) {
	g := mixed(t)
	find := func(name string) impl.Rule {
		r, _ := impl.FindRule(g, name)
		return r
	}
	cases := []struct {
		g    impl.Grammar
		r    impl.Rule
		want []impl.Occurrence
	}{
		{g, find("p"), []impl.Occurrence{{Pos: 0, Name: "b"}, {Pos: 0, Name: "a"}, {Pos: 1, Name: "x"}, {Pos: 1, Name: "z"}, {Pos: 3, Name: "x"}, {Pos: 3, Name: "z"}}},
		{g, find("q"), []impl.Occurrence{{Pos: 0, Name: "y"}}},
		{g, impl.Rule{Left: "z", Right: []string{"s"}}, []impl.Occurrence{{Pos: 1, Name: "i"}}}, {g, impl.Rule{Left: "z"}, nil}, {g, impl.Rule{}, nil}, {impl.Grammar{}, find("p"), nil},
		{g, impl.Rule{Left: "z", Right: []string{"z", "z", "z", "z", "t"}}, []impl.Occurrence{{Pos: 5, Name: "x"}, {Pos: 5, Name: "z"}}},
		// A symbol without a name is not that of a position after the last one.
		{impl.Grammar{Symbols: []impl.Symbol{{Attributes: []impl.Attribute{{Name: "i", Type: 1, Mode: impl.ModeInherited}}}}}, impl.Rule{Left: "z", Right: []string{"z"}}, nil},
		// The first one of several symbols with the same name counts.
		{impl.Grammar{Symbols: append([]impl.Symbol{{Name: "s", Attributes: []impl.Attribute{plain("k")}}}, g.Symbols...)}, impl.Rule{Left: "s"}, []impl.Occurrence{{Pos: 0, Name: "k"}}},
	}
	for i, c := range cases {
		if got := impl.RequiredOccurrences(c.g, c.r); !slices.Equal(got, c.want) {
			t.Errorf("case %d: %v; want %v", i, got, c.want)
		}
	}
}

func TestMayUse(t *testing.T) {
	g := mixed(t)
	r, _ := impl.FindRule(g, "p")
	allowed := []impl.Occurrence{{Pos: 0, Name: "i"}, {Pos: 1, Name: "y"}, {Pos: 3, Name: "y"}}
	for pos := -2; pos <= 5; pos++ {
		for _, name := range []string{"a", "b", "c", "i", "x", "y", "z", "w", "", "k"} {
			o := impl.Occurrence{Pos: pos, Name: name}
			if got := impl.MayUse(g, r, o); got != slices.Contains(allowed, o) {
				t.Errorf("MayUse(%v) = %v", o, got)
			}
		}
	}
	if impl.MayUse(impl.Grammar{}, r, impl.Occurrence{Name: "i"}) {
		t.Error("MayUse without symbols")
	}
	// A symbol without a name is not that of a position that does not exist.
	nameless := impl.Grammar{Symbols: []impl.Symbol{{Attributes: []impl.Attribute{{Name: "i", Type: 1, Mode: impl.ModeSynthesized}}}}}
	for _, pos := range []int{-1, 1, 2} {
		if impl.MayUse(nameless, impl.Rule{}, impl.Occurrence{Pos: pos, Name: "i"}) {
			t.Errorf("MayUse at position %d of a rule without children", pos)
		}
	}
}

func shapeIs(t *testing.T, what string, g impl.Grammar, code int, index int) {
	t.Helper()
	if c, i := impl.CheckShape(g); c != code || i != index {
		t.Errorf("%s: CheckShape = %d, %d; want %d, %d", what, c, i, code, index)
	}
}

// changed returns boxes with a line replaced.
func changed(t *testing.T, line string, lines ...string) impl.Grammar {
	t.Helper()
	if !strings.Contains(boxes, line+"\n") {
		t.Fatalf("no line %q", line)
	}
	with := strings.Join(lines, "\n") + "\n"
	if len(lines) == 0 {
		with = ""
	}
	return grammarFrom(t, strings.Replace(boxes, line+"\n", with, 1))
}

func TestCheckShapeAcceptsTheLanguages(t *testing.T) {
	for i, text := range languages() {
		shapeIs(t, fmt.Sprint("language ", i+1), grammarFrom(t, text), impl.GrOk, 0)
	}
	shapeIs(t, "the smallest grammar", grammarOf(t, "symbol s", "rule p s :"), impl.GrOk, 0)
	// Types and symbols without finite trees are matters of chapter 12.
	shapeIs(t, "a wrong type", changed(t, "eq $0.width := min(lit, $0.room)", "eq $0.width := {}"), impl.GrOk, 0)
	shapeIs(t, "a symbol without rules", grammarOf(t, "symbol s", "symbol t", "rule p s :"), impl.GrOk, 0)
	shapeIs(t, "an unknown remote attribute", grammarOf(t, "symbol s a:syn:num", "rule p s :", "eq $0.a := z.z of none"), impl.GrOk, 0)
	shapeIs(t, "a contribution to nothing", grammarOf(t, "symbol s", "rule p s :", "put z.z of 1 := 2"), impl.GrOk, 0)
	shapeIs(t, "an inherited attribute of another symbol", grammarOf(t, "symbol s", "symbol t i:inh:num", "rule p s :"), impl.GrOk, 0)
	shapeIs(t, "a collected attribute of the start symbol", grammarOf(t, "symbol s c:col:set", "rule p s :"), impl.GrOk, 0)
}

func TestShapeOfSymbolsAndRules(t *testing.T) {
	shapeIs(t, "zero", impl.Grammar{}, impl.GrShape, 0)
	shapeIs(t, "no rules", grammarOf(t, "symbol s", "symbol t"), impl.GrShape, 0)
	shapeIs(t, "no symbols", grammarOf(t, "rule p s :"), impl.GrShape, 0)
	for n := 1; n <= 10; n++ {
		symbols, rules := []string{}, []string{}
		for i := range n {
			symbols = append(symbols, fmt.Sprint("symbol s", i))
			rules = append(rules, fmt.Sprint("rule p", i, " s0 :"))
		}
		code := map[bool]int{true: impl.GrOk, false: impl.GrShape}
		shapeIs(t, fmt.Sprint(n, " symbols"), grammarOf(t, append(symbols, "rule p s0 :")...), code[n <= 4], 0)
		shapeIs(t, fmt.Sprint(n, " rules"), grammarOf(t, append([]string{"symbol s0"}, rules...)...), code[n <= 8], 0)
	}
	twice := func(symbols string, rules string) impl.Grammar {
		var lines []string
		for _, c := range symbols {
			lines = append(lines, "symbol "+string(c))
		}
		for _, c := range rules {
			lines = append(lines, "rule "+string(c)+" s :")
		}
		return grammarOf(t, lines...)
	}
	shapeIs(t, "the symbol again", twice("sts", "p"), impl.GrShape, 2)
	shapeIs(t, "two symbols again", twice("sstt", "p"), impl.GrShape, 1)
	shapeIs(t, "the rule again", twice("st", "pqrq"), impl.GrShape, 3)
	shapeIs(t, "two rules again", twice("st", "ppqq"), impl.GrShape, 1)
	shapeIs(t, "symbols before rules", twice("stut", "pp"), impl.GrShape, 3)
	shapeIs(t, "too many rules before symbols", twice("ss", "pqrtuvwxyz"), impl.GrShape, 0)
	shapeIs(t, "a rule with the name of a symbol", twice("st", "st"), impl.GrOk, 0)
}

func TestShapeOfInvalidParts(t *testing.T) {
	g := grammarFrom(t, boxes)
	g.Symbols[1].Attributes[0].Type = 0
	shapeIs(t, "an invalid symbol", g, impl.GrShape, 1)
	g.Rules[0] = impl.Rule{}
	shapeIs(t, "an invalid symbol before an invalid rule", g, impl.GrShape, 1)
	g = grammarFrom(t, boxes)
	g.Rules[2].Equations[0].Expr = number(-1)
	shapeIs(t, "an invalid rule", g, impl.GrShape, 2)
	g.Rules[1].Name = "page"
	shapeIs(t, "the name of an earlier rule before it", g, impl.GrShape, 1)
	g = grammarFrom(t, boxes)
	g.Symbols[0].Attributes[0].Mode, g.Symbols[1].Name = impl.ModeInherited, "lit"
	shapeIs(t, "an invalid symbol before the start symbol", g, impl.GrShape, 1)
	g = grammarFrom(t, boxes)
	g.Rules[0].Right = []string{"t", "t", "t", "t"}
	shapeIs(t, "four children", g, impl.GrShape, 0)
}

func TestShapeOfStart(t *testing.T) {
	shapeIs(t, "an inherited attribute", grammarOf(t, "symbol s a:inh:num", "rule p s :"), impl.GrStart, 0)
	shapeIs(t, "the last one is inherited", grammarOf(t, "symbol s a:syn:num c:col:set b:inh:set!", "rule p z :", "rule q y :"), impl.GrStart, 0)
}

// TestShapeOfRules tries each code at each rule, and together with each later one at an earlier rule.
func TestShapeOfRules(t *testing.T) {
	errors := []struct {
		code  int
		lines string
	}{
		{impl.GrSymbol, "rule NAME z :"}, {impl.GrSymbol, "rule NAME t : s z\neq $0.a := 1"}, {impl.GrMissing, "rule NAME t :"},
		{impl.GrMissing, "rule NAME t : t\neq $0.a := 1"}, {impl.GrMissing, "rule NAME t : t t\neq $0.a := 1\neq $1.i := 1"}, {impl.GrMissing, "rule NAME s : t\neq $0.i := 1\neq $1.a := 2"},
		{impl.GrExtra, "rule NAME t :\neq $0.a := 1\neq $0.a := 1"}, {impl.GrExtra, "rule NAME t :\neq $0.a := 1\neq $0.b := 1"}, {impl.GrExtra, "rule NAME t :\neq $0.i := 1\neq $0.a := 1"},
		{impl.GrExtra, "rule NAME s : t\neq $1.a := 1\neq $1.i := 1"}, {impl.GrExtra, "rule NAME t :\neq $0.c := {}\neq $0.a := 1"}, {impl.GrExtra, "rule NAME s : t\neq $1.i := 1\neq $1.i := 2"},
		{impl.GrUse, "rule NAME t :\neq $0.a := $0.a"}, {impl.GrUse, "rule NAME t :\neq $0.a := $0.b"}, {impl.GrUse, "rule NAME t :\neq $0.a := 1 + $0.c"},
		{impl.GrUse, "rule NAME s : t\neq $1.i := $1.i"}, {impl.GrUse, "rule NAME s : t\neq $1.i := $1.c"}, {impl.GrUse, "rule NAME s : t\neq $1.i := $0.i"},
		{impl.GrUse, "rule NAME t :\neq $0.a := 1\nput t.c of $0.a := {}"}, {impl.GrUse, "rule NAME t :\neq $0.a := 1\nput t.c of none := with({}, $0.a)"},
		{impl.GrUse, "rule NAME s : t\neq $1.i := 1\nput t.c of none := {}\nput t.c of none := {1} | $1.i"}, {impl.GrUse, "rule NAME t :\neq $0.a := if true then 1 else t.i of $0.c"},
	}
	good := "rule NAME t : t\neq $0.a := $0.i + $1.a\neq $1.i := $0.i\nput t.c of self(1) := with({}, $1.a)"
	part := func(lines string, k int) string { return strings.Replace(lines, "NAME", fmt.Sprint("p", k), 1) }
	for _, x := range errors {
		for at := range 3 {
			lines := []string{"symbol s", "symbol t i:inh:num a:syn:num c:col:set"}
			for k := range 4 {
				lines = append(lines, part(map[bool]string{true: x.lines, false: good}[k == at], k))
			}
			shapeIs(t, fmt.Sprintf("%q at rule %d", x.lines, at), grammarOf(t, lines...), x.code, at)
		}
		for _, y := range errors {
			g := grammarOf(t, "symbol s", "symbol t i:inh:num a:syn:num c:col:set", part(good, 0), part(x.lines, 1), part(y.lines, 2))
			code, at := x.code, 1
			if y.code < x.code {
				code, at = y.code, 2
			}
			shapeIs(t, fmt.Sprintf("%q and %q", x.lines, y.lines), g, code, at)
		}
	}
}

func TestShapeOfChangedLanguages(t *testing.T) {
	shapeIs(t, "an equation is missing", changed(t, "eq $2.room := max($0.room - $1.width, 0)"), impl.GrMissing, 1)
	shapeIs(t, "an equation is there twice", changed(t, "eq $1.room := lit", "eq $1.room := lit", "eq $1.room := lit"), impl.GrExtra, 0)
	shapeIs(t, "an equation uses its own occurrence", changed(t, "eq $1.room := $0.room", "eq $1.room := $1.room"), impl.GrUse, 1)
	shapeIs(t, "an unknown child", changed(t, "rule row t : t t", "rule row t : t u"), impl.GrSymbol, 1)
	shapeIs(t, "an unknown symbol", changed(t, "rule box t : lit", "rule box u : lit"), impl.GrSymbol, 2)
}

// TestEachRequiredOccurrenceHasOneEquation: promise 11, where the lines of the languages are left out and repeated.
func TestEachRequiredOccurrenceHasOneEquation(t *testing.T) {
	accepted, rejected := 0, 0
	for _, text := range languages() {
		lines := strings.Split(strings.TrimSuffix(text, "\n"), "\n")
		for i := range lines {
			for k := range lines {
				for _, list := range [][]string{slices.Delete(slices.Clone(lines), i, i+1), slices.Insert(slices.Clone(lines), i, lines[k])} {
					g, ok := impl.ParseGrammar(strings.Join(list, "\n") + "\n")
					if code, at := impl.CheckShape(g); !ok || code != impl.GrOk {
						rejected++
						continue
					} else if at != 0 {
						t.Fatalf("GrOk with the index %d", at)
					}
					accepted++
					eachRequiredOccurrenceHasOneEquation(t, g)
				}
			}
		}
	}
	if accepted < 10 || rejected < 500 {
		t.Errorf("%d accepted and %d rejected grammars", accepted, rejected)
	}
}

func eachRequiredOccurrenceHasOneEquation(t *testing.T, g impl.Grammar) {
	t.Helper()
	for _, r := range g.Rules {
		required := impl.RequiredOccurrences(g, r)
		for _, o := range required {
			count := 0
			for _, q := range r.Equations {
				if q.At == o {
					count++
				}
			}
			if count != 1 {
				t.Fatalf("%d equations for %v in %+v", count, o, r)
			}
		}
		if len(r.Equations) != len(required) {
			t.Fatalf("%d equations for %v", len(r.Equations), required)
		}
	}
}
