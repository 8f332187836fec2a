package tests

import (
	"slices"
	"strings"
	"testing"

	"loop.example/g00512/impl"
)

// The languages of chapter 41.
const (
	declarations = `symbol s errs:syn:num decls:col:set
symbol t env:inh:node errs:syn:num
rule block s : t
eq $0.errs := $1.errs
eq $1.env := self(0)
rule pair t : t t
eq $0.errs := $1.errs + $2.errs
eq $1.env := $0.env
eq $2.env := $0.env
rule decl t : lit
eq $0.errs := 0
put s.decls of $0.env := with({}, lit)
rule use t : lit
eq $0.errs := if has(s.decls of $0.env, lit) then 0 else 1
`
	loops = `symbol s out:syn:set
symbol t before:inh:set! after:syn:set!
rule main s : t
eq $0.out := $1.after
eq $1.before := {}
rule seq t : t t
eq $0.after := $2.after
eq $1.before := $0.before
eq $2.before := $1.after
rule loop t : t
eq $0.after := $0.before | $1.after
eq $1.before := $0.before | $1.after
rule gen t : lit
eq $0.after := with($0.before, lit)
rule kill t : lit
eq $0.after := $0.before \ with({}, lit)
`
	boxes = `symbol s width:syn:num
symbol t room:inh:num width:syn:num
rule page s : t lit
eq $0.width := $1.width
eq $1.room := lit
rule row t : t t
eq $0.width := $1.width + $2.width
eq $1.room := $0.room
eq $2.room := max($0.room - $1.width, 0)
rule box t : lit
eq $0.width := min(lit, $0.room)
`
)

func languages() []string {
	return []string{declarations, loops, boxes}
}

// grammarOf parses lines that must be those of a grammar.
func grammarOf(t *testing.T, lines ...string) impl.Grammar {
	t.Helper()
	return grammarFrom(t, strings.Join(lines, "\n")+"\n")
}

func grammarFrom(t *testing.T, text string) impl.Grammar {
	t.Helper()
	g, ok := impl.ParseGrammar(text)
	if !ok {
		t.Fatalf("ParseGrammar(%q) fails", text)
	}
	return g
}

func TestGrammarsAreParsedFromTheirText(t *testing.T) {
	texts := append(languages(), "symbol s\n", "rule p s :\n", "symbol s\nrule p s :\n", "symbol s\nsymbol t\n", "rule p s :\nrule q t : lit\n",
		// What a grammar needs beyond its syntax is a matter of chapter 11.
		"symbol s\nsymbol s\nsymbol s\nrule p s :\nrule p s :\n", strings.Repeat("symbol s a:inh:num\n", 9)+strings.Repeat("rule p z : y x\neq $2.a := lit\n", 20),
		"symbol rule\nsymbol eq put:syn:num\nrule symbol rule : put\neq $0.eq := 1\nput eq.put of none := {}\n",
	)
	for _, text := range texts {
		g, ok := impl.ParseGrammar(text)
		if !ok || impl.FormatGrammar(g) != text {
			t.Errorf("ParseGrammar(%q): %v, %q", text, ok, impl.FormatGrammar(g))
		}
		if again, ok := impl.ParseGrammar(impl.FormatGrammar(g)); !ok || !impl.EqualGrammar(again, g) {
			t.Errorf("ParseGrammar of the text of %+v: %+v, %v", g, again, ok)
		}
		symbols, rules := strings.Count("\n"+text, "\nsymbol "), strings.Count("\n"+text, "\nrule ")
		if len(g.Symbols) != symbols || len(g.Rules) != rules {
			t.Errorf("%d symbols and %d rules; want %d and %d", len(g.Symbols), len(g.Rules), symbols, rules)
		}
	}
}

func TestParsedGrammar(t *testing.T) {
	got := grammarOf(t, "symbol s a:syn:num", "symbol t b:inh:set! c:col:set", "rule p s : t lit", "eq $0.a := lit", "eq $1.b := {}", "put t.c of self(1) := $1.b", "rule q t :")
	want := impl.Grammar{
		Symbols: []impl.Symbol{
			{Name: "s", Attributes: []impl.Attribute{plain("a")}},
			{Name: "t", Attributes: []impl.Attribute{
				{Name: "b", Type: impl.TypeSet, Mode: impl.ModeInherited, Circular: true}, {Name: "c", Type: impl.TypeSet, Mode: impl.ModeCollected},
			}},
		},
		Rules: []impl.Rule{
			{
				Name: "p", Left: "s", Right: []string{"t"}, Literal: true, Equations: []impl.Equation{equation(0, "a", literal()), equation(1, "b", setOf(0))},
				Contributions: []impl.Contribution{{Symbol: "t", Name: "c", Target: self(1), Value: attr(1, "b")}},
			},
			{Name: "q", Left: "t"},
		},
	}
	if !impl.EqualGrammar(got, want) {
		t.Errorf("got %+v; want %+v", got, want)
	}
}

func TestFormatGrammarRejects(t *testing.T) {
	g := grammarFrom(t, boxes)
	grammars := []impl.Grammar{{}, {Symbols: []impl.Symbol{{}}}, {Rules: []impl.Rule{{}}}}
	for i := range g.Symbols {
		h := grammarFrom(t, boxes)
		h.Symbols[i].Attributes[0].Mode = 0
		grammars = append(grammars, h)
	}
	for i := range g.Rules {
		h := grammarFrom(t, boxes)
		h.Rules[i].Equations[0].Expr = impl.Expr{}
		grammars = append(grammars, h)
	}
	for _, g := range grammars {
		if text := impl.FormatGrammar(g); text != "" {
			t.Errorf("FormatGrammar(%+v) = %q", g, text)
		}
	}
}

func parseGrammarFails(t *testing.T, text string) {
	t.Helper()
	if g, ok := impl.ParseGrammar(text); ok || !impl.EqualGrammar(g, impl.Grammar{}) {
		t.Errorf("ParseGrammar(%q) = %+v, %v", text, g, ok)
	}
}

func TestParseGrammarRejects(t *testing.T) {
	for _, text := range []string{
		"", "\n", "\n\n", " \n", "symbol s", "symbol s\nrule p s :", "symbol s\n\n", "\nsymbol s\n", "symbol s\n\nrule p s :\n", "symbol s\nrule p s :\n\n", "symbol s\r\n",
		"rule p s :\nsymbol s\n", "symbol s\nrule p s :\nsymbol t\n", "eq $0.a := 1\n", "symbol s\neq $0.a := 1\nrule p s :\n", "put s.a of none := {}\n", "symbol s\nput s.a of none := {}\n",
		"symbol s a:col:num\n", "symbol s\nrule p s : t t t t\n", "symbol s\nrule p s :\neq $1.a := 1\n", "symbol s\nrule p s :\neq $0.a := (1)\n", "symbol s \n", "symbol if\n",
		"symbol s\nrule p s :\nput s.a of none := {}\neq $0.a := 1\n", "symbol s\nrule p s :\n#\n", "symbol s\nrule p s :\neq $0.a := 1 \n", "symbol s\nx\n", "symbol\n", "rule\n",
		boxes + " ", boxes + "x\n", boxes + "\n", boxes[1:], strings.TrimSuffix(boxes, "\n"), boxes + boxes, strings.ReplaceAll(boxes, "\n", "\n\n"), "\xff\n",
	} {
		parseGrammarFails(t, text)
	}
	sets := impl.FormatTyped(4095, impl.TypeSet)
	parseGrammarFails(t, "symbol s\nrule p s :\neq $0.a := "+strings.Join([]string{sets, sets, sets, sets, sets, sets}, " | ")+"\n")
}

// TestParseGrammarDamaged: a text that is accepted in spite of a changed byte is that of the result.
func TestParseGrammarDamaged(t *testing.T) {
	for _, text := range languages() {
		for i := range len(text) {
			for _, part := range []string{"", " ", "\n", "a", "0", ":", "\xff", "\nsymbol s\n"} {
				for _, changed := range []string{text[:i] + part + text[i+1:], text[:i] + part + text[i:]} {
					g, ok := impl.ParseGrammar(changed)
					if ok && impl.FormatGrammar(g) != changed || !ok && !impl.EqualGrammar(g, impl.Grammar{}) {
						t.Fatalf("ParseGrammar(%q) = %+v, %v", changed, g, ok)
					}
				}
			}
		}
	}
}

// TestNamesThatOccurTwice: the first one is found.
func TestNamesThatOccurTwice(t *testing.T) {
	g := grammarOf(t, "symbol s a:syn:num", "symbol t", "symbol s b:syn:set", "rule p s : t", "eq $0.a := 1", "rule q t :", "rule p t : lit", "rule r s :")
	if s, ok := impl.FindSymbol(g, "s"); !ok || !equalSymbols(s, g.Symbols[0]) {
		t.Errorf("FindSymbol = %+v, %v", s, ok)
	}
	if s, ok := impl.FindSymbol(g, "t"); !ok || !equalSymbols(s, g.Symbols[1]) {
		t.Errorf("FindSymbol = %+v, %v", s, ok)
	}
	for name, index := range map[string]int{"p": 0, "q": 1, "r": 3} {
		if r, ok := impl.FindRule(g, name); !ok || !impl.EqualRule(r, g.Rules[index]) {
			t.Errorf("FindRule(%q) = %+v, %v", name, r, ok)
		}
	}
	for symbol, want := range map[string][]string{"s": {"p", "r"}, "t": {"q", "p"}, "p": nil, "": nil, "S": nil} {
		if got := impl.RulesOf(g, symbol); !slices.Equal(got, want) {
			t.Errorf("RulesOf(%q) = %q; want %q", symbol, got, want)
		}
	}
	twice := impl.Grammar{Rules: []impl.Rule{{Name: "p", Left: "s"}, {Name: "p", Left: "s"}, {}}}
	if got := impl.RulesOf(twice, "s"); !slices.Equal(got, []string{"p", "p"}) {
		t.Errorf("RulesOf with equal names = %q", got)
	}
	if got := impl.RulesOf(twice, ""); !slices.Equal(got, []string{""}) {
		t.Errorf("RulesOf without a name = %q", got)
	}
}

func TestFindNothing(t *testing.T) {
	for _, g := range []impl.Grammar{{}, grammarFrom(t, boxes)} {
		for _, name := range []string{"", "z", "S", "symbol", "sx"} {
			if s, ok := impl.FindSymbol(g, name); ok || !equalSymbols(s, impl.Symbol{}) {
				t.Errorf("FindSymbol(%q) = %+v, %v", name, s, ok)
			}
			if r, ok := impl.FindRule(g, name); ok || !impl.EqualRule(r, impl.Rule{}) {
				t.Errorf("FindRule(%q) = %+v, %v", name, r, ok)
			}
		}
	}
	g := grammarFrom(t, boxes)
	if _, ok := impl.FindSymbol(g, "row"); ok {
		t.Error("the name of a rule is found among the symbols")
	}
	if _, ok := impl.FindRule(g, "t"); ok {
		t.Error("the name of a symbol is found among the rules")
	}
}

func TestFoundPartsShareNoMemory(t *testing.T) {
	g := grammarFrom(t, declarations)
	s, _ := impl.FindSymbol(g, "t")
	s.Attributes[0].Name = "z"
	r, _ := impl.FindRule(g, "decl")
	r.Equations[0].At.Name = "z"
	r.Contributions[0].Value.Args[0] = none()
	r.Contributions[0].Target.Name = "z"
	r, _ = impl.FindRule(g, "pair")
	r.Right[0] = "z"
	r.Equations[0].Expr.Args[0].Args = []impl.Expr{none()}
	if impl.FormatGrammar(g) != declarations {
		t.Errorf("the grammar became\n%s", impl.FormatGrammar(g))
	}
	text := "rule p s :\nput s.a of s.b of none := {1} | {2}\n"
	g = grammarFrom(t, text)
	r, _ = impl.FindRule(g, "p")
	r.Contributions[0].Target.Args[0] = self(0)
	r.Contributions[0].Value.Args[1] = setOf(0)
	if impl.FormatGrammar(g) != text {
		t.Errorf("the grammar became\n%s", impl.FormatGrammar(g))
	}
}

func TestEqualGrammar(t *testing.T) {
	changes := []func(g *impl.Grammar){
		func(g *impl.Grammar) {}, func(g *impl.Grammar) { g.Symbols = g.Symbols[:1] }, func(g *impl.Grammar) { g.Rules = g.Rules[1:] },
		func(g *impl.Grammar) { g.Symbols[0], g.Symbols[1] = g.Symbols[1], g.Symbols[0] }, func(g *impl.Grammar) { g.Rules[0], g.Rules[1] = g.Rules[1], g.Rules[0] },
		func(g *impl.Grammar) { g.Symbols[1].Name = "z" }, func(g *impl.Grammar) { g.Symbols[1].Attributes[0].Name = "z" },
		func(g *impl.Grammar) { g.Symbols[1].Attributes[0].Type = impl.TypeSet }, func(g *impl.Grammar) { g.Symbols[1].Attributes[0].Mode = impl.ModeSynthesized },
		func(g *impl.Grammar) { g.Symbols[1].Attributes[0].Circular = true }, func(g *impl.Grammar) { g.Symbols[1].Attributes = g.Symbols[1].Attributes[:1] },
		func(g *impl.Grammar) { g.Rules[2].Literal = false }, func(g *impl.Grammar) { g.Rules[2].Equations[0].Expr = literal() }, func(g *impl.Grammar) { g.Symbols = nil },
		func(g *impl.Grammar) { g.Rules = nil }, func(g *impl.Grammar) { *g = impl.Grammar{} },
	}
	for i := range changes {
		for k := range changes {
			a, b := grammarFrom(t, boxes), grammarFrom(t, boxes)
			changes[i](&a)
			changes[k](&b)
			if got := impl.EqualGrammar(a, b); got != (i == k) {
				t.Errorf("changes %d and %d: EqualGrammar = %v", i, k, got)
			}
		}
	}
	if !impl.EqualGrammar(impl.Grammar{}, impl.Grammar{Symbols: []impl.Symbol{}, Rules: []impl.Rule{}}) {
		t.Error("nil and empty slices are different")
	}
	if !impl.EqualGrammar(impl.Grammar{Symbols: []impl.Symbol{{Name: "s"}}}, impl.Grammar{Symbols: []impl.Symbol{{Name: "s", Attributes: []impl.Attribute{}}}}) {
		t.Error("nil and empty attributes are different")
	}
}
