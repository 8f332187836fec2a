package tests

import (
	"slices"
	"strings"
	"testing"

	"loop.example/g00512/impl"
)

func equation(pos int, name string, e impl.Expr) impl.Equation {
	return impl.Equation{At: impl.Occurrence{Pos: pos, Name: name}, Expr: e}
}

// sampleRule is valid and uses every part of a rule.
func sampleRule() impl.Rule {
	return impl.Rule{
		Name: "p", Left: "s", Right: []string{"t", "u"}, Literal: true,
		Equations: []impl.Equation{
			equation(0, "a", op(impl.OpAdd, attr(1, "b"), literal())), equation(2, "c", self(2)), equation(1, "d", remote("t", "e", self(0))),
		},
		Contributions: []impl.Contribution{
			{Symbol: "s", Name: "f", Target: attr(2, "g"), Value: setOf(3)}, {Symbol: "t", Name: "h", Target: self(1), Value: attr(0, "i")},
		},
	}
}

func sampleLines() []string {
	return []string{
		"rule p s : t u lit", "eq $0.a := $1.b + lit", "eq $2.c := self(2)", "eq $1.d := t.e of self(0)",
		"put s.f of $2.g := {0 1}", "put t.h of self(1) := $0.i",
	}
}

// changedRules contains the sample with one change each, none of which leaves it valid.
func changedRules() map[string]impl.Rule {
	changes := map[string]func(r *impl.Rule){
		"name empty":           func(r *impl.Rule) { r.Name = "" },
		"name reserved":        func(r *impl.Rule) { r.Name = "lit" },
		"name too long":        func(r *impl.Rule) { r.Name = "abcdefghi" },
		"left empty":           func(r *impl.Rule) { r.Left = "" },
		"left reserved":        func(r *impl.Rule) { r.Left = "of" },
		"right empty":          func(r *impl.Rule) { r.Right[1] = "" },
		"right reserved":       func(r *impl.Rule) { r.Right[0] = "lit" },
		"four children":        func(r *impl.Rule) { r.Right = []string{"t", "t", "t", "t"} },
		"fewer children":       func(r *impl.Rule) { r.Right = r.Right[:1] },
		"no children":          func(r *impl.Rule) { r.Right = nil },
		"three contributions":  func(r *impl.Rule) { r.Contributions = append(r.Contributions, r.Contributions[0]) },
		"equation beyond":      func(r *impl.Rule) { r.Equations[0].At.Pos = 3 },
		"equation before":      func(r *impl.Rule) { r.Equations[0].At.Pos = -1 },
		"equation name empty":  func(r *impl.Rule) { r.Equations[1].At.Name = "" },
		"equation name bad":    func(r *impl.Rule) { r.Equations[1].At.Name = "if" },
		"equation zero":        func(r *impl.Rule) { r.Equations[2].Expr = impl.Expr{} },
		"equation too deep":    func(r *impl.Rule) { r.Equations[2].Expr = chain(7) },
		"use beyond":           func(r *impl.Rule) { r.Equations[2].Expr = attr(3, "a") },
		"use beyond within":    func(r *impl.Rule) { r.Equations[2].Expr = op(impl.OpAdd, number(1), attr(3, "a")) },
		"self beyond":          func(r *impl.Rule) { r.Equations[2].Expr = remote("s", "a", self(3)) },
		"symbol empty":         func(r *impl.Rule) { r.Contributions[0].Symbol = "" },
		"symbol reserved":      func(r *impl.Rule) { r.Contributions[1].Symbol = "self" },
		"contribution name":    func(r *impl.Rule) { r.Contributions[1].Name = "A" },
		"target zero":          func(r *impl.Rule) { r.Contributions[1].Target = impl.Expr{} },
		"target beyond":        func(r *impl.Rule) { r.Contributions[1].Target = self(3) },
		"value zero":           func(r *impl.Rule) { r.Contributions[0].Value = impl.Expr{} },
		"value beyond":         func(r *impl.Rule) { r.Contributions[0].Value = attr(3, "a") },
		"value too large":      func(r *impl.Rule) { r.Contributions[0].Value = full(25) },
		"value is no constant": func(r *impl.Rule) { r.Contributions[0].Value = setOf(4096) },
	}
	rules := map[string]impl.Rule{}
	for name, change := range changes {
		r := sampleRule()
		change(&r)
		rules[name] = r
	}
	return rules
}

func TestConstantsOfRules(t *testing.T) {
	if impl.MaxRules != 8 || impl.MaxContributions != 2 {
		t.Errorf("MaxRules = %d, MaxContributions = %d", impl.MaxRules, impl.MaxContributions)
	}
}

func TestIsValidRule(t *testing.T) {
	long := impl.Rule{Name: "p", Left: "s"}
	for range 500 {
		long.Equations = append(long.Equations, equation(0, "a", number(1)))
	}
	valid := []impl.Rule{
		sampleRule(), {Name: "p", Left: "p"}, {Name: "abcdefgh", Left: "s", Right: []string{"s", "s", "s"}}, {Name: "p", Left: "s", Literal: true},
		// A literal that the rule does not have is a matter of types (chapter 12), and so are names that no symbol has.
		{Name: "p", Left: "s", Equations: []impl.Equation{equation(0, "a", literal())}}, long,
		{Name: "p", Left: "s", Right: []string{"t", "t", "t"}, Equations: []impl.Equation{equation(3, "a", op(impl.OpAdd, attr(3, "a"), self(3)))}},
	}
	for i, r := range valid {
		if !impl.IsValidRule(r) {
			t.Errorf("rule %d is not valid", i)
		}
	}
	for name, r := range changedRules() {
		if impl.IsValidRule(r) {
			t.Errorf("%s: valid", name)
		}
	}
	if impl.IsValidRule(impl.Rule{}) {
		t.Error("the zero rule is valid")
	}
}

// TestPositionsThatDoNotExist tries every number of children with every position, at every place of a rule.
func TestPositionsThatDoNotExist(t *testing.T) {
	for children := range 4 {
		right := []string{"t", "t", "t"}[:children]
		for pos := -1; pos <= 4; pos++ {
			for _, e := range []impl.Expr{attr(pos, "a"), self(pos)} {
				ok := pos >= 0 && pos <= children
				rules := []impl.Rule{
					{Equations: []impl.Equation{equation(pos, "a", number(1))}}, {Equations: []impl.Equation{equation(0, "a", e)}},
					{Contributions: []impl.Contribution{{Symbol: "s", Name: "a", Target: e, Value: none()}}},
					{Contributions: []impl.Contribution{{Symbol: "s", Name: "a", Target: none(), Value: remote("s", "a", e)}}},
				}
				for i, r := range rules {
					r.Name, r.Left, r.Right = "p", "s", right
					if got := impl.IsValidRule(r); got != ok {
						t.Errorf("%d children, position %d, rule %d: valid = %v", children, pos, i, got)
					}
				}
			}
		}
	}
}

func TestSymbolAt(t *testing.T) {
	r := impl.Rule{Left: "s", Right: []string{"t", "u", "v", "w"}}
	for pos, want := range map[int]string{-2: "", -1: "", 0: "s", 1: "t", 2: "u", 3: "v", 4: "w", 5: "", 1 << 62: "", -1 << 63: ""} {
		if got := impl.SymbolAt(r, pos); got != want {
			t.Errorf("SymbolAt(%d) = %q; want %q", pos, got, want)
		}
	}
	if impl.SymbolAt(impl.Rule{}, 0) != "" || impl.SymbolAt(impl.Rule{Left: "s"}, 1) != "" {
		t.Error("SymbolAt without children")
	}
}

func TestFindEquation(t *testing.T) {
	r := sampleRule()
	r.Equations = append(r.Equations, equation(0, "a", number(5)), equation(-1, "", number(6)))
	for o, want := range map[impl.Occurrence]impl.Expr{
		{Pos: 0, Name: "a"}: op(impl.OpAdd, attr(1, "b"), literal()), {Pos: 2, Name: "c"}: self(2), {Pos: -1}: number(6),
	} {
		if got, ok := impl.FindEquation(r, o); !ok || !impl.EqualExpr(got, want) {
			t.Errorf("FindEquation(%v) = %+v, %v; want %+v", o, got, ok, want)
		}
	}
	for _, o := range []impl.Occurrence{{Pos: 1, Name: "a"}, {Pos: 0, Name: "c"}, {Pos: 0, Name: "b"}, {}, {Pos: 0, Name: "A"}} {
		if got, ok := impl.FindEquation(r, o); ok || !impl.EqualExpr(got, impl.Expr{}) {
			t.Errorf("FindEquation(%v) = %+v, %v", o, got, ok)
		}
	}
	got, _ := impl.FindEquation(r, impl.Occurrence{Name: "a"})
	got.Args[0] = number(99)
	if !impl.EqualExpr(r.Equations[0].Expr, sampleRule().Equations[0].Expr) {
		t.Error("the result of FindEquation shares memory with the rule")
	}
}

func TestFormatRule(t *testing.T) {
	cases := []struct {
		r    impl.Rule
		want []string
	}{
		{sampleRule(), sampleLines()}, {impl.Rule{Name: "p", Left: "s"}, []string{"rule p s :"}}, {impl.Rule{}, nil},
		{impl.Rule{Name: "p", Left: "s", Literal: true}, []string{"rule p s : lit"}},
		{impl.Rule{Name: "p", Left: "s", Right: []string{"a", "b", "c"}}, []string{"rule p s : a b c"}},
	}
	for _, c := range cases {
		if got := impl.FormatRule(c.r); !slices.Equal(got, c.want) {
			t.Errorf("FormatRule(%+v) = %q; want %q", c.r, got, c.want)
		}
	}
	for name, r := range changedRules() {
		if got := impl.FormatRule(r); len(got) != 0 {
			t.Errorf("%s: %q", name, got)
		}
	}
}

// TestRulesAreParsedFromTheirLines: promise 9.
func TestRulesAreParsedFromTheirLines(t *testing.T) {
	rules := []impl.Rule{sampleRule(), {Name: "p", Left: "s"}, {Name: "rule", Left: "eq", Right: []string{"put"}}}
	for _, e := range samples() {
		for _, right := range [][]string{{"t", "u", "v"}, {"s", "s", "s"}} {
			r := impl.Rule{Name: "put", Left: "symbol", Right: right, Literal: len(rules)%2 == 0}
			r.Equations = []impl.Equation{equation(3, "a", e), equation(0, "rule", e), equation(3, "a", e)}
			r.Contributions = []impl.Contribution{{Symbol: "eq", Name: "put", Target: e, Value: ifThen(e, e, e)}}
			rules = append(rules, r)
		}
	}
	for _, r := range rules {
		lines := impl.FormatRule(r)
		if got, ok := impl.ParseRule(lines); !ok || !impl.EqualRule(got, r) || !slices.Equal(impl.FormatRule(got), lines) {
			t.Errorf("ParseRule(%q) = %+v, %v", lines, got, ok)
		}
	}
	if got, ok := impl.ParseRule(sampleLines()); !ok || !impl.EqualRule(got, sampleRule()) {
		t.Errorf("ParseRule of the sample: %+v, %v", got, ok)
	}
}

func parseRuleFails(t *testing.T, lines ...string) {
	t.Helper()
	if r, ok := impl.ParseRule(lines); ok || !impl.EqualRule(r, impl.Rule{}) {
		t.Errorf("ParseRule(%q) = %+v, %v", lines, r, ok)
	}
}

func TestParseRuleRejects(t *testing.T) {
	parseRuleFails(t)
	heads := []string{
		"", "rule", "rule p", "rule p s", "rule p s:", "rule p s t", "rule p :", "rule p s : ", "rule p s :  t", "rule p  s :", " rule p s :", "rule p s : t t t t",
		"rule p s : lit t", "rule p s : lit lit", "rule lit s :", "rule p of :", "rule p s : if", "Rule p s :", "eq p s :", "symbol p s :", "rule p s :\n", "rule p s ; t",
		"rule p s : t ", "rule abcdefghi s :", "rule p abcdefghi :", "rule p s : abcdefghi", "symbol s", "rule p s : :", "eq $0.a := 1", "rule  s :", "rule p  :",
	}
	for _, head := range heads {
		parseRuleFails(t, head)
	}
	others := []string{
		"", "eq", "eq ", "eq $0.a", "eq $0.a :=", "eq $0.a := ", "eq $0.a = 1", "eq $0.a:= 1", "eq $0.a :=1", "eq $0.a := 1 ", "eq  $0.a := 1", " eq $0.a := 1",
		"eq 0.a := 1", "eq $0a := 1", "eq $.a := 1", "eq $00.a := 1", "eq $-1.a := 1", "eq $a.0 := 1", "eq $2.a := 1", "eq $0.a := $2.a", "eq $0.a := self(2)",
		"eq $0.lit := 1", "eq $0. := 1", "eq $0.a.b := 1", "eq $0.a := (1)", "eq $0.a := 1+2", "eq $0.a := (1 + 2) + 3", "eq $0.a := x", "eq $0.a := 1 := 2", "eq $0.a  := 1",
		"eq $0.a := 1\n", "eq $0.a := 007", "eq $0.a := 1 + 1 + 1 + 1 + 1 + 1 + 1", "eq $1000000.a := 1", "eq $4.a := 1", "Eq $0.a := 1", "eq $0 .a := 1",
		"put", "put ", "put s.a", "put s.a of none", "put s.a of none :=", "put s.a of none := ", "put s.a none := {}", "put s of none := {}", "put .a of none := {}",
		"put s. of none := {}", "put lit.a of none := {}", "put s.of of none := {}", "put s.a of  := {}", "put s.a of (none) := {}", "put s.a of none := ({})",
		"put s.a of self(2) := {}", "put s.a of none := $2.a", "put s.a.b of none := {}", "put s.a of none = {}", "put  s.a of none := {}", "put $0.a := {}",
		"put s.a of x := {}", "put s.a of none := {1 0}", "put s.a of none := {} ", "rule p s :", "symbol s", "lit", "# comment", "eq $0.a := \"", "put s.a of none := {} := {}",
	}
	for _, line := range others {
		parseRuleFails(t, "rule p s : t", line)
		parseRuleFails(t, "rule p s : t", "eq $0.z := 1", line)
		parseRuleFails(t, "rule p s : t", line, "put s.z of none := {}")
	}
	if _, ok := impl.ParseRule([]string{"rule p s : t", "eq $0.z := 1", "eq $1.z := $1.a", "put s.z of none := {}"}); !ok {
		t.Error("the lines around the wrong ones are wrong")
	}
	parseRuleFails(t, "rule p s :", "put s.a of none := {}", "eq $0.a := 1")
	parseRuleFails(t, "rule p s :", "put s.a of none := {}", "put s.a of none := {}", "put s.a of none := {}")
	parseRuleFails(t, "eq $0.a := 1", "rule p s :")
	parseRuleFails(t, append(sampleLines(), "")...)
}

// TestRulesThatAreTooLongToParse: a valid rule has lines, but they are not parsed.
func TestRulesThatAreTooLongToParse(t *testing.T) {
	sets := op(impl.OpUnion, setOf(4095), setOf(4095))
	tokens := op(impl.OpUnion, op(impl.OpUnion, sets, sets), op(impl.OpUnion, sets, sets))
	many := op(impl.OpUnion, setOf(1023), setOf(1023))
	bytes := remote("abcdefgh", "abcdefgh", ifThen(many, many, many))
	for _, e := range []impl.Expr{tokens, bytes} {
		r := impl.Rule{Name: "p", Left: "s", Equations: []impl.Equation{equation(0, "a", e)}}
		if lines := impl.FormatRule(r); len(lines) != 2 {
			t.Errorf("FormatRule = %q", lines)
		} else {
			parseRuleFails(t, lines...)
		}
		r.Equations = nil
		r.Contributions = []impl.Contribution{{Symbol: "s", Name: "a", Target: e, Value: none()}}
		parseRuleFails(t, impl.FormatRule(r)...)
		r.Contributions = []impl.Contribution{{Symbol: "s", Name: "a", Target: none(), Value: e}}
		parseRuleFails(t, impl.FormatRule(r)...)
	}
}

// TestParseRuleDamaged: lines that are accepted in spite of a changed byte are those of the result.
func TestParseRuleDamaged(t *testing.T) {
	for i, line := range sampleLines() {
		for k := range len(line) {
			for _, b := range []byte(" $.:=abz0129(){}+\n\xff") {
				for _, changed := range []string{line[:k] + string([]byte{b}) + line[k+1:], line[:k] + string([]byte{b}) + line[k:], line[:k] + line[k+1:]} {
					lines := sampleLines()
					lines[i] = changed
					r, ok := impl.ParseRule(lines)
					if ok && (!impl.IsValidRule(r) || !slices.Equal(impl.FormatRule(r), lines)) || !ok && !impl.EqualRule(r, impl.Rule{}) {
						t.Fatalf("ParseRule(%q) = %+v, %v", lines, r, ok)
					}
				}
			}
		}
	}
}

func TestEqualRule(t *testing.T) {
	changes := []func(r *impl.Rule){
		func(r *impl.Rule) {}, func(r *impl.Rule) { r.Name = "q" }, func(r *impl.Rule) { r.Left = "t" }, func(r *impl.Rule) { r.Right[1] = "t" },
		func(r *impl.Rule) { r.Right = r.Right[:1] }, func(r *impl.Rule) { r.Literal = false }, func(r *impl.Rule) { r.Equations = r.Equations[:2] },
		func(r *impl.Rule) { r.Equations[0].At.Pos = 1 }, func(r *impl.Rule) { r.Equations[0].At.Name = "z" }, func(r *impl.Rule) { r.Equations[2].Expr = none() },
		func(r *impl.Rule) { r.Equations[0], r.Equations[1] = r.Equations[1], r.Equations[0] }, func(r *impl.Rule) { r.Contributions = nil },
		func(r *impl.Rule) { r.Contributions[0].Symbol = "z" }, func(r *impl.Rule) { r.Contributions[0].Name = "z" },
		func(r *impl.Rule) { r.Contributions[1].Target = none() }, func(r *impl.Rule) { r.Contributions[1].Value = setOf(1) },
		func(r *impl.Rule) { r.Equations[0].Expr.Args[1] = number(1) }, func(r *impl.Rule) { *r = impl.Rule{} },
	}
	for i := range changes {
		for k := range changes {
			a, b := sampleRule(), sampleRule()
			changes[i](&a)
			changes[k](&b)
			if got := impl.EqualRule(a, b); got != (i == k) {
				t.Errorf("changes %d and %d: EqualRule = %v", i, k, got)
			}
		}
	}
	if !impl.EqualRule(impl.Rule{}, impl.Rule{Right: []string{}, Equations: []impl.Equation{}, Contributions: []impl.Contribution{}}) {
		t.Error("nil and empty slices are different")
	}
}

// TestRuleFunctionsLeaveTheirArguments includes the unused capacity of the slices.
func TestRuleFunctionsLeaveTheirArguments(t *testing.T) {
	right := []string{"t", "u", "spare", "spare"}
	r := sampleRule()
	r.Right = right[:2]
	lines := append(sampleLines(), "spare")
	impl.FormatRule(r)
	impl.IsValidRule(r)
	impl.ParseRule(lines[:6])
	if strings.Join(right, " ") != "t u spare spare" || !slices.Equal(lines, append(sampleLines(), "spare")) || !impl.EqualRule(r, sampleRule()) {
		t.Errorf("arguments were changed: %q, %q", right, lines)
	}
}
