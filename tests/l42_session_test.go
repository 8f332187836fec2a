package tests

import (
	"math"
	"math/rand"
	"reflect"
	"slices"
	"strconv"
	"strings"
	"testing"

	"loop.example/g00512/impl"
)

func equalSessions(a impl.Session, b impl.Session) bool {
	return reflect.DeepEqual(plainSession(a), plainSession(b))
}

// plainSession has no empty slices, but nil instead.
func plainSession(s impl.Session) impl.Session {
	return copyOf(reflect.ValueOf(s)).Interface().(impl.Session)
}

// numbersIn returns the numbers of the words after the first one, and the last word or the rest of the line if there is
// one more; false if the line does not have such words.
func numbersIn(line string, count int, text bool, parse func(string) (int, bool)) ([]int, string, bool) {
	words := strings.SplitN(line, " ", count+2)
	if text && len(words) != count+2 || !text && len(words) != count+1 {
		return nil, "", false
	}
	var list []int
	for i, word := range words[1 : count+1] {
		n, ok := impl.ParseNumber(word)
		if i == 1 {
			n, ok = parse(word)
		}
		if !ok {
			return nil, "", false
		}
		list = append(list, n)
	}
	return list, words[len(words)-1], true
}

// wantLine executes a line with the functions of the other chapters.
func wantLine(s impl.Session, line string) (impl.Session, string) {
	name, _, _ := strings.Cut(line, " ")
	counts := map[string]int{"load": 1, "tree": 0, "set": 2, "swap": 2, "replace": 1, "update": 0, "value": 1, "why": 1, "check": 0, "circular": 0, "plan": 0, "show": 0, "values": 0}
	count, known := counts[name]
	parse := impl.ParseNumber
	if name == "set" {
		parse = impl.ParseInt
	}
	text := slices.Contains([]string{"tree", "replace", "value", "why", "plan"}, name)
	n, rest, ok := numbersIn(line, count, text, parse)
	if !known || !ok || name != "tree" && name != "replace" && strings.Contains(rest, " ") {
		return s, "what"
	}
	if isQuery(line) {
		return s, wantAnswer(s, name, n, rest)
	}
	switch name {
	case "load":
		g, found := impl.ParseGrammar(impl.ExampleGrammar(n[0]))
		x, fits := impl.ParseTree(g, impl.ExampleTree(n[0]), s.Next)
		if !found || !fits {
			return s, "no"
		}
		return impl.Session{Grammar: g, Tree: x, Next: s.Next + len(x.Nodes)}, "ok"
	case "tree":
		x, fits := impl.ParseTree(s.Grammar, rest, s.Next)
		if !fits || !impl.IsValidTree(s.Grammar, x) {
			return s, "no"
		}
		return impl.Session{Grammar: s.Grammar, Tree: x, Next: s.Next + len(x.Nodes)}, "ok"
	case "set":
		return wantEdited(s, impl.Edit{Kind: impl.EditLiteral, Node: n[0], Literal: n[1]})
	case "swap":
		return wantEdited(s, impl.Edit{Kind: impl.EditSwap, Node: n[0], Other: n[1]})
	case "replace":
		if x, fits := impl.ParseTree(s.Grammar, rest, s.Next); fits {
			return wantEdited(s, impl.Edit{Kind: impl.EditReplace, Node: n[0], Tree: x})
		}
		return s, "no"
	}
	m, ok := impl.UpdateMemo(s.Grammar, s.Tree, s.Memo)
	if !ok {
		return s, "no"
	}
	s.Memo = m
	return s, strconv.Itoa(len(m.Evaluated))
}

func wantEdited(s impl.Session, e impl.Edit) (impl.Session, string) {
	y, code := impl.ApplyEdit(s.Grammar, s.Tree, e)
	if code == impl.EdOk {
		s.Tree = y
		if e.Kind == impl.EditReplace {
			s.Next += len(e.Tree.Nodes)
		}
	}
	return s, []string{"ok", "bad", "missing", "symbol", "ids", "size", "nested", "literal"}[code]
}

// wantAnswer answers a query.
func wantAnswer(s impl.Session, name string, n []int, rest string) string {
	joined := func(text string) string {
		if text == "" {
			return "no"
		}
		return strings.Join(strings.Split(strings.TrimRight(text, "\n"), "\n"), "; ")
	}
	switch name {
	case "value":
		v, ok := impl.ValueOf(s.Grammar, s.Tree, at(n[0], rest))
		a, _ := impl.AttributeOf(s.Grammar, s.Tree, at(n[0], rest))
		if !ok {
			return "no"
		}
		return impl.FormatTyped(v, a.Type)
	case "why":
		return joined(impl.ExplainValue(s.Grammar, s.Tree, at(n[0], rest)))
	case "check":
		code, index := impl.CheckGrammar(s.Grammar)
		return strconv.Itoa(code) + " " + strconv.Itoa(index)
	case "circular":
		return map[bool]string{true: "yes", false: "no"}[impl.IsCircular(s.Grammar)]
	case "plan":
		plans, _ := impl.BuildPlan(s.Grammar)
		return joined(strings.Join(formatSteps(impl.StepsOf(plans, rest)), "\n"))
	case "show":
		return joined(impl.FormatTree(s.Grammar, s.Tree))
	}
	return joined(impl.ShowValues(s.Grammar, s.Tree))
}

// isQuery: the line changes nothing, whatever it is.
func isQuery(line string) bool {
	word, _, _ := strings.Cut(line, " ")
	return !slices.Contains([]string{"load", "tree", "set", "swap", "replace", "update"}, word)
}

func randomLine(random *rand.Rand, s impl.Session) string {
	id := func() string {
		if len(s.Tree.Nodes) == 0 || random.Intn(10) == 0 {
			return []string{"0", "1", "999", "-1", "01", "", "x", "1000000"}[random.Intn(8)]
		}
		return strconv.Itoa(s.Tree.Nodes[random.Intn(len(s.Tree.Nodes))].Id)
	}
	tree := func() string {
		if len(s.Grammar.Symbols) == 0 || random.Intn(8) == 0 {
			return []string{"", " ", "(box 1)", "(box)", "(page 1 (box 1)", "x", "(use 3) ", "(gen 1)", "(decl 2)"}[random.Intn(9)]
		}
		symbol := symbolNames(s.Grammar)[random.Intn(len(s.Grammar.Symbols))]
		return impl.FormatTree(s.Grammar, randomTree(random, s.Grammar, symbol))
	}
	name := func() string {
		return []string{"width", "room", "errs", "decls", "env", "out", "before", "after", "", "zz", "a b"}[random.Intn(11)]
	}
	rule := func() string {
		return []string{"page", "row", "box", "main", "seq", "block", "use", "", "zz", "a b"}[random.Intn(10)]
	}
	number := func() string {
		return []string{"0", "3", "-2", "12", "1000000", "1000001", "-1000000", "999999999999", "9999999999999", "+1", ""}[random.Intn(11)]
	}
	switch random.Intn(24) {
	case 0:
		return "load " + []string{"1", "2", "3", "3", "4", "0", "x", ""}[random.Intn(8)]
	case 1, 2:
		return "tree " + tree()
	case 3, 4, 5, 6:
		return "set " + id() + " " + number()
	case 7, 8, 9:
		return "swap " + id() + " " + id()
	case 10, 11, 12:
		return "replace " + id() + " " + tree()
	case 13, 14, 15:
		return "update"
	case 16, 17:
		return "value " + id() + " " + name()
	case 18, 19:
		return "why " + id() + " " + name()
	case 20:
		return "plan " + rule()
	case 21:
		return []string{"check", "circular", "show", "values", "show", "values"}[random.Intn(6)]
	}
	words := []string{"load", "tree", "set 1", "set 1 2 3", "swap 1", "swap 1 2 3", "replace", "replace 1", "update ", "update 1", "value", "value 1", "value 1 a b", "why 1", "check ", "check 1", "circular 0", "plan", "plan a b", "show ", "values 1", "", " ", "hm", "Load 1", "load  1", " load 1", "load 1 ", "load\t1"}
	return words[random.Intn(len(words))]
}

// TestRandomSessions is promise 42.
func TestRandomSessions(t *testing.T) {
	random := rand.New(rand.NewSource(42))
	outputs := map[string]int{}
	for range 60 {
		s := impl.NewSession()
		var lines, all []string
		for range impl.MaxLines {
			line := randomLine(random, s)
			if len(lines) == 0 && random.Intn(10) > 0 {
				line = "load " + strconv.Itoa(1+random.Intn(3))
			}
			before := plainSession(s)
			next, output := impl.ExecuteLine(s, line)
			want, wantOutput := wantLine(s, line)
			if output != wantOutput || !equalSessions(next, want) {
				t.Fatalf("%q: %q, %v; want %q, %v", line, output, next, wantOutput, want)
			}
			if !equalSessions(s, before) || isQuery(line) && !equalSessions(next, s) {
				t.Fatalf("%q changes the session", line)
			}
			if impl.EqualSession(s, next) != equalSessions(s, next) {
				t.Fatalf("EqualSession(%v, %v) = %v", s, next, impl.EqualSession(s, next))
			}
			outputs[output]++
			lines, all, s = append(lines, line), append(all, output), next
		}
		if got, ok := impl.RunSession(strings.Join(lines, "\n")); !ok || !slices.Equal(got, all) {
			t.Fatalf("RunSession = %v, %v; want %v", got, ok, all)
		}
	}
	for _, output := range []string{"ok", "no", "what", "missing", "symbol", "size", "nested", "literal", "bad", "0", "1"} {
		if outputs[output] < 3 {
			t.Errorf("%d lines have the output %q", outputs[output], output)
		}
	}
}

// script executes lines, each followed by its output, in one session.
func script(t *testing.T, parts ...string) impl.Session {
	t.Helper()
	s := impl.NewSession()
	var lines, outputs []string
	for i := 0; i < len(parts); i += 2 {
		next, output := impl.ExecuteLine(s, parts[i])
		if output != parts[i+1] {
			t.Errorf("%q: %q; want %q", parts[i], output, parts[i+1])
		}
		lines, outputs, s = append(lines, parts[i]), append(outputs, parts[i+1]), next
	}
	if got, ok := impl.RunSession(strings.Join(lines, "\n")); len(lines) <= impl.MaxLines && (!ok || !slices.Equal(got, outputs)) {
		t.Errorf("RunSession = %v, %v; want %v", got, ok, outputs)
	}
	return s
}

func TestNewSession(t *testing.T) {
	if s := impl.NewSession(); !reflect.DeepEqual(s, impl.Session{Next: 1}) {
		t.Errorf("NewSession = %v", s)
	}
	s := script(t, "check", "1 0", "circular", "no", "plan p", "no", "show", "no", "values", "no", "value 1 a", "no", "why 1 a", "no", "update", "no",
		"set 1 2", "bad", "swap 1 2", "bad", "replace 1 (p)", "no", "tree (p)", "no", "tree ", "no", "load 0", "no", "load 4", "no")
	if !impl.EqualSession(s, impl.NewSession()) {
		t.Errorf("the session is %v", s)
	}
}

func TestEditName(t *testing.T) {
	want := map[int]string{impl.EdOk: "ok", impl.EdBad: "bad", impl.EdMissing: "missing", impl.EdSymbol: "symbol", impl.EdIds: "ids", impl.EdSize: "size", impl.EdNested: "nested", impl.EdLiteral: "literal", 8: "?", -1: "?", math.MaxInt: "?", math.MinInt: "?"}
	for code, name := range want {
		if got := impl.EditName(code); got != name {
			t.Errorf("EditName(%d) = %q; want %q", code, got, name)
		}
	}
}

func TestLoad(t *testing.T) {
	s := script(t, "load 3", "ok", "show", "(page 10 (row (box 4) (row (box 5) (box 3))))", "update", "11")
	if s.Next != 7 || len(s.Memo.Entries) != 11 || impl.FormatGrammar(s.Grammar) != boxes || s.Tree.Nodes[5].Id != 6 {
		t.Errorf("the session is %v", s)
	}
	s, output := impl.ExecuteLine(s, "load 1")
	if output != "ok" || s.Next != 13 || len(s.Memo.Entries) != 0 || s.Tree.Nodes[0].Id != 7 || impl.FormatGrammar(s.Grammar) != declarations {
		t.Errorf("the session is %v, %s", s, output)
	}
	// The Ids go up to MaxId.
	for next, want := range map[int]string{impl.MaxId - 5: "ok", impl.MaxId - 4: "no", impl.MaxId + 1: "no", 0: "no", -7: "no", math.MaxInt: "no", math.MaxInt - 2: "no"} {
		s.Next = next
		loaded, output := impl.ExecuteLine(s, "load 1")
		if output != want || want == "no" && !equalSessions(loaded, s) || want == "ok" && loaded.Next != impl.MaxId+1 {
			t.Errorf("load from the Id %d on: %s, %v", next, output, loaded)
		}
	}
	for _, line := range []string{"load", "load ", "load 01", "load -1", "load 1 ", "load 1 2", "load x", "load  1", " load 1", "LOAD 1", "load 1000000", "load\n1"} {
		if got, output := impl.ExecuteLine(s, line); output != "what" || !equalSessions(got, s) {
			t.Errorf("%q: %s", line, output)
		}
	}
	if _, output := impl.ExecuteLine(s, "load 999999"); output != "no" {
		t.Errorf("there are three examples: %s", output)
	}
}

func TestNewTrees(t *testing.T) {
	s := script(t, "load 3", "ok", "update", "11", "tree (page 3 (box 9))", "ok", "show", "(page 3 (box 9))", "values", "#7.width = 3; #8.room = 3; #8.width = 3", "update", "3",
		"tree (box 1)", "no", "tree (page 3)", "no", "tree ", "no", "tree", "what", "tree (page 3 (box 9)) ", "no", "tree  (page 3 (box 9))", "no", "tree (page 3 (box 9)) (box 1)", "no", "show", "(page 3 (box 9))", "update", "0")
	if s.Next != 9 || len(s.Memo.Entries) != 3 {
		t.Errorf("the session is %v", s)
	}
	next, _ := impl.ExecuteLine(s, "tree (page 3 (box 9))")
	if next.Next != 11 || len(next.Memo.Entries) != 0 || next.Tree.Nodes[1].Id != 10 {
		t.Errorf("the session is %v", next)
	}
	// A tree replaces another one without the memo; the grammar remains.
	if !impl.EqualGrammar(next.Grammar, s.Grammar) || impl.EqualTree(next.Tree, s.Tree) {
		t.Error("the tree is replaced")
	}
	s.Next = impl.MaxId
	if same, output := impl.ExecuteLine(s, "tree (page 3 (box 9))"); output != "no" || !equalSessions(same, s) {
		t.Errorf("there is one Id left: %s", output)
	}
}

func TestEditsOfSessions(t *testing.T) {
	s := script(t, "load 3", "ok", "set 3 5", "ok", "set 6 -7", "ok", "show", "(page 10 (row (box 5) (row (box 5) (box -7))))",
		"set 2 1", "literal", "set 9 1", "missing", "set 3 1000001", "literal", "set 3 999999999999", "literal", "set 3 9999999999999", "what", "set 3 -0", "what", "set -3 1", "what", "set 3", "what", "set 3 ", "what", "set 3 1 ", "what",
		"swap 3 4", "ok", "show", "(page 10 (row (row (box 5) (box -7)) (box 5)))", "swap 3 4", "ok", "swap 2 3", "nested", "swap 3 3", "nested", "swap 1 3", "nested", "swap 3 9", "missing", "swap 9 3", "missing", "swap 3", "what", "swap 3 4 5", "what", "swap 3 -4", "what", "swap 3 x", "what",
		"replace 5 (box 2)", "ok", "show", "(page 10 (row (box 5) (row (box 2) (box -7))))", "value 7 width", "2")
	if s.Next != 8 || s.Tree.Nodes[4].Id != 7 || s.Tree.Nodes[3].Id != 4 {
		t.Errorf("the session is %v", s)
	}
	next := s
	for _, part := range [][2]string{{"replace 9 (box 2)", "missing"}, {"replace 5 (box 2)", "missing"}, {"replace 7 (page 1 (box 2))", "symbol"}, {"replace 1 (box 2)", "symbol"}, {"replace 7 ", "no"}, {"replace 7 (box)", "no"}, {"replace 7 x", "no"}, {"replace 7  (box 2)", "no"}, {"replace 7", "what"}, {"replace", "what"}, {"replace x (box 2)", "what"}, {"replace 07 (box 2)", "what"},
		{"replace 7 (row (row (row (row (row (row (box 1) (box 1)) (box 1)) (box 1)) (box 1)) (box 1)) (box 1))", "size"}} {
		same, output := impl.ExecuteLine(next, part[0])
		if output != part[1] || !equalSessions(same, s) {
			t.Errorf("%q: %q, %v; want %q", part[0], output, same, part[1])
		}
		next = same
	}
	// A replaced root keeps nothing of the old tree; Next is that after its last node.
	next, output := impl.ExecuteLine(s, "replace 1 (page 4 (row (box 1) (box 2)))")
	if output != "ok" || next.Next != 12 || len(next.Tree.Nodes) != 4 || next.Tree.Nodes[3].Id != 11 {
		t.Errorf("%s, %v", output, next)
	}
	// An Id that Next gives may be there already.
	s.Next = 3
	if same, output := impl.ExecuteLine(s, "replace 7 (box 1)"); output != "ids" || !equalSessions(same, s) {
		t.Errorf("the Id 3 occurs twice: %s", output)
	}
	if next, output := impl.ExecuteLine(s, "replace 3 (box 1)"); output != "ok" || next.Next != 4 {
		t.Errorf("the Id 3 is free: %s, %v", output, next)
	}
	// A grammar that is not accepted.
	s.Grammar.Rules[0].Equations = nil
	for _, line := range []string{"set 3 1", "swap 3 4", "replace 3 (box 1)"} {
		if same, output := impl.ExecuteLine(s, line); output != "bad" || !equalSessions(same, s) {
			t.Errorf("%q: %s", line, output)
		}
	}
}

func TestUpdatesOfSessions(t *testing.T) {
	script(t, "load 3", "ok", "update", "11", "update", "0", "set 3 5", "ok", "update", "8", "set 3 4", "ok", "set 3 5", "ok", "update", "0", "swap 3 4", "ok", "update", "9", "replace 6 (box 0)", "ok", "update", "7", "update 1", "what", "update ", "what",
		"load 2", "ok", "update", "no", "tree (main (seq (gen 1) (kill 1)))", "ok", "update", "7", "replace 17 (loop (gen 1))", "ok", "update", "no", "set 18 2", "ok", "update", "no")
	s := script(t, "load 2", "ok", "tree (main (gen 1))", "ok", "update", "3", "replace 9 (loop (gen 1))", "ok", "update", "no")
	if len(s.Memo.Entries) != 3 {
		t.Errorf("the memo is %v", s.Memo)
	}
	// An update that fails changes nothing; the next one uses the old memo, as far as it still holds.
	script(t, "load 2", "ok", "tree (main (seq (gen 1) (kill 2)))", "ok", "update", "7", "replace 11 (loop (gen 1))", "ok", "update", "no", "replace 12 (kill 2)", "ok", "update", "4", "update", "0")
}

func TestQueries(t *testing.T) {
	s := script(t, "load 1", "ok", "check", "0 0", "circular", "no", "plan use", "no", "value 1 decls", "{3}", "value 2 env", "#1", "value 6 errs", "1", "value 6 decls", "no", "value 7 errs", "no", "value 6 ", "no",
		"why 5 env", "#2.env = #1 := self(0); #3.env = #1 := $0.env; #5.env = #1 := $0.env", "why 1 decls", "#1.decls = {3}; #2.env = #1 := self(0); #3.env = #1 := $0.env; #5.env = #1 := $0.env", "why 1 env", "no", "why 9 errs", "no", "why 1 ", "no",
		"value", "what", "value 1", "what", "value x errs", "what", "value 1 errs x", "what", "value 1 errs ", "what", "why 1", "what", "why -1 errs", "what", "why 1 errs x", "what",
		"check ", "what", "circular x", "what", "show x", "what", "values ", "what", "plan", "what", "plan use x", "what")
	if len(s.Memo.Entries) != 0 || s.Next != 7 {
		t.Errorf("queries change the session: %v", s)
	}
	script(t, "load 2", "ok", "circular", "yes", "plan seq", "no", "value 1 out", "{1 2}", "why 1 out", "no", "why 3 after", "#2.before = {} := {}; #3.before = {} := $0.before; #3.after = {1} := with($0.before, lit)", "update", "no",
		"show", "(main (seq (gen 1) (loop (seq (kill 1) (gen 2)))))")
	script(t, "load 3", "ok", "circular", "no", "plan page", "eval $1.room; visit 1.1; eval $0.width; leave 1", "plan box", "eval $0.width; leave 1", "plan zz", "no", "plan ", "no",
		"values", "#1.width = 10; #2.room = 10; #2.width = 10; #3.room = 10; #3.width = 4; #4.room = 6; #4.width = 6; #5.room = 6; #5.width = 5; #6.room = 1; #6.width = 1",
		"Show", "what", "", "what", " ", "what", "show\t", "what", "shows", "what", "hm 1 2", "what", "new", "what", "quit", "what")
	// A session with another grammar: a code with an index, and rules without steps.
	g := twoPhases(t)
	s = impl.Session{Grammar: g, Tree: treeOf(t, g, "(p (q 1))"), Next: 3}
	if _, output := impl.ExecuteLine(s, "plan q"); output != "eval $0.x; leave 1; eval $0.y; leave 2" {
		t.Errorf("plan: %s", output)
	}
	s.Grammar.Rules[2].Equations = s.Grammar.Rules[2].Equations[1:]
	for line, want := range map[string]string{"check": "4 2", "plan q": "no", "circular": "no", "values": "no", "value 1 v": "no", "why 1 v": "no", "update": "no", "show": "(p (q 1))"} {
		if same, output := impl.ExecuteLine(s, line); output != want || !equalSessions(same, s) {
			t.Errorf("%q: %s; want %s", line, output, want)
		}
	}
	s.Tree.Nodes[1].Place = 4
	if _, output := impl.ExecuteLine(s, "show"); output != "no" {
		t.Errorf("show: %s", output)
	}
}

func TestEqualSession(t *testing.T) {
	full := func() impl.Session {
		g := grammarFrom(t, boxes)
		x := treeOf(t, g, exampleTrees()[2])
		m, _ := impl.FreshMemo(g, x)
		return impl.Session{Grammar: g, Tree: x, Memo: m, Next: 7}
	}
	if !impl.EqualSession(full(), full()) || !impl.EqualSession(impl.Session{}, impl.Session{}) {
		t.Error("equal sessions are equal")
	}
	for what, change := range map[string]func(s *impl.Session){
		"Next":      func(s *impl.Session) { s.Next = 8 },
		"Id":        func(s *impl.Session) { s.Tree.Nodes[3].Id = 9 },
		"Literal":   func(s *impl.Session) { s.Tree.Nodes[4].Literal = 9 },
		"Tree":      func(s *impl.Session) { s.Tree = impl.Tree{} },
		"Memo":      func(s *impl.Session) { s.Memo = impl.Memo{} },
		"Value":     func(s *impl.Session) { s.Memo.Entries[2].Value++ },
		"Evaluated": func(s *impl.Session) { s.Memo.Evaluated = nil },
		"Symbols":   func(s *impl.Session) { s.Grammar.Symbols[1].Attributes[0].Name = "rooms" },
		"Rules":     func(s *impl.Session) { s.Grammar.Rules[1].Equations[2].Expr.Args[1].N = 1 },
		"Grammar":   func(s *impl.Session) { s.Grammar = impl.Grammar{} },
	} {
		s := full()
		change(&s)
		if impl.EqualSession(s, full()) || impl.EqualSession(full(), s) {
			t.Errorf("another %s makes another session", what)
		}
	}
}

func TestRunSession(t *testing.T) {
	run := func(text string, ok bool, want ...string) {
		t.Helper()
		if got, good := impl.RunSession(text); good != ok || !slices.Equal(got, want) {
			t.Errorf("RunSession(%q) = %v, %v; want %v, %v", text, got, good, want, ok)
		}
	}
	run("", true, "what")
	run("\n", true, "what", "what")
	run("load 3\nvalue 1 width\n", true, "ok", "10", "what")
	run("load 3\r\nvalue 1 width", true, "what", "no")
	run("check\nload 1\ncheck", true, "1 0", "ok", "0 0")
	// Each session begins anew.
	run("load 1\nvalue 1 errs", true, "ok", "1")
	run("load 1\nvalue 1 errs", true, "ok", "1")
	lines := slices.Repeat([]string{"show"}, impl.MaxLines)
	run(strings.Join(lines, "\n"), true, slices.Repeat([]string{"no"}, impl.MaxLines)...)
	run(strings.Join(lines, "\n")+"\n", false)
	run(strings.Repeat("\n", impl.MaxLines-1), true, slices.Repeat([]string{"what"}, impl.MaxLines)...)
	run(strings.Repeat("\n", impl.MaxLines), false)
}
