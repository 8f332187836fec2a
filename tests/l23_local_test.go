package tests

import (
	"math"
	"math/rand"
	"reflect"
	"slices"
	"testing"

	"loop.example/g00512/impl"
)

func occurrence(pos int, name string) impl.Occurrence {
	return impl.Occurrence{Pos: pos, Name: name}
}

func ruleOf(t *testing.T, g impl.Grammar, name string) impl.Rule {
	t.Helper()
	r, ok := impl.FindRule(g, name)
	if !ok {
		t.Fatalf("no rule %q", name)
	}
	return r
}

// pairsOf returns the pairs of a relation in order.
func pairsOf(r impl.Relation) [][2]int {
	var pairs [][2]int
	for i := range r.N {
		for k := range r.N {
			if impl.HasPair(r, i, k) {
				pairs = append(pairs, [2]int{i, k})
			}
		}
	}
	return pairs
}

func TestOccurrencesOfBoxes(t *testing.T) {
	g := grammarFrom(t, boxes)
	row := ruleOf(t, g, "row")
	want := []impl.Occurrence{{Pos: 0, Name: "room"}, {Pos: 0, Name: "width"}, {Pos: 1, Name: "room"}, {Pos: 1, Name: "width"}, {Pos: 2, Name: "room"}, {Pos: 2, Name: "width"}}
	if got := impl.OccurrencesOf(g, row); !slices.Equal(got, want) {
		t.Errorf("OccurrencesOf = %v", got)
	}
	for i, o := range want {
		if impl.OccurrenceIndex(want, o) != i {
			t.Errorf("OccurrenceIndex(%v) = %d", o, impl.OccurrenceIndex(want, o))
		}
	}
	local := impl.LocalRelation(g, row)
	if local.N != 6 || !reflect.DeepEqual(pairsOf(local), [][2]int{{0, 2}, {0, 4}, {3, 1}, {3, 4}, {5, 1}}) {
		t.Errorf("LocalRelation = %v", pairsOf(local))
	}
	for pos, want := range map[int][]int{0: {0, 1}, 1: {2, 3}, 2: {4, 5}, 3: nil, -1: nil, math.MaxInt: nil, math.MinInt: nil} {
		if got := impl.PositionIndices(g, row, pos); !slices.Equal(got, want) {
			t.Errorf("PositionIndices(%d) = %v", pos, got)
		}
	}
	if got := impl.LocalRelation(g, ruleOf(t, g, "page")); !reflect.DeepEqual(pairsOf(got), [][2]int{{2, 0}}) || got.N != 3 {
		t.Errorf("LocalRelation = %v", got)
	}
	if got := impl.LocalRelation(g, ruleOf(t, g, "box")); !reflect.DeepEqual(pairsOf(got), [][2]int{{0, 1}}) || got.N != 2 {
		t.Errorf("LocalRelation = %v", got)
	}
}

func TestOccurrenceIndex(t *testing.T) {
	list := []impl.Occurrence{{Pos: 1, Name: "a"}, {Pos: 0, Name: "a"}, {Pos: 1, Name: "a"}, {}}
	for i, want := range []int{0, 1, 0, 3} {
		if got := impl.OccurrenceIndex(list, list[i]); got != want {
			t.Errorf("OccurrenceIndex(%v) = %d; want %d", list[i], got, want)
		}
	}
	for _, o := range []impl.Occurrence{{Pos: 2, Name: "a"}, {Pos: 1, Name: "b"}, {Pos: 1}} {
		if impl.OccurrenceIndex(list, o) != -1 || impl.OccurrenceIndex(nil, o) != -1 {
			t.Errorf("%v is in the list", o)
		}
	}
}

func TestPlainAttributes(t *testing.T) {
	g := grammarFrom(t, declarations)
	s, tt := impl.PlainAttributes(g, "s"), impl.PlainAttributes(g, "t")
	if !slices.Equal(s, g.Symbols[0].Attributes[:1]) || !slices.Equal(tt, g.Symbols[1].Attributes) || len(impl.PlainAttributes(g, "u")) != 0 || len(impl.PlainAttributes(impl.Grammar{}, "")) != 0 {
		t.Error("a collected attribute is not plain", s, tt)
	}
	if got := impl.OccurrencesOf(g, ruleOf(t, g, "block")); !slices.Equal(got, []impl.Occurrence{{Pos: 0, Name: "errs"}, {Pos: 1, Name: "env"}, {Pos: 1, Name: "errs"}}) {
		t.Error(got)
	}
	s[0].Name = "zz"
	if impl.FormatGrammar(g) != declarations {
		t.Error("the grammar is changed")
	}
	odd := impl.Grammar{Symbols: []impl.Symbol{{Name: "s", Attributes: []impl.Attribute{{Name: "a"}, {Name: "b", Mode: 4}, {Name: "c", Mode: impl.ModeInherited}, {Name: "d", Mode: -1}, {Name: "c", Mode: impl.ModeSynthesized}}}, {Name: "s"}}}
	if got := impl.PlainAttributes(odd, "s"); len(got) != 2 || got[0].Mode != impl.ModeInherited || got[1].Mode != impl.ModeSynthesized {
		t.Error("other modes are not plain", got)
	}
	// Collected and circular attributes, and remote attributes, are no matter of the relation but for the uses in them.
	c := grammarOf(t, "symbol s x:col:set a:syn:set! b:syn:set", "rule p s : s", "eq $0.a := $1.b | s.a of self(0) | s.x of self(1)", "eq $0.b := if has($1.a, 1) then {} else s.b of s.m of none", "put s.x of self(0) := $1.a")
	if got := impl.LocalRelation(c, ruleOf(t, c, "p")); got.N != 4 || !reflect.DeepEqual(pairsOf(got), [][2]int{{2, 1}, {3, 0}}) {
		t.Error(pairsOf(got))
	}
}

// TestLocalRelations is promise 23.
func TestLocalRelations(t *testing.T) {
	random := rand.New(rand.NewSource(23))
	for _, g := range randomGrammars(t, random, 100, numbers(), anything()) {
		for _, r := range g.Rules {
			var want []impl.Occurrence
			for pos, name := range append([]string{r.Left}, r.Right...) {
				s, _ := impl.FindSymbol(g, name)
				var indices []int
				for _, a := range s.Attributes {
					if a.Mode != impl.ModeCollected {
						indices = append(indices, len(want))
						want = append(want, occurrence(pos, a.Name))
					}
				}
				if got := impl.PositionIndices(g, r, pos); !slices.Equal(got, indices) {
					t.Fatalf("PositionIndices(%d) = %v; want %v", pos, got, indices)
				}
			}
			if got := impl.OccurrencesOf(g, r); !slices.Equal(got, want) {
				t.Fatalf("OccurrencesOf = %v; want %v", got, want)
			}
			relationContainsUses(t, g, r, want)
		}
	}
}

func relationContainsUses(t *testing.T, g impl.Grammar, r impl.Rule, list []impl.Occurrence) {
	t.Helper()
	local := impl.LocalRelation(g, r)
	if local.N != len(list) || !impl.IsValidRelation(local) {
		t.Fatalf("LocalRelation = %v", local)
	}
	for i, u := range list {
		for k, o := range list {
			e, ok := impl.FindEquation(r, o)
			if want := ok && slices.Contains(impl.AttributeUses(e), u); impl.HasPair(local, i, k) != want {
				t.Fatalf("the relation contains %v, %v: %v", u, o, !want)
			}
		}
	}
}

func TestLocalRelationOfWrongGrammars(t *testing.T) {
	many := impl.Symbol{Name: "m", Attributes: []impl.Attribute{plain("a"), plain("b"), plain("c"), plain("d")}}
	g := impl.Grammar{Symbols: []impl.Symbol{many, {Name: "n", Attributes: []impl.Attribute{plain("a"), plain("a"), {Name: "x"}}}}}
	full := impl.Rule{Left: "m", Right: []string{"m", "m", "m"}, Equations: []impl.Equation{equation(3, "d", attr(3, "d")), equation(0, "a", attr(3, "d")), equation(0, "a", attr(1, "a"))}}
	if got := impl.LocalRelation(g, full); got.N != 16 || !reflect.DeepEqual(pairsOf(got), [][2]int{{15, 0}, {15, 15}}) {
		t.Error("the first equation counts", pairsOf(got))
	}
	full.Right = append(full.Right, "n")
	if got := impl.LocalRelation(g, full); got.N != 0 || len(got.Rows) != 0 || len(impl.OccurrencesOf(g, full)) != 18 || len(impl.PositionIndices(g, full, 4)) != 2 {
		t.Error("there are too many occurrences", got)
	}
	twice := impl.Rule{Left: "n", Right: []string{"zz", "n"}, Equations: []impl.Equation{equation(0, "a", op(impl.OpAdd, attr(2, "a"), attr(0, "zz"))), equation(0, "x", attr(0, "a")), equation(7, "a", attr(0, "a"))}}
	if got := impl.LocalRelation(g, twice); got.N != 4 || !reflect.DeepEqual(pairsOf(got), [][2]int{{2, 0}, {2, 1}}) {
		t.Error("the first index of a use counts, for each occurrence with an equation", pairsOf(got))
	}
	if got := impl.OccurrencesOf(g, twice); !slices.Equal(got, []impl.Occurrence{{Name: "a"}, {Name: "a"}, {Pos: 2, Name: "a"}, {Pos: 2, Name: "a"}}) {
		t.Error("a symbol that does not exist has no attributes", got)
	}
	if got := impl.LocalRelation(impl.Grammar{}, twice); got.N != 0 || !impl.IsValidRelation(got) {
		t.Error(got)
	}
}
