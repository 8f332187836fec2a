package tests

import (
	"math/rand"
	"slices"
	"testing"

	"loop.example/g00512/impl"
)

func firstEntry(m impl.Memo, y impl.Instance) *impl.Entry {
	for i := range m.Entries {
		if m.Entries[i].At == y {
			return &m.Entries[i]
		}
	}
	return nil
}

func wantJustified(g impl.Grammar, x impl.Tree, old impl.Memo, now impl.Memo, y impl.Instance) bool {
	before := firstEntry(old, y)
	if before == nil || !impl.SameSource(*before, wantSource(g, x, y)) {
		return true
	}
	for _, r := range before.Reads {
		if r.At.Name == "" {
			if symbolAt(g, x, r.At.Node) != r.Symbol {
				return true
			}
		} else if e := firstEntry(now, r.At); e == nil || e.Value != r.Value {
			return true
		}
	}
	return false
}

func symbolAt(g impl.Grammar, x impl.Tree, id int) string {
	for i, n := range x.Nodes {
		if n.Id == id {
			return impl.SymbolOfNode(g, x, i)
		}
	}
	return ""
}

func wantChanged(old impl.Memo, now impl.Memo) []impl.Instance {
	var list []impl.Instance
	for _, e := range now.Entries {
		if before := firstEntry(old, e.At); before != nil && before.Value != e.Value {
			list = append(list, e.At)
		}
	}
	return list
}

// wantAffected follows the readings of each instance of a memo.
func wantAffected(m impl.Memo, list []impl.Instance) []impl.Instance {
	var leads func(y impl.Instance, seen []impl.Instance) bool
	leads = func(y impl.Instance, seen []impl.Instance) bool {
		if slices.Contains(list, y) {
			return true
		}
		for _, e := range m.Entries {
			for _, r := range e.Reads {
				if e.At == y && r.At.Name != "" && !slices.Contains(seen, r.At) && leads(r.At, append(slices.Clone(seen), r.At)) {
					return true
				}
			}
		}
		return false
	}
	var found []impl.Instance
	for _, e := range m.Entries {
		if leads(e.At, []impl.Instance{e.At}) {
			found = append(found, e.At)
		}
	}
	return found
}

// causes returns the instances of the old memo that no longer exist, have another source or have read the symbol of a
// node that has another one now.
func causes(g impl.Grammar, x impl.Tree, old impl.Memo) []impl.Instance {
	var list []impl.Instance
	instances := impl.Instances(g, x)
	for _, e := range old.Entries {
		other := slices.ContainsFunc(e.Reads, func(r impl.Reading) bool { return r.At.Name == "" && symbolAt(g, x, r.At.Node) != r.Symbol })
		if other || !slices.Contains(instances, e.At) || !impl.SameSource(e, impl.SourceOf(g, x, e.At)) {
			list = append(list, e.At)
		}
	}
	return list
}

// TestEveryEvaluationIsJustified is promise 38.
func TestEveryEvaluationIsJustified(t *testing.T) {
	random := rand.New(rand.NewSource(38))
	evaluated, spared, unaffected := 0, 0, 0
	for _, g := range append(randomGrammars(t, random, 40, numbers(), anyTypes(), anything(), anything()), twoKinds(t), wide(t), wide(t)) {
		x := randomTree(random, g, "s")
		old, ok := impl.FreshMemo(g, x)
		for range 5 {
			x = editedTree(random, g, x)
			now, updated := impl.UpdateMemo(g, x, old)
			if !ok || !updated {
				old, ok = impl.FreshMemo(g, x)
				continue
			}
			if list := impl.UnjustifiedOf(g, x, old, now); len(list) != 0 {
				t.Fatalf("%v are not justified", list)
			}
			affected := impl.AffectedBy(old, causes(g, x, old))
			if want := wantAffected(old, causes(g, x, old)); !slices.Equal(affected, want) {
				t.Fatalf("AffectedBy = %v; want %v", affected, want)
			}
			changed := impl.ChangedValues(old, now)
			if want := wantChanged(old, now); !slices.Equal(changed, want) {
				t.Fatalf("ChangedValues = %v; want %v", changed, want)
			}
			for _, y := range impl.Instances(g, x) {
				known := firstEntry(old, y) != nil
				if slices.Contains(now.Evaluated, y) {
					evaluated++
					if known && !slices.Contains(affected, y) {
						t.Fatalf("%v is evaluated, but not affected", y)
					}
				} else {
					if slices.Contains(changed, y) || impl.IsJustified(g, x, old, now, y) {
						t.Fatalf("%v is not evaluated", y)
					}
					spared++
					if !slices.Contains(affected, y) {
						unaffected++
					}
				}
			}
			old = now
		}
	}
	if evaluated < 1000 || unaffected < 500 || spared < unaffected+50 {
		t.Errorf("%d evaluations, %d instances are not evaluated, %d of them not affected", evaluated, spared, unaffected)
	}
}

// TestRandomWork judges memos that do not belong together.
func TestRandomWork(t *testing.T) {
	random := rand.New(rand.NewSource(381))
	counts := map[bool]int{}
	for _, g := range append(randomGrammars(t, random, 30, anything(), anything()), wide(t)) {
		x := randomTree(random, g, "s")
		old, _ := impl.FreshMemo(g, x)
		if len(old.Entries) == 0 {
			continue
		}
		for range 4 {
			y := x
			if random.Intn(2) == 0 {
				y = editedTree(random, g, x)
			}
			now, ok := impl.FreshMemo(g, y)
			if !ok || random.Intn(3) == 0 {
				now = damagedMemo(random, old)
			}
			before := old
			if random.Intn(2) == 0 {
				before = damagedMemo(random, old)
			}
			list := append(impl.Instances(g, y), append(impl.Instances(g, x), at(1000, "x"), impl.Instance{})...)
			now.Evaluated = someOf(random, list, 2)
			var want []impl.Instance
			for _, z := range now.Evaluated {
				justified := wantJustified(g, y, before, now, z)
				if got := impl.IsJustified(g, y, before, now, z); got != justified {
					t.Fatalf("IsJustified(%v) = %v", z, got)
				}
				counts[justified]++
				if !justified {
					want = append(want, z)
				}
			}
			if got := impl.UnjustifiedOf(g, y, before, now); !slices.Equal(got, want) {
				t.Fatalf("UnjustifiedOf = %v; want %v", got, want)
			}
			if got, want := impl.ChangedValues(before, now), wantChanged(before, now); !slices.Equal(got, want) {
				t.Fatalf("ChangedValues = %v; want %v", got, want)
			}
			some := someOf(random, list, 6)
			if got, want := impl.AffectedBy(before, some), wantAffected(before, some); !slices.Equal(got, want) {
				t.Fatalf("AffectedBy(%v) = %v; want %v", some, got, want)
			}
		}
	}
	if min(counts[true], counts[false]) < 200 {
		t.Error(counts)
	}
}

// changedMemo returns a memo with another entry of an instance.
func changedMemo(m impl.Memo, y impl.Instance, change func(e *impl.Entry)) impl.Memo {
	var c impl.Memo
	for _, e := range m.Entries {
		e.Reads, e.Ids = slices.Clone(e.Reads), slices.Clone(e.Ids)
		if e.At == y {
			change(&e)
		}
		c.Entries = append(c.Entries, e)
	}
	return c
}

func withoutEntry(m impl.Memo, y impl.Instance) impl.Memo {
	return impl.Memo{Entries: slices.DeleteFunc(slices.Clone(m.Entries), func(e impl.Entry) bool { return e.At == y })}
}

// judge judges evaluations of trees of one grammar.
type judge struct {
	g impl.Grammar
}

func (j judge) is(t *testing.T, want bool, what string, x impl.Tree, old impl.Memo, now impl.Memo, y impl.Instance) {
	t.Helper()
	if got := impl.IsJustified(j.g, x, old, now, y); got != want {
		t.Errorf("%s: IsJustified(%v) = %v", what, y, got)
	}
}

func TestIsJustified(t *testing.T) {
	j := judge{grammarFrom(t, declarations)}
	x := treeOf(t, j.g, exampleTrees()[0])
	m, _ := impl.FreshMemo(j.g, x)
	use := at(4, "errs")
	for _, y := range impl.Instances(j.g, x) {
		j.is(t, false, "nothing is changed", x, m, m, y)
		j.is(t, true, "no memo", x, impl.Memo{}, m, y)
		j.is(t, true, "no entry", x, withoutEntry(m, y), m, y)
		j.is(t, false, "no entry now", x, m, withoutEntry(m, y), y)
	}
	source := func(want bool, what string, change func(e *impl.Entry)) {
		t.Helper()
		j.is(t, want, what, x, changedMemo(m, use, change), m, use)
	}
	source(false, "another value", func(e *impl.Entry) { e.Value = 5 })
	source(true, "another literal", func(e *impl.Entry) { e.Literal = 5 })
	source(true, "another owner", func(e *impl.Entry) { e.Owner = 5 })
	source(true, "another rule", func(e *impl.Entry) { e.Rule = "decl" })
	source(true, "other Ids", func(e *impl.Entry) { e.Ids = nil })
	source(true, "a shape", func(e *impl.Entry) { e.Shape = []int{1} })
	// The tree decides about the source and the symbols; the rest of it does not matter.
	y := cloneTree(x)
	y.Nodes[3].Literal = 9
	j.is(t, true, "another literal in the tree", y, m, m, use)
	j.is(t, true, "a collected instance", y, m, m, at(1, "decls"))
	j.is(t, false, "another node", y, m, m, at(5, "errs"))
	j.is(t, true, "no tree", impl.Tree{}, m, m, use)
	j.is(t, true, "a subtree without the node that was read", impl.Subtree(x, 1), m, m, use)
	j.is(t, true, "an instance that does not exist", x, m, m, at(9, "errs"))
	strange := impl.Memo{Entries: []impl.Entry{{At: at(9, "errs")}, {At: at(9, "errs"), Owner: 3}}}
	j.is(t, false, "an instance that does not exist has an empty source", x, strange, m, at(9, "errs"))
	slices.Reverse(strange.Entries)
	j.is(t, true, "the first entry counts", x, strange, m, at(9, "errs"))
}

// TestReadingsAreJudged: values are compared with those of the new memo, symbols with those of the tree.
func TestReadingsAreJudged(t *testing.T) {
	j := judge{grammarFrom(t, declarations)}
	x := treeOf(t, j.g, exampleTrees()[0])
	m, _ := impl.FreshMemo(j.g, x)
	use := at(4, "errs")
	recorded := func(want bool, what string, change func(e *impl.Entry)) {
		t.Helper()
		j.is(t, want, what, x, changedMemo(m, use, change), m, use)
	}
	recorded(false, "no readings", func(e *impl.Entry) { e.Reads = nil })
	recorded(true, "a reading of another value", func(e *impl.Entry) { e.Reads[2].Value = 7 })
	recorded(true, "a reading of what does not exist", func(e *impl.Entry) { e.Reads[0].At.Node = 40 })
	recorded(true, "another symbol", func(e *impl.Entry) { e.Reads[1].Symbol = "t" })
	recorded(true, "no symbol", func(e *impl.Entry) { e.Reads[1].Symbol = "" })
	recorded(true, "a symbol of no node", func(e *impl.Entry) { e.Reads[1].At.Node = 40 })
	recorded(false, "no symbol of no node", func(e *impl.Entry) { e.Reads[1] = symbolReading(40, "") })
	now := func(want bool, what string, now impl.Memo) {
		t.Helper()
		j.is(t, want, what, x, m, now, use)
	}
	now(false, "another value of the instance itself", changedMemo(m, use, func(e *impl.Entry) { e.Value = 5 }))
	now(true, "a value that was read is another one", changedMemo(m, at(1, "decls"), func(e *impl.Entry) { e.Value = 9 }))
	now(true, "what was read first is another one", changedMemo(m, at(4, "env"), func(e *impl.Entry) { e.Value = 2 }))
	now(true, "what was read has no entry", withoutEntry(m, at(1, "decls")))
	now(false, "what was not read has no entry", withoutEntry(m, at(5, "env")))
	now(false, "an entry without a name", impl.Memo{Entries: append(slices.Clone(m.Entries), impl.Entry{At: at(1, ""), Value: 3})})
}

func TestUnjustifiedOf(t *testing.T) {
	g := grammarFrom(t, boxes)
	x := treeOf(t, g, exampleTrees()[2])
	m, _ := impl.FreshMemo(g, x)
	y := edited(t, g, x, setting(6, 0))
	now, _ := impl.UpdateMemo(g, y, m)
	fresh, _ := impl.FreshMemo(g, y)
	if got := impl.UnjustifiedOf(g, y, m, now); len(got) != 0 {
		t.Errorf("UnjustifiedOf = %v", got)
	}
	// A fresh evaluation evaluates all; four of them are justified.
	want := []impl.Instance{at(2, "room"), at(3, "room"), at(3, "width"), at(4, "room"), at(5, "room"), at(5, "width"), at(6, "room")}
	if got := impl.UnjustifiedOf(g, y, m, fresh); !slices.Equal(got, want) {
		t.Errorf("UnjustifiedOf = %v; want %v", got, want)
	}
	fresh.Evaluated = []impl.Instance{at(3, "room"), at(6, "width"), at(2, "room"), at(3, "room")}
	if got, want := impl.UnjustifiedOf(g, y, m, fresh), []impl.Instance{at(3, "room"), at(2, "room"), at(3, "room")}; !slices.Equal(got, want) {
		t.Errorf("UnjustifiedOf = %v; want %v", got, want)
	}
	if got := impl.UnjustifiedOf(g, y, impl.Memo{}, fresh); len(got) != 0 {
		t.Errorf("UnjustifiedOf without a memo = %v", got)
	}
	if got := impl.UnjustifiedOf(g, y, m, impl.Memo{Entries: fresh.Entries}); len(got) != 0 {
		t.Errorf("UnjustifiedOf without evaluations = %v", got)
	}
	if got, want := impl.UnjustifiedOf(g, x, m, m), m.Evaluated; !slices.Equal(got, want) {
		t.Errorf("UnjustifiedOf = %v; want %v", got, want)
	}
}

func TestChangedValues(t *testing.T) {
	memo := func(list ...impl.Entry) impl.Memo { return impl.Memo{Entries: list} }
	a, b, c := at(1, "a"), at(1, "b"), at(2, "a")
	old := memo(impl.Entry{At: a, Value: 1}, impl.Entry{At: b, Value: 2}, impl.Entry{At: c, Value: 3}, impl.Entry{At: at(3, "a")})
	now := memo(impl.Entry{At: at(4, "a"), Value: 9}, impl.Entry{At: c, Value: 4}, impl.Entry{At: b, Value: 2, Owner: 7, Literal: 8}, impl.Entry{At: a, Value: 0})
	if got := impl.ChangedValues(old, now); !slices.Equal(got, []impl.Instance{c, a}) {
		t.Errorf("ChangedValues = %v", got)
	}
	if got := impl.ChangedValues(now, old); !slices.Equal(got, []impl.Instance{a, c}) {
		t.Errorf("ChangedValues = %v", got)
	}
	if len(impl.ChangedValues(old, old))+len(impl.ChangedValues(old, impl.Memo{}))+len(impl.ChangedValues(impl.Memo{}, now)) != 0 {
		t.Error("nothing is changed")
	}
}

func TestAffectedBy(t *testing.T) {
	entry := func(name string, reads ...impl.Reading) impl.Entry { return impl.Entry{At: at(1, name), Reads: reads} }
	read := func(name string) impl.Reading { return reading(at(1, name), 5) }
	m := impl.Memo{Entries: []impl.Entry{entry("d", read("c"), read("x")), entry("a"), entry("b", read("a")), entry("c", read("e"), read("b")), entry("e", symbolReading(1, "s")), entry("f", read("g")), entry("g", read("f"))}}
	is := func(list []string, want ...string) {
		t.Helper()
		var from, names []impl.Instance
		for _, name := range list {
			from = append(from, at(1, name))
		}
		for _, name := range want {
			names = append(names, at(1, name))
		}
		if got := impl.AffectedBy(m, from); !slices.Equal(got, names) {
			t.Errorf("AffectedBy(%v) = %v; want %v", list, got, names)
		}
	}
	is(nil)
	is([]string{"a"}, "d", "a", "b", "c")
	is([]string{"b"}, "d", "b", "c")
	is([]string{"e"}, "d", "c", "e")
	is([]string{"d"}, "d")
	is([]string{"d", "d", "e"}, "d", "c", "e")
	// A cycle of readings, an instance without an entry, and one that nothing reads.
	is([]string{"f"}, "f", "g")
	is([]string{"x"}, "d")
	is([]string{"y"})
	// A reading of a symbol is no reading of an instance.
	is([]string{""})
	if len(impl.AffectedBy(impl.Memo{}, []impl.Instance{at(1, "a")})) != 0 {
		t.Error("an empty memo has no instances")
	}
}
