package tests

import (
	"math/rand"
	"slices"
	"testing"

	"loop.example/g00512/impl"
)

// updater determines the values of instances as chapter 37 says; open are those being determined.
type updater struct {
	computer
	old       impl.Memo
	list      []impl.Instance
	entries   map[impl.Instance]impl.Entry
	open      []impl.Instance
	reads     []impl.Reading
	evaluated []impl.Instance
	cyclic    bool
}

func newUpdater(g impl.Grammar, x impl.Tree, old impl.Memo) *updater {
	u := &updater{old: old, list: impl.Instances(g, x), entries: map[impl.Instance]impl.Entry{}}
	record := func(y impl.Instance) int {
		v := u.value(y)
		u.reads = append(u.reads, reading(y, v))
		return v
	}
	look := func(id int) string {
		u.reads = append(u.reads, symbolReading(id, u.symbolNow(id)))
		return u.symbolNow(id)
	}
	u.computer = computer{g, x, record, look}
	return u
}

func (u *updater) symbolNow(id int) string {
	return impl.SymbolOfNode(u.g, u.x, impl.NodeIndex(u.x, id))
}

func (u *updater) value(y impl.Instance) int {
	if e, ok := u.entries[y]; ok {
		return e.Value
	}
	u.cyclic = u.cyclic || slices.Contains(u.open, y)
	if u.cyclic {
		return 0
	}
	u.open = append(u.open, y)
	e := u.determine(y)
	u.open = u.open[:len(u.open)-1]
	u.entries[y] = e
	return e.Value
}

func (u *updater) determine(y impl.Instance) impl.Entry {
	e := wantSource(u.g, u.x, y)
	i := slices.IndexFunc(u.old.Entries, func(e impl.Entry) bool { return e.At == y })
	if i >= 0 && impl.SameSource(e, u.old.Entries[i]) && u.holds(u.old.Entries[i].Reads) {
		return u.old.Entries[i]
	}
	outer := u.reads
	u.reads = nil
	e.Value = u.compute(y)
	e.Reads, u.reads = u.reads, outer
	u.evaluated = append(u.evaluated, y)
	return e
}

func (u *updater) holds(reads []impl.Reading) bool {
	for _, r := range reads {
		switch {
		case r.At.Name == "" && u.symbolNow(r.At.Node) != r.Symbol:
			return false
		case r.At.Name != "" && (!slices.Contains(u.list, r.At) || u.value(r.At) != r.Value):
			return false
		}
	}
	return true
}

// wantUpdate is the result of UpdateMemo for an accepted grammar and a tree.
func wantUpdate(g impl.Grammar, x impl.Tree, old impl.Memo) (impl.Memo, bool) {
	u := newUpdater(g, x, old)
	var m impl.Memo
	for _, y := range u.list {
		u.value(y)
		m.Entries = append(m.Entries, u.entries[y])
	}
	if u.cyclic {
		return impl.Memo{}, false
	}
	m.Evaluated = u.evaluated
	return m, true
}

func equalMemos(a impl.Memo, b impl.Memo) bool {
	return slices.EqualFunc(a.Entries, b.Entries, equalEntries) && slices.Equal(a.Evaluated, b.Evaluated)
}

// updateIsRight compares an update with the oracle.
func updateIsRight(t *testing.T, g impl.Grammar, x impl.Tree, old impl.Memo) (impl.Memo, bool) {
	t.Helper()
	m, ok := impl.UpdateMemo(g, x, old)
	want, wantOk := wantUpdate(g, x, old)
	if ok != wantOk || !equalMemos(m, want) {
		t.Fatalf("UpdateMemo = %v, %v; want %v, %v; tree %s", m, ok, want, wantOk, impl.FormatTree(g, x))
	}
	return m, ok
}

// TestUpdatesGiveWhatFreshOnesGive is promise 37.
func TestUpdatesGiveWhatFreshOnesGive(t *testing.T) {
	random := rand.New(rand.NewSource(37))
	reused, evaluated, cyclic := 0, 0, 0
	for _, g := range append(randomGrammars(t, random, 50, numbers(), anyTypes(), anything(), anything()), twoKinds(t), wide(t)) {
		x := randomTree(random, g, "s")
		m, _ := updateIsRight(t, g, x, impl.Memo{})
		for range 5 {
			x = editedTree(random, g, x)
			next, ok := updateIsRight(t, g, x, m)
			fresh, freshOk := impl.FreshMemo(g, x)
			all := impl.RunAll(g, x)
			if ok != freshOk || ok == all.Cyclic || !impl.SameResults(next, fresh) {
				t.Fatalf("UpdateMemo = %v, %v; a fresh one gives %v, %v", next, ok, fresh, freshOk)
			}
			if !ok {
				// The old memo remains.
				cyclic++
				continue
			}
			if values, ok := impl.MemoValues(next, all.Instances); !ok || !slices.Equal(values, all.Values) || len(fresh.Evaluated) != len(all.Instances) {
				t.Fatalf("the values are %v; want %v", values, all.Values)
			}
			again, ok := updateIsRight(t, g, x, next)
			if !ok || len(again.Evaluated) != 0 || !impl.SameResults(again, next) {
				t.Fatalf("a second update evaluates %v", again.Evaluated)
			}
			evaluated += len(next.Evaluated)
			reused += len(next.Entries) - len(next.Evaluated)
			m = next
		}
	}
	if evaluated < 1000 || reused < 1000 || cyclic < 50 {
		t.Errorf("%d instances are evaluated, %d are reused; %d evaluations are cyclic", evaluated, reused, cyclic)
	}
}

// wide has references to other nodes and collections, and rules of two symbols.
func wide(t *testing.T) impl.Grammar {
	return grammarOf(t, "symbol s total:syn:num all:col:set", "symbol t top:inh:node mine:syn:node n:syn:num", "symbol u top:inh:node n:syn:num",
		"rule p s : t t", "eq $0.total := $1.n + t.n of $2.mine + u.n of $1.mine", "eq $1.top := self(0)", "eq $2.top := $1.mine",
		"rule a t : lit", "eq $0.mine := self(0)", "eq $0.n := lit", "put s.all of $0.top := with({}, lit)",
		"rule b t : u t", "eq $0.mine := if $2.n < 5 then self(1) else $2.mine", "eq $0.n := $1.n + $2.n", "eq $1.top := $0.top", "eq $2.top := self(0)",
		"rule c u : lit", "eq $0.n := if has(s.all of $0.top, lit) then 1 else t.n of t.top of $0.top", "put s.all of $0.top := {1}",
		"rule d u : t", "eq $0.n := $1.n * 2", "eq $1.top := $0.top")
}

// damagedMemo changes something in some entries of a memo.
func damagedMemo(random *rand.Rand, m impl.Memo) impl.Memo {
	var d impl.Memo
	for _, e := range m.Entries {
		e.Reads = slices.Clone(e.Reads)
		d.Entries = append(d.Entries, e)
	}
	for range 1 + random.Intn(4) {
		if len(d.Entries) == 0 {
			return d
		}
		e, other := &d.Entries[random.Intn(len(d.Entries))], d.Entries[random.Intn(len(d.Entries))]
		switch random.Intn(7) {
		case 0:
			e.Value = random.Intn(3)
		case 1:
			*e = other
		case 2:
			d.Entries = append(d.Entries, other)
		case 3:
			e.Reads = append(e.Reads, reading(other.At, other.Value))
		case 4:
			e.Reads = append([]impl.Reading{symbolReading(other.At.Node, []string{"", "s", "t"}[random.Intn(3)])}, e.Reads...)
		case 5:
			if len(e.Reads) > 0 {
				e.Reads[random.Intn(len(e.Reads))].Value ^= random.Intn(2)
			}
		case 6:
			e.Reads = append(e.Reads, reading(at(random.Intn(5), "x"), 0))
		}
	}
	return d
}

// TestUpdatesOfAnyMemo begins with memos of other trees and with wrong ones.
func TestUpdatesOfAnyMemo(t *testing.T) {
	random := rand.New(rand.NewSource(371))
	wrong, failed := 0, 0
	for _, g := range append(randomGrammars(t, random, 60, numbers(), anyTypes(), anything()), wide(t)) {
		x := randomTree(random, g, symbolNames(g)[random.Intn(len(g.Symbols))])
		fresh, ok := impl.FreshMemo(g, x)
		if !ok {
			continue
		}
		for range 8 {
			m, ok := updateIsRight(t, g, x, damagedMemo(random, fresh))
			if !ok {
				failed++
			} else if !impl.SameResults(m, fresh) {
				wrong++
			}
		}
		other := randomTree(random, g, symbolNames(g)[random.Intn(len(g.Symbols))])
		if m, ok := impl.FreshMemo(g, other); ok {
			updateIsRight(t, g, x, m)
		}
	}
	if wrong < 50 || failed < 10 {
		t.Errorf("%d memos give other results, %d fail", wrong, failed)
	}
}

// evaluatedAre checks what an update evaluates, in order, and returns the new memo.
func evaluatedAre(t *testing.T, what string, g impl.Grammar, x impl.Tree, m impl.Memo, want ...impl.Instance) impl.Memo {
	t.Helper()
	next, ok := updateIsRight(t, g, x, m)
	if !ok || !slices.Equal(next.Evaluated, want) {
		t.Errorf("%s: %v are evaluated, %v; want %v", what, next.Evaluated, ok, want)
	}
	return next
}

func edited(t *testing.T, g impl.Grammar, x impl.Tree, e impl.Edit) impl.Tree {
	t.Helper()
	y, code := impl.ApplyEdit(g, x, e)
	if code != impl.EdOk {
		t.Fatalf("edit %v: %d", e, code)
	}
	return y
}

func setting(node int, literal int) impl.Edit {
	return impl.Edit{Kind: impl.EditLiteral, Node: node, Literal: literal}
}

// replacing puts a tree with Ids from first on in the place of a node.
func replacing(t *testing.T, g impl.Grammar, node int, text string, first int) impl.Edit {
	t.Helper()
	sub, ok := impl.ParseTree(g, text, first)
	if !ok {
		t.Fatalf("%q is no tree", text)
	}
	return impl.Edit{Kind: impl.EditReplace, Node: node, Tree: sub}
}

func readsAre(t *testing.T, m impl.Memo, y impl.Instance, value int, want ...impl.Reading) {
	t.Helper()
	e, ok := impl.FindEntry(m, y)
	if !ok || e.Value != value || !slices.Equal(e.Reads, want) {
		t.Errorf("the entry of %v is %v, %v; want %d and %v", y, e, ok, value, want)
	}
}

func TestFreshMemo(t *testing.T) {
	g := grammarFrom(t, declarations)
	x := treeOf(t, g, exampleTrees()[0])
	// Each instance is evaluated after what it reads; those that are read first come first.
	m := evaluatedAre(t, "fresh", g, x, impl.Memo{}, at(2, "env"), at(3, "env"), at(4, "env"), at(5, "env"), at(1, "decls"), at(4, "errs"), at(5, "errs"), at(3, "errs"), at(6, "env"), at(6, "errs"), at(2, "errs"), at(1, "errs"))
	readsAre(t, m, at(1, "errs"), 1, reading(at(2, "errs"), 1))
	readsAre(t, m, at(1, "decls"), 8, reading(at(5, "env"), 1))
	readsAre(t, m, at(2, "env"), 1)
	readsAre(t, m, at(4, "errs"), 0, reading(at(4, "env"), 1), symbolReading(1, "s"), reading(at(1, "decls"), 8))
	readsAre(t, m, at(2, "errs"), 1, reading(at(3, "errs"), 0), reading(at(6, "errs"), 1))
	if len(m.Entries) != 12 || m.Entries[0].At != at(1, "errs") || m.Entries[11].At != at(6, "errs") || m.Entries[11].Owner != 6 {
		t.Error("the entries are those of all instances, in order", m.Entries)
	}
	// The node to which a remote attribute refers may be missing or have another symbol.
	m = evaluatedAre(t, "a subtree", g, impl.Subtree(x, 2), impl.Memo{}, at(3, "env"), at(4, "env"), at(4, "errs"), at(5, "errs"), at(3, "errs"), at(5, "env"))
	readsAre(t, m, at(4, "errs"), 1, reading(at(4, "env"), 0), symbolReading(0, ""))
	readsAre(t, m, at(3, "env"), 0)
	h := grammarOf(t, "symbol s a:syn:num", "symbol t b:syn:num", "rule p s : t t", "eq $0.a := s.a of self(2) + t.b of self(1) * t.b of self(1)", "rule q t :", "eq $0.b := t.b of none + 3")
	m, _ = updateIsRight(t, h, treeOf(t, h, "(p (q) (q))"), impl.Memo{})
	readsAre(t, m, at(1, "a"), 9, symbolReading(3, "t"), symbolReading(2, "t"), reading(at(2, "b"), 3), symbolReading(2, "t"), reading(at(2, "b"), 3))
	readsAre(t, m, at(2, "b"), 3, symbolReading(0, ""))
}

// TestCutoffs: what reads only values that are not changed is not evaluated.
func TestCutoffs(t *testing.T) {
	g := grammarFrom(t, boxes)
	x := treeOf(t, g, exampleTrees()[2])
	m := evaluatedAre(t, "fresh", g, x, impl.Memo{}, at(2, "room"), at(3, "room"), at(3, "width"), at(4, "room"), at(5, "room"), at(5, "width"), at(6, "room"), at(6, "width"), at(4, "width"), at(2, "width"), at(1, "width"))
	m = evaluatedAre(t, "nothing is changed", g, x, m)
	// Box 6 has one place left; it may want more.
	x = edited(t, g, x, setting(6, 8))
	m = evaluatedAre(t, "a literal that does not matter", g, x, m, at(6, "width"))
	x = edited(t, g, x, setting(6, 0))
	m = evaluatedAre(t, "a literal that matters", g, x, m, at(6, "width"), at(4, "width"), at(2, "width"), at(1, "width"))
	x = edited(t, g, x, setting(3, 3))
	m = evaluatedAre(t, "the first box", g, x, m, at(3, "width"), at(4, "room"), at(5, "room"), at(5, "width"), at(6, "room"), at(6, "width"), at(2, "width"), at(1, "width"))
	x = edited(t, g, x, impl.Edit{Kind: impl.EditSwap, Node: 5, Other: 6})
	m = evaluatedAre(t, "an exchange", g, x, m, at(6, "room"), at(6, "width"), at(5, "room"), at(4, "width"))
	x = edited(t, g, x, replacing(t, g, 6, "(box 0)", 70))
	m = evaluatedAre(t, "the same with another Id", g, x, m, at(70, "room"), at(70, "width"), at(5, "room"), at(4, "width"))
	// The width of the page has the literal in its source, though it does not use it.
	x = edited(t, g, x, setting(1, 11))
	evaluatedAre(t, "the root", g, x, m, at(2, "room"), at(3, "room"), at(3, "width"), at(4, "room"), at(70, "room"), at(70, "width"), at(5, "room"), at(5, "width"), at(1, "width"))
}

// TestReferencesToChangedNodes: a node that is read may be removed, added again or get another symbol.
func TestReferencesToChangedNodes(t *testing.T) {
	// The root refers to what the child tells it to: to node 3, whatever that is.
	g := grammarOf(t, "symbol s v:syn:num", "symbol t to:syn:node", "symbol u n:syn:num",
		"rule p s : t", "eq $0.v := u.n of $1.to",
		"rule a t : u", "eq $0.to := self(1)", "rule b t : t", "eq $0.to := self(1)", "rule c t :", "eq $0.to := none",
		"rule k u : lit", "eq $0.n := lit")
	x := treeOf(t, g, "(p (a (k 5)))")
	first := evaluatedAre(t, "fresh", g, x, impl.Memo{}, at(2, "to"), at(3, "n"), at(1, "v"))
	readsAre(t, first, at(1, "v"), 5, reading(at(2, "to"), 3), symbolReading(3, "u"), reading(at(3, "n"), 5))
	// Node 3 has another symbol, but still the Id; the value of to is the same.
	y := edited(t, g, x, replacing(t, g, 2, "(b (c))", 2))
	m := evaluatedAre(t, "another symbol", g, y, first, at(2, "to"), at(1, "v"), at(3, "to"))
	readsAre(t, m, at(1, "v"), 0, reading(at(2, "to"), 3), symbolReading(3, "t"))
	m = evaluatedAre(t, "the first symbol again", g, x, m, at(2, "to"), at(3, "n"), at(1, "v"))
	readsAre(t, m, at(1, "v"), 5, reading(at(2, "to"), 3), symbolReading(3, "u"), reading(at(3, "n"), 5))
	// Node 3 is removed.
	z := edited(t, g, x, replacing(t, g, 2, "(c)", 2))
	m = evaluatedAre(t, "no node", g, z, first, at(2, "to"), at(1, "v"))
	readsAre(t, m, at(1, "v"), 0, reading(at(2, "to"), 0), symbolReading(0, ""))
	if len(m.Entries) != 2 {
		t.Error("the entries of nodes that are removed remain", m.Entries)
	}
	// Node 3 is another one with the same Id, symbol and value.
	w := edited(t, g, x, replacing(t, g, 3, "(k 5)", 3))
	evaluatedAre(t, "the same node", g, w, first)
	w = edited(t, g, x, replacing(t, g, 3, "(k 6)", 3))
	evaluatedAre(t, "another value", g, w, first, at(3, "n"), at(1, "v"))
	w = edited(t, g, x, replacing(t, g, 3, "(k 5)", 30))
	m = evaluatedAre(t, "another Id", g, w, first, at(2, "to"), at(30, "n"), at(1, "v"))
	readsAre(t, m, at(1, "v"), 5, reading(at(2, "to"), 30), symbolReading(30, "u"), reading(at(30, "n"), 5))
}

// TestCollectionsAreEvaluatedAgain: a collected instance depends on the shape of the whole tree.
func TestCollectionsAreEvaluatedAgain(t *testing.T) {
	g := grammarFrom(t, declarations)
	x := treeOf(t, g, exampleTrees()[0])
	m, _ := impl.FreshMemo(g, x)
	y := edited(t, g, x, setting(4, 7))
	evaluatedAre(t, "a use", g, y, m, at(1, "decls"), at(4, "errs"), at(3, "errs"), at(2, "errs"), at(1, "errs"))
	y = edited(t, g, x, setting(5, 4))
	evaluatedAre(t, "a declaration", g, y, m, at(1, "decls"), at(4, "errs"), at(5, "errs"), at(3, "errs"), at(6, "errs"), at(2, "errs"))
	y = edited(t, g, x, impl.Edit{Kind: impl.EditSwap, Node: 4, Other: 6})
	evaluatedAre(t, "an exchange", g, y, m, at(3, "env"), at(6, "env"), at(5, "env"), at(1, "decls"), at(3, "errs"), at(4, "env"), at(2, "errs"))
}

// TestChecksOfReadings: the check ends at the first reading that is not confirmed.
func TestChecksOfReadings(t *testing.T) {
	g := grammarOf(t, "symbol s a:syn:num b:syn:num c:syn:num", "symbol t x:syn:num", "rule p s : t", "eq $0.a := $1.x", "eq $0.b := $1.x", "eq $0.c := 7", "rule q t : lit", "eq $0.x := lit")
	x := treeOf(t, g, "(p (q 4))")
	fresh, _ := impl.FreshMemo(g, x)
	with := func(i int, reads ...impl.Reading) impl.Memo {
		m := impl.Memo{Entries: slices.Clone(fresh.Entries)}
		m.Entries[i].Reads = reads
		return m
	}
	m := evaluatedAre(t, "no readings", g, x, with(0))
	readsAre(t, m, at(1, "a"), 4)
	evaluatedAre(t, "a value that is not recorded so", g, x, with(0, reading(at(2, "x"), 5)), at(1, "a"))
	evaluatedAre(t, "an instance that does not exist", g, x, with(0, reading(at(2, "y"), 0)), at(1, "a"))
	evaluatedAre(t, "a node that does not exist", g, x, with(0, reading(at(9, "x"), 0)), at(1, "a"))
	evaluatedAre(t, "another symbol", g, x, with(0, symbolReading(2, "s")), at(1, "a"))
	evaluatedAre(t, "no symbol", g, x, with(0, symbolReading(2, "")), at(1, "a"))
	m = evaluatedAre(t, "no symbol of no node", g, x, with(0, symbolReading(9, ""), symbolReading(0, ""), symbolReading(2, "t")))
	readsAre(t, m, at(1, "a"), 4, symbolReading(9, ""), symbolReading(0, ""), symbolReading(2, "t"))
	evaluatedAre(t, "a symbol of no node", g, x, with(0, symbolReading(9, "t")), at(1, "a"))
	// a and b are read in a circle, unless the check ends before.
	circle := func(first ...impl.Reading) impl.Memo {
		m := with(0, append(first, reading(at(1, "b"), 4))...)
		m.Entries[1].Reads = []impl.Reading{reading(at(1, "a"), 4)}
		return m
	}
	evaluatedAre(t, "the check ends before", g, x, circle(reading(at(2, "x"), 5)), at(1, "a"))
	for _, first := range [][]impl.Reading{nil, {reading(at(2, "x"), 4)}, {symbolReading(2, "t")}} {
		if m, ok := updateIsRight(t, g, x, circle(first...)); ok || len(m.Entries) != 0 || len(m.Evaluated) != 0 {
			t.Errorf("a circle of readings: %v, %v", m, ok)
		}
	}
	if m, ok := updateIsRight(t, g, x, with(2, reading(at(1, "c"), 7))); ok || len(m.Entries) != 0 {
		t.Errorf("an entry that reads itself: %v, %v", m, ok)
	}
	// The recorded value counts, also if it is wrong, and so does the first entry of an instance.
	wrong := with(0, reading(at(2, "x"), 4))
	wrong.Entries[0].Value = 9
	readsAre(t, evaluatedAre(t, "a wrong value", g, x, wrong), at(1, "a"), 9, reading(at(2, "x"), 4))
	wrong.Entries = append(wrong.Entries[:1:1], fresh.Entries...)
	readsAre(t, evaluatedAre(t, "two entries", g, x, wrong), at(1, "a"), 9, reading(at(2, "x"), 4))
	wrong.Entries[0].Owner = 2
	readsAre(t, evaluatedAre(t, "the first entry has another source", g, x, wrong, at(1, "a")), at(1, "a"), 4, reading(at(2, "x"), 4))
	// What was evaluated last time does not matter.
	fresh.Evaluated = []impl.Instance{at(9, "z")}
	evaluatedAre(t, "evaluated instances", g, x, fresh)
}

func TestUpdatesFail(t *testing.T) {
	g := grammarFrom(t, boxes)
	x := treeOf(t, g, exampleTrees()[2])
	good, _ := impl.FreshMemo(g, x)
	fails := func(what string, g impl.Grammar, x impl.Tree) {
		t.Helper()
		m, ok := impl.FreshMemo(g, x)
		n, again := impl.UpdateMemo(g, x, good)
		if ok || again || !equalMemos(m, impl.Memo{}) || !equalMemos(n, impl.Memo{}) {
			t.Errorf("%s: %v, %v; %v, %v", what, m, ok, n, again)
		}
	}
	for _, wrong := range wrongGrammars(t) {
		fails("a grammar that is not accepted", wrong, x)
	}
	fails("no node", g, impl.Tree{})
	broken := cloneTree(x)
	broken.Nodes[4].Parent = 1
	fails("a broken tree", g, broken)
	fails("another grammar", grammarFrom(t, loops), x)
	c := grammarOf(t, circularLines()...)
	fails("a cycle", c, treeOf(t, c, "(p (r (q)))"))
	l := grammarFrom(t, loops)
	fails("a cycle of circular attributes", l, treeOf(t, l, exampleTrees()[1]))
	if m, ok := impl.FreshMemo(c, treeOf(t, c, "(p (q))")); !ok || len(m.Entries) != 3 {
		t.Errorf("a tree without a cycle: %v, %v", m, ok)
	}
	bare := grammarOf(t, "symbol s", "rule p s :")
	if m, ok := impl.UpdateMemo(bare, treeOf(t, bare, "(p)"), good); !ok || !equalMemos(m, impl.Memo{}) {
		t.Errorf("a tree without instances: %v, %v", m, ok)
	}
}

func TestEqualMemo(t *testing.T) {
	memo := func(list ...impl.Entry) impl.Memo { return impl.Memo{Entries: list} }
	is := func(a impl.Memo, b impl.Memo, equal bool, same bool) {
		t.Helper()
		if impl.EqualMemo(a, b) != equal || impl.EqualMemo(b, a) != equal || impl.SameResults(a, b) != same || impl.SameResults(b, a) != same {
			t.Errorf("EqualMemo(%v, %v) is not %v or SameResults is not %v", a, b, equal, same)
		}
	}
	is(impl.Memo{}, impl.Memo{Entries: []impl.Entry{}, Evaluated: []impl.Instance{}}, true, true)
	is(memo(fullEntry()), memo(fullEntry()), true, true)
	for _, list := range changedEntries() {
		for _, e := range list {
			is(memo(fullEntry()), memo(e), false, false)
			is(memo(impl.Entry{}, fullEntry()), memo(impl.Entry{}, e), false, false)
		}
	}
	is(memo(fullEntry()), memo(fullEntry(), fullEntry()), false, false)
	is(memo(fullEntry(), impl.Entry{}), memo(impl.Entry{}, fullEntry()), false, false)
	a, b := memo(fullEntry()), memo(fullEntry())
	a.Evaluated, b.Evaluated = []impl.Instance{at(1, "a"), at(1, "b")}, []impl.Instance{at(1, "a"), at(1, "b")}
	is(a, b, true, true)
	for _, list := range [][]impl.Instance{nil, {at(1, "a")}, {at(1, "b"), at(1, "a")}, {at(2, "a"), at(1, "b")}, {at(1, "c"), at(1, "b")}, {at(1, "a"), at(1, "b"), at(1, "b")}} {
		b.Evaluated = list
		is(a, b, false, true)
	}
}
