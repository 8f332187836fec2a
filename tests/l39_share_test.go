package tests

import (
	"math"
	"math/rand"
	"slices"
	"testing"

	"loop.example/g00512/impl"
)

func equalCells(a impl.Cell, b impl.Cell) bool {
	return a.Rule == b.Rule && a.Literal == b.Literal && slices.Equal(a.Children, b.Children)
}

func equalStores(a impl.Store, b impl.Store) bool {
	return slices.EqualFunc(a.Cells, b.Cells, equalCells)
}

func cloneStore(s impl.Store) impl.Store {
	var c impl.Store
	for _, cell := range s.Cells {
		c.Cells = append(c.Cells, impl.Cell{Rule: cell.Rule, Literal: cell.Literal, Children: slices.Clone(cell.Children)})
	}
	return c
}

func wantValidStore(s impl.Store) bool {
	for i, c := range s.Cells {
		for _, other := range s.Cells[:i] {
			if equalCells(c, other) {
				return false
			}
		}
		for _, k := range c.Children {
			if k < 0 || k >= i {
				return false
			}
		}
	}
	return true
}

// wantInterned interns the children of a node, then the node.
func wantInterned(s *impl.Store, x impl.Tree, i int) int {
	c := impl.Cell{Rule: x.Nodes[i].Rule, Literal: x.Nodes[i].Literal}
	for _, k := range x.Nodes[i].Children {
		c.Children = append(c.Children, wantInterned(s, x, k))
	}
	for at, other := range s.Cells {
		if equalCells(c, other) {
			return at
		}
	}
	s.Cells = append(s.Cells, c)
	return len(s.Cells) - 1
}

// reachable returns the cells below a cell, including itself.
func reachable(s impl.Store, at int) map[int]bool {
	found := map[int]bool{at: true}
	for _, k := range s.Cells[at].Children {
		for c := range reachable(s, k) {
			found[c] = true
		}
	}
	return found
}

// branchAt returns the tree of a cell.
func branchAt(s impl.Store, at int) branch {
	b := branch{rule: s.Cells[at].Rule, literal: s.Cells[at].Literal}
	for _, k := range s.Cells[at].Children {
		b.children = append(b.children, branchAt(s, k))
	}
	return b
}

// TestInternedTreesAreExpanded is promise 39.
func TestInternedTreesAreExpanded(t *testing.T) {
	random := rand.New(rand.NewSource(39))
	shared, nodes := 0, 0
	for _, g := range randomGrammars(t, random, 20, numbers(), anything()) {
		var store impl.Store
		for range 6 {
			x := randomTree(random, g, symbolNames(g)[random.Intn(len(g.Symbols))])
			for k := range x.Nodes {
				x.Nodes[k].Literal %= 3
			}
			i := random.Intn(len(x.Nodes))
			before, want := cloneStore(store), cloneStore(store)
			next, at := impl.InternTree(store, x, i)
			if wantAt := wantInterned(&want, x, i); at != wantAt || !equalStores(next, want) || !impl.IsValidStore(next) {
				t.Fatalf("InternTree = %v, %d; want %v, %d", next, at, want, wantAt)
			}
			if !equalStores(store, before) {
				t.Fatal("the store is changed")
			}
			sub := impl.Subtree(x, i)
			first := 1 + random.Intn(impl.MaxId)
			y, ok := impl.ExpandCell(next, at, first)
			if !ok || !impl.SameShape(sub, y) {
				t.Fatalf("ExpandCell = %v, %v; want the shape of %v", y, ok, sub)
			}
			for k, n := range y.Nodes {
				if n.Id != first+k {
					t.Fatalf("the Ids are %v; want them from %d on", y, first)
				}
			}
			if again, k := impl.InternTree(next, y, 0); k != at || !equalStores(again, next) {
				t.Fatalf("the same tree has another cell: %d, %v", k, again)
			}
			size := impl.SharedSize(next, at)
			if size != len(reachable(next, at)) {
				t.Fatalf("SharedSize = %d; want %d", size, len(reachable(next, at)))
			}
			nodes += len(sub.Nodes)
			shared += len(sub.Nodes) - size
			store = next
		}
	}
	if shared < 20 || nodes < 300 {
		t.Errorf("%d of %d nodes are shared", shared, nodes)
	}
}

// randomStore returns a store that may be valid. With wide, its cells have more children, and all have distinct literals.
func randomStore(random *rand.Rand, wide bool) impl.Store {
	var s impl.Store
	for i := range random.Intn(7) {
		c := impl.Cell{Rule: []string{"p", "q", ""}[random.Intn(3)], Literal: random.Intn(2)}
		if wide {
			c.Literal = i
		}
		for range random.Intn(3) {
			c.Children = append(c.Children, random.Intn(i+1+random.Intn(2))-random.Intn(9)/8)
		}
		for range 3 {
			if wide && i > 0 {
				c.Children = append(c.Children, i-1-random.Intn(1+i/3))
			}
		}
		if wide && random.Intn(8) > 0 {
			c.Children = slices.DeleteFunc(c.Children, func(k int) bool { return k < 0 || k >= i })
		}
		s.Cells = append(s.Cells, c)
	}
	return s
}

func TestRandomStores(t *testing.T) {
	random := rand.New(rand.NewSource(391))
	valid, large := 0, 0
	x := treeFrom(sampleBranch(), 1)
	for n := range 6000 {
		s := randomStore(random, n%3 == 0)
		ok := wantValidStore(s)
		if impl.IsValidStore(s) != ok {
			t.Fatalf("IsValidStore(%v) = %v", s, !ok)
		}
		next, root := impl.InternTree(s, x, 0)
		if !ok && (root != -1 || !equalStores(next, s)) || ok && root < 0 {
			t.Fatalf("InternTree(%v) = %v, %d", s, next, root)
		}
		for at := range len(s.Cells) + 2 {
			at--
			size, first := impl.SharedSize(s, at), 1+random.Intn(5)
			y, expanded := impl.ExpandCell(s, at, first)
			if !ok || at < 0 || at >= len(s.Cells) {
				if size != 0 || expanded || len(y.Nodes) != 0 {
					t.Fatalf("%v has no cell %d: %d, %v", s, at, size, y)
				}
				continue
			}
			if want := len(reachable(s, at)); size != want {
				t.Fatalf("SharedSize(%v, %d) = %d; want %d", s, at, size, want)
			}
			b := branchAt(s, at)
			if want := treeFrom(b, first); expanded != (b.size() <= impl.MaxTreeNodes) || expanded && !impl.EqualTree(y, want) || !expanded && len(y.Nodes) != 0 {
				t.Fatalf("ExpandCell(%v, %d) = %v, %v; want %v", s, at, y, expanded, want)
			}
			if b.size() > impl.MaxTreeNodes {
				large++
			}
		}
		if ok {
			valid++
		}
	}
	if valid < 500 || valid > 5500 || large < 5 {
		t.Errorf("%d valid stores, %d trees that are too large", valid, large)
	}
}

func cell(rule string, literal int, children ...int) impl.Cell {
	return impl.Cell{Rule: rule, Literal: literal, Children: children}
}

func TestIsValidStore(t *testing.T) {
	is := func(want bool, cells ...impl.Cell) {
		t.Helper()
		if got := impl.IsValidStore(impl.Store{Cells: cells}); got != want {
			t.Errorf("IsValidStore(%v) = %v", cells, got)
		}
	}
	is(true)
	is(true, cell("", 0))
	is(true, cell("p", 0), cell("p", 1), cell("q", 0), cell("p", 0, 0), cell("p", 0, 0, 0), cell("p", 0, 1), cell("p", 0, 0, 1), cell("p", 0, 1, 0))
	is(false, cell("p", 0), cell("p", 0))
	is(false, cell("p", 0), cell("q", 1, 0, 0), cell("r", 0), cell("q", 1, 0, 0))
	is(false, cell("p", 0, 0))
	is(false, cell("p", 0, 1), cell("q", 0))
	is(false, cell("p", 0), cell("q", 0, -1))
	is(false, cell("p", 0), cell("q", 0, 0, 1))
	is(false, cell("p", 0), cell("q", 0, 0), cell("r", 0, 1, 3))
	is(false, cell("p", 0), cell("q", 0, math.MaxInt))
	// Cells whose parts could be taken for others.
	is(true, cell("p", 1), cell("p1", 0), cell("p", 11), cell("p 1", 0), cell("p\x00", 0), cell("", 1), cell("q", 0, 1, 1), cell("q", 0, 1), cell("q", 1, 0), cell("q1", 0))
}

func TestInternTree(t *testing.T) {
	g := grammarFrom(t, boxes)
	x := treeOf(t, g, "(page 7 (row (row (box 1) (box 2)) (row (box 2) (row (box 1) (box 2)))))")
	s, at := impl.InternTree(impl.Store{}, x, 0)
	want := impl.Store{Cells: []impl.Cell{cell("box", 1), cell("box", 2), cell("row", 0, 0, 1), cell("row", 0, 1, 2), cell("row", 0, 2, 3), cell("page", 7, 4)}}
	if at != 5 || !equalStores(s, want) || impl.SharedSize(s, 5) != 6 || impl.SharedSize(s, 2) != 3 || impl.SharedSize(s, 1) != 1 {
		t.Errorf("InternTree = %v, %d; want %v", s, at, want)
	}
	// The Ids do not matter, but the literals and the rules do.
	y := treeOf(t, g, "(row (box 2) (box 1))")
	next, at := impl.InternTree(s, y, 0)
	if at != 6 || len(next.Cells) != 7 || !equalCells(next.Cells[6], cell("row", 0, 1, 0)) || len(s.Cells) != 6 {
		t.Errorf("InternTree = %v, %d", next, at)
	}
	if same, at := impl.InternTree(s, y, 2); at != 0 || !equalStores(same, s) {
		t.Errorf("InternTree = %v, %d", same, at)
	}
	// The first equal cell is used; unused cells remain.
	other := impl.Store{Cells: []impl.Cell{cell("zz", 3), cell("box", 2)}}
	if next, at := impl.InternTree(other, y, 0); at != 3 || !equalStores(next, impl.Store{Cells: []impl.Cell{cell("zz", 3), cell("box", 2), cell("box", 1), cell("row", 0, 1, 2)}}) {
		t.Errorf("InternTree = %v, %d", next, at)
	}
}

func TestInternTreeFails(t *testing.T) {
	x := treeFrom(sampleBranch(), 1)
	s := impl.Store{Cells: []impl.Cell{cell("box", 4), cell("a", 0, 0)}}
	fails := func(what string, s impl.Store, x impl.Tree, i int) {
		t.Helper()
		if next, at := impl.InternTree(s, x, i); at != -1 || !equalStores(next, s) {
			t.Errorf("%s: InternTree = %v, %d", what, next, at)
		}
	}
	for _, i := range []int{-1, len(x.Nodes), math.MaxInt, math.MinInt} {
		fails("no node", s, x, i)
	}
	fails("no tree", s, impl.Tree{}, 0)
	for _, wrong := range [][]impl.Cell{{cell("a", 0, 0)}, {cell("a", 0), cell("a", 0)}, {cell("a", 0), cell("b", 0, 2), cell("c", 0)}} {
		fails("a store that is not valid", impl.Store{Cells: wrong}, x, 0)
		fails("a store that is not valid, and no node", impl.Store{Cells: wrong}, x, 9)
	}
	for _, c := range []int{-1, 0, 3, 4, 6, math.MaxInt, math.MinInt} {
		y := cloneTree(x)
		// Node 3 is a row with the children 4 and 5.
		y.Nodes[3].Children[1] = c
		if c == 4 {
			continue
		}
		fails("a wrong child", s, y, 0)
		fails("a wrong child", s, y, 3)
		if _, at := impl.InternTree(s, y, 2); at != 0 {
			t.Errorf("the child is not in the subtree: %d", at)
		}
	}
	// Only the children count, not the other links, and a node may be a child twice.
	y := cloneTree(x)
	y.Nodes[3].Children = []int{5, 4, 5}
	y.Nodes[4].Parent, y.Nodes[4].Place, y.Nodes[4].Id = 77, -1, 0
	next, at := impl.InternTree(impl.Store{}, y, 3)
	if want := (impl.Store{Cells: []impl.Cell{cell("box", 3), cell("box", 5), cell("row", 0, 0, 1, 0)}}); at != 2 || !equalStores(next, want) {
		t.Errorf("InternTree = %v, %d; want %v", next, at, want)
	}
}

// TestLargeSharedTrees: trees that have many more nodes than cells, and deep ones.
func TestLargeSharedTrees(t *testing.T) {
	var x impl.Tree
	n := 70
	for i := range n {
		x.Nodes = append(x.Nodes, impl.Node{Rule: "p", Children: []int{i + 1, i + 1}})
	}
	x.Nodes = append(x.Nodes, impl.Node{Rule: "q"})
	s, at := impl.InternTree(impl.Store{}, x, 0)
	if at != n || len(s.Cells) != n+1 || impl.SharedSize(s, n) != n+1 || impl.SharedSize(s, 3) != 4 {
		t.Errorf("InternTree has %d cells, %d", len(s.Cells), at)
	}
	for k, size := range []int{1, 3, 7, 15, 31, 63} {
		y, ok := impl.ExpandCell(s, k, 1)
		if ok != (size <= impl.MaxTreeNodes) || ok && len(y.Nodes) != size || !ok && len(y.Nodes) != 0 {
			t.Errorf("ExpandCell of cell %d has %d nodes, %v", k, len(y.Nodes), ok)
		}
	}
	if y, ok := impl.ExpandCell(s, n, 1); ok || len(y.Nodes) != 0 {
		t.Error("a very large tree is expanded")
	}
	wide := impl.Store{Cells: []impl.Cell{cell("q", 0), cell("p", 0, make([]int, 15)...), cell("p", 0, make([]int, 16)...)}}
	if y, ok := impl.ExpandCell(wide, 1, 1); !ok || len(y.Nodes) != 16 {
		t.Error("a tree with the most nodes is rejected")
	}
	if y, ok := impl.ExpandCell(wide, 2, 1); ok || len(y.Nodes) != 0 {
		t.Error("a tree with one node too much is expanded")
	}
	var deep impl.Tree
	for i := range 50000 {
		deep.Nodes = append(deep.Nodes, impl.Node{Rule: "p", Literal: i, Children: []int{i + 1}})
	}
	deep.Nodes = append(deep.Nodes, impl.Node{Rule: "q"})
	if s, at := impl.InternTree(impl.Store{}, deep, 0); at != 50000 || impl.SharedSize(s, at) != 50001 {
		t.Errorf("a deep tree: %d", at)
	}
}

func TestExpandCell(t *testing.T) {
	s := impl.Store{Cells: []impl.Cell{cell("box", -4), cell("row", 9, 0, 0), cell("page", 1, 1)}}
	want := impl.Tree{Nodes: []impl.Node{{Id: 998, Parent: -1, Literal: 1, Rule: "page", Children: []int{1}}, {Id: 999, Parent: 0, Place: 1, Literal: 9, Rule: "row", Children: []int{2, 3}}, {Id: 1000, Parent: 1, Place: 1, Literal: -4, Rule: "box"}, {Id: 1001, Parent: 1, Place: 2, Literal: -4, Rule: "box"}}}
	// Only the first Id has a limit.
	if y, ok := impl.ExpandCell(s, 2, 998); !ok || !impl.EqualTree(y, want) {
		t.Errorf("ExpandCell = %v, %v; want %v", y, ok, want)
	}
	if y, ok := impl.ExpandCell(s, 0, impl.MaxId); !ok || len(y.Nodes) != 1 || y.Nodes[0].Id != impl.MaxId || y.Nodes[0].Parent != -1 {
		t.Errorf("ExpandCell = %v, %v", y, ok)
	}
	for _, first := range []int{0, -1, impl.MaxId + 1, math.MaxInt, math.MinInt} {
		if y, ok := impl.ExpandCell(s, 0, first); ok || len(y.Nodes) != 0 {
			t.Errorf("ExpandCell from %d on = %v", first, y)
		}
	}
	for _, at := range []int{-1, 3, math.MaxInt, math.MinInt} {
		y, ok := impl.ExpandCell(s, at, 1)
		if ok || len(y.Nodes) != 0 || impl.SharedSize(s, at) != 0 {
			t.Errorf("there is no cell %d: %v", at, y)
		}
	}
	// A wrong cell anywhere makes the store invalid.
	s.Cells = append(s.Cells, cell("page", 1, 3))
	if y, ok := impl.ExpandCell(s, 0, 1); ok || len(y.Nodes) != 0 || impl.SharedSize(s, 0) != 0 {
		t.Errorf("the store is not valid: %v", y)
	}
}
