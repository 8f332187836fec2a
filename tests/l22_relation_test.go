package tests

import (
	"math"
	"math/rand"
	"reflect"
	"slices"
	"testing"

	"loop.example/g00512/impl"
)

func relation(rows ...int) impl.Relation {
	return impl.Relation{N: len(rows), Rows: rows}
}

func randomRelation(random *rand.Rand, n int) impl.Relation {
	r := impl.Relation{N: n}
	sparse := random.Intn(2) == 0
	for range n {
		row := random.Intn(1 << n)
		if sparse {
			row &= random.Intn(1<<n) & random.Intn(1<<n)
		}
		r.Rows = append(r.Rows, row)
	}
	return r
}

// wrongRelations returns relations that are not valid.
func wrongRelations() []impl.Relation {
	return []impl.Relation{
		{N: 1}, {N: 0, Rows: []int{0}}, {N: -1}, {N: math.MinInt}, {N: math.MaxInt}, {N: 17, Rows: make([]int, 17)}, {N: 2, Rows: []int{0, 4}}, {N: 2, Rows: []int{-1, 0}}, {N: 2, Rows: []int{1, 2, 3}}, {N: 3, Rows: []int{1, 2}},
		{N: 16, Rows: append(make([]int, 15), 1<<16)}, {N: 1, Rows: []int{2}}, {N: 64, Rows: make([]int, 64)}, {N: 1 << 40, Rows: []int{1}}, {N: 2, Rows: []int{math.MaxInt, math.MinInt}},
	}
}

func TestEmptyRelation(t *testing.T) {
	for n := range impl.MaxRelation + 1 {
		r := impl.EmptyRelation(n)
		if r.N != n || len(r.Rows) != n || !impl.IsValidRelation(r) || slices.ContainsFunc(r.Rows, func(row int) bool { return row != 0 }) {
			t.Errorf("EmptyRelation(%d) = %v", n, r)
		}
	}
	for _, n := range []int{-1, 17, 64, math.MaxInt, math.MinInt} {
		if r := impl.EmptyRelation(n); r.N != 0 || len(r.Rows) != 0 {
			t.Errorf("EmptyRelation(%d) = %v", n, r)
		}
	}
}

func TestIsValidRelation(t *testing.T) {
	for _, r := range []impl.Relation{{}, {Rows: []int{}}, relation(0), relation(1), relation(3, 0), relation(7, 7, 7), {N: 16, Rows: slices.Repeat([]int{65535}, 16)}} {
		if !impl.IsValidRelation(r) {
			t.Errorf("%v is not valid", r)
		}
	}
	for _, r := range wrongRelations() {
		if impl.IsValidRelation(r) {
			t.Errorf("%v is valid", r)
		}
	}
}

// TestWrongRelations: they contain nothing, and the results are copies or zero values.
func TestWrongRelations(t *testing.T) {
	for _, r := range wrongRelations() {
		for _, i := range []int{-1, 0, 1, 2, 16, 63, 64, math.MaxInt, math.MinInt} {
			if impl.HasPair(r, i, i) || impl.HasPair(r, 0, i) || impl.HasPair(r, i, 0) || !reflect.DeepEqual(impl.AddPair(r, i, 0), r) || !reflect.DeepEqual(impl.AddPair(r, 0, i), r) {
				t.Errorf("%v has or takes a pair", r)
			}
		}
		if impl.HasLoop(r) || !reflect.DeepEqual(impl.CloseRelation(r), r) {
			t.Errorf("%v is closed", r)
		}
		for _, s := range append(wrongRelations(), relation(), relation(1), relation(1, 2), relation(4, 2, 1)) {
			if !impl.EqualRelation(impl.UnionRelation(r, s), r) || !impl.EqualRelation(impl.UnionRelation(s, r), s) {
				t.Errorf("%v is united with %v", r, s)
			}
		}
		if p := impl.ProjectRelation(r, []int{0}); p.N != 0 || len(p.Rows) != 0 {
			t.Errorf("%v is projected", r)
		}
	}
	if !reflect.DeepEqual(impl.UnionRelation(relation(1, 2), relation(4, 2, 1)), relation(1, 2)) || !reflect.DeepEqual(impl.UnionRelation(relation(1), relation()), relation(1)) {
		t.Error("relations on different numbers are united")
	}
}

func TestPairs(t *testing.T) {
	r := relation(2, 4, 0)
	for i := -1; i <= 3; i++ {
		for k := -1; k <= 3; k++ {
			if want := i == 0 && k == 1 || i == 1 && k == 2; impl.HasPair(r, i, k) != want {
				t.Errorf("HasPair(%d, %d) = %v", i, k, !want)
			}
			sum := impl.AddPair(r, i, k)
			inside := i >= 0 && i < 3 && k >= 0 && k < 3
			if !impl.IsValidRelation(sum) || impl.HasPair(sum, i, k) != inside || !inside && !reflect.DeepEqual(sum, r) {
				t.Errorf("AddPair(%d, %d) = %v", i, k, sum)
			}
			for a := range 3 {
				for b := range 3 {
					if (a != i || b != k) && impl.HasPair(sum, a, b) != impl.HasPair(r, a, b) {
						t.Errorf("AddPair(%d, %d) = %v", i, k, sum)
					}
				}
			}
		}
	}
	for _, i := range []int{64, 65, math.MaxInt, math.MinInt} {
		if impl.HasPair(r, 0, i) || impl.HasPair(r, i, 0) || !reflect.DeepEqual(impl.AddPair(r, 0, i), r) || !reflect.DeepEqual(impl.AddPair(r, i, 0), r) {
			t.Errorf("there is no number %d", i)
		}
	}
}

// wantClosed adds the pairs that follow from two others until there are none left.
func wantClosed(r impl.Relation) map[[2]int]bool {
	pairs := map[[2]int]bool{}
	for i, row := range r.Rows {
		for k := range r.N {
			if row&(1<<k) != 0 {
				pairs[[2]int{i, k}] = true
			}
		}
	}
	for changed := true; changed; {
		changed = false
		for p := range pairs {
			for k := range r.N {
				if q := [2]int{p[0], k}; !pairs[q] && pairs[[2]int{p[1], k}] {
					pairs[q], changed = true, true
				}
			}
		}
	}
	return pairs
}

// TestCloseRelation is promise 22.
func TestCloseRelation(t *testing.T) {
	random := rand.New(rand.NewSource(22))
	for round := range 3000 {
		r := randomRelation(random, round%8)
		if round%50 == 0 {
			r = randomRelation(random, 16)
		}
		closed, want, loop := impl.CloseRelation(r), wantClosed(r), false
		for i := range r.N {
			for k := range r.N {
				if impl.HasPair(closed, i, k) != want[[2]int{i, k}] {
					t.Fatalf("CloseRelation(%v) = %v", r, closed)
				}
				for m := range r.N {
					if impl.HasPair(closed, i, k) && impl.HasPair(closed, k, m) && !impl.HasPair(closed, i, m) {
						t.Fatalf("%v is not closed", closed)
					}
				}
			}
			loop = loop || want[[2]int{i, i}]
		}
		if !impl.IsValidRelation(closed) || !impl.EqualRelation(impl.CloseRelation(closed), closed) || !impl.EqualRelation(impl.UnionRelation(closed, r), closed) {
			t.Fatalf("the closure of %v does not contain it or is not closed: %v", r, closed)
		}
		if impl.HasLoop(r) != loop {
			t.Fatalf("HasLoop(%v) = %v", r, !loop)
		}
	}
	chain := impl.EmptyRelation(16)
	for i := range 15 {
		chain = impl.AddPair(chain, 15-i, 14-i)
	}
	if impl.HasLoop(chain) || !impl.HasPair(impl.CloseRelation(chain), 15, 0) || !impl.HasLoop(impl.AddPair(chain, 0, 15)) {
		t.Error("a long chain is closed")
	}
}

func TestUnionRelation(t *testing.T) {
	random := rand.New(rand.NewSource(221))
	for round := range 500 {
		n := round % 17
		a, b := randomRelation(random, n), randomRelation(random, n)
		union := impl.UnionRelation(a, b)
		for i := range n {
			for k := range n {
				if impl.HasPair(union, i, k) != (impl.HasPair(a, i, k) || impl.HasPair(b, i, k)) {
					t.Fatalf("UnionRelation(%v, %v) = %v", a, b, union)
				}
			}
		}
		if !impl.IsValidRelation(union) || !impl.EqualRelation(union, impl.UnionRelation(b, a)) {
			t.Fatalf("UnionRelation(%v, %v) = %v", a, b, union)
		}
	}
}

func TestProjectRelation(t *testing.T) {
	random := rand.New(rand.NewSource(222))
	for range 1000 {
		r := randomRelation(random, random.Intn(9))
		var list []int
		for range random.Intn(17) {
			list = append(list, random.Intn(11)-1)
		}
		p := impl.ProjectRelation(r, list)
		if p.N != len(list) || !impl.IsValidRelation(p) {
			t.Fatalf("ProjectRelation(%v, %v) = %v", r, list, p)
		}
		for a, i := range list {
			for b, k := range list {
				if impl.HasPair(p, a, b) != impl.HasPair(r, i, k) {
					t.Fatalf("ProjectRelation(%v, %v) = %v", r, list, p)
				}
			}
		}
	}
	r := relation(2, 4, 1)
	if p := impl.ProjectRelation(r, []int{2, 2, 0, math.MaxInt, math.MinInt, 64}); !reflect.DeepEqual(p, relation(4, 4, 0, 0, 0, 0)) {
		t.Error(p)
	}
	if p := impl.ProjectRelation(r, nil); p.N != 0 || !impl.IsValidRelation(p) {
		t.Error(p)
	}
	if p := impl.ProjectRelation(r, make([]int, 16)); p.N != 16 || !impl.IsValidRelation(p) {
		t.Error(p)
	}
	if p := impl.ProjectRelation(relation(1), make([]int, 17)); p.N != 0 || len(p.Rows) != 0 {
		t.Error(p)
	}
}

func TestEqualRelation(t *testing.T) {
	list := append(wrongRelations(), relation(), relation(0), relation(1), relation(1, 2), relation(2, 1), relation(1, 2, 0))
	long := impl.Relation{N: 3, Rows: make([]int, 40)}
	later := impl.Relation{N: 3, Rows: make([]int, 40)}
	later.Rows[39] = 1
	middle := impl.Relation{N: 3, Rows: make([]int, 40)}
	middle.Rows[16] = -1
	list = append(list, long, later, middle, impl.Relation{N: 3, Rows: make([]int, 39)}, impl.Relation{N: 4, Rows: make([]int, 40)})
	for i, a := range list {
		for k, b := range list {
			if impl.EqualRelation(a, b) != (i == k) {
				t.Errorf("EqualRelation(%v, %v) = %v", a, b, i != k)
			}
		}
	}
	if !impl.EqualRelation(impl.Relation{}, impl.Relation{Rows: []int{}}) {
		t.Error("nil and empty")
	}
}

func TestRelationsShareNothing(t *testing.T) {
	rows := []int{1, 2, 9, 9}
	r := impl.Relation{N: 2, Rows: rows[:2]}
	wrong := impl.Relation{N: 1, Rows: rows[:2]}
	for _, got := range []impl.Relation{impl.AddPair(r, 0, 1), impl.AddPair(r, 5, 5), impl.AddPair(wrong, 0, 0), impl.UnionRelation(r, r), impl.UnionRelation(r, wrong), impl.UnionRelation(wrong, r), impl.CloseRelation(r), impl.CloseRelation(wrong), impl.ProjectRelation(r, []int{0, 1})} {
		got.Rows[0], got.Rows[1] = 77, 77
		_ = append(got.Rows, 77)
	}
	if !slices.Equal(rows, []int{1, 2, 9, 9}) {
		t.Error("a result shares memory with an argument", rows)
	}
}
