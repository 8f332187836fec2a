package tests

import (
	"math"
	"math/rand"
	"slices"
	"testing"

	"loop.example/g00512/impl"
)

// validInputs leaves out what is no instance.
func validInputs(table [][]int) [][]int {
	var inputs [][]int
	for _, row := range table {
		var valid []int
		for _, k := range row {
			if k >= 0 && k < len(table) {
				valid = append(valid, k)
			}
		}
		inputs = append(inputs, valid)
	}
	return inputs
}

// wantComponents orders the components that the closure of the inputs tells.
func wantComponents(table [][]int) [][]int {
	inputs := validInputs(table)
	to := reaches(inputs)
	var open, list [][]int
	for i := range inputs {
		var component []int
		for k := range inputs {
			if i == k || to[i][k] && to[k][i] {
				component = append(component, k)
			}
		}
		if component[0] == i {
			open = append(open, component)
		}
	}
	listed := map[int]bool{}
	for len(open) > 0 {
		next := slices.IndexFunc(open, func(component []int) bool {
			return !slices.ContainsFunc(component, func(i int) bool {
				return slices.ContainsFunc(inputs[i], func(k int) bool { return !listed[k] && !slices.Contains(component, k) })
			})
		})
		for _, i := range open[next] {
			listed[i] = true
		}
		list = append(list, open[next])
		open = slices.Delete(open, next, next+1)
	}
	return list
}

func componentsAre(t *testing.T, table [][]int, want ...[]int) {
	t.Helper()
	if got := impl.Components(table); !slices.EqualFunc(got, want, slices.Equal[[]int]) {
		t.Errorf("Components(%v) = %v; want %v", table, got, want)
	}
}

// TestComponentsComeAfterTheirInputs is promise 33.
func TestComponentsComeAfterTheirInputs(t *testing.T) {
	random := rand.New(rand.NewSource(33))
	cyclic, several := 0, 0
	for range 3000 {
		n := random.Intn(9)
		table := make([][]int, n)
		for i := range table {
			for range random.Intn(1 + random.Intn(4)) {
				table[i] = append(table[i], random.Intn(n+2)-1)
			}
		}
		list := impl.Components(table)
		if want := wantComponents(table); !slices.EqualFunc(list, want, slices.Equal[[]int]) {
			t.Fatalf("Components(%v) = %v; want %v", table, list, want)
		}
		to, before := reaches(validInputs(table)), map[int]bool{}
		for _, component := range list {
			for _, i := range component {
				for k := range n {
					if to[i][k] && !before[k] && !slices.Contains(component, k) {
						t.Fatalf("%d comes before its input %d: %v", i, k, list)
					}
				}
			}
			for _, i := range component {
				if before[i] {
					t.Fatalf("%d is in two components: %v", i, list)
				}
				before[i] = true
			}
			want := len(component) > 1 || to[component[0]][component[0]]
			if got := impl.IsCyclicComponent(table, component); got != want {
				t.Fatalf("IsCyclicComponent(%v, %v) = %v", table, component, got)
			}
			if want {
				cyclic++
			}
		}
		if len(before) != n {
			t.Fatalf("%v is not all of %d", list, n)
		}
		if len(list) > 1 && len(list) < n {
			several++
		}
	}
	if cyclic < 1000 || several < 150 {
		t.Errorf("%d cyclic components; %d tables with different components", cyclic, several)
	}
}

func TestComponents(t *testing.T) {
	componentsAre(t, nil)
	componentsAre(t, [][]int{{}}, []int{0})
	componentsAre(t, [][]int{{0}}, []int{0})
	componentsAre(t, [][]int{{1}, {0}}, []int{0, 1})
	componentsAre(t, [][]int{{}, {}, {}}, []int{0}, []int{1}, []int{2})
	// The order is that of the first elements as far as the inputs allow it, also if a smaller one is ready only later.
	componentsAre(t, [][]int{{1}, {}, {}}, []int{1}, []int{0}, []int{2})
	componentsAre(t, [][]int{{3}, {}, {}, {}}, []int{1}, []int{2}, []int{3}, []int{0})
	componentsAre(t, [][]int{{3}, {0}, {}, {2}}, []int{2}, []int{3}, []int{0}, []int{1})
	componentsAre(t, [][]int{{4, 2}, {3}, {0}, {1}, {}}, []int{1, 3}, []int{4}, []int{0, 2})
	componentsAre(t, [][]int{{1}, {2}, {3}, {4}, {0}}, []int{0, 1, 2, 3, 4})
	componentsAre(t, [][]int{{1}, {2}, {1}, {2, 0}, {3, 4}}, []int{1, 2}, []int{0}, []int{3}, []int{4})
	// Inputs that are repeated, and inputs that are not instances.
	componentsAre(t, [][]int{{1, 1, 1}, {1, 1}}, []int{1}, []int{0})
	componentsAre(t, [][]int{{-1, 2}, {2, math.MaxInt, math.MinInt}, {3}}, []int{2}, []int{0}, []int{1})
	// Longer chains and cycles.
	n := 200
	chain, ring := make([][]int, n), make([][]int, n)
	var single [][]int
	for i := range n {
		chain[i], ring[i] = []int{i + 1}, []int{(i + 7) % n}
		single = append(single, []int{n - 1 - i})
	}
	componentsAre(t, chain, single...)
	componentsAre(t, ring, upTo(n))
}

func TestComponentsOfTrees(t *testing.T) {
	g := grammarFrom(t, loops)
	x := treeOf(t, g, exampleTrees()[1])
	// out, then before and after of each node; within the loop, everything depends on everything.
	want := [][]int{{1}, {3}, {4}, {5}, {7, 8, 9, 10, 11, 12}, {6}, {2}, {0}}
	got := impl.Components(impl.InputTable(g, x))
	if !slices.EqualFunc(got, wantComponents(impl.InputTable(g, x)), slices.Equal[[]int]) || !slices.EqualFunc(got, want, slices.Equal[[]int]) {
		t.Errorf("Components = %v; want %v", got, want)
	}
}

func TestIsCyclicComponent(t *testing.T) {
	table := [][]int{{1}, {1, 2}, {}, {-1, 4}}
	for _, list := range [][]int{{1}, {0, 1}, {2, 0}, {3, 3}, {5, 6}, {-1, -2, -3}} {
		if !impl.IsCyclicComponent(table, list) {
			t.Errorf("%v is cyclic", list)
		}
	}
	for _, list := range [][]int{nil, {}, {0}, {2}, {3}, {4}, {-1}, {math.MaxInt}, {math.MinInt}} {
		if impl.IsCyclicComponent(table, list) {
			t.Errorf("%v is not cyclic", list)
		}
	}
	if impl.IsCyclicComponent(nil, []int{0}) || !impl.IsCyclicComponent(nil, []int{0, 0}) {
		t.Error("without a table")
	}
}
