package tests

import (
	"math"
	"math/rand"
	"slices"
	"testing"

	"loop.example/g00512/impl"
)

// wantLocal evaluates a valid expression; it evaluates all operands.
func wantLocal(e impl.Expr, slots []impl.Slot, literal int, ids []int) int {
	var args []int
	for _, a := range e.Args {
		args = append(args, wantLocal(a, slots, literal, ids))
	}
	switch e.Kind {
	case impl.ExprConst:
		return e.N
	case impl.ExprLiteral:
		return literal
	case impl.ExprAttr:
		for _, s := range slots {
			if s.At.Pos == e.Pos && s.At.Name == e.Name {
				return s.Value
			}
		}
	case impl.ExprOp:
		return impl.ApplyOp(e.N, args[0], args[1])
	case impl.ExprIf:
		if args[0] == 0 {
			return args[2]
		}
		return args[1]
	case impl.ExprSelf:
		if e.Pos < len(ids) {
			return ids[e.Pos]
		}
	}
	return 0
}

func slot(pos int, name string, value int) impl.Slot {
	return impl.Slot{At: impl.Occurrence{Pos: pos, Name: name}, Value: value}
}

func localIs(t *testing.T, code string, slots []impl.Slot, lit int, ids []int, want int) {
	t.Helper()
	e, bad := impl.ParseExpr(code)
	if bad >= 0 {
		t.Fatalf("%q has an error at %d", code, bad)
	}
	if got := impl.EvalLocal(e, slots, lit, ids); got != want {
		t.Errorf("EvalLocal(%q) = %d; want %d", code, got, want)
	}
}

func TestEvalLocal(t *testing.T) {
	slots := []impl.Slot{slot(0, "a", 5), slot(1, "a", -7), slot(1, "b", 1), slot(1, "a", 99), slot(2, "s", 6), slot(3, "big", 5000000)}
	for code, want := range map[string]int{
		"7": 7, "{1 3}": 10, "true": 1, "false": 0, "lit": 42, "none": 0, "self(0)": 11, "self(1)": 12, "self(2)": 0, "self(3)": 0,
		"$0.a": 5, "$1.a": -7, "$1.b": 1, "$0.b": 0, "$2.a": 0, "$3.big": 5000000, "$3.big + 0": 1000000, "$3.big - $3.big": 0,
		"$0.a + $1.a": -2, "$0.a * lit": 210, "max($0.a, $1.a)": 5, "min($0.a, $1.a)": -7, "$2.s | {0}": 7, "$2.s & {1}": 2, "$2.s \\ {1}": 4, "has($2.s, 1)": 1, "has($2.s, 0)": 0, "with($2.s, 3)": 14, "with($2.s, 12)": 6, "$0.a < lit": 1, "lit < $0.a": 0, "$0.a == 5": 1,
		"if $1.b then 1 else 2": 1, "if $0.a then 1 else 2": 1, "if $1.a then 1 else 2": 1, "if $0.zz then 1 else 2": 2, "if $0.a < 3 then $0.a else lit": 42, "if true then if false then 1 else 2 else 3": 2,
		"s.n of self(0)": 0, "1 + s.n of self(0)": 1, "if s.n of none then 3 else 4": 4, "s.n of s.m of self(1)": 0,
		"1000000 + 1": 1000000, "0 - 1000000 - 1": -1000000, "1000000 * 1000000": 1000000,
	} {
		localIs(t, code, slots, 42, []int{11, 12}, want)
	}
	localIs(t, "lit", nil, math.MinInt, nil, math.MinInt)
	localIs(t, "lit + 0", nil, math.MinInt, nil, -impl.MaxValue)
	localIs(t, "self(0)", nil, 0, nil, 0)
	localIs(t, "self(3)", nil, 0, []int{1, 2, 3, -4, 5}, -4)
	localIs(t, "$0.a", nil, 9, []int{9}, 0)
	localIs(t, "if lit then 1 else 2", nil, -1, nil, 1)
}

func TestSlotValue(t *testing.T) {
	slots := []impl.Slot{slot(0, "a", 1), slot(0, "a", 2), slot(-1, "", 3), slot(9, "A b", 4), slot(1, "a", math.MinInt)}
	for i, want := range []int{1, 1, 3, 4, math.MinInt} {
		if got := impl.SlotValue(slots, slots[i].At); got != want {
			t.Errorf("SlotValue(%v) = %d; want %d", slots[i].At, got, want)
		}
	}
	for _, o := range []impl.Occurrence{{}, {Pos: 2, Name: "a"}, {Name: "b"}, {Pos: 1}} {
		if impl.SlotValue(slots, o) != 0 || impl.SlotValue(nil, o) != 0 {
			t.Errorf("there is no slot at %v", o)
		}
	}
}

func TestRandomLocal(t *testing.T) {
	random := rand.New(rand.NewSource(19))
	for range 20000 {
		e := randomExpr(random, 1+random.Intn(5))
		var slots []impl.Slot
		for _, u := range impl.AttributeUses(e) {
			if random.Intn(4) > 0 {
				slots = append(slots, impl.Slot{At: u, Value: random.Intn(9) - 3})
			}
		}
		random.Shuffle(len(slots), func(i int, k int) { slots[i], slots[k] = slots[k], slots[i] })
		lit, ids := random.Intn(20)-5, []int{4, 3, 2, 1}[:random.Intn(5)]
		want := 0
		if impl.IsValidExpr(e) {
			want = wantLocal(e, slots, lit, ids)
		}
		got := impl.EvalLocal(e, slots, lit, ids)
		if got != want {
			t.Fatalf("EvalLocal(%s, %v, %d, %v) = %d; want %d", impl.FormatExpr(e), slots, lit, ids, got, want)
		}
		unusedSlotsDoNotMatter(t, random, e, slots, lit, ids, got)
	}
}

// unusedSlotsDoNotMatter is promise 19.
func unusedSlotsDoNotMatter(t *testing.T, random *rand.Rand, e impl.Expr, slots []impl.Slot, lit int, ids []int, want int) {
	t.Helper()
	uses := impl.AttributeUses(e)
	more := slices.Clone(slots)
	for _, pos := range []int{-1, 0, 1, 2, 3, 4} {
		for _, name := range []string{"", "a", "b", "c", "q", "A"} {
			if o := (impl.Occurrence{Pos: pos, Name: name}); !slices.Contains(uses, o) {
				more = slices.Insert(more, random.Intn(len(more)+1), impl.Slot{At: o, Value: random.Intn(1000) - 500})
			}
		}
	}
	// A later slot at the same occurrence is not used either.
	for _, s := range slots {
		more = append(more, impl.Slot{At: s.At, Value: s.Value + 1})
	}
	if got := impl.EvalLocal(e, more, lit, ids); got != want {
		t.Fatalf("EvalLocal(%s) = %d; with slots that are not used, it is %d", impl.FormatExpr(e), want, got)
	}
}

func TestEvalLocalOfWrongExprs(t *testing.T) {
	wrong := []impl.Expr{
		{}, {Kind: 9}, {Kind: -1}, {Kind: impl.ExprConst, N: 5}, {Kind: impl.ExprConst, N: -5, Type: impl.TypeNumber}, {Kind: impl.ExprConst, N: 5, Type: impl.TypeNode}, {Kind: impl.ExprLiteral, N: 1},
		attr(4, "a"), attr(-1, "a"), attr(0, "A"), attr(0, ""), self(-1), self(4), op(13, number(1), number(2)), op(0, number(1), number(2)),
		{Kind: impl.ExprOp, N: impl.OpAdd, Args: []impl.Expr{number(1)}}, {Kind: impl.ExprIf, Args: []impl.Expr{truth(1), number(1)}}, {Kind: impl.ExprRemote, Symbol: "s", Name: "n"},
		op(impl.OpAdd, number(1), impl.Expr{}), ifThen(truth(1), number(3), impl.Expr{Kind: 12}), chain(impl.MaxExprDepth + 1), full(impl.MaxExprNodes + 1),
	}
	loop := impl.Expr{Kind: impl.ExprOp, N: impl.OpAdd, Args: make([]impl.Expr, 2)}
	loop.Args[0], loop.Args[1] = loop, number(1)
	slots := []impl.Slot{slot(0, "A", 7), slot(0, "", 7), slot(-1, "a", 7), slot(4, "a", 7)}
	for _, e := range append(wrong, loop) {
		if got := impl.EvalLocal(e, slots, 8, []int{9, 9, 9, 9, 9}); got != 0 {
			t.Errorf("EvalLocal(%v) = %d", e, got)
		}
		if got, ok := impl.ConstantValue(e); got != 0 || ok {
			t.Errorf("ConstantValue = %d, %v", got, ok)
		}
	}
}

func TestConstantValue(t *testing.T) {
	for code, want := range map[string]int{"0": 0, "5": 5, "{}": 0, "{0 11}": 2049, "true": 1, "1 + 2 * 3": 7, "if 1 < 2 then {1} else {2}": 2, "has(with({}, 4), 4)": 1, "0 - 7": -7, "max(3, if false then 9 else 2)": 3, "if 5 then 1 else 2": 1, "{1} + 1": 3, "0 - 1 | {}": 4095} {
		e, bad := impl.ParseExpr(code)
		if got, ok := impl.ConstantValue(e); bad >= 0 || got != want || !ok {
			t.Errorf("ConstantValue(%q) = %d, %v; want %d", code, got, ok, want)
		}
	}
	for _, code := range []string{"lit", "none", "self(0)", "$0.a", "s.n of none", "1 + lit", "if true then 1 else $0.a", "if true then 1 else none", "with({1}, self(2))", "s.n of 1", "1 + s.n of 1", "1 < (2 + (3 * (4 - lit)))"} {
		e, bad := impl.ParseExpr(code)
		if got, ok := impl.ConstantValue(e); bad >= 0 || got != 0 || ok {
			t.Errorf("ConstantValue(%q) = %d, %v", code, got, ok)
		}
	}
}
