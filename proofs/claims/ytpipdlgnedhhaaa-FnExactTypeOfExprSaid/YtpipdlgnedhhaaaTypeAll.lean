/-
  TypeOfExpr of the model and of the program.
-/
import Derived.Test.YtpipdlgnedhhaaaTypeS
import Derived.Test.YtpipdlgnedhhaaaTypeI
namespace Go.Proofs.Ytpipdlgnedhhaaa
open Go.ChangeShapes Go.WideShapes Go.ChangeAt Go.RowKit Go.Deep

theorem spec_TypeOfExpr {lo hi c0_0 c0_1 c1_0 c1_1 c1_2 c2_0 : Nat} {a0 a1 b2 b4 b5 a6 : Option Addr} (g : DGrammar) (_ : g.ok) (hszg : g.sz ≤ 1048576) (x : DRule) (okx : x.ok) (hszx : x.sz ≤ 1048576) (y : DExpr) (oky : y.ok) (hszy : y.sz ≤ 1048576) (w : World) (hhi : hi ≤ w.heap.size) (hs0 : Sl lo hi w 2 g.fSymbols.length (fun k => DSymbol.ct (g.fSymbols.getD k default)) a0) (_ : Sl lo hi w 6 g.fRules.length (fun k => DRule.ct (g.fRules.getD k default)) a1) (hs2 : Sl lo hi w 1 x.fRight.length (fun k => ictS (x.fRight.getD k default)) b2) (hs4 : Sl lo hi w 9 x.fEquations.length (fun k => DEquation.ct (x.fEquations.getD k default)) b4) (hs5 : Sl lo hi w 16 x.fContributions.length (fun k => DContribution.ct (x.fContributions.getD k default)) b5) (hs6 : Sl lo hi w 7 y.fArgs.length (ctE y.fArgs) a6) :
    Calls Try.prog 7 #[.agg #[.slice a0 g.fSymbols.length c0_0, .slice a1 g.fRules.length c0_1], .agg #[.string x.fName, .string x.fLeft, .slice b2 x.fRight.length c1_0, .bool x.fLiteral, .slice b4 x.fEquations.length c1_1, .slice b5 x.fContributions.length c1_2], .agg #[.int .i64 y.fKind, .int .i64 y.fN, .int .i64 y.fPos, .int .i64 y.fType, .string y.fSymbol, .string y.fName, .slice a6 y.fArgs.length c2_0]] w fun e w' => e = .returned (.int .i64 (typeX g x y)) ∧ Below w.heap.size w w' :=
  spec_TypeTy g (by unfold DGrammar.sz at hszg; omega) x okx hszx y oky hszy w hhi hs0 hs2 hs4 hs5 hs6

theorem impl_TypeOfExpr {hi c0_0 c0_1 c1_0 c1_1 c1_2 c2_0 : Nat} {a0 a1 b2 b4 b5 a6 : Option Addr} (g : DGrammar) (okg : g.ok) (hszg : g.sz ≤ 1048576) (x : DRule) (okx : x.ok) (hszx : x.sz ≤ 1048576) (y : DExpr) (oky : y.ok) (hszy : y.sz ≤ 1048576) (w : World) (hhi : hi ≤ w.heap.size) (hs0 : Sf 0 hi w 2 g.fSymbols.length (fun k => DSymbol.ct (g.fSymbols.getD k default)) a0) (hs1 : Sf 0 hi w 6 g.fRules.length (fun k => DRule.ct (g.fRules.getD k default)) a1) (hs2 : Sf 0 hi w 1 x.fRight.length (fun k => ictS (x.fRight.getD k default)) b2) (hs4 : Sf 0 hi w 9 x.fEquations.length (fun k => DEquation.ct (x.fEquations.getD k default)) b4) (hs5 : Sf 0 hi w 16 x.fContributions.length (fun k => DContribution.ct (x.fContributions.getD k default)) b5) (hs6 : Sf 0 hi w 7 y.fArgs.length (ctE y.fArgs) a6) :
    Calls Try.prog 11 #[.agg #[.slice a0 g.fSymbols.length c0_0, .slice a1 g.fRules.length c0_1], .agg #[.string x.fName, .string x.fLeft, .slice b2 x.fRight.length c1_0, .bool x.fLiteral, .slice b4 x.fEquations.length c1_1, .slice b5 x.fContributions.length c1_2], .agg #[.int .i64 y.fKind, .int .i64 y.fN, .int .i64 y.fPos, .int .i64 y.fType, .string y.fSymbol, .string y.fName, .slice a6 y.fArgs.length c2_0]] w fun e w' => e = .returned (.int .i64 (typeX g x y)) ∧ Below w.heap.size w w' :=
  impl_TypeX g okg hszg x okx hszx y oky hszy w hhi hs0.sl hs1.sl hs2.sl hs4.sl hs5.sl hs6
end Go.Proofs.Ytpipdlgnedhhaaa
