/-
  slices.SortFunc over a row of the call's own, by a comparison that parts whatever two are not one: the row in order; nothing else is written.
-/
import Derived.Test.YtmbaajangkmjdaaGreatZRev
import Derived.Shelf.SlSortCmp.NoneTotal
namespace Go.Proofs.YtmbaajangkmjdaaGreat
open Go.ChangeShapes Go.WideShapes Go.ChangeAt Go.RowKit Go.Deep Go.Shelf Go.Sort
theorem zlf {B:Nat} {w:World} (hB:B≤w.heap.size) (os:Array Obj):Below B w (grow w os) :=
 ⟨rfl,rfl,rfl,by simp [grow],fun k hk=>by show (w.heap ++ os)[k]? = _;rw [Array.getElem?_append_left (by omega)]⟩
theorem zp1 {α : Type} [Inhabited α] {P:Program} {ρ : Go.Shelf.Ren} (L:SlLaysF0.n6 P ρ) (k:Nat) (aE : ∀ w,(isAgg (ρ.t 24)).run P w = .ok true w) (zE : ∀ w,(Go.sizeOf (ρ.t 24)).run P w = .ok k w) (enc : α → List Value) (hk : ∀ x,(enc x).length=k) (h1 : ∀ x,∀ v ∈ enc x,v.oneCell'=true)
  (cf : α → α → Int) (hO:SWO (ltOf cf)) (hT : ∀ x y,(ltOf cf) x y=false→(ltOf cf) y x=false→x=y) (gf:Nat) (cb:Array Value) (eg : ∀ args w,(callFunc gf args).run P w = .ok (.enter gf args) w) (hcmp : ∀ blk size W,CmpLays P gf cb enc k cf blk 0 size W)
  (B cap:Nat) (e:TypeId) (a:Option Addr) (zs:List α) (w:World) (hz:zs.length≤1099511627776) (hown:w.ownsRow B e k (.slice a zs.length cap) zs.length (zs.flatMap enc)) :
  Calls P (ρ.f 6) #[.slice a zs.length cap,.func (.func gf) #[] cb] w fun x w'=>x = .returned (.tuple #[])∧w'.ownsRow B e k (.slice a zs.length cap) zs.length ((zs.mergeSort fun x y=>!(ltOf cf) y x).flatMap enc) ∧ ∀ b0,(∀ g,a=some ⟨g,0,none⟩→b0≤g)→b0≤w.heap.size→Below b0 w w':=by
 rcases hown.2 with ⟨e0,hn0⟩|⟨g,cap',cur,e0,hb,hg,hn,hm,hs,ht⟩
 ·injection e0 with e1 _ e3
  subst e1 e3
  obtain rfl:zs=[]:=List.length_eq_zero_iff.1 hn0;refine (AnyF.slices_SortFunc_none L none 0 _ w).mono ?_;rintro x w' ⟨rfl,rfl⟩
  exact ⟨rfl,by simpa using hown,fun b0 _ _=>Below.refl _ _⟩
 ·injection e0 with e1 _ e3
  subst e1 e3
  rw [← znf enc k hk zs] at hown;have hh:HoldsK enc k w g 0 zs.toArray:=ztu hown;have hlt:g < w.heap.size:=(Array.getElem?_eq_some_iff.1 hg).1
  have:=AnyQ.slices_SortFunc_total L k aE zE enc hk h1 cf hO gf cb g 0 cap zs.toArray w eg (hcmp g _ w) hh hlt (by simp;omega) hT
  refine (this.mono ?_);rintro x w' ⟨rfl,q,os,rfl⟩
  have hsz:(putRow id (Sort.ahead w q) g 0 (flatK enc k (zs.toArray.toList.mergeSort fun x y=>!(ltOf cf) y x).toArray)).heap.size=w.heap.size:=by simp [putRow,mapBlock,Sort.ahead]
  refine ⟨rfl,?_,fun b0 h0 hb0=>(Go.Lib.below_putRow (Below.refl b0 w) (h0 g rfl)).trans (zlf (by rw [hsz];exact hb0) os)⟩
  have h3:=zxd (q:=q) (A:=flatK enc k (zs.toArray.toList.mergeSort fun x y=>!(ltOf cf) y x).toArray) hown (by simp)
  have h4:=zl h3 (zlf (Nat.le_refl _) os);rw [znf enc k hk] at h4
  unfold sortWorldK putRowK
  simpa using h4
end Go.Proofs.YtmbaajangkmjdaaGreat
