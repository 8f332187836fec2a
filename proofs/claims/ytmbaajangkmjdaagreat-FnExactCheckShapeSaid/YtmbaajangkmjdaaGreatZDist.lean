/-
  Chapter 2 in the model: IndexOf and AllDistinct.
-/
import Derived.Test.YtmbaajangkmjdaaGreatZz7
import Derived.Test.YtmbaajangkmjdaaGreatZSrt
import Derived.Lib.SlicesS
import Derived.Deep.RegionWith
set_option maxHeartbeats 1600000
set_option maxRecDepth 100000
namespace Go.Proofs.YtmbaajangkmjdaaGreat
open Go.ChangeShapes Go.WideShapes Go.ChangeAt Go.RowKit
theorem zek {B:Nat} {a:Option Addr} {cap:Nat} (ss:List ByteArray) (hn:ss.length≤1048576) (hcap:ss.length≤cap) (w:World) (hs:Strs B w a ss) :
  Calls Tryz.prog 64 #[.slice a ss.length cap] w fun e w'=>e = .returned (.bool (nodB ss))∧Below w.heap.size w w':=by
 have HS:=yq hs;clear hs
 go_enter Tryz.func64,Tryz.ntmps64
 go_wp2
 go_loopw [3] (fun i wr=>∃ k:Nat,k≤ss.length∧i = .int .i64 (k:Int)∧(ss.take k).Nodup ∧ ∃ n,wr=w.drewN n) (fun i _=>ss.length - (intOf i).toNat)
 case atStart=>exact ⟨0,Nat.zero_le _,rfl,by simp,0,rfl⟩
 case round =>
  obtain ⟨k,hk,rfl,hnd,n,rfl⟩:=hrel;have HND:=yq hnd;clear hnd
  by_cases hlt:k < ss.length
  ·have hst:Strs w.heap.size w a (ss.take k):=by
    rcases HS.out with h|⟨b,off,ha,hB,hc⟩
    ·rw [h] at hlt;exact absurd hlt (Nat.not_lt_zero _)
    ·refine Or.inr ⟨b,off,ha,zqj (hc k hlt).2,fun j hj=>?_⟩
     rw [List.length_take] at hj
     have:=hc j (by omega)
     have e:(ss.take k).getD j ByteArray.empty=ss.getD j ByteArray.empty:=by
      rw [List.getD_eq_getElem?_getD,List.getD_eq_getElem?_getD,List.getElem?_take,if_pos (by omega)]
     rw [e];exact this
   obtain ⟨b,off,rfl,hb,hsz,hc1⟩:=HS.out.at k hlt
   have hlen:(ss.take k).length=k:=by rw [List.length_take];omega
   have ht:ss.take (k+1)=ss.take k ++ [ss.getD k ByteArray.empty]:=by
    rw [List.take_succ_eq_append_getElem hlt,List.getD_eq_getElem?_getD,List.getElem?_eq_getElem hlt];rfl
   have HC:Hid (∀ (w':World) (n':Nat),w'=w.drewN n'→Calls Tryz.prog 38 #[.slice (some ⟨b,off,none⟩) k cap,.string (ss.getD k ByteArray.empty)] w' fun e w''=>e = .returned (.bool (memB (ss.getD k ByteArray.empty) (ss.take k)))∧w'=w''):=by
    show ∀ _,_
    intro w' n' hw'
    have:=zfd (cap:=cap) (ss.take k) (ss.getD k ByteArray.empty) (by omega) w' (hw' ▸ (hst.below (below_drewN (Below.refl _ _) n')))
    rw [hlen] at this;exact this
   generalize hv:ss.getD k ByteArray.empty=x at hsz hc1 ht HC;have HT:=yq ht;have HST:=yq hst;have HV:=yq hv;clear ht hst hv hlen
   have hkc:k≤cap:=by omega
   cases hm:memB x (ss.take k)
   ·have HND2:Hid ((ss.take (k+1)).Nodup):=by
     show List.Nodup _
     rw [HT.out,List.nodup_append]
     refine ⟨HND.out,by simp,fun y hy z hz e=>?_⟩
     rw [List.mem_singleton] at hz;rw [← hz,← e,zv1 hy] at hm
     cases hm
    rw [hm] at HC;clear hm;(go_wp2_with fail)
    go_region_with ((go_at_call 38;refine (HC.out _ _ rfl).mono ?_;rintro e w1 ⟨rfl,rfl⟩))
    go_wp2;go_roundw
    case rel=>exact ⟨k+1,by omega,by go_num,HND2.out,_,rfl⟩
    case measure=>simp [intOf];omega
   ·have fin:Hid (nodB ss=false):=by
     show _=_
     refine zw8 fun hN=>?_
     have h2:(ss.take (k+1)).Nodup:=hN.sublist (List.take_sublist _ _);rw [HT.out,List.nodup_append] at h2
     exact h2.2.2 x (zdo.1 hm) x (by simp) rfl
    rw [hm] at HC;clear hm;(go_wp2_with fail)
    go_region_with ((go_at_call 38;refine (HC.out _ _ rfl).mono ?_;rintro e w1 ⟨rfl,rfl⟩))
    go_wp2;go_ret;exact ⟨zal fin.out.symm,below_drewN (Below.refl _ _) _⟩
  ·obtain rfl:k=ss.length:=by omega
   have fin:Hid (nodB ss=true):=by show _=_;have:=HND.out;rw [List.take_length] at this;exact zsb this
   go_wp2;go_ret;exact ⟨zal fin.out.symm,below_drewN (Below.refl _ _) _⟩
end Go.Proofs.YtmbaajangkmjdaaGreat
