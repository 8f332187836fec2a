/-
  Slices of strings in the laws' own helpers: where they lie.
  Chapter 2: the reserved words, in the model and in the program.
  Chapter 2: which strings are names, in the model and in the program.
  A slice of strings of the call's own, in one block.
-/
import Derived.Test.YtmbaajangkmjdaaGreatZA0
import Derived.Lib.Strings
import Derived.BigQuiet
import Derived.Test.YtmbaajangkmjdaaGreatZz6
set_option maxHeartbeats 2000000
set_option maxRecDepth 100000
namespace Go.Proofs.YtmbaajangkmjdaaGreat
open Go.ChangeShapes Go.WideShapes Go.ChangeAt Go.RowKit
def Strs (B:Nat) (w:World) (a:Option Addr) (ss:List ByteArray):Prop :=
 ss=[] ∨ ∃ b off:Nat,a=some ⟨b,off,none⟩∧b < B ∧ ∀ k,k < ss.length→(ss.getD k ByteArray.empty).size≤9223372036854775807∧w.cell? ⟨b,off+k,none⟩=some (.string (ss.getD k ByteArray.empty))
theorem Strs.below {B:Nat} {w w':World} {a:Option Addr} {ss:List ByteArray} (h:Strs B w a ss) (hb:Below B w w'):Strs B w' a ss:=by
 rcases h with h|⟨b,off,ha,hB,hc⟩
 ·exact Or.inl h
 ·exact Or.inr ⟨b,off,ha,hB,fun k hk=>⟨(hc k hk).1,(hb.cell (by exact hB)).trans (hc k hk).2⟩⟩
theorem Strs.at {B:Nat} {w:World} {a:Option Addr} {ss:List ByteArray} (h:Strs B w a ss) (k:Nat) (hk:k < ss.length) :
  ∃ b off:Nat,a=some ⟨b,off,none⟩∧b < B∧(ss.getD k ByteArray.empty).size≤9223372036854775807∧w.cell? ⟨b,off+k,none⟩=some (.string (ss.getD k ByteArray.empty)):=by
 rcases h with h|⟨b,off,ha,hB,hc⟩
 ·rw [h] at hk;exact absurd hk (Nat.not_lt_zero _)
 ·exact ⟨b,off,ha,hB,(hc k hk).1,(hc k hk).2⟩
theorem zqj {w:World} {p:Addr} {v:Value} (h:w.cell? p=some v):p.block < w.heap.size:=by
 rcases Nat.lt_or_ge p.block w.heap.size with h'|h'
 ·exact h'
 ·unfold World.cell? at h;rw [Array.getElem?_eq_none h'] at h;simp at h
theorem zal {a b:Bool} (h:a=b):Ending.returned (.bool a) = .returned (.bool b):=by rw [h]
theorem zxr {x s:ByteArray} (h:x=s):(x.toList == s.toList)=true:=by rw [h];exact beq_self_eq_true _
theorem zx6 {x s:ByteArray} (h:x≠s):(x.toList == s.toList)=false:=by
 rw [Lib.toList_data,Lib.toList_data]
 exact beq_eq_false_iff_ne.2 fun e=>h (zc1 e)
theorem zfd {B:Nat} {a:Option Addr} {cap:Nat} (ss:List ByteArray) (s:ByteArray) (hn:ss.length≤9223372036854775806) (w:World) (hs:Strs B w a ss) :
  Calls Tryz.prog 38 #[.slice a ss.length cap,.string s] w fun e w'=>e = .returned (.bool (memB s ss))∧w=w':=by
 have HS:=yq hs;clear hs
 go_enter Tryz.func38,Tryz.ntmps38
 go_wp2
 go_loop [5] (fun i=>∃ k:Nat,k≤ss.length∧i = .int .i64 (k:Int)∧s ∉ ss.take k) (fun i=>ss.length - (intOf i).toNat)
 case atStart=>exact ⟨0,Nat.zero_le _,rfl,by simp⟩
 case round =>
  obtain ⟨k,hk,rfl,hno⟩:=hrel;have HNO:=yq hno;clear hno
  by_cases hlt:k < ss.length
  ·obtain ⟨b,off,rfl,hb,hsz,hc1⟩:=HS.out.at k hlt
   have ht:=yq (List.take_succ_eq_append_getElem hlt)
   have hg:Hid (ss.getD k ByteArray.empty=ss[k]):=by show _=_;rw [List.getD_eq_getElem?_getD,List.getElem?_eq_getElem hlt];rfl
   generalize hv:ss.getD k ByteArray.empty=x at hsz hc1 hg;have HV:=yq hv;clear hv
   by_cases he:x=s
   ·have t1:=zxr he
    have fin:Hid (memB s ss=true):=by show _=_;rw [zdo,← he,hg.out];exact List.getElem_mem hlt
    clear he;go_wp2;go_ret;exact ⟨zal fin.out.symm,rfl⟩
   ·have t1:=zx6 he
    have HE:=yq he;clear he;go_wp2
    go_round
    case rel=>exact ⟨k+1,by omega,by go_num,by rw [ht.out,List.mem_append,List.mem_singleton];rintro (h|h);exact HNO.out h;exact HE.out (by rw [hg.out,h])⟩
    case measure=>simp [intOf];omega
  ·obtain rfl:k=ss.length:=by omega
   have fin:Hid (memB s ss=false):=by show _=_;have:=HNO.out;rw [List.take_length] at this;exact zw1 this
   go_wp2;go_ret;exact ⟨zal fin.out.symm,rfl⟩
def zcp:List ByteArray:=[⟨#[105,102]⟩,⟨#[116,104,101,110]⟩,⟨#[101,108,115,101]⟩,⟨#[116,114,117,101]⟩,⟨#[102,97,108,115,101]⟩,⟨#[108,105,116]⟩,⟨#[110,111,110,101]⟩,⟨#[115,101,108,102]⟩,⟨#[111,102]⟩,⟨#[109,97,120]⟩,⟨#[109,105,110]⟩,⟨#[119,105,116,104]⟩,⟨#[104,97,115]⟩]
theorem zip : ∀ k,k < 13→(zcp.getD k ByteArray.empty).size≤9223372036854775807∧(#[Value.string ⟨#[105,102]⟩,.string ⟨#[116,104,101,110]⟩,.string ⟨#[101,108,115,101]⟩,.string ⟨#[116,114,117,101]⟩,.string ⟨#[102,97,108,115,101]⟩,.string ⟨#[108,105,116]⟩,.string ⟨#[110,111,110,101]⟩,.string ⟨#[115,101,108,102]⟩,.string ⟨#[111,102]⟩,.string ⟨#[109,97,120]⟩,.string ⟨#[109,105,110]⟩,.string ⟨#[119,105,116,104]⟩,.string ⟨#[104,97,115]⟩]:Array Value)[k]? = some (.string (zcp.getD k ByteArray.empty)):=by
 intro k hk
 match k,hk with
 | 0,_|1,_|2,_|3,_|4,_|5,_|6,_|7,_|8,_|9,_|10,_|11,_|12,_=>exact ⟨by decide,rfl⟩
theorem zlg (w:World) :
  Calls Tryz.prog 136 #[] w fun e w'=>e = .returned (.slice (some ⟨w.heap.size,0,none⟩) 13 13)∧Strs w'.heap.size w' (some ⟨w.heap.size,0,none⟩) zcp∧Below w.heap.size w w':=by
 go_enter Tryz.func136,Tryz.ntmps136
 go_wp2;go_ret
 refine ⟨rfl,Or.inr ⟨w.heap.size,0,rfl,by simp,fun k hk=>⟨(zip k hk).1,?_⟩⟩,(Below.refl _ _).alloc (Nat.le_refl _) _⟩
 rw [Nat.zero_add,World.cell?_alloc_new];exact (zip k hk).2
theorem zli (s:ByteArray) (w:World) :
  Calls Tryz.prog 102 #[.string s] w fun e w'=>e = .returned (.bool (memB s zcp))∧Below w.heap.size w w':=by
 go_enter Tryz.func102,Tryz.ntmps102
 (go_wp2_with fail);refine (zlg _).mono ?_;rintro e w1 ⟨rfl,hs,hb⟩;have HS:=yq hs;clear hs;(go_wp2_with fail)
 refine (zfd (cap:=13) zcp s (by decide) _ HS.out).mono ?_
 rintro e w2 ⟨rfl,rfl⟩;go_wp2;go_ret;exact ⟨rfl,hb⟩
theorem zgq (w:World) :
  Calls Tryz.prog 145 #[] w fun e w'=>e = .returned (.map (some w.heap.size))∧zcf Tryz.prog 9 4 w' w.heap.size 13 zcp.reverse∧Below w.heap.size w w':=by
 have hmm:=@run_makeMap Tryz.prog;have hs:zcf Tryz.prog 9 4 (w.alloc (.map #[] 0)) w.heap.size 0 []:=zcf.made w;have hb:Below w.heap.size w (w.alloc (.map #[] 0)):=(Below.refl _ _).alloc (Nat.le_refl _) _
 go_enter Tryz.func145,Tryz.ntmps145
 go_wp2_with (refine zie _ rfl (.tmp 1) _ _ 181 rfl 9 4 Tryz.underlying9 Tryz.underlying4 Tryz.underlying181 w.heap.size _ _ rfl hs yl _ rfl rfl (by decide) ?_;intro w1 hs1 hg1;have hb1:=hb.grown hg1 hb.size (fun j hj=>by cases hj;exact Nat.le_refl _);clear hs hb hg1;have hs:=hs1;have hb:=hb1;clear hs1 hb1)
 go_ret;exact ⟨rfl,hs,hb⟩
theorem zv6 (s:ByteArray) (L:List ByteArray):memB s L.reverse=memB s L:=by
 rw [Bool.eq_iff_iff,zdo,zdo,List.mem_reverse]
theorem zkg (w:World):(zeroValue 4).run Tryz.prog w = .ok (.bool false) w:=by kernel_rfl
theorem zj5 (s:ByteArray) (hz:s.size≤1048576) (w:World) :
  Calls Tryz.prog 114 #[.string s] w fun e w'=>e = .returned (.bool (memB s zcp))∧Below w.heap.size w w':=by
 go_enter Tryz.func114,Tryz.ntmps114
 (go_wp2_with fail);refine (zgq _).mono ?_;rintro e w1 ⟨rfl,hs,hb⟩
 go_wp2_with (refine zhy _ rfl (.tmp 3) (.tmp 4) 181 rfl 9 4 Tryz.underlying9 Tryz.underlying4 Tryz.underlying181 (zkg _) _ _ _ rfl hs s rfl yl ?_)
 go_ret;exact ⟨zal (zv6 _ _),hb⟩
def low (n:Int):Bool:=decide (97≤n) && decide (n≤122)
def dgt (n:Int):Bool:=decide (48≤n) && decide (n≤57)
theorem zuh {n:Int} (h:97≤n) (h':n≤122):low n=true:=by unfold low;simp [h,h']
theorem zx5 {n:Int} (h:n < 97∨122 < n):low n=false:=by
 unfold low;rcases h with h|h
 ·rw [decide_eq_false (by omega)];rfl
 ·rw [decide_eq_false (p:=n≤122) (by omega),Bool.and_false]
theorem zuq {n:Int} (h:48≤n) (h':n≤57):dgt n=true:=by unfold dgt;simp [h,h']
theorem zx0 {n:Int} (h:n < 48∨57 < n):dgt n=false:=by
 unfold dgt;rcases h with h|h
 ·rw [decide_eq_false (by omega)];rfl
 ·rw [decide_eq_false (p:=n≤57) (by omega),Bool.and_false]
def chr (s:ByteArray) (k:Nat):Int:=((s.data.toList.getD k 0).toNat:Int)
theorem zty (s:ByteArray) (k:Nat) (h:k < s.size):((s[k].toNat:Nat):Int)=chr s k:=by
 have h':k < s.data.toList.length:=by simpa using h
 unfold chr
 rw [List.getD_eq_getElem?_getD,List.getElem?_eq_getElem h']
 rfl
def nch (s:ByteArray) (k:Nat):Bool:=low (chr s k) || dgt (chr s k)
def run (s:ByteArray) (k:Nat):Nat:=if h:k < s.size then (if nch s k=true then run s (k+1) else k) else k
termination_by s.size - k
theorem zsa {s:ByteArray} {k:Nat} (h : ¬ k < s.size):run s k=k:=by rw [run,dif_neg h]
theorem zwp {s:ByteArray} {k:Nat} (h:nch s k=false):run s k=k:=by
 rw [run];split
 ·rw [if_neg (by rw [h];decide)]
 ·rfl
theorem zri {s:ByteArray} {k:Nat} (h:k < s.size) (h':nch s k=true):run s k=run s (k+1):=by
 rw [run,dif_pos h,if_pos h']
theorem ztq {s:ByteArray} : ∀ (n k:Nat),s.size - k=n→k≤s.size→(run s k=s.size ↔ ∀ j,k≤j→j < s.size→nch s j=true)
 | 0,k,hn,hk=>by
  rw [zsa (by omega)]
  exact ⟨fun _ j h1 h2=>absurd h2 (by omega),fun _=>by omega⟩
 | n+1,k,hn,hk=>by
  by_cases h:nch s k=true
  ·rw [zri (by omega) h,ztq n (k+1) (by omega) (by omega)]
   exact ⟨fun H j h1 h2=>by
    by_cases e:j=k
    ·rw [e];exact h
    ·exact H j (by omega) h2,fun H j h1 h2=>H j (by omega) h2⟩
  ·rw [zwp (by simpa using h)]
   exact ⟨fun e=>absurd e (by omega),fun H=>absurd (H k (Nat.le_refl _) (by omega)) h⟩
def zd1 (s:ByteArray):Bool:=decide (0 < s.size) && low (chr s 0) && decide (run s 0=s.size)
def okAt (s:ByteArray) (j:Nat):Bool:=low (chr s j) || (decide (0 < j) && dgt (chr s j))
theorem zp9 {s:ByteArray}:zd1 s=true↔0 < s.size ∧ ∀ j,j < s.size→okAt s j=true:=by
 unfold zd1 okAt
 rw [Bool.and_eq_true,Bool.and_eq_true,decide_eq_true_eq,decide_eq_true_eq,ztq _ 0 rfl (Nat.zero_le _)]
 unfold nch
 constructor
 ·rintro ⟨⟨h0,h1⟩,h2⟩
  refine ⟨h0,fun j hj=>?_⟩
  have:=h2 j (Nat.zero_le _) hj
  by_cases e:j=0
  ·subst e;rw [h1];rfl
  ·rw [decide_eq_true (show 0 < j by omega),Bool.true_and];exact this
 ·rintro ⟨h0,h1⟩
  refine ⟨⟨h0,by simpa using h1 0 h0⟩,fun j _ hj=>?_⟩
  have:=h1 j hj
  rw [Bool.or_eq_true,Bool.and_eq_true] at this
  rcases this with h|⟨_,h⟩
  ·rw [h];rfl
  ·rw [h,Bool.or_true]
theorem zvv {s:ByteArray} {j:Nat} (hj:j < s.size) (h:okAt s j=false):zd1 s=false:=by
 cases e:zd1 s
 ·rfl
 ·rw [(zp9.1 e).2 j hj] at h;cases h
def zi (s:ByteArray):Bool:=zd1 s && decide (s.size≤8) && !memB s zcp
theorem za4 (b:Int) (w:World) :
  Calls Tryz.prog 112 #[.int .u8 b] w fun e w'=>e = .returned (.bool (low b))∧w=w':=by
 rcases (by omega:b < 97∨(97≤b∧122 < b)∨(97≤b∧b≤122)) with h|⟨h,h'⟩|⟨h,h'⟩
 all_goals
  go_enter Tryz.func112,Tryz.ntmps112
  go_wp2;go_ret
  exact ⟨zal (by first|(rw [zx5 (by omega)];try exact decide_eq_false (by omega))|(rw [zuh (by omega) (by omega)];try exact decide_eq_true (by omega))),rfl⟩
theorem zix (b:Int) (w:World) :
  Calls Tryz.prog 144 #[.int .u8 b] w fun e w'=>e = .returned (.bool (dgt b))∧w=w':=by
 rcases (by omega:b < 48∨(48≤b∧57 < b)∨(48≤b∧b≤57)) with h|⟨h,h'⟩|⟨h,h'⟩
 all_goals
  go_enter Tryz.func144,Tryz.ntmps144
  go_wp2;go_ret
  exact ⟨zal (by first|(rw [zx0 (by omega)];try exact decide_eq_false (by omega))|(rw [zuq (by omega) (by omega)];try exact decide_eq_true (by omega))),rfl⟩
theorem zdz (s:ByteArray) (hz:s.size≤1048576) (w:World) :
  Calls Tryz.prog 113 #[.string s] w fun e w'=>e = .returned (.int .i64 (run s 0:Nat))∧w=w':=by
 go_enter Tryz.func113,Tryz.ntmps113
 go_wp2
 go_loop [3] (fun i=>∃ k:Nat,k≤s.size∧i = .int .i64 (k:Int)∧run s 0=run s k) (fun i=>s.size - (intOf i).toNat)
 case atStart=>exact ⟨0,Nat.zero_le _,rfl,rfl⟩
 case round =>
  obtain ⟨k,hk,rfl,hr⟩:=hrel;have HR:=yq hr;clear hr
  by_cases hlt:k < s.size
  ·have hc:=yq (zty s k hlt)
   cases hl:low (s[k].toNat:Int)
   ·cases hd:dgt (s[k].toNat:Int)
    ·have fin:Hid (run s 0=k):=by
      show _=_
      rw [HR.out,zwp];unfold nch;rw [← hc.out,hl,hd];rfl
     have HL:=yq hl;have HD:=yq hd;clear hl hd;(go_wp2_with fail);refine (za4 _ _).mono ?_;rintro e w1 ⟨rfl,rfl⟩;have hl:=HL.out;(go_wp2_with fail);refine (zix _ _).mono ?_;rintro e w1 ⟨rfl,rfl⟩;have hd:=HD.out;go_wp2;go_ret
     exact ⟨congrArg (fun x:Nat=>Ending.returned (.int .i64 (x:Int))) fin.out.symm,rfl⟩
    ·have fin:Hid (run s 0=run s (k+1)):=by
      show _=_
      rw [HR.out,zri hlt];unfold nch;rw [← hc.out,hl,hd];rfl
     have HL:=yq hl;have HD:=yq hd;clear hl hd;(go_wp2_with fail);refine (za4 _ _).mono ?_;rintro e w1 ⟨rfl,rfl⟩;have hl:=HL.out;(go_wp2_with fail);refine (zix _ _).mono ?_;rintro e w1 ⟨rfl,rfl⟩;have hd:=HD.out;go_wp2
     go_round
     case rel=>exact ⟨k+1,by omega,by go_num,fin.out⟩
     case measure=>simp [intOf];omega
   ·have fin:Hid (run s 0=run s (k+1)):=by
     show _=_
     rw [HR.out,zri hlt];unfold nch;rw [← hc.out,hl];rfl
    have HL:=yq hl;clear hl;(go_wp2_with fail);refine (za4 _ _).mono ?_;rintro e w1 ⟨rfl,rfl⟩;have hl:=HL.out;go_wp2
    go_round
    case rel=>exact ⟨k+1,by omega,by go_num,fin.out⟩
    case measure=>simp [intOf];omega
  ·obtain rfl:k=s.size:=by omega
   have fin:Hid (run s 0=s.size):=by show _=_;rw [HR.out,zsa (by omega)]
   go_wp2;go_ret
   exact ⟨congrArg (fun x:Nat=>Ending.returned (.int .i64 (x:Int))) fin.out.symm,rfl⟩
theorem ze5 (s : ByteArray) (hz : s.size ≤ 1048576) (w : World) :
    Calls Tryz.prog 101 #[.string s] w fun e w' => e = .returned (.bool (zd1 s)) ∧ w = w' := by
  go_enter Tryz.func101, Tryz.ntmps101
  go_wp2
  go_loop [3] (fun i => ∃ k : Nat, k ≤ s.size ∧ i = .int .i64 (k : Int) ∧ ∀ j, j < k → okAt s j = true) (fun i => s.size - (intOf i).toNat)
  case atStart => exact ⟨0, Nat.zero_le _, rfl, fun j hj => absurd hj (Nat.not_lt_zero _)⟩
  case round =>
    obtain ⟨k, hk, rfl, hr⟩ := hrel
    have HR := Lib.hid hr
    clear hr
    by_cases hlt : k < s.size
    · have hc := Lib.hid (zty s k hlt)
      have h255 : (s[k].toNat : Int) ≤ 255 := by have := s[k].toNat_lt; omega
      cases ho : okAt s k
      · have fin : Hid (zd1 s = false) := by show _ = _; exact zvv hlt ho
        have hnl : low (s[k].toNat : Int) = false := by unfold okAt at ho; rw [Bool.or_eq_false_iff] at ho; rw [hc.out]; exact ho.1
        have hnd : k = 0 ∨ dgt (s[k].toNat : Int) = false := by
          unfold okAt at ho; rw [Bool.or_eq_false_iff, Bool.and_eq_false_iff, ← hc.out] at ho
          rcases ho.2 with h | h
          · left; have := of_decide_eq_false h; omega
          · exact Or.inr h
        have hl : (s[k].toNat : Int) < 97 ∨ 122 < (s[k].toNat : Int) := by
          rcases (by omega : (s[k].toNat : Int) < 97 ∨ 122 < (s[k].toNat : Int) ∨ (97 ≤ (s[k].toNat : Int) ∧ (s[k].toNat : Int) ≤ 122)) with h | h | ⟨h, h'⟩
          · exact Or.inl h
          · exact Or.inr h
          · rw [zuh h h'] at hnl; cases hnl
        have hd : k = 0 ∨ (s[k].toNat : Int) < 48 ∨ 57 < (s[k].toNat : Int) := by
          rcases hnd with h | h
          · exact Or.inl h
          · rcases (by omega : (s[k].toNat : Int) < 48 ∨ 57 < (s[k].toNat : Int) ∨ (48 ≤ (s[k].toNat : Int) ∧ (s[k].toNat : Int) ≤ 57)) with h | h | ⟨h1, h'⟩
            · exact Or.inr (Or.inl h)
            · exact Or.inr (Or.inr h)
            · rw [zuq h1 h'] at h; cases h
        clear hnl hnd ho hc
        have hk0 : k = 0 ∨ 0 < k := by omega
        rcases hl with hl | hl
        all_goals
          rcases hd with hd | hd | hd
          all_goals (try (exfalso; omega))
          all_goals (try have d1 : decide ((s[k].toNat : Int) ≤ 122) = false := decide_eq_false (by omega))
          all_goals (try have d2 : decide ((s[k].toNat : Int) ≤ 57) = false := decide_eq_false (by omega))
          all_goals (try have d3 : decide ((s[k].toNat : Int) ≤ 57) = true := decide_eq_true (by omega))
          all_goals
            rcases hk0 with h0 | h0
            · have t1 : ((k : Int) == 0) = true := by rw [h0]; rfl
              clear h0
              try clear hd
              go_wp2
              all_goals
                go_ret
                exact ⟨zal fin.out.symm, rfl⟩
            · first
              | (exfalso; omega)
              | (have t1 : ((k : Int) == 0) = false := beq_eq_false_iff_ne.2 (by omega)
                 go_wp2
                 all_goals
                   go_ret
                   exact ⟨zal fin.out.symm, rfl⟩)
      · have fin : Hid (∀ j, j < k + 1 → okAt s j = true) := by
          show ∀ j, _
          intro j hj
          by_cases e : j = k
          · rw [e]; exact ho
          · exact HR.out j (by omega)
        have hl : (97 ≤ (s[k].toNat : Int) ∧ (s[k].toNat : Int) ≤ 122) ∨ (0 < k ∧ 48 ≤ (s[k].toNat : Int) ∧ (s[k].toNat : Int) ≤ 57) := by
          unfold okAt low dgt at ho
          rw [← hc.out] at ho
          simp only [Bool.or_eq_true, Bool.and_eq_true, decide_eq_true_eq] at ho
          exact ho
        clear ho hc
        rcases hl with ⟨h1, h2⟩ | ⟨h0, h1, h2⟩
        · rcases (by omega : (k : Nat) = 0 ∨ 0 < k) with h0 | h0
          · have t1 : ((k : Int) == 0) = true := by rw [h0]; rfl
            clear h0
            go_wp2
            all_goals
              go_round
              case rel => exact ⟨k + 1, by omega, by go_num, fin.out⟩
              case measure => simp [intOf]; omega
          · have t1 : ((k : Int) == 0) = false := beq_eq_false_iff_ne.2 (by omega)
            go_wp2
            all_goals
              go_round
              case rel => exact ⟨k + 1, by omega, by go_num, fin.out⟩
              case measure => simp [intOf]; omega
        · have t1 : ((k : Int) == 0) = false := beq_eq_false_iff_ne.2 (by omega)
          go_wp2
          all_goals
            go_round
            case rel => exact ⟨k + 1, by omega, by go_num, fin.out⟩
            case measure => simp [intOf]; omega
    · obtain rfl : k = s.size := by omega
      have fin : Hid (decide (0 < s.size) = zd1 s) := by
        show _ = _
        rw [Bool.eq_iff_iff, decide_eq_true_eq, zp9]
        exact ⟨fun h => ⟨h, HR.out⟩, fun h => h.1⟩
      go_wp2
      go_ret
      exact ⟨zal (by rw [← fin.out]; try (rw [Bool.eq_iff_iff, decide_eq_true_eq, decide_eq_true_eq]; omega)), rfl⟩
theorem zag (s:ByteArray) (hz:s.size≤1048576) (w:World) :
  Calls Tryz.prog 63 #[.string s] w fun e w'=>e = .returned (.bool (zi s))∧Below w.heap.size w w':=by
 cases hs:zd1 s
 ·have fin:Hid (zi s=false):=by show _=_;unfold zi;rw [hs];rfl
  have HS:=yq hs;clear hs
  go_enter Tryz.func63,Tryz.ntmps63
  (go_wp2_with fail);refine (ze5 s hz _).mono ?_;rintro e w1 ⟨rfl,rfl⟩;have hs:=HS.out;go_wp2;go_ret;exact ⟨zal fin.out.symm,Below.refl _ _⟩
 ·by_cases h8:s.size≤8
  ·have fin:Hid (zi s = !memB s zcp):=by show _=_;unfold zi;rw [hs,decide_eq_true h8];rfl
   have HS:=yq hs;clear hs
   go_enter Tryz.func63,Tryz.ntmps63
   (go_wp2_with fail);refine (ze5 s hz _).mono ?_;rintro e w1 ⟨rfl,rfl⟩;have hs:=HS.out;(go_wp2_with fail);refine (zli s _).mono ?_;rintro e w2 ⟨rfl,hb⟩;go_wp2;go_ret;exact ⟨zal fin.out.symm,hb⟩
  ·have fin:Hid (zi s=false):=by show _=_;unfold zi;rw [hs,decide_eq_false h8];rfl
   have HS:=yq hs;clear hs
   go_enter Tryz.func63,Tryz.ntmps63
   (go_wp2_with fail);refine (ze5 s hz _).mono ?_;rintro e w1 ⟨rfl,rfl⟩;have hs:=HS.out;go_wp2;go_ret;exact ⟨zal fin.out.symm,Below.refl _ _⟩
theorem zai (s:ByteArray) (hz:s.size≤1048576) (w:World) :
  Calls Tryz.prog 76 #[.string s] w fun e w'=>e = .returned (.bool (zi s))∧Below w.heap.size w w':=by
 rcases (by omega:s.size < 1∨(1≤s.size∧8 < s.size)∨(1≤s.size∧s.size≤8)) with h|⟨h,h'⟩|⟨h,h'⟩
 ·have fin:Hid (zi s=false):=by show _=_;unfold zi zd1;rw [decide_eq_false (p:=0 < s.size) (by omega)];rfl
  go_enter Tryz.func76,Tryz.ntmps76
  go_wp2;go_ret;exact ⟨zal fin.out.symm,Below.refl _ _⟩
 ·have fin:Hid (zi s=false):=by show _=_;unfold zi;rw [decide_eq_false (p:=s.size≤8) (by omega),Bool.and_false];rfl
  go_enter Tryz.func76,Tryz.ntmps76
  go_wp2;go_ret;exact ⟨zal fin.out.symm,Below.refl _ _⟩
 ·have hc:=zty s 0 (by omega)
  cases hl:low (s[0].toNat:Int)
  ·have fin:Hid (zi s=false):=by show _=_;unfold zi zd1;rw [← hc,hl,Bool.and_false];rfl
   have HL:=yq hl;clear hl hc
   go_enter Tryz.func76,Tryz.ntmps76
   (go_wp2_with fail);refine (za4 _ _).mono ?_;rintro e w1 ⟨rfl,rfl⟩;have hl:=HL.out;go_wp2;go_ret;exact ⟨zal fin.out.symm,Below.refl _ _⟩
  ·by_cases hr:run s 0=s.size
   ·have fin:Hid (zi s = !memB s zcp):=by
     show _=_
     unfold zi zd1;rw [← hc,hl,hr,decide_eq_true (show 0 < s.size by omega),decide_eq_true h',decide_eq_true rfl];rfl
    have HL:=yq hl
    have t1:((run s 0:Int) == (s.size:Int))=true:=by rw [hr];exact beq_self_eq_true _
    have T1:=yq t1;clear hl hc hr t1
    go_enter Tryz.func76,Tryz.ntmps76
    (go_wp2_with fail);refine (za4 _ _).mono ?_;rintro e w1 ⟨rfl,rfl⟩;have hl:=HL.out;(go_wp2_with fail);refine (zdz s hz _).mono ?_;rintro e w1 ⟨rfl,rfl⟩;have t1:=T1.out;clear hl;(go_wp2_with fail);refine (zj5 s hz _).mono ?_;rintro e w1 ⟨rfl,hb⟩;go_wp2;go_ret;exact ⟨zal fin.out.symm,hb⟩
   ·have fin:Hid (zi s=false):=by
     show _=_
     unfold zi zd1;rw [decide_eq_false hr,Bool.and_false];rfl
    have HL:=yq hl
    have t1:((run s 0:Int) == (s.size:Int))=false:=beq_eq_false_iff_ne.2 (by omega)
    have T1:=yq t1;clear hl hc hr t1
    go_enter Tryz.func76,Tryz.ntmps76
    (go_wp2_with fail);refine (za4 _ _).mono ?_;rintro e w1 ⟨rfl,rfl⟩;have hl:=HL.out;(go_wp2_with fail);refine (zdz s hz _).mono ?_;rintro e w1 ⟨rfl,rfl⟩;have t1:=T1.out;clear hl;go_wp2;go_ret;exact ⟨zal fin.out.symm,Below.refl _ _⟩
theorem zla:(Tryz.prog.info? 9).map (fun i=>(i.zero,i.size,i.bytes))=some (some (.string ⟨#[]⟩),1,16):=by kernel_rfl
structure OwnStrs (w:World) (g:Nat) (ss:List ByteArray):Prop where
 lt:g < w.heap.size
 cell : ∀ k,k < ss.length→w.cell? ⟨g,k,none⟩=some (.string (ss.getD k ByteArray.empty))
 free : ∀ k,w.frozen? ⟨g,k,none⟩=false
end Go.Proofs.YtmbaajangkmjdaaGreat
