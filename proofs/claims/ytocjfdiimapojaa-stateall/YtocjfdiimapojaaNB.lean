/- Convert of package bits from a width to the same one; tensor's told. The world behind a call that ranges over a function: what lay lies as it lay (Bl). The small functions of package tensor: shapeOf,turned,checkRoom,checkShape,matrix,rowOf,bare. Check of package tensor. States and their bytes,without any program: what is written,what is read. -/
import Derived.Test.YtocjfdiimapojaaTB
namespace Go.Proofs.Ytocjfdiimapojaa
open Go.ChangeShapes Go.WideShapes Go.ChangeAt Go.RowKit Ieee
set_option maxHeartbeats 16000000
set_option maxRecDepth 100000
set_option linter.unusedVariables false
set_option linter.unusedSimpArgs false
theorem log2_lt (m n : Nat) (hm : m ≠ 0) (h : m < 2 ^ (n + 1)) : m.log2 ≤ n:=by
 have l1 : 2 ^ m.log2 ≤ m:=Nat.log2_self_le hm
 have : 2 ^ m.log2 < 2 ^ (n + 1):=Nat.lt_of_le_of_lt l1 h
 have:=(Nat.pow_lt_pow_iff_right (by decide : 1 < 2)).1 this
 omega
end Go.Proofs.Ytocjfdiimapojaa

namespace Go.Proofs.Ytocjfdiimapojaa
open Go.ChangeShapes Go.WideShapes Go.ChangeAt Go.RowKit
set_option maxHeartbeats 16000000
set_option maxRecDepth 100000
set_option linter.unusedVariables false
set_option linter.unusedSimpArgs false
structure Bl (w w' : World) : Prop where
 below : Below w.heap.size w w'
theorem Bl.refl (w : World) : Bl w w:=⟨Below.refl _ _⟩
theorem Bl.trans {a b c : World} (h : Bl a b) (k : Bl b c) : Bl a c:=⟨h.below.trans (k.below.mono h.below.size)⟩
theorem Kept.bl {a b : World} (h : Kept a b) : Bl a b:=⟨h.below⟩
theorem Bl.alloc {a b : World} (h : Bl a b) (o : Obj) : Bl a (b.alloc o):=⟨h.below.alloc h.below.size _⟩
theorem Bl.setCell {a b : World} (h : Bl a b) {p : Addr} (hp : a.heap.size ≤ p.block) (u : Value) : Bl a (b.setCell p u):=⟨h.below.setCell hp u⟩
theorem Bl.drew {a b : World} (h : Bl a b) : Bl a b.drew:=⟨h.below.drew⟩
theorem Bl.drewN {a b : World} (h : Bl a b) (n : Nat) : Bl a (b.drewN n):=⟨below_drewN h.below n⟩
theorem Bl.size {a b : World} (h : Bl a b) : a.heap.size ≤ b.heap.size:=h.below.size
theorem Bl.grw {a b c : World} {g : Nat} (h : Bl a b) (hg : a.heap.size ≤ g) (k : Grw g b c) : Bl a c :=
 ⟨h.below.grown k.grown h.below.size (fun i e => by cases e; exact hg)⟩
theorem Bl.cell {a b : World} (h : Bl a b) (B o : Nat) (hB : B < a.heap.size) : b.cell? ⟨B,o,none⟩ = a.cell? ⟨B,o,none⟩:=h.below.cell (p:=⟨B,o,none⟩) hB
theorem Bl.frozen {a b : World} (h : Bl a b) (B o : Nat) (hB : B < a.heap.size) : b.frozen? ⟨B,o,none⟩ = a.frozen? ⟨B,o,none⟩:=h.below.frozen (p:=⟨B,o,none⟩) hB
theorem Reads.bl {w w' : World} {b off : Nat} {L : List Int} (h : Reads w b off L) (hb : b < w.heap.size) (k : Bl w w') : Reads w' b off L :=
 fun i hi => (k.cell b (off + i) hb).trans (h i hi)
theorem Sl.bl {w w' : World} {v : Value} {L : List Int} (h : Sl w v L) (k : Bl w w') : Sl w' v L:=by
 obtain ⟨ao,cap,e,hc,hm,hr⟩:=h
 refine ⟨ao,cap,e,hc,hm,fun hne => ?_⟩
 obtain ⟨b,off,e2,hb,hr⟩:=hr hne
 exact ⟨b,off,e2,Nat.lt_of_lt_of_le hb k.size,hr.bl hb k⟩
theorem Own.bl {w w' : World} {g cap : Nat} {L : List Int} (h : Own w g cap L) (k : Bl w w') : Own w' g cap L:=by
 have hl:=h.lt
 obtain ⟨cur,hg,r⟩:=h
 exact ⟨cur,(k.below.block g hl).trans hg,r⟩
theorem MR.bl {H : Nat} {w w' : World} {v : Value} {M : List Int} (h : MR H w v M) (k : Bl w w') : MR H w' v M:=by
 rcases h with h | ⟨g,cap,e,hg,ho⟩
 ·exact .inl h
 ·exact .inr ⟨g,cap,e,hg,ho.bl k⟩
/-- A matrix in four cells. -/
structure M4 (w : World) (B : Nat) (r c n s : Value) : Prop where
 c0 : w.cell? ⟨B,0,none⟩ = some r
 c1 : w.cell? ⟨B,1,none⟩ = some c
 c2 : w.cell? ⟨B,2,none⟩ = some n
 c3 : w.cell? ⟨B,3,none⟩ = some s
theorem M4.lt {w : World} {B : Nat} {r c n s : Value} (h : M4 w B r c n s) : B < w.heap.size:=by
 by_cases hb : B < w.heap.size
 ·exact hb
 ·have:=h.c0
  simp [World.cell?,Array.getElem?_eq_none (Nat.le_of_not_lt hb)] at this
theorem M4.bl {w w' : World} {B : Nat} {r c n s : Value} (h : M4 w B r c n s) (k : Bl w w') : M4 w' B r c n s :=
 ⟨(k.cell B 0 h.lt).trans h.c0,(k.cell B 1 h.lt).trans h.c1,(k.cell B 2 h.lt).trans h.c2,(k.cell B 3 h.lt).trans h.c3⟩
theorem M4.new (w : World) (r c n s : Value) (t : TypeId) : M4 (w.alloc (.cells #[r,c,n,s] t)) w.heap.size r c n s :=
 ⟨by simp [go_sem],by simp [go_sem],by simp [go_sem],by simp [go_sem]⟩
theorem shapeOf_any (r c n : Int) (s : Value) (w : World) : Calls Try.prog 68 #[.agg #[.int .i64 r,.int .i64 c,.int .i64 n,s]] w fun e w' => e = .returned (.agg #[.int .i64 r,.int .i64 c,.int .i64 n]) ∧ Kept w w':=by
 go_enter Try.func68,Try.ntmps68
 go_wp2
 exact bodyPost_ret (v:=.agg #[.int .i64 r,.int .i64 c,.int .i64 n]) (by simp [results,Try.results68,go_sem]) rfl ⟨rfl,((Kept.refl w).alloc _ _).alloc _ _⟩
/-- The error of rows,columns,width. -/
def ckR (r c : Int) : Int:=if Int.tdiv 4096 c < r then 2 else 0
def ckS (r c n : Int) : Int:=if ¬ (n = 64 ∨ n = 32) then 3 else if min r c < 1 then 4 else ckR r c
theorem val_0 (n : Int) : val 0 n = decide (n = 64 ∨ n = 32):=by unfold val; simp
theorem checkRoom_any (r c n : Int) (hc : 1 ≤ c) (w : World) : Calls Try.prog 80 #[.agg #[.int .i64 r,.int .i64 c,.int .i64 n]] w fun e w' => e = .returned (.int .i64 (ckR r c)) ∧ Kept w w':=by
 have h0 : ¬ c = 0:=by omega
 have hq : 0 ≤ Int.tdiv 4096 c ∧ Int.tdiv 4096 c ≤ 4096:=⟨Int.tdiv_nonneg (by omega) (by omega),by
  rw [Int.tdiv_eq_ediv_of_nonneg (by omega)]
  exact Int.ediv_le_self _ (by omega)⟩
 have hw : IntKind.i64.wrap (Int.tdiv 4096 c) = Int.tdiv 4096 c:=by rw [wrap_i64]; omega
 go_enter Try.func80,Try.ntmps80
 go_wp2
 go_region
 all_goals go_wp2
 all_goals
  go_ret
  refine ⟨ret_int ?_,by first | exact ((Kept.refl w).alloc _ _).drew | exact (Kept.refl w).alloc _ _⟩
  unfold ckR
  generalize Int.tdiv 4096 c = q at *
  (repeat' split) <;> omega
theorem checkShape_any (r c n : Int) (w : World) : Calls Try.prog 67 #[.agg #[.int .i64 r,.int .i64 c,.int .i64 n]] w fun e w' => e = .returned (.int .i64 (ckS r c n)) ∧ Kept w w':=by
 by_cases hn : n = 64 ∨ n = 32
 ·have KV : Hid (∀ u,Calls Try.prog 69 #[.int .i64 0,.int .i64 n] u fun e w' => e = .returned (.bool true) ∧ u = w'):=fun u => by
   have:=valid_any 0 n u
   rw [val_0,decide_eq_true hn] at this
   exact this
  by_cases hm : min r c < 1
  ·have hk : ckS r c n = 4:=by unfold ckS; rw [if_neg (fun h => h hn),if_pos hm]
   rw [hk]
   clear hk hn
   go_enter Try.func67,Try.ntmps67
   go_wp2_with (first | (go_at_call 69; refine (KV.out _).mono ?_; rintro e w1 ⟨rfl,rfl⟩))
   go_ret
   exact ⟨rfl,(Kept.refl w).alloc _ _⟩
  ·have hk : ckS r c n = ckR r c:=by unfold ckS; rw [if_neg (fun h => h hn),if_neg hm]
   rw [hk]
   have KR : Hid (∀ u,Calls Try.prog 80 #[.agg #[.int .i64 r,.int .i64 c,.int .i64 n]] u fun e w' => e = .returned (.int .i64 (ckR r c)) ∧ Kept u w'):=fun u => checkRoom_any r c n (by omega) u
   generalize ckR r c = q at *
   clear hk hn
   go_enter Try.func67,Try.ntmps67
   go_wp2_with (first | (go_at_call 69; refine (KV.out _).mono ?_; rintro e w1 ⟨rfl,rfl⟩) | (go_at_call 80; refine (KR.out _).mono ?_; rintro e w2 ⟨rfl,k2⟩))
   go_ret
   exact ⟨rfl,((Kept.refl w).alloc _ _).trans k2⟩
 ·have KV : Hid (∀ u,Calls Try.prog 69 #[.int .i64 0,.int .i64 n] u fun e w' => e = .returned (.bool false) ∧ u = w'):=fun u => by
   have:=valid_any 0 n u
   rw [val_0,decide_eq_false hn] at this
   exact this
  have hk : ckS r c n = 3:=by unfold ckS; rw [if_pos hn]
  rw [hk]
  clear hk hn
  go_enter Try.func67,Try.ntmps67
  go_wp2_with (first | (go_at_call 69; refine (KV.out _).mono ?_; rintro e w1 ⟨rfl,rfl⟩))
  go_ret
  exact ⟨rfl,(Kept.refl w).alloc _ _⟩
theorem ckS_ok {r c n : Int} (h : ckS r c n = 0) : (n = 64 ∨ n = 32) ∧ 1 ≤ r ∧ 1 ≤ c ∧ r * c ≤ 4096:=by
 unfold ckS ckR at h
 split at h
 ·omega
 ·rename_i hn
  split at h
  ·omega
  ·rename_i hm
   split at h
   ·omega
   ·rename_i hq
    refine ⟨by omega,by omega,by omega,?_⟩
    rw [Int.tdiv_eq_ediv_of_nonneg (by omega)] at hq
    have h1 : r ≤ 4096 / c:=by omega
    exact (Int.le_ediv_iff_mul_le (by omega)).1 h1
theorem le_of_mul {r c : Int} (hr : 1 ≤ r) (hc : 1 ≤ c) : r ≤ r * c ∧ c ≤ r * c:=by
 constructor
 ·have:=Int.mul_le_mul_of_nonneg_left hc (by omega : 0 ≤ r)
  omega
 ·have:=Int.mul_le_mul_of_nonneg_right hr (by omega : 0 ≤ c)
  omega
end Go.Proofs.Ytocjfdiimapojaa

namespace Go.Proofs.Ytocjfdiimapojaa
open Go.ChangeShapes Go.WideShapes Go.ChangeAt Go.RowKit
set_option maxHeartbeats 16000000
set_option maxRecDepth 100000
set_option linter.unusedVariables false
set_option linter.unusedSimpArgs false
/-- The error of a matrix. -/
def ckM (r c n : Int) (L : List Int) : Int:=if ckS r c n ≠ 0 then ckS r c n else if (L.length : Int) ≠ r * c then 4 else if (L.all fun b => val b n) = true then 0 else 6
theorem ckM_shape {r c n : Int} {L : List Int} (h : ckS r c n ≠ 0) : ckM r c n L = ckS r c n:=by unfold ckM; rw [if_pos h]
theorem ckM_len {r c n : Int} {L : List Int} (h : ckS r c n = 0) (hl : (L.length : Int) ≠ r * c) : ckM r c n L = 4:=by unfold ckM; rw [if_neg (fun k => k h),if_pos hl]
theorem ckM_ok {r c n : Int} {L : List Int} (h : ckM r c n L = 0) : ckS r c n = 0 ∧ (L.length : Int) = r * c ∧ ∀ i,i < L.length → val (L.getD i 0) n = true:=by
 unfold ckM at h
 split at h
 ·exact absurd h (by assumption)
 ·rename_i h1
  split at h
  ·omega
  ·rename_i h2
   split at h
   ·rename_i h3
    refine ⟨by omega,by omega,fun i hi => ?_⟩
    rw [List.getD_eq_getElem?_getD,List.getElem?_eq_getElem hi]
    exact List.all_eq_true.1 h3 _ (List.getElem_mem hi)
   ·omega
theorem check_any (r c n : Int) (ao : Option Addr) (cap : Nat) (L : List Int) (w : World) (hS : Sl w (.slice ao L.length cap) L) : Calls Try.prog 61 #[.agg #[.int .i64 r,.int .i64 c,.int .i64 n,.slice ao L.length cap]] w fun e w' => e = .returned (.int .i64 (ckM r c n L)) ∧ Kept w w':=by
 have KS : Hid (∀ u,Calls Try.prog 68 #[.agg #[.int .i64 r,.int .i64 c,.int .i64 n,.slice ao L.length cap]] u fun e w' => e = .returned (.agg #[.int .i64 r,.int .i64 c,.int .i64 n]) ∧ Kept u w'):=fun u => shapeOf_any r c n _ u
 have KC : Hid (∀ u,Calls Try.prog 67 #[.agg #[.int .i64 r,.int .i64 c,.int .i64 n]] u fun e w' => e = .returned (.int .i64 (ckS r c n)) ∧ Kept u w'):=fun u => checkShape_any r c n u
 have hM:=M4.new w (.int .i64 r) (.int .i64 c) (.int .i64 n) (.slice ao L.length cap) 54
 have hK:=(Kept.refl w).alloc #[.int .i64 r,.int .i64 c,.int .i64 n,.slice ao L.length cap] 54
 by_cases h0 : ckS r c n = 0
 ·by_cases hl : (L.length : Int) = r * c
  ·obtain ⟨hn,hr1,hc1,hrc⟩:=ckS_ok h0
   have hlm:=le_of_mul hr1 hc1
   have hne : L ≠ []:=by intro h; subst h; simp at hl; omega
   obtain ⟨ao',cap',e,hcp,hmx,hrd⟩:=hS
   cases e
   obtain ⟨b,off,rfl,hb,hrd⟩:=hrd hne
   have HR : Hid (∀ u,Kept w u → ∀ i,i < L.length → u.cell? ⟨b,off + i,none⟩ = some (.int .i64 (L.getD i 0))):=fun u k i hi => (hrd.kept hb k) i hi
   have hq : ckM r c n L = if (L.all fun b => val b n) = true then 0 else 6:=by unfold ckM; rw [if_neg (fun k => k h0),if_neg (fun k => k hl)]
   have HA : Hid ((∀ i,i < L.length → val (L.getD i 0) n = true) → ckM r c n L = 0):=fun h => by
    rw [hq,if_pos]
    rw [List.all_eq_true]
    intro x hx
    obtain ⟨i,hi,rfl⟩:=List.getElem_of_mem hx
    have:=h i hi
    rwa [List.getD_eq_getElem?_getD,List.getElem?_eq_getElem hi] at this
   have HB : Hid (∀ i,i < L.length → val (L.getD i 0) n = false → ckM r c n L = 6):=fun i hi h => by
    rw [hq,if_neg]
    intro ha
    have:=List.all_eq_true.1 ha _ (List.getElem_mem hi)
    rw [List.getD_eq_getElem?_getD,List.getElem?_eq_getElem hi] at h
    simp at h
    rw [h] at this
    cases this
   have KV : Hid (∀ u i,Calls Try.prog 69 #[.int .i64 (L.getD i 0),.int .i64 n] u fun e w' => e = .returned (.bool (val (L.getD i 0) n)) ∧ u = w'):=fun u i => valid_any _ n u
   have hw : IntKind.i64.wrap (r * c) = (L.length : Int):=by rw [← hl,wrap_i64]; omega
   have KC' : Hid (∀ u,Calls Try.prog 67 #[.agg #[.int .i64 r,.int .i64 c,.int .i64 n]] u fun e w' => e = .returned (.int .i64 0) ∧ Kept u w'):=fun u => by have:=KC.out u; rw [h0] at this; exact this
   have hlen : L.length ≤ 4096:=by omega
   clear h0 hl hn hr1 hc1 hrc hlm hq KC hrd hcp hmx
   generalize ckM r c n L = q at *
   generalize hLl : L.length = l at *
   clear hLl
   go_enter Try.func61,Try.ntmps61
   go_wp2_with (first | (go_at_call 68; refine (KS.out _).mono ?_; rintro e w1 ⟨rfl,k1⟩) | (go_at_call 67; refine (KC'.out _).mono ?_; rintro e w2 ⟨rfl,k2⟩; obtain ⟨c0,c1,c2,c3⟩:=hM.bl (k1.trans k2).bl))
   have HK : Hid (Kept w w2):=hK.trans (k1.trans k2)
   go_loop [24] (fun iv => ∃ k : Nat,k ≤ l ∧ iv = .int .i64 k ∧ Hid (∀ i,i < k → val (L.getD i 0) n = true)) (fun iv => l - (intOf iv).toNat)
   case atStart => exact ⟨0,Nat.zero_le _,rfl,fun i hi => absurd hi (Nat.not_lt_zero _)⟩
   case round =>
    obtain ⟨k,hk,rfl,hall⟩:=hrel
    by_cases hkl : k < l
    ·have q0:=HR.out w2 HK.out k hkl
     have KV2 : ∀ u,Calls Try.prog 69 #[.int .i64 (L.getD k 0),.int .i64 n] u fun e w' => e = .returned (.bool (val (L.getD k 0) n)) ∧ u = w':=fun u => KV.out u k
     have HB2 : Hid (val (L.getD k 0) n = false → q = 6):=HB.out k hkl
     have HA2 : Hid (val (L.getD k 0) n = true → ∀ i,i < k + 1 → val (L.getD i 0) n = true):=fun h i hi => by
      rcases Nat.lt_or_ge i k with h2 | h2
      ·exact hall.out i h2
      ·obtain rfl : i = k:=by omega
       exact h
     have z1 : IntKind.i64.wrap ((k : Int) + 1) = (k : Int) + 1:=by rw [wrap_i64]; omega
     cases hv : val (L.getD k 0) n
     ·rw [hv] at KV2 HB2 HA2
      have KV3 : Hid _:=KV2
      have hq6:=HB2.out rfl
      generalize L.getD k 0 = d at *
      clear HA HB KV hall HA2 HB2 KV2
      go_wp2_with (first | (go_at_call 69; refine (KV3.out _).mono ?_; rintro e w3 ⟨rfl,rfl⟩))
      refine bodyPost_ret (results_tmp rfl _ _ _) rfl ?_
      exact ⟨by first | rfl | (rw [hq6]; rfl),HK.out⟩
     ·rw [hv] at KV2 HA2
      have KV3 : Hid _:=KV2
      have HA3:=HA2.out rfl
      have HA4 : Hid (∀ i,i < k + 1 → val (L.getD i 0) n = true):=HA3
      clear HA3
      generalize L.getD k 0 = d at *
      clear HA HB KV hall HA2 HB2 KV2
      go_wp2_with (first | (go_at_call 69; refine (KV3.out _).mono ?_; rintro e w3 ⟨rfl,rfl⟩))
      go_round
      case rel => exact ⟨k + 1,by omega,by go_num,HA4⟩
      case measure => simp [intOf]; omega
    ·obtain rfl : k = l:=by omega
     have hq0:=HA.out hall.out
     clear HA HB KV hall
     go_wp2
     refine bodyPost_ret (results_tmp rfl _ _ _) rfl ?_
     exact ⟨by first | rfl | (rw [hq0]; rfl),HK.out⟩
  ·rw [ckM_len h0 hl]
   obtain ⟨hn,hr1,hc1,hrc⟩:=ckS_ok h0
   have hlm:=le_of_mul hr1 hc1
   have hw : IntKind.i64.wrap (r * c) = r * c:=by rw [wrap_i64]; omega
   have KC' : Hid (∀ u,Calls Try.prog 67 #[.agg #[.int .i64 r,.int .i64 c,.int .i64 n]] u fun e w' => e = .returned (.int .i64 0) ∧ Kept u w'):=fun u => by have:=KC.out u; rw [h0] at this; exact this
   have hb : ((L.length : Int) != r * c) = true:=by simpa using hl
   generalize L.length = l at *
   clear h0 hn hr1 hc1 hrc hlm KC hS hl
   go_enter Try.func61,Try.ntmps61
   go_wp2_with (first | (go_at_call 68; refine (KS.out _).mono ?_; rintro e w1 ⟨rfl,k1⟩) | (go_at_call 67; refine (KC'.out _).mono ?_; rintro e w2 ⟨rfl,k2⟩; obtain ⟨c0,c1,c2,c3⟩:=hM.bl (k1.trans k2).bl))
   go_ret
   exact ⟨rfl,hK.trans (k1.trans k2)⟩
 ·rw [ckM_shape h0]
  generalize ckS r c n = q at *
  have hq : (q != 0) = true:=by simpa using h0
  clear hS
  go_enter Try.func61,Try.ntmps61
  go_wp2_with (first | (go_at_call 68; refine (KS.out _).mono ?_; rintro e w1 ⟨rfl,k1⟩) | (go_at_call 67; refine (KC.out _).mono ?_; rintro e w2 ⟨rfl,k2⟩))
  go_ret
  exact ⟨rfl,hK.trans (k1.trans k2)⟩
end Go.Proofs.Ytocjfdiimapojaa

namespace Go.Proofs.Ytocjfdiimapojaa
open Go.ChangeShapes Go.WideShapes Go.ChangeAt Go.RowKit
set_option maxHeartbeats 16000000
set_option maxRecDepth 100000
set_option linter.unusedVariables false
set_option linter.unusedSimpArgs false
/-- A matrix. -/
structure Mat where
 r : Int
 c : Int
 n : Int
 L : List Int
/-- A state. -/
structure Sta where
 a : Int
 b : Int
 d : Int
 P : List Mat
 Q : List (List Mat)
 lo : Int
 ra : Int
/-- What is read: a fault with its place,or something and the place behind it. -/
inductive Res (α : Type) where
 | no (e p : Int) : Res α
 | ok (x : α) (q : Nat) : Res α
abbrev Ps (α : Type):=List Int → Nat → Res α
def Res.andTo {α β : Type} (x : Res α) (f : α → Nat → Res β) : Res β:=match x with | .no e p => .no e p | .ok a q => f a q
theorem Res.andTo_no {α β : Type} (e p : Int) (f : α → Nat → Res β) : (Res.no e p : Res α).andTo f = .no e p:=rfl
theorem Res.andTo_ok {α β : Type} (a : α) (q : Nat) (f : α → Nat → Res β) : (Res.ok a q).andTo f = f a q:=rfl
theorem Res.andTo_andTo {α β γ : Type} (x : Res α) (f : α → Nat → Res β) (g : β → Nat → Res γ) : (x.andTo f).andTo g = x.andTo fun a q => (f a q).andTo g:=by cases x <;> rfl
def pbind {α β : Type} (p : Ps α) (f : α → Ps β) : Ps β:=fun B i => (p B i).andTo fun a q => f a B q
def ppure {α : Type} (a : α) : Ps α:=fun _ i => .ok a i
def prep {α : Type} : Nat → Ps α → Ps (List α)
 | 0,_ => ppure []
 | n + 1,p => pbind p fun a => pbind (prep n p) fun l => ppure (a :: l)
/-- The number that stands in the first k bytes from a place on. -/
def un : Nat → List Int → Nat → Int
 | 0,_,_ => 0
 | k + 1,B,i => un k B i + B.getD (i + k) 0 * (256 : Int) ^ k
def numv (k : Nat) (B : List Int) (i : Nat) : Int:=IntKind.i64.wrap (un k B i)
def pnum (k : Nat) (g : Int → Bool) : Ps Int:=fun B i => if i + k ≤ B.length then (if g (numv k B i) = true then .ok (numv k B i) (i + k) else .no 51 i) else .no 50 B.length
def pmk : List Int → Ps Unit
 | [] => ppure ()
 | x :: l => pbind (pnum 1 (fun n => n == x)) fun _ => pmk l
def pel (n : Int) : Ps Int:=pnum (Int.tdiv n 8).toNat (fun b => fin b n)
def pmat : Ps Mat:=pbind (pnum 1 (fun n => val 0 n)) fun n => pbind (pnum 2 (fun r => decide (r > 0))) fun r => pbind (pnum 2 (fun c => ckS r c n == 0)) fun c => pbind (prep (r * c).toNat (pel n)) fun L => ppure ⟨r,c,n,L⟩
def pmats (k : Nat) (m : Int) : Ps (List Mat):=pbind (pnum k (fun n => decide (n ≤ m))) fun n => prep n.toNat pmat
def stepB (n : Int) : Bool:=decide (0 ≤ n ∧ n ≤ 1099511627776)
def anyB (_ : Int) : Bool:=true
def pbody : Ps Sta:=pbind (pmk [112,115,116,1]) fun _ => pbind (pnum 8 stepB) fun a => pbind (pnum 8 stepB) fun b => pbind (pnum 8 stepB) fun d => pbind (pnum 8 anyB) fun lo => pbind (pnum 8 anyB) fun ra => pbind (pmats 2 64) fun P => pbind (pnum 2 (fun n => decide (n ≤ 64))) fun n => pbind (prep n.toNat (pmats 1 4)) fun Q => ppure ⟨a,b,d,P,Q,lo,ra⟩
/-- The sum of bytes,each times its place. -/
def sz : Nat → List Int → Int
 | _,[] => 0
 | i,b :: l => ((i : Int) + 1) * b + sz (i + 1) l
def sumB (l : List Int) : Int:=sz 0 l % 4294967296
def pend : Ps Unit:=fun B i => (pnum 4 anyB B i).andTo fun n q => if n = sumB (B.take i) then (if q = B.length then .ok () q else .no 51 q) else .no 52 i
def pall : Ps Sta:=pbind pbody fun s => pbind pend fun _ => ppure s
def rread (B : List Int) : Res Sta:=if B.length ≤ 16777216 then pall B 0 else .no 2 0
/-- Bytes. -/
def Byt (B : List Int) : Prop:=∀ i,i < B.length → 0 ≤ B.getD i 0 ∧ B.getD i 0 < 256
theorem Byt.at {B : List Int} (h : Byt B) (i : Nat) : 0 ≤ B.getD i 0 ∧ B.getD i 0 < 256:=by
 by_cases hi : i < B.length
 ·exact h i hi
 ·rw [List.getD_eq_getElem?_getD,List.getElem?_eq_none (by omega)]; simp
theorem un_rng (k : Nat) (B : List Int) (i : Nat) (h : Byt B) : 0 ≤ un k B i ∧ un k B i < 256 ^ k:=by
 induction k with
 | zero => simp [un]
 | succ k ih =>
  have hb:=h.at (i + k)
  unfold un
  rw [Int.pow_succ]
  generalize B.getD (i + k) 0 = x at *
  generalize un k B i = u at *
  have hp : (0 : Int) < 256 ^ k:=Int.pow_pos (by decide)
  generalize (256 : Int) ^ k = p at *
  have h1 : 0 ≤ x * p:=Int.mul_nonneg hb.1 (by omega)
  have h2 : x * p ≤ 255 * p:=Int.mul_le_mul_of_nonneg_right (by omega) (by omega)
  omega
theorem or_wrap (x y k : Nat) (h : x < 2 ^ k) (hk : k ≤ 56) (hy : y < 256) : bits .or .i64 (x : Int) (IntKind.i64.wrap ((y * 2 ^ k : Nat) : Int)) = IntKind.i64.wrap ((x + y * 2 ^ k : Nat) : Int):=by
 rw [bits_or,BitVec.toNat_or]
 have hp : 2 ^ k ≤ 2 ^ 56:=Nat.pow_le_pow_right (by decide) hk
 have hz : y * 2 ^ k ≤ 255 * 2 ^ 56:=Nat.mul_le_mul (by omega) hp
 have hp2 : (2 : Nat) ^ 56 = 72057594037927936:=by decide
 rw [hp2] at hp hz
 have h1:=ofInt_toNat (x : Int)
 have h2:=ofInt_toNat (IntKind.i64.wrap ((y * 2 ^ k : Nat) : Int))
 rw [wrap_i64] at h2
 have e1 : (BitVec.ofInt 64 (x : Int)).toNat = x:=by omega
 have e2 : (BitVec.ofInt 64 (IntKind.i64.wrap ((y * 2 ^ k : Nat) : Int))).toNat = y * 2 ^ k:=by
  rw [wrap_i64]
  generalize y * 2 ^ k = z at *
  omega
 rw [e1,e2,Nat.or_comm,Nat.mul_comm,← Nat.two_pow_add_eq_or_of_lt h,Nat.mul_comm (2 ^ k) y,Nat.add_comm]
theorem or_num (k : Nat) (hk : k ≤ 7) (B : List Int) (i : Nat) (h : Byt B) : bits .or .i64 (numv k B i) (IntKind.i64.wrap (B.getD (i + k) 0 * 2 ^ (8 * k))) = numv (k + 1) B i:=by
 have h1:=un_rng k B i h
 have hb:=h.at (i + k)
 have e : ∀ m : Nat,(256 : Int) ^ m = ((2 ^ (8 * m) : Nat) : Int):=fun m => by
  have h8 : ((2 ^ 8 : Nat) : Int) = 256:=by decide
  rw [Nat.pow_mul,Int.natCast_pow,h8]
 have hn : numv k B i = un k B i:=by
  unfold numv
  have : (256 : Int) ^ k ≤ 256 ^ 7:=by
   have:=Nat.pow_le_pow_right (n:=256) (by decide) hk
   have h9:=Int.ofNat_le.2 this
   rw [Int.natCast_pow,Int.natCast_pow] at h9
   exact h9
  have h3 : (256 : Int) ^ 7 = 72057594037927936:=by decide
  rw [wrap_i64]
  omega
 unfold numv at *
 rw [hn]
 show _ = IntKind.i64.wrap (un k B i + B.getD (i + k) 0 * (256 : Int) ^ k)
 rw [e k] at h1 ⊢
 generalize B.getD (i + k) 0 = x at *
 generalize un k B i = u at *
 obtain ⟨X,rfl⟩:=Int.eq_ofNat_of_zero_le hb.1
 obtain ⟨U,rfl⟩:=Int.eq_ofNat_of_zero_le h1.1
 have:=or_wrap U X (8 * k) (Int.ofNat_lt.1 h1.2) (by omega) (by omega)
 rw [Int.natCast_add,Int.natCast_mul] at this
 rw [show (2 : Int) ^ (8 * k) = ((2 ^ (8 * k) : Nat) : Int) from (Int.natCast_pow 2 (8 * k)).symm]
 rw [← Int.natCast_mul] at this ⊢
 exact this
end Go.Proofs.Ytocjfdiimapojaa
