/- The walks of exact's functions over digits: length,top,signOf,areDigits,fit,Valid. The walks of exact's Valid,allValid,fit,digitsOf,trailing. -/
import Derived.Test.YtnniljhdcplkgaaGreatDoorWr03
import Derived.Test.YtnniljhdcplkgaaGreatDoorWr06
namespace Go.Proofs.YtnniljhdcplkgaaGreatDoor
open Go.ChangeShapes Go.WideShapes Go.ChangeAt Go.RowKit
set_option maxHeartbeats 16000000
set_option maxRecDepth 100000
set_option linter.unusedVariables false
theorem bitLen_bl (x : Nat) (h : x < 2 ^ 63) : Lib.bitLen x = bl x:=by
 by_cases h0 : x = 0
 ·subst h0; rfl
 ·have h1:=bl_pos x h0
  have h2:=bl_le x 63 h
  obtain ⟨m,hm⟩ : ∃ m,bl x = m + 1:=⟨bl x - 1,by omega⟩
  rw [hm] at h1 ⊢
  exact bitLen_top m x (by omega) (by simpa using h1.1) h1.2.1
def Cn (L : List Int) : Prop:=Dg L ∧ (L ≠ [] → L.getD (L.length - 1) 0 ≠ 0)
theorem Cn.digs (n : Nat) : Cn (digs n):=⟨dg_digs n,fun h => digs_last n (fun h0 => h (by rw [h0,digs_zero]))⟩
theorem bl_div (v n : Nat) (hd : v / 2 ^ n ≠ 0) : bl v = n + bl (v / 2 ^ n):=by
 have h6:=bl_pos _ hd
 obtain ⟨d,hv⟩ : ∃ d,v / 2 ^ n = d:=⟨_,rfl⟩
 rw [hv] at h6 ⊢
 obtain ⟨m,hm⟩ : ∃ m,bl d = m + 1:=⟨bl d - 1,by have:=h6.2.2; omega⟩
 rw [hm] at h6 ⊢
 rw [Nat.add_sub_cancel] at h6
 rw [← Nat.add_assoc]
 apply bl_eq
 ·rw [Nat.pow_add,Nat.mul_comm]
  exact (Nat.le_div_iff_mul_le (Nat.two_pow_pos _)).1 (by rw [hv]; exact h6.1)
 ·rw [show n + m + 1 = (m + 1) + n by omega,Nat.pow_add]
  exact (Nat.div_lt_iff_lt_mul (Nat.two_pow_pos _)).1 (by rw [hv]; exact h6.2.1)
theorem length_math (L : List Int) (hL : Dg L) (n : Nat) (hn : L.length = n + 1) (hl : L.getD n 0 ≠ 0) : ((n : Int) + 1 - 1) * 30 + ((bl (L.getD n 0).toNat : Nat) : Int) = ((bl (nv L) : Nat) : Int):=by
 have h1:=nv_getD L hL n
 have h2:=nv_lt L hL
 have h4:=hL.getD n
 rw [hn,pow30] at h2
 have h5 : nv L / 2 ^ (30 * n) < 1073741824:=by
  rw [Nat.div_lt_iff_lt_mul (Nat.two_pow_pos _)]; exact h2
 rw [Nat.mod_eq_of_lt h5] at h1
 have h6 : nv L / 2 ^ (30 * n) ≠ 0:=by rw [← h1]; omega
 have h7:=bl_div _ _ h6
 rw [← h1] at h7
 rw [h7]
 clear h1 h2 h5 h6 h7
 omega
theorem length_nil (ao : Option Addr) (cap : Nat) (w : World) : Calls Tryz.prog 112 #[.slice ao 0 cap] w fun e w' => e = .returned (.int .i64 0) ∧ w = w':=by
 go_enter Tryz.func112,Tryz.ntmps112
 go_wp2
 go_ret
 exact ⟨rfl,rfl⟩
theorem length_some (n b off cap : Nat) (hn : n < 100000000) (d : Int) (h0 : 0 ≤ d) (h1 : d < 1073741824) (r : Nat) (hr : ((n : Int) + 1 - 1) * 30 + ((bl d.toNat : Nat) : Int) = (r : Int)) (w : World) (hc : w.cell? ⟨b,off + n,none⟩ = some (.int .i64 d)) : Calls Tryz.prog 112 #[.slice (some ⟨b,off,none⟩) (n + 1) cap] w fun e w' => e = .returned (.int .i64 (r : Int)) ∧ w = w':=by
 have K : Hid (∀ w : World,Calls Tryz.prog 119 #[.int .u64 d] w fun e w' => e = .returned (.int .i64 ((bl d.toNat : Nat) : Int)) ∧ w = w'):=by
  intro w
  have:=len d w h0 (by omega)
  rw [bitLen_bl _ (by omega)] at this
  exact this
 have hb : bl d.toNat ≤ 30:=bl_le _ _ (by omega)
 generalize bl d.toNat = k at *
 have e1 : IntKind.u64.wrap d = d:=by rw [IntKind.wrap_u64]; omega
 go_enter Tryz.func112,Tryz.ntmps112
 go_wp2_with (first | (go_at_call 119; refine (K.out _).mono ?_; rintro e w1 ⟨rfl,rfl⟩))
 go_ret
 rw [← show (n : Int) * 30 + (k : Int) = (r : Int) by omega]
 exact ⟨rfl,rfl⟩
theorem length_any (L : List Int) (hL : Cn L) (hlen : L.length < 100000000) (v : Value) (w : World) (h : Sl w v L) : Calls Tryz.prog 112 #[v] w fun e w' => e = .returned (.int .i64 ((bl (nv L) : Nat) : Int)) ∧ w = w':=by
 obtain ⟨ao,cap,rfl,hc,hm,hr⟩:=h
 by_cases hne : L = []
 ·subst hne; exact length_nil ao cap w
 ·obtain ⟨b,off,rfl,hb,hr⟩:=hr hne
  have hpos:=List.length_pos_iff.2 hne
  obtain ⟨n,hn⟩ : ∃ n,L.length = n + 1:=⟨L.length - 1,by omega⟩
  have hd:=hL.1.getD n
  have hcell:=hr n (by omega)
  have hl:=hL.2 hne
  rw [hn,Nat.add_sub_cancel] at hl
  have hm:=length_math L hL.1 n hn hl
  rw [hn]
  exact length_some n b off cap (by omega) _ hd.1 hd.2 _ hm w hcell
theorem signOf_any (neg : Bool) (ao : Option Addr) (n cap : Nat) (x : Int) (w : World) : Calls Tryz.prog 99 #[.agg #[.bool neg,.slice ao n cap,.int .i64 x]] w fun e w' => e = .returned (.int .i64 (if n = 0 then 0 else if neg = true then -1 else 1)) ∧ Kept w w':=by
 cases neg <;> cases n
 all_goals
  go_enter Tryz.func99,Tryz.ntmps99
  go_wp2
  go_ret
  exact ⟨by simp,(Kept.refl _).alloc _ _⟩
theorem and_high (X : Nat) (h : X < 2 ^ 64) : X &&& (2 ^ 64 - 2 ^ 30) = X / 2 ^ 30 * 2 ^ 30:=by
 apply Nat.eq_of_testBit_eq
 intro j
 have f : (2 ^ 64 - 2 ^ 30 : Nat) = 2 ^ 30 * (2 ^ 34 - 1) + 0:=by decide
 have g : X / 2 ^ 30 * 2 ^ 30 = 2 ^ 30 * (X / 2 ^ 30) + 0:=by omega
 rw [Nat.testBit_and,f,g,Nat.testBit_two_pow_mul_add _ (by decide),Nat.testBit_two_pow_mul_add _ (by decide)]
 by_cases hj : j < 30
 ·simp [hj]
 ·rw [if_neg hj,if_neg hj,Nat.testBit_two_pow_sub_one,Nat.testBit_div_two_pow]
  by_cases hk : j < 64
  ·rw [show j - 30 + 30 = j by omega]; simp; omega
  ·rw [show j - 30 + 30 = j by omega,Nat.testBit_lt_two_pow (i:=j) (x:=X) (Nat.lt_of_lt_of_le h (Nat.pow_le_pow_right (by decide) (by omega)))]
   simp
theorem andNot30 (d : Int) (h1 : -9223372036854775808 ≤ d) (h2 : d ≤ 9223372036854775807) : bits .andNot .i64 d 1073741823 = d / 1073741824 * 1073741824:=by
 have e : (~~~ BitVec.ofInt 64 1073741823 : BitVec 64).toNat = 2 ^ 64 - 2 ^ 30:=by decide
 have h:=ofInt_toNat d
 rw [bits_andNot,BitVec.toNat_and,e,and_high _ (BitVec.isLt _),wrap_i64]
 omega
def Rg (L : List Int) : Prop:=∀ d ∈ L,-9223372036854775808 ≤ d ∧ d ≤ 9223372036854775807
theorem Rg.getD {L : List Int} (h : Rg L) (i : Nat) : -9223372036854775808 ≤ L.getD i 0 ∧ L.getD i 0 ≤ 9223372036854775807:=by
 by_cases hi : i < L.length
 ·rw [List.getD_eq_getElem?_getD,List.getElem?_eq_getElem hi]
  exact h _ (List.getElem_mem hi)
 ·rw [List.getD_eq_getElem?_getD,List.getElem?_eq_none (by omega)]
  simp
theorem Dg.rg {L : List Int} (h : Dg L) : Rg L:=fun d hd => by have:=h d hd; omega
def dgb (L : List Int) : Bool:=L.all fun d => decide (0 ≤ d ∧ d < 1073741824)
theorem dgb_iff (L : List Int) : dgb L = true ↔ Dg L:=by simp [dgb,Dg]
theorem dgb_true (L : List Int) (h : ∀ j,j < L.length → 0 ≤ L.getD j 0 ∧ L.getD j 0 < 1073741824) : dgb L = true:=(dgb_iff L).2 (Dg.of_getD h)
theorem dgb_false (L : List Int) (j : Nat) (hj : j < L.length) (h : ¬ (0 ≤ L.getD j 0 ∧ L.getD j 0 < 1073741824)) : dgb L = false:=by
 cases hb : dgb L
 ·rfl
 ·exact absurd (((dgb_iff L).1 hb).getD j) h
theorem areDigits_some (L : List Int) (hR : Rg L) (b off cap : Nat) (w : World) (hlen : L.length < 100000000) (hr : Reads w b off L) : Calls Tryz.prog 155 #[.slice (some ⟨b,off,none⟩) L.length cap] w fun e w' => e = .returned (.bool (dgb L)) ∧ w = w':=by
 obtain ⟨n,hn⟩ : ∃ n,n = L.length:=⟨_,rfl⟩
 have HN : Hid (n = L.length):=hn
 have HR : Hid (Reads w b off L):=hr
 rw [← hn] at hlen ⊢
 clear hr hn
 go_enter Tryz.func155,Tryz.ntmps155
 go_wp2
 go_loop [6] (fun i => ∃ k : Nat,k ≤ n ∧ i = .int .i64 k ∧ ∀ j,j < k → 0 ≤ L.getD j 0 ∧ L.getD j 0 < 1073741824) (fun i => n - (intOf i).toNat)
 case atStart => exact ⟨0,Nat.zero_le _,rfl,fun j h => by omega⟩
 case round =>
  obtain ⟨k,hk,rfl,hd⟩:=hrel
  have HD : Hid (∀ j,j < k → 0 ≤ L.getD j 0 ∧ L.getD j 0 < 1073741824):=hd
  clear hd
  by_cases hkn : k < n
  ·have hcell:=HR.out k (by rw [← HN.out]; exact hkn)
   have hg:=hR.getD k
   have ha:=andNot30 _ hg.1 hg.2
   obtain ⟨d,hd⟩ : ∃ d,d = L.getD k 0:=⟨_,rfl⟩
   have HE : Hid (d = L.getD k 0):=hd
   rw [← hd] at hcell hg ha
   clear hd
   by_cases hz : 0 ≤ d ∧ d < 1073741824
   ·have hz2 : d / 1073741824 * 1073741824 = 0:=by omega
    rw [hz2] at ha
    go_wp2
    go_round
    case rel =>
     refine ⟨k + 1,by omega,by go_num,fun j hj => ?_⟩
     by_cases hjk : j = k
     ·subst hjk; rw [← HE.out]; exact hz
     ·exact HD.out j (by omega)
    case measure => simp [intOf]; omega
   ·have hz2 : (d / 1073741824 * 1073741824 != 0) = true:=by simp; omega
    go_wp2
    go_ret
    refine ⟨?_,rfl⟩
    rw [dgb_false L k (by rw [← HN.out]; exact hkn) (by rw [← HE.out]; exact hz)]
    rfl
  ·go_wp2
   go_ret
   refine ⟨?_,rfl⟩
   rw [dgb_true L (fun j hj => HD.out j (by have:=HN.out; omega))]
   rfl
end Go.Proofs.YtnniljhdcplkgaaGreatDoor
namespace Go.Proofs.YtnniljhdcplkgaaGreatDoor
open Go.ChangeShapes Go.WideShapes Go.ChangeAt Go.RowKit
set_option maxHeartbeats 16000000
set_option maxRecDepth 100000
set_option linter.unusedVariables false
def vldN (n : Nat) (g : Bool) (d d0 x : Int) : Bool:=decide ((n : Int) ≤ 2000) && g && (d != 0) && (bits .and .i64 d0 1 == 1) && decide (-1048576 ≤ x) && decide (x ≤ 1048576)
theorem valid_some (neg : Bool) (n b off cap : Nat) (hn : n < 100000000) (d d0 x : Int) (g : Bool) (w : World) (hb : b < w.heap.size) (h0 : w.cell? ⟨b,off,none⟩ = some (.int .i64 d0)) (h1 : w.cell? ⟨b,off + n,none⟩ = some (.int .i64 d))
  (K : Hid (∀ w' : World,Kept w w' → Calls Tryz.prog 155 #[.slice (some ⟨b,off,none⟩) (n + 1) cap] w' fun e w'' => e = .returned (.bool g) ∧ w' = w'')) :
  Calls Tryz.prog 134 #[.agg #[.bool neg,.slice (some ⟨b,off,none⟩) (n + 1) cap,.int .i64 x]] w fun e w' => e = .returned (.bool (vldN (n + 1) g d d0 x)) ∧ Kept w w':=by
 have hK:=(Kept.refl w).alloc #[.bool neg,.slice (some ⟨b,off,none⟩) (n + 1) cap,.int .i64 x] 43
 have c0:=(hK.below.cell (p:=⟨b,off,none⟩) hb).trans h0
 have c1:=(hK.below.cell (p:=⟨b,off + n,none⟩) hb).trans h1
 clear h0 h1
 obtain ⟨r,hr⟩ : ∃ r,r = vldN (n + 1) g d d0 x:=⟨_,rfl⟩
 rw [← hr]
 have HR : Hid (r = vldN (n + 1) g d d0 x):=hr
 clear hr
 go_enter Tryz.func134,Tryz.ntmps134
 go_wp2_with (first | (go_at_call 155; refine (K.out _ hK).mono ?_; rintro e w1 ⟨rfl,rfl⟩))
 all_goals
  go_ret
  refine ⟨?_,hK⟩
  rw [HR.out]
  clear HR c0 c1 K hK
  unfold vldN
  simp_all
  try omega
theorem valid_nil (neg : Bool) (ao : Option Addr) (cap : Nat) (x : Int) (w : World) : Calls Tryz.prog 134 #[.agg #[.bool neg,.slice ao 0 cap,.int .i64 x]] w fun e w' => e = .returned (.bool (!neg && x == 0)) ∧ Kept w w':=by
 cases neg
 all_goals
  go_enter Tryz.func134,Tryz.ntmps134
  go_wp2
  go_ret
  exact ⟨by simp,(Kept.refl _).alloc _ _⟩
/-! ### A number as it lies: its sign,its digits,its exponent -/
structure Nm where
 neg : Bool
 mag : List Int
 exp : Int
def vld (x : Nm) : Bool:=if x.mag = [] then (!x.neg && x.exp == 0) else vldN x.mag.length (dgb x.mag) (x.mag.getD (x.mag.length - 1) 0) (x.mag.getD 0 0) x.exp
def NumAt (w : World) (v : Value) (x : Nm) : Prop:=∃ s,v = .agg #[.bool x.neg,s,.int .i64 x.exp] ∧ Sl w s x.mag
theorem NumAt.kept {w w' : World} {v : Value} {x : Nm} (h : NumAt w v x) (k : Kept w w') : NumAt w' v x:=by
 obtain ⟨s,e,hs⟩:=h
 exact ⟨s,e,hs.kept k⟩
theorem xvalid_any (x : Nm) (hR : Rg x.mag) (hlen : x.mag.length < 100000000) (v : Value) (w : World) (h : NumAt w v x) : Calls Tryz.prog 134 #[v] w fun e w' => e = .returned (.bool (vld x)) ∧ Kept w w':=by
 obtain ⟨neg,L,ex⟩:=x
 dsimp only at hR hlen
 obtain ⟨s,rfl,ao,cap,rfl,hc,hm,hr⟩:=h
 dsimp only at hc hr
 unfold vld
 by_cases hne : L = []
 ·subst hne; exact valid_nil neg ao cap ex w
 ·obtain ⟨b,off,rfl,hb,hr⟩:=hr hne
  have hpos:=List.length_pos_iff.2 hne
  simp only [hne,if_false]
  have K : Hid (∀ w' : World,Kept w w' → Calls Tryz.prog 155 #[.slice (some ⟨b,off,none⟩) L.length cap] w' fun e w'' => e = .returned (.bool (dgb L)) ∧ w' = w''):=fun w' k => areDigits_some L hR b off cap w' hlen (hr.kept hb k)
  have h0:=hr 0 hpos
  have h1:=hr (L.length - 1) (by omega)
  obtain ⟨n,hn⟩ : ∃ n,L.length = n + 1:=⟨L.length - 1,by omega⟩
  rw [hn] at K h1 hlen ⊢
  rw [Nat.add_sub_cancel] at h1 ⊢
  exact valid_some neg n b off cap (by omega) _ _ ex _ w hb h0 h1 K
end Go.Proofs.YtnniljhdcplkgaaGreatDoor
