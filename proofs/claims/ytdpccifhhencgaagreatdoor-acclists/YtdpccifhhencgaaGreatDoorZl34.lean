/- What exact's Round, Quot and Root answer in all cases. The laws' told; the document's First, Round, QuotOdd, Root, by its kinds. The program's and the document's Round, Quot, Root are one. What Round, Quot and Root answer, and that the document says so, in all cases. acc's Round and Mean of any sum, and that the document says so. The walks of the document's own Class and Parts. The walks of the laws' own Lent, LentNum, Back. -/
import Derived.Test.YtdpccifhhencgaaGreatDoorZl33
import Derived.Test.YtdpccifhhencgaaGreatDoorZl27
import Derived.Test.YtdpccifhhencgaaGreatDoorZl28
import Derived.Test.YtdpccifhhencgaaGreatDoorZl22
import Derived.Test.YtdpccifhhencgaaGreatDoorZl21
import Derived.Test.YtdpccifhhencgaaGreatDoorZl10
namespace Go.Proofs.YtdpccifhhencgaaGreatDoor
open Go.ChangeShapes Go.WideShapes Go.ChangeAt Go.RowKit
set_option linter.unusedVariables false
set_option linter.unusedSimpArgs false
set_option maxHeartbeats 16000000
set_option maxRecDepth 100000
theorem av1 (a : Nm) (ra : Rg a.mag) (la : a.mag.length < 60000000) (a1 : Option Addr) (c1 : Nat) (w : World) (h1 : Sl w (.slice a1 a.mag.length c1) a.mag) : Hid (∀ u, Kept ((w.alloc (.cells #[.bool a.neg, .slice a1 a.mag.length c1, .int .i64 a.exp] 24)).alloc (.cells #[.bool a.neg, .slice a1 a.mag.length c1, .int .i64 a.exp] 24)) u → Calls Tryz.prog 135 #[.slice (some ⟨w.heap.size + 1, 0, none⟩) 1 1] u fun e w' => e = .returned (.bool (vld a)) ∧ Kept u w') := fun u k => by
 have hK : Kept w ((w.alloc (.cells #[.bool a.neg, .slice a1 a.mag.length c1, .int .i64 a.exp] 24)).alloc (.cells #[.bool a.neg, .slice a1 a.mag.length c1, .int .i64 a.exp] 24)) := ((Kept.refl w).alloc _ _).alloc _ _
 have hb : w.heap.size + 1 < ((w.alloc (.cells #[.bool a.neg, .slice a1 a.mag.length c1, .int .i64 a.exp] 24)).alloc (.cells #[.bool a.neg, .slice a1 a.mag.length c1, .int .i64 a.exp] 24)).heap.size := by simp
 exact (allValid_at (w.heap.size + 1) (Nat.lt_of_lt_of_le hb k.below.size) a.neg a.mag ra (by omega) a1 c1 a.exp (h1.kept (hK.trans k)) ((k.below.cell (p := ⟨w.heap.size + 1, 0, none⟩) hb).trans (by simp [go_sem])) ((k.below.cell (p := ⟨w.heap.size + 1, 1, none⟩) hb).trans (by simp [go_sem])) ((k.below.cell (p := ⟨w.heap.size + 1, 2, none⟩) hb).trans (by simp [go_sem])) (vld a) rfl).out u (Kept.refl _)
theorem fe_ok {n way : Int} {ok : Bool} (h : FE n way ok = 0) : (n = 64 ∨ n = 32) ∧ (way = 0 ∨ way = 1 ∨ way = 2) ∧ ok = true := by
 unfold FE at h
 split at h
 ·rename_i hn
  split at h
  ·exact absurd h (by decide)
  ·split at h
   ·rename_i h2 h3
    exact ⟨hn, by omega, h3⟩
   ·exact absurd h (by decide)
 ·exact absurd h (by decide)
/- Round -/
theorem round_ans (n way : Int) (a : Nm) (ra : Rg a.mag) (la : a.mag.length < 60000000) (a1 : Option Addr) (c1 : Nat) (w : World) (hT : Tab w) (h1 : Sl w (.slice a1 a.mag.length c1) a.mag) (q : Int) (o : Bool) (fe : Int) (hfe : fe = FE n way (vld a)) (hno : fe ≠ 0 → q = 0 ∧ o = false) (hok : fe = 0 → q = rzN n way a ∧ o = oxN n way a) : Calls Tryz.prog 86 #[.agg #[.bool a.neg, .slice a1 a.mag.length c1, .int .i64 a.exp], .int .i64 n, .int .i64 way] w fun e w' => e = .returned (.tuple #[.int .i64 q, .bool o, .int .i64 fe]) ∧ Kept w w' := by
 by_cases h0 : fe = 0
 ·obtain ⟨rfl, rfl⟩ := hok h0
  obtain ⟨hn, hw, hv⟩ := fe_ok (hfe.symm.trans h0)
  rw [h0]
  exact roundz n way hn hw a hv a1 c1 w hT h1
 ·obtain ⟨rfl, rfl⟩ := hno h0
  exact xround_no n way fe (by simpa using h0) a.neg a1 a.mag.length c1 a.exp w (by rw [hfe]; exact roundingOf_no n way (vld a) (by rw [← hfe]; exact h0) _ _ (av1 a ra la a1 c1 w h1))
/- Quot, where it is refused, by 0, and of 0 -/
/- Root, where it is refused, of what is below 0, and of 0 -/
def knd (n : Int) : Value := if n = 64 then .agg #[.int .i64 64, .int .i64 53, .int .i64 4503599627370496, .int .i64 2047, .int .i64 (-1074), .int .i64 1024, .int .i64 9218868437227405312, .int .i64 (-9223372036854775808), .int .i64 9221120237041090561] else .agg #[.int .i64 32, .int .i64 24, .int .i64 8388608, .int .i64 255, .int .i64 (-149), .int .i64 128, .int .i64 2139095040, .int .i64 2147483648, .int .i64 2143289345]
theorem of_knd (n : Int) (hn : n = 64 ∨ n = 32) (w : World) : Calls Tryz.prog 118 #[.int .i64 n] w fun e w' => e = .returned (.tuple #[knd n, .bool true]) ∧ Kept w w' := by
 rcases hn with rfl | rfl
 ·exact of_64 w
 ·exact of_32 w
theorem knd_is (n : Int) (hn : n = 64 ∨ n = 32) : ∃ k0 p k2 k3 k4 k5 k6 k7 k8 : Int, knd n = .agg #[.int .i64 k0, .int .i64 p, .int .i64 k2, .int .i64 k3, .int .i64 k4, .int .i64 k5, .int .i64 k6, .int .i64 k7, .int .i64 k8] := by
 rcases hn with rfl | rfl
 ·exact ⟨_, _, _, _, _, _, _, _, _, rfl⟩
 ·exact ⟨_, _, _, _, _, _, _, _, _, rfl⟩
theorem ref2round (n way : Int) (hn : n = 64 ∨ n = 32) (ng : Bool) (ao : Option Addr) (ln c : Nat) (x b : Int) (od : Bool) (w : World) (KT : Hid (∀ u, Kept w u → Calls Tryz.prog 164 #[knd n, .agg #[.bool ng, .slice ao ln c, .int .i64 x], .int .i64 way] u fun e w' => e = .returned (.tuple #[.int .i64 b, .bool od]) ∧ Kept u w')) : Calls Tryz.prog 133 #[.agg #[.bool ng, .slice ao ln c, .int .i64 x], .int .i64 n, .int .i64 way] w fun e w' => e = .returned (.tuple #[.int .i64 b, .bool od]) ∧ Kept w w' := by
 obtain ⟨k0, p, k2, k3, k4, k5, k6, k7, k8, hk⟩ := knd_is n hn
 have KO : Hid (∀ u, Calls Tryz.prog 118 #[.int .i64 n] u fun e w' => e = .returned (.tuple #[.agg #[.int .i64 k0, .int .i64 p, .int .i64 k2, .int .i64 k3, .int .i64 k4, .int .i64 k5, .int .i64 k6, .int .i64 k7, .int .i64 k8], .bool true]) ∧ Kept u w') := fun u => by
  have := of_knd n hn u
  rw [hk] at this
  exact this
 rw [hk] at KT
 have hK : Kept w (w.alloc (.cells #[.bool ng, .slice ao ln c, .int .i64 x] 24)) := (Kept.refl w).alloc _ _
 go_enter Tryz.func133, Tryz.ntmps133
 go_wp2_with fail
 refine (KO.out _).mono ?_
 rintro e w1 ⟨rfl, hk1⟩
 have hk2 := hk1.alloc #[.int .i64 k0, .int .i64 p, .int .i64 k2, .int .i64 k3, .int .i64 k4, .int .i64 k5, .int .i64 k6, .int .i64 k7, .int .i64 k8] 154
 have hb : w.heap.size < (w.alloc (.cells #[.bool ng, .slice ao ln c, .int .i64 x] 24)).heap.size := by simp
 have q0 := (hk2.below.cell (p := ⟨w.heap.size, 0, none⟩) hb).trans (show _ = some (.bool ng) by simp [go_sem])
 have q1 := (hk2.below.cell (p := ⟨w.heap.size, 1, none⟩) hb).trans (show _ = some (.slice ao ln c) by simp [go_sem])
 have q2 := (hk2.below.cell (p := ⟨w.heap.size, 2, none⟩) hb).trans (show _ = some (.int .i64 x) by simp [go_sem])
 clear hb
 go_wp2_with fail
 refine (KT.out _ (hK.trans hk2)).mono ?_
 rintro e w2 ⟨rfl, hk3⟩
 go_wp2_with fail
 go_ret2
 exact ⟨rfl, hK.trans (hk2.trans hk3)⟩
/- the program's root: its lead, of the fine root -/
def RE (n way : Int) (a : Nm) : Int := if FE n way (vld a) = 0 ∧ a.neg = true then 9 else FE n way (vld a)
theorem round_full (n way : Int) (a : Nm) (ra : Rg a.mag) (la : a.mag.length < 60000000) (f : Int) (hf : f = FE n way (vld a)) : ∃ (q : Int) (o : Bool), (∀ (a1 : Option Addr) (c1 : Nat) (w : World), Tab w → Sl w (.slice a1 a.mag.length c1) a.mag → Calls Tryz.prog 86 #[.agg #[.bool a.neg, .slice a1 a.mag.length c1, .int .i64 a.exp], .int .i64 n, .int .i64 way] w fun e w' => e = .returned (.tuple #[.int .i64 q, .bool o, .int .i64 f]) ∧ Kept w w') ∧ (f ≠ 0 → q = 0 ∧ o = false) ∧ (f = 0 → ∀ (a1 : Option Addr) (c1 : Nat) (w : World), (a1 = none → c1 = 0) → Sl w (.slice a1 a.mag.length c1) a.mag → Calls Tryz.prog 133 #[.agg #[.bool a.neg, .slice a1 a.mag.length c1, .int .i64 a.exp], .int .i64 n, .int .i64 way] w fun e w' => e = .returned (.tuple #[.int .i64 q, .bool o]) ∧ Kept w w') := by
 by_cases h0 : f = 0
 ·obtain ⟨hn, hw, hv⟩ := fe_ok (hf.symm.trans h0)
  refine ⟨rzN n way a, oxN n way a, fun a1 c1 w hT h1 => round_ans n way a ra la a1 c1 w hT h1 _ _ f hf (fun g => absurd h0 g) (fun _ => ⟨rfl, rfl⟩), fun g => absurd h0 g, fun _ a1 c1 w hc h1 => ?_⟩
  refine ref2round n way hn a.neg a1 a.mag.length c1 a.exp _ _ w (fun u k => ?_)
  rcases hn with rfl | rfl
  ·exact rto_64 way hw a hv _ u ⟨a1, c1, rfl, hc, h1.kept k⟩
  ·exact rto_32 way hw a hv _ u ⟨a1, c1, rfl, hc, h1.kept k⟩
 ·exact ⟨0, false, fun a1 c1 w hT h1 => round_ans n way a ra la a1 c1 w hT h1 _ _ f hf (fun _ => ⟨rfl, rfl⟩) (fun g => absurd g h0), fun _ => ⟨rfl, rfl⟩, fun g => absurd g h0⟩
theorem lk_fe (n : Int) (v : Bool) : lkE n v [] = FE n 0 v := by
 unfold lkE FE
 by_cases hn : n = 64 ∨ n = 32
 ·rcases hn with rfl | rfl <;> cases v <;> rfl
 ·rw [if_neg hn, if_pos (by simp [val]; omega)]
theorem rspecial (n : Int) (hn : n = 64 ∨ n = 32) (ng : Bool) (ao : Option Addr) (l cap : Nat) (x : Int) (p m z : Bool) (w : World) :
  Calls Tryz.prog 87 #[accV ng (.slice ao l cap) x p m z, .int .i64 n] w fun e w' => e = .returned (.tuple #[.int .i64 (nfE (ivn n) (nvn n) (gvn n) p m z).1, .bool (nfE (ivn n) (nvn n) (gvn n) p m z).2]) ∧ Kept w w' := by
 obtain ⟨X, hX⟩ : ∃ X, X = w.alloc (.cells #[.bool ng, .slice ao l cap, .int .i64 x, .bool p, .bool m, .bool z] 26) := ⟨_, rfl⟩
 have hK : Kept w X := by rw [hX]; exact (Kept.refl w).alloc _ _
 have HC : Hid (∀ u, Kept X u → _) := acc_cells ng (.slice ao l cap) x p m z hX
 obtain ⟨k0, k1, k2, k3, k4, k5, k6, k7, k8, hk, e6, e8, e7⟩ : ∃ k0 k1 k2 k3 k4 k5 k6 k7 k8 : Int, knd n = .agg #[.int .i64 k0, .int .i64 k1, .int .i64 k2, .int .i64 k3, .int .i64 k4, .int .i64 k5, .int .i64 k6, .int .i64 k7, .int .i64 k8] ∧ k6 = ivn n ∧ k8 = nvn n ∧ IntKind.i64.wrap (k6 + k7) = gvn n := by
  rcases hn with rfl | rfl
  ·exact ⟨_, _, _, _, _, _, _, _, _, rfl, rfl, rfl, by decide +kernel⟩
  ·exact ⟨_, _, _, _, _, _, _, _, _, rfl, rfl, rfl, by decide +kernel⟩
 have KO : Hid (∀ u, Calls Tryz.prog 118 #[.int .i64 n] u fun e w' => e = .returned (.tuple #[.agg #[.int .i64 k0, .int .i64 k1, .int .i64 k2, .int .i64 k3, .int .i64 k4, .int .i64 k5, .int .i64 k6, .int .i64 k7, .int .i64 k8], .bool true]) ∧ Kept u w') := fun u => by
  have := of_knd n hn u
  rw [hk] at this
  exact this
 rw [← e6, ← e8, ← e7]
 clear hk e6 e8 e7 hn
 obtain ⟨R1, hR1⟩ : ∃ R, R = (nfE k6 k8 (IntKind.i64.wrap (k6 + k7)) p m z).1 := ⟨_, rfl⟩
 obtain ⟨R2, hR2⟩ : ∃ R, R = (nfE k6 k8 (IntKind.i64.wrap (k6 + k7)) p m z).2 := ⟨_, rfl⟩
 have HA : Hid (R1 = (nfE k6 k8 (IntKind.i64.wrap (k6 + k7)) p m z).1 ∧ R2 = (nfE k6 k8 (IntKind.i64.wrap (k6 + k7)) p m z).2) := ⟨hR1, hR2⟩
 rw [← hR1, ← hR2]
 clear hR1 hR2
 cases p <;> cases m <;> cases z
 all_goals
  go_enter Tryz.func87, Tryz.ntmps87
  go_wp2_with fail
  rw [← hX]
  refine (KO.out _).mono ?_
  rintro e w1 ⟨rfl, hk1⟩
  obtain ⟨c0, c1, c2, c3, c4, c5⟩ := HC.out _ (hk1.alloc #[.int .i64 k0, .int .i64 k1, .int .i64 k2, .int .i64 k3, .int .i64 k4, .int .i64 k5, .int .i64 k6, .int .i64 k7, .int .i64 k8] 154)
  go_wp2_with fail
  obtain ⟨e1, e2⟩ := HA.out
  exact bodyPost_ret (v := .tuple #[.int .i64 R1, .bool R2]) (by rw [e1, e2]; simp [results, Tryz.results87, go_sem, nfE] <;> (rw [wrap_i64]; unfold wrap64; omega)) rfl ⟨rfl, hK.trans (hk1.alloc _ _)⟩
theorem rnear (n : Int) (ng : Bool) (ao : Option Addr) (l c : Nat) (x q : Int) (o : Bool) (w : World)
  (K : Hid (∀ u, Kept w u → Calls Tryz.prog 133 #[.agg #[.bool ng, .slice ao l c, .int .i64 x], .int .i64 n, .int .i64 0] u fun e w' => e = .returned (.tuple #[.int .i64 q, .bool o]) ∧ Kept u w')) :
  Calls Tryz.prog 88 #[.agg #[.bool ng, .slice ao l c, .int .i64 x], .int .i64 n] w fun e w' => e = .returned (.int .i64 q) ∧ Kept w w' := by
 obtain ⟨X, hX⟩ : ∃ X, X = w.alloc (.cells #[.bool ng, .slice ao l c, .int .i64 x] 24) := ⟨_, rfl⟩
 have hK : Kept w X := by rw [hX]; exact (Kept.refl w).alloc _ _
 go_enter Tryz.func88, Tryz.ntmps88
 go_wp2_with fail
 rw [← hX]
 refine (K.out _ hK).mono ?_
 rintro e w1 ⟨rfl, k1⟩
 go_wp2_with fail
 go_ret
 exact ⟨rfl, hK.trans k1⟩
theorem rround3 (n : Int) (ng : Bool) (ao : Option Addr) (l cap : Nat) (x : Int) (p m z : Bool) (w : World) (bv : Int) (ok : Bool) (q : Int)
  (KS : Hid (∀ u, Calls Tryz.prog 87 #[accV ng (.slice ao l cap) x p m z, .int .i64 n] u fun e w' => e = .returned (.tuple #[.int .i64 bv, .bool ok]) ∧ Kept u w'))
  (KN : Hid (∀ u, Kept w u → Calls Tryz.prog 88 #[.agg #[.bool ng, .slice ao l cap, .int .i64 x], .int .i64 n] u fun e w' => e = .returned (.int .i64 q) ∧ Kept u w')) :
  Calls Tryz.prog 46 #[accV ng (.slice ao l cap) x p m z, .int .i64 n] w fun e w' => e = .returned (.int .i64 (bif ok then bv else q)) ∧ Kept w w' := by
 obtain ⟨X, hX⟩ : ∃ X, X = w.alloc (.cells #[.bool ng, .slice ao l cap, .int .i64 x, .bool p, .bool m, .bool z] 26) := ⟨_, rfl⟩
 have hK : Kept w X := by rw [hX]; exact (Kept.refl w).alloc _ _
 have HC : Hid (∀ u, Kept X u → _) := acc_cells ng (.slice ao l cap) x p m z hX
 cases ok
 all_goals
  go_enter Tryz.func46, Tryz.ntmps46
  go_wp2_with fail
  rw [← hX]
  refine (KS.out _).mono ?_
  rintro e w1 ⟨rfl, k1⟩
  obtain ⟨c0, c1, c2, c3, c4, c5⟩ := HC.out _ k1
  go_wp2_with (first | (go_at_call 88; refine (KN.out _ (hK.trans k1)).mono ?_; rintro e w2 ⟨rfl, k2⟩))
  go_ret
  first
   | exact ⟨rfl, (hK.trans k1).trans k2⟩
   | exact ⟨rfl, hK.trans k1⟩
theorem rclass_any (b n : Int) (hb1 : -9223372036854775808 ≤ b) (hb2 : b ≤ 9223372036854775807) (w : World) : Calls Tryz.prog 72 #[.int .i64 b, .int .i64 n] w fun e w' => e = .returned (.int .i64 (cls b n)) ∧ Kept w w' := by
  by_cases h64 : n = 64
  · subst h64
    go_enter Tryz.func72, Tryz.ntmps72
    go_wp2_with (first | (go_at_call 118; refine (of_64 _).mono ?_; rintro e w1 ⟨rfl, hk1⟩) | (go_at_call 119; refine (cut_64 _ hb1 hb2 _).mono ?_; rintro e w2 ⟨rfl, hk2⟩; have hcl := laid_cell hk2))
    all_goals
      go_ret
      refine ⟨ret_int ?_, (hk1.alloc _ _).trans hk2⟩
      rw [cls_64_eq]
      (repeat' split) <;> omega
  · by_cases h32 : n = 32
    · subst h32
      go_enter Tryz.func72, Tryz.ntmps72
      go_wp2_with (first | (go_at_call 118; refine (of_32 _).mono ?_; rintro e w1 ⟨rfl, hk1⟩) | (go_at_call 119; refine (cut_32 _ _).mono ?_; rintro e w2 ⟨rfl, hk2⟩; have hcl := laid_cell hk2))
      all_goals
        go_ret
        refine ⟨ret_int ?_, (hk1.alloc _ _).trans hk2⟩
        rw [cls_32_eq]
        first
          | (have hf : thr b = false := by simpa using ‹¬thr b = true›
             rw [if_pos (Or.inl hf)])
          | (have ht : thr b = true := by assumption
             simp only [ht, Bool.true_eq_false, false_or]
             (repeat' split) <;> omega)
    · have e1 : (n == 32) = false := by simpa using h32
      have e2 : (n == 64) = false := by simpa using h64
      have hv : Hid (cls b n = 0) := by show cls b n = 0; simp [cls, h64, h32]
      clear h64 h32
      go_enter Tryz.func72, Tryz.ntmps72
      go_wp2_with (first | (go_at_call 118; refine (of_0 _ e1 e2 _).mono ?_; rintro e w1 ⟨rfl, hk1⟩))
      go_ret
      exact ⟨ret_int hv.out.symm, (hk1.alloc _ _)⟩
theorem rparts_no (b n : Int) (hb1 : -9223372036854775808 ≤ b) (hb2 : b ≤ 9223372036854775807) (hn : n = 64 ∨ n = 32) (hc : 3 ≤ cls b n) (w : World) : Calls Tryz.prog 126 #[.int .i64 b, .int .i64 n] w fun e w' => e = .returned (.tuple #[.bool false, .int .i64 0, .int .i64 0, .bool false]) ∧ Kept w w' := by
 rcases hn with rfl | rfl
 ·go_enter Tryz.func126, Tryz.ntmps126
  go_wp2_with (first | (go_at_call 118; refine (of_64 _).mono ?_; rintro e w1 ⟨rfl, hk1⟩) | (go_at_call 72; refine (rclass_any _ _ hb1 hb2 _).mono ?_; rintro e w2 ⟨rfl, hk2⟩))
  exact bodyPost_ret (v := .tuple #[.bool false, .int .i64 0, .int .i64 0, .bool false]) (by simp [results, Tryz.results126, go_sem]) rfl ⟨rfl, (hk1.alloc _ _).trans hk2⟩
 ·go_enter Tryz.func126, Tryz.ntmps126
  go_wp2_with (first | (go_at_call 118; refine (of_32 _).mono ?_; rintro e w1 ⟨rfl, hk1⟩) | (go_at_call 72; refine (rclass_any _ _ hb1 hb2 _).mono ?_; rintro e w2 ⟨rfl, hk2⟩))
  exact bodyPost_ret (v := .tuple #[.bool false, .int .i64 0, .int .i64 0, .bool false]) (by simp [results, Tryz.results126, go_sem]) rfl ⟨rfl, (hk1.alloc _ _).trans hk2⟩
theorem rparts_none (b n : Int) (h1 : (n == 32) = false) (h2 : (n == 64) = false) (w : World) : Calls Tryz.prog 126 #[.int .i64 b, .int .i64 n] w fun e w' => e = .returned (.tuple #[.bool false, .int .i64 0, .int .i64 0, .bool false]) ∧ Kept w w' := by
 go_enter Tryz.func126, Tryz.ntmps126
 go_wp2_with (first | (go_at_call 118; refine (of_0 _ h1 h2 _).mono ?_; rintro e w1 ⟨rfl, hk1⟩))
 exact bodyPost_ret (v := .tuple #[.bool false, .int .i64 0, .int .i64 0, .bool false]) (by simp [results, Tryz.results126, go_sem]) rfl ⟨rfl, (hk1.alloc _ _)⟩
theorem rparts_64_sub (b : Int) (hb1 : -9223372036854775808 ≤ b) (hb2 : b ≤ 9223372036854775807) (hc : cls b 64 < 3) (hl : (fld64 b == 0) = true) (w : World) : Calls Tryz.prog 126 #[.int .i64 b, .int .i64 64] w fun e w' => e = .returned (.tuple #[.bool (sgn b 64), .int .i64 (frc64 b), .int .i64 (-1074), .bool true]) ∧ Kept w w' := by
 go_enter Tryz.func126, Tryz.ntmps126
 go_wp2_with (first | (go_at_call 118; refine (of_64 _).mono ?_; rintro e w1 ⟨rfl, hk1⟩) | (go_at_call 72; refine (rclass_any _ _ hb1 hb2 _).mono ?_; rintro e w2 ⟨rfl, hk2⟩; have hcl := laid_cell hk2) | (go_at_call 119; refine (cut_64 _ hb1 hb2 _).mono ?_; rintro e w3 ⟨rfl, hk3⟩; have hcl3 := laid_cell (hk2.trans hk3)))
 go_quiet (fail)
 go_wp2
 exact bodyPost_ret (v := .tuple #[.bool (sgn b 64), .int .i64 (frc64 b), .int .i64 (-1074), .bool true]) (by simp [results, Tryz.results126, go_sem]) rfl ⟨rfl, (((hk1.alloc _ _).trans hk2).trans hk3).drewN _⟩
theorem rparts_64_nor (b : Int) (hb1 : -9223372036854775808 ≤ b) (hb2 : b ≤ 9223372036854775807) (hf1 : 0 ≤ fld64 b) (hf2 : fld64 b ≤ 4096) (ht1 : 0 ≤ frc64 b) (ht2 : frc64 b ≤ 4503599627370496) (hc : cls b 64 < 3) (hl : (fld64 b == 0) = false) (w : World) : Calls Tryz.prog 126 #[.int .i64 b, .int .i64 64] w fun e w' => e = .returned (.tuple #[.bool (sgn b 64), .int .i64 (4503599627370496 + frc64 b), .int .i64 (fld64 b + -1074 - 1), .bool true]) ∧ Kept w w' := by
 go_enter Tryz.func126, Tryz.ntmps126
 go_wp2_with (first | (go_at_call 118; refine (of_64 _).mono ?_; rintro e w1 ⟨rfl, hk1⟩) | (go_at_call 72; refine (rclass_any _ _ hb1 hb2 _).mono ?_; rintro e w2 ⟨rfl, hk2⟩; have hcl := laid_cell hk2) | (go_at_call 119; refine (cut_64 _ hb1 hb2 _).mono ?_; rintro e w3 ⟨rfl, hk3⟩; have hcl3 := laid_cell (hk2.trans hk3)))
 go_quiet (fail)
 go_wp2
 exact bodyPost_ret (v := .tuple #[.bool (sgn b 64), .int .i64 (4503599627370496 + frc64 b), .int .i64 (fld64 b + -1074 - 1), .bool true]) (by simp [results, Tryz.results126, go_sem]) rfl ⟨rfl, (((hk1.alloc _ _).trans hk2).trans hk3).drewN _⟩
theorem rparts_32_sub (b : Int) (hb1 : -9223372036854775808 ≤ b) (hb2 : b ≤ 9223372036854775807) (hc : cls b 32 < 3) (hl : (fld32 b == 0) = true) (w : World) : Calls Tryz.prog 126 #[.int .i64 b, .int .i64 32] w fun e w' => e = .returned (.tuple #[.bool (sg32 b), .int .i64 (frc32 b), .int .i64 (-149), .bool true]) ∧ Kept w w' := by
 go_enter Tryz.func126, Tryz.ntmps126
 go_wp2_with (first | (go_at_call 118; refine (of_32 _).mono ?_; rintro e w1 ⟨rfl, hk1⟩) | (go_at_call 72; refine (rclass_any _ _ hb1 hb2 _).mono ?_; rintro e w2 ⟨rfl, hk2⟩; have hcl := laid_cell hk2) | (go_at_call 119; refine (cut_32 _ _).mono ?_; rintro e w3 ⟨rfl, hk3⟩; have hcl3 := laid_cell (hk2.trans hk3)))
 go_quiet (fail)
 go_wp2
 exact bodyPost_ret (v := .tuple #[.bool (sg32 b), .int .i64 (frc32 b), .int .i64 (-149), .bool true]) (by simp [results, Tryz.results126, go_sem]) rfl ⟨rfl, (((hk1.alloc _ _).trans hk2).trans hk3).drewN _⟩
theorem rparts_32_nor (b : Int) (hb1 : -9223372036854775808 ≤ b) (hb2 : b ≤ 9223372036854775807) (hf1 : 0 ≤ fld32 b) (hf2 : fld32 b ≤ 4096) (ht1 : 0 ≤ frc32 b) (ht2 : frc32 b ≤ 8388608) (hc : cls b 32 < 3) (hl : (fld32 b == 0) = false) (w : World) : Calls Tryz.prog 126 #[.int .i64 b, .int .i64 32] w fun e w' => e = .returned (.tuple #[.bool (sg32 b), .int .i64 (8388608 + frc32 b), .int .i64 (fld32 b + -149 - 1), .bool true]) ∧ Kept w w' := by
 go_enter Tryz.func126, Tryz.ntmps126
 go_wp2_with (first | (go_at_call 118; refine (of_32 _).mono ?_; rintro e w1 ⟨rfl, hk1⟩) | (go_at_call 72; refine (rclass_any _ _ hb1 hb2 _).mono ?_; rintro e w2 ⟨rfl, hk2⟩; have hcl := laid_cell hk2) | (go_at_call 119; refine (cut_32 _ _).mono ?_; rintro e w3 ⟨rfl, hk3⟩; have hcl3 := laid_cell (hk2.trans hk3)))
 go_quiet (fail)
 go_wp2
 exact bodyPost_ret (v := .tuple #[.bool (sg32 b), .int .i64 (8388608 + frc32 b), .int .i64 (fld32 b + -149 - 1), .bool true]) (by simp [results, Tryz.results126, go_sem]) rfl ⟨rfl, (((hk1.alloc _ _).trans hk2).trans hk3).drewN _⟩
theorem rparts_any (b n : Int) (hb1 : -9223372036854775808 ≤ b) (hb2 : b ≤ 9223372036854775807) (w : World) : Calls Tryz.prog 126 #[.int .i64 b, .int .i64 n] w fun e w' => e = .returned (.tuple #[.bool (pneg b n), .int .i64 (pmag b n), .int .i64 (pexp b n), .bool (fin b n)]) ∧ Kept w w' := by
 by_cases hn : n = 64 ∨ n = 32
 ·by_cases hc : cls b n < 3
  ·have hf : fin b n = true := by simp [fin, hn, hc]
   rcases hn with rfl | rfl
   ·by_cases hl : fld64 b = 0
    ·have hl' : b % 9223372036854775808 < 4503599627370496 := by unfold fld64 at hl; omega
     refine (rparts_64_sub b hb1 hb2 hc (by simpa using hl) w).mono ?_
     rintro e w' ⟨rfl, hk⟩
     exact ⟨ret_parts (by simp [pneg, hf]) (by simp only [pmag, hf, if_true, hl', frc64]; omega) (by simp [pexp, hf, hl']) hf.symm, hk⟩
    ·have hl' : ¬ b % 9223372036854775808 < 4503599627370496 := by unfold fld64 at hl; omega
     refine (rparts_64_nor b hb1 hb2 (by unfold fld64; omega) (by unfold fld64; omega) (by unfold frc64; omega) (by unfold frc64; omega) hc (by simpa using hl) w).mono ?_
     rintro e w' ⟨rfl, hk⟩
     exact ⟨ret_parts (by simp [pneg, hf]) (by simp only [pmag, hf, if_true, hl', if_false, frc64]; omega) (by simp only [pexp, hf, if_true, hl', if_false, fld64]; omega) hf.symm, hk⟩
   ·have hv := cls_valid b (by omega)
    have ht : thr b = true := by simp [thr, hv]
    have e1 : fld32 b = b % 2147483648 / 8388608 := by simp [fld32, ht]
    have e2 : frc32 b = b % 8388608 := by simp [frc32, ht]
    have e3 : sg32 b = pneg b 32 := by simp [sg32, ht, pneg, hf]
    by_cases hl : fld32 b = 0
    ·have hl' : b % 2147483648 < 8388608 := by omega
     refine (rparts_32_sub b hb1 hb2 hc (by simpa using hl) w).mono ?_
     rintro e w' ⟨rfl, hk⟩
     exact ⟨ret_parts e3 (by rw [e2]; simp [pmag, hf, hl']; omega) (by simp [pexp, hf, hl']) hf.symm, hk⟩
    ·have hl' : ¬ b % 2147483648 < 8388608 := by omega
     refine (rparts_32_nor b hb1 hb2 (by omega) (by omega) (by omega) (by omega) hc (by simpa using hl) w).mono ?_
     rintro e w' ⟨rfl, hk⟩
     exact ⟨ret_parts e3 (by rw [e2]; simp [pmag, hf, hl']; omega) (by rw [e1]; simp [pexp, hf, hl']; omega) hf.symm, hk⟩
  ·have hf : fin b n = false := by simp [fin]; omega
   refine (rparts_no b n hb1 hb2 hn (by omega) w).mono ?_
   rintro e w' ⟨rfl, hk⟩
   exact ⟨ret_parts (by simp [pneg, hf]) (by simp [pmag, hf]) (by simp [pexp, hf]) hf.symm, hk⟩
 ·have hf : fin b n = false := by simp [fin]; omega
  refine (rparts_none b n (by rw [beq_eq_false_iff_ne]; omega) (by rw [beq_eq_false_iff_ne]; omega) w).mono ?_
  rintro e w' ⟨rfl, hk⟩
  exact ⟨ret_parts (by simp [pneg, hf]) (by simp [pmag, hf]) (by simp [pexp, hf]) hf.symm, hk⟩
theorem getD_apr (A B : List Int) (k j : Nat) (h : A.length + j = k) : (A ++ B).getD k 0 = B.getD j 0 := by
 rw [List.getD_eq_getElem?_getD, List.getElem?_append_right (by omega), show k - A.length = j by omega, List.getD_eq_getElem?_getD]
theorem lent_any (L : List Int) (hlen : L.length < 10000000) (ao : Option Addr) (c : Nat) (w : World) (h : Sl w (.slice ao L.length c) L) : Calls Tryz.prog 48 #[.slice ao L.length c] w fun e w' => (∃ g cap, e = .returned (.slice (some ⟨g, 0, none⟩) (L.length + 3) cap) ∧ w.heap.size ≤ g ∧ Own w' g cap (L ++ [-71, -72, -73])) ∧ Kept w w' := by
 obtain ⟨v1, w1, hr1, k1, hrow⟩ := app_nil L (by omega) _ w h
 have k2 : Kept w1 (w1.alloc (.cells #[.int .i64 (-71), .int .i64 (-72), .int .i64 (-73)] 3)) := (Kept.refl w1).alloc _ _
 have hR : Rw (w1.alloc (.cells #[.int .i64 (-71), .int .i64 (-72), .int .i64 (-73)] 3)) v1 3 (L.map (Value.int .i64)) := by
  rcases hrow with ⟨rfl, rfl⟩ | ⟨g, cap, rfl, hg, hO⟩
  ·exact .inl ⟨rfl, rfl⟩
  ·exact .inr ⟨g, cap, by rw [List.length_map], own_v.1 (hO.kept k2)⟩
 obtain ⟨g, cap, w2, hr2, hO2, hk2⟩ := app_gen 22 3 li_under (.int .i64 0) 8 int_info (by simp [Value.cells]) (by omega) _ v1 (L.map (Value.int .i64)) [.int .i64 (-71), .int .i64 (-72), .int .i64 (-73)] hR ⟨w1.heap.size, 0, none⟩ 3 3 rfl (fun j u hj => by
  rw [Addr.add_lit, Nat.zero_add]
  rcases j with _ | _ | _ | j
  ·cases hj; simp [go_sem]
  ·cases hj; simp [go_sem]
  ·cases hj; simp [go_sem]
  ·simp at hj) (fun u hu => by simp at hu; rcases hu with rfl | rfl | rfl <;> rfl) (by omega) (by rw [List.length_map]; omega)
 rw [List.length_map] at hr2 hk2
 have hfin : (w.heap.size ≤ g ∧ Own w2 g cap (L ++ [-71, -72, -73])) ∧ Kept w w2 := by
  have hs1 := k1.below.size
  refine ⟨⟨?_, own_v.2 (by simpa using hO2)⟩, ?_⟩
  ·rcases hk2 with ⟨rfl, -⟩ | ⟨e, -⟩
   ·simp; omega
   ·rcases hrow with ⟨-, rfl⟩ | ⟨g', cap', rfl, hg, -⟩
    ·cases e
    ·cases e; exact hg
  ·rcases hk2 with ⟨-, k⟩ | ⟨e, k⟩
   ·exact (k1.trans k2).trans k
   ·rcases hrow with ⟨-, rfl⟩ | ⟨g', cap', rfl, hg, -⟩
    ·cases e
    ·cases e; exact (k1.trans k2).grw hg k
 have H1 : Hid (∀ ty, (Builtin.append_ #[22, 22] ty #[.slice none 0 0, .slice ao L.length c]).run Tryz.prog w = .ok v1 w1) := hr1
 have H2 : Hid (∀ ty, (Builtin.append_ #[22, 22] ty #[v1, .slice (some ⟨w1.heap.size, 0, none⟩) 3 3]).run Tryz.prog (w1.alloc (.cells #[.int .i64 (-71), .int .i64 (-72), .int .i64 (-73)] 3)) = .ok (.slice (some ⟨g, 0, none⟩) (L.length + 3) cap) w2) := hr2
 clear hr1 hr2 hrow hR hO2 hk2 h
 generalize L.length = n at *
 go_enter Tryz.func48, Tryz.ntmps48
 go_wp2_with (first | (at_builtin; refine wpList_append_run rfl _ _ _ rfl _ _ rfl rfl _ _ (H1.out _) ?_) | (at_builtin; refine wpList_append_run rfl _ _ _ rfl _ _ rfl rfl _ _ (H2.out _) ?_))
 go_ret
 exact ⟨⟨_, _, rfl, hfin.1⟩, hfin.2⟩
theorem back_any (L : List Int) (hlen : L.length < 10000000) (v : Value) (g cap : Nat) (w : World) (h : Sl w v L) (ho : Own w g cap (L ++ [-71, -72, -73])) : Calls Tryz.prog 29 #[.slice (some ⟨g, 0, none⟩) (L.length + 3) cap, v] w fun e w' => e = .returned (.bool true) ∧ Grw g w w' := by
 have hcap : L.length + 3 ≤ cap := by obtain ⟨_, _, h1, _⟩ := ho; simpa using h1
 have KS : Hid (Calls Tryz.prog 36 #[.slice (some ⟨g, 0, none⟩) L.length cap, v] w fun e w' => e = .returned (.bool true) ∧ Kept w w') := by
  have := ho.slTake L.length (by simp)
  rw [List.take_left'  rfl] at this
  exact same_true L (by omega) _ _ w this h
 have HO : Hid (∀ u, Kept w u → Own u g cap (L ++ [-71, -72, -73])) := fun u k => ho.kept k
 have HC : Hid (∀ u, Kept w u → u.cell? ⟨g, L.length, none⟩ = some (.int .i64 (-71)) ∧ u.cell? ⟨g, L.length + 1, none⟩ = some (.int .i64 (-72)) ∧ u.cell? ⟨g, L.length + 2, none⟩ = some (.int .i64 (-73))) := fun u k => by
  have hq := ho.kept k
  refine ⟨?_, ?_, ?_⟩
  ·have := hq.cell L.length (by simp)
   rw [getD_apr L _ _ 0 (by omega)] at this
   exact this
  ·have := hq.cell (L.length + 1) (by simp)
   rw [getD_apr L _ _ 1 (by omega)] at this
   exact this
  ·have := hq.cell (L.length + 2) (by simp)
   rw [getD_apr L _ _ 2 (by omega)] at this
   exact this
 have HL : Hid ((L ++ [-71, -72, -73]).length = L.length + 3) := by simp [Hid]
 obtain ⟨ao, cp, rfl, -, -, -⟩ := h
 generalize hM : L ++ [-71, -72, -73] = M at *
 clear hM ho
 generalize L.length = n at *
 go_enter Tryz.func29, Tryz.ntmps29
 go_wp2_with (first | (go_at_call 36; refine KS.out.mono ?_; rintro e w1 ⟨rfl, k1⟩; obtain ⟨q0, q1, q2⟩ := HC.out _ k1))
 go_loopw [7] (fun i wr => ∃ (k : Nat) (M' : List Int), k ≤ n + 3 ∧ i = .int .i64 k ∧ M'.length = n + 3 ∧ Own wr g cap M' ∧ Grw g w wr) (fun i _ => n + 3 - (intOf i).toNat)
 case atStart => exact ⟨0, M, by omega, rfl, HL.out, HO.out _ k1, k1.toGrw g⟩
 case round =>
  obtain ⟨k, M', hk, rfl, hM', hO, hG⟩ := hrel
  have HO2 : Hid (Own wr g cap M') := hO
  by_cases hkn : k < n + 3
  ·have hcell := hO.cell k (by omega)
   have hfree := hO.free k
   clear hO
   go_wp2
   go_roundw
   case rel => exact ⟨k + 1, M'.set k (-9), by omega, by go_num, by rw [List.length_set]; exact hM', HO2.out.set k (-9), hG.setCell _ _⟩
   case measure => simp [intOf]; omega
  ·obtain rfl : k = n + 3 := by omega
   go_wp2
   go_ret
   exact ⟨rfl, hG⟩
end Go.Proofs.YtdpccifhhencgaaGreatDoor
