/- exact.Quot of any two valid numbers that are not 0, in both widths, in all three ways: by a cut. exact.Root of any valid number above 0, in both widths, in all three ways. The walks of the document's own Of, cut, Valid, Class, Parts: what each call gives, for every int and every width. The walk of the document's own shifted: two loops. -/
import Derived.Test.YtbffekcjdcihpaaDoorQT7
import Derived.Test.YtbffekcjdcihpaaDoorRT2
import Derived.Test.YtbffekcjdcihpaaDoorPa
namespace Go.Proofs.YtbffekcjdcihpaaDoor
open Go.ChangeShapes Go.WideShapes Go.ChangeAt Go.RowKit
set_option linter.unusedVariables false
set_option linter.unusedSimpArgs false

theorem quotz_all (n : Int) (hn : n = 64 ∨ n = 32) (a b : Nm) (ha : vld a = true) (hb : vld b = true) (ham : a.mag ≠ []) (hbm : b.mag ≠ []) (s : Int) (hs1 : 2 * s ≤ a.exp) (hs2 : s ≤ b.exp) (hs3 : 2 * s ≤ a.exp + (bl (nv a.mag) : Int) - 30 * ((b.mag.length : Int) + 2)) (hs4 : 2 * s ≤ qex a b + b.exp) (hs5 : s < kleast n) : ∃ k Q H F od hf rt, Cutz (cbn n) (2 ^ (kleast n - s).toNat * (nv b.mag * 2 ^ (b.exp - s).toNat)) (nv a.mag * 2 ^ (a.exp - 2 * s).toNat) k Q H F od hf rt ∧ ∀ (way : Int), (way = 0 ∨ way = 1 ∨ way = 2) → ∀ (a1 a2 : Option Addr) (c1 c2 : Nat) (w : World), Tab w → Sl w (.slice a1 a.mag.length c1) a.mag → Sl w (.slice a2 b.mag.length c2) b.mag → Calls Tryd.prog 9 #[.agg #[.bool a.neg, .slice a1 a.mag.length c1, .int .i64 a.exp], .agg #[.bool b.neg, .slice a2 b.mag.length c2, .int .i64 b.exp], .int .i64 n, .int .i64 way] w fun e w' => e = .returned (.tuple #[.int .i64 (pz n (kyz (a.neg != b.neg) (mgz way (a.neg != b.neg) (ifn n) F od hf rt))), .bool (odz way (a.neg != b.neg) (ifn n) F od hf rt), .int .i64 0]) ∧ Kept w w' := by
  obtain ⟨hlen1, hDg1⟩ := vld_dg a.neg a.mag a.exp ha
  obtain ⟨hlen2, hDg2⟩ := vld_dg b.neg b.mag b.exp hb
  have KR1 : ∀ (a1 a2 : Option Addr) (c1 c2 : Nat) (w : World), Sl w (.slice a1 a.mag.length c1) a.mag → Sl w (.slice a2 b.mag.length c2) b.mag → Hid (Calls Tryd.prog 29 #[.int .i64 n, .int .i64 0, .slice (some ⟨w.heap.size + 2, 0, none⟩) 2 2] (((w.alloc (.cells #[.bool a.neg, .slice a1 a.mag.length c1, .int .i64 a.exp] 24)).alloc (.cells #[.bool b.neg, .slice a2 b.mag.length c2, .int .i64 b.exp] 24)).alloc (.cells (pairC a.neg (.slice a1 a.mag.length c1) a.exp b.neg (.slice a2 b.mag.length c2) b.exp) 24)) fun e w' => e = .returned (.tuple #[.agg #[.int .i64 n, .int .i64 (kprec n), .int .i64 (kleast n), .int .i64 (kinf n), .func (.func 69) #[] #[]], .int .i64 0]) ∧ Kept (((w.alloc (.cells #[.bool a.neg, .slice a1 a.mag.length c1, .int .i64 a.exp] 24)).alloc (.cells #[.bool b.neg, .slice a2 b.mag.length c2, .int .i64 b.exp] 24)).alloc (.cells (pairC a.neg (.slice a1 a.mag.length c1) a.exp b.neg (.slice a2 b.mag.length c2) b.exp) 24)) w') := fun a1 a2 c1 c2 w h1 h2 => by
    refine roundingOf_0 n (kprec n) (kleast n) (kinf n) (fun u => kindOf_ok n hn u) _ _ (fun u k => ?_)
    have hK : Kept w (((w.alloc (.cells #[.bool a.neg, .slice a1 a.mag.length c1, .int .i64 a.exp] 24)).alloc (.cells #[.bool b.neg, .slice a2 b.mag.length c2, .int .i64 b.exp] 24)).alloc (.cells (pairC a.neg (.slice a1 a.mag.length c1) a.exp b.neg (.slice a2 b.mag.length c2) b.exp) 24)) := (((Kept.refl w).alloc _ _).alloc _ _).alloc _ _
    have hb' : w.heap.size + 2 < (((w.alloc (.cells #[.bool a.neg, .slice a1 a.mag.length c1, .int .i64 a.exp] 24)).alloc (.cells #[.bool b.neg, .slice a2 b.mag.length c2, .int .i64 b.exp] 24)).alloc (.cells (pairC a.neg (.slice a1 a.mag.length c1) a.exp b.neg (.slice a2 b.mag.length c2) b.exp) 24)).heap.size := by simp
    have := allValid_2 u (w.heap.size + 2) 2 a.neg b.neg a1 a2 a.mag.length c1 b.mag.length c2 a.exp b.exp true true (Nat.lt_of_lt_of_le hb' k.below.size) ((k.below.cell (p := ⟨w.heap.size + 2, 0, none⟩) hb').trans (by simp [go_sem])) ((k.below.cell (p := ⟨w.heap.size + 2, 1, none⟩) hb').trans (by simp [go_sem])) ((k.below.cell (p := ⟨w.heap.size + 2, 2, none⟩) hb').trans (by simp [go_sem])) ((k.below.cell (p := ⟨w.heap.size + 2, 3, none⟩) hb').trans (by simp [go_sem])) ((k.below.cell (p := ⟨w.heap.size + 2, 4, none⟩) hb').trans (by simp [go_sem])) ((k.below.cell (p := ⟨w.heap.size + 2, 5, none⟩) hb').trans (by simp [go_sem])) (fun v kv => ?_) (fun v kv => ?_)
    · exact this
    · have := xvalid_any a hDg1.rg (by omega) (.agg #[.bool a.neg, .slice a1 a.mag.length c1, .int .i64 a.exp]) v ⟨_, rfl, ((h1.kept hK).kept k).kept kv⟩
      rw [ha] at this
      exact this
    · have := xvalid_any b hDg2.rg (by omega) (.agg #[.bool b.neg, .slice a2 b.mag.length c2, .int .i64 b.exp]) v ⟨_, rfl, ((h2.kept hK).kept k).kept kv⟩
      rw [hb] at this
      exact this
  have KR2 : ∀ (a1 a2 : Option Addr) (c1 c2 : Nat) (w : World), Sl w (.slice a1 a.mag.length c1) a.mag → Sl w (.slice a2 b.mag.length c2) b.mag → Hid (Calls Tryd.prog 29 #[.int .i64 n, .int .i64 1, .slice (some ⟨w.heap.size + 2, 0, none⟩) 2 2] (((w.alloc (.cells #[.bool a.neg, .slice a1 a.mag.length c1, .int .i64 a.exp] 24)).alloc (.cells #[.bool b.neg, .slice a2 b.mag.length c2, .int .i64 b.exp] 24)).alloc (.cells (pairC a.neg (.slice a1 a.mag.length c1) a.exp b.neg (.slice a2 b.mag.length c2) b.exp) 24)) fun e w' => e = .returned (.tuple #[.agg #[.int .i64 n, .int .i64 (kprec n), .int .i64 (kleast n), .int .i64 (kinf n), .func (.func 70) #[] #[]], .int .i64 0]) ∧ Kept (((w.alloc (.cells #[.bool a.neg, .slice a1 a.mag.length c1, .int .i64 a.exp] 24)).alloc (.cells #[.bool b.neg, .slice a2 b.mag.length c2, .int .i64 b.exp] 24)).alloc (.cells (pairC a.neg (.slice a1 a.mag.length c1) a.exp b.neg (.slice a2 b.mag.length c2) b.exp) 24)) w') := fun a1 a2 c1 c2 w h1 h2 => by
    refine roundingOf_1 n (kprec n) (kleast n) (kinf n) (fun u => kindOf_ok n hn u) _ _ (fun u k => ?_)
    have hK : Kept w (((w.alloc (.cells #[.bool a.neg, .slice a1 a.mag.length c1, .int .i64 a.exp] 24)).alloc (.cells #[.bool b.neg, .slice a2 b.mag.length c2, .int .i64 b.exp] 24)).alloc (.cells (pairC a.neg (.slice a1 a.mag.length c1) a.exp b.neg (.slice a2 b.mag.length c2) b.exp) 24)) := (((Kept.refl w).alloc _ _).alloc _ _).alloc _ _
    have hb' : w.heap.size + 2 < (((w.alloc (.cells #[.bool a.neg, .slice a1 a.mag.length c1, .int .i64 a.exp] 24)).alloc (.cells #[.bool b.neg, .slice a2 b.mag.length c2, .int .i64 b.exp] 24)).alloc (.cells (pairC a.neg (.slice a1 a.mag.length c1) a.exp b.neg (.slice a2 b.mag.length c2) b.exp) 24)).heap.size := by simp
    have := allValid_2 u (w.heap.size + 2) 2 a.neg b.neg a1 a2 a.mag.length c1 b.mag.length c2 a.exp b.exp true true (Nat.lt_of_lt_of_le hb' k.below.size) ((k.below.cell (p := ⟨w.heap.size + 2, 0, none⟩) hb').trans (by simp [go_sem])) ((k.below.cell (p := ⟨w.heap.size + 2, 1, none⟩) hb').trans (by simp [go_sem])) ((k.below.cell (p := ⟨w.heap.size + 2, 2, none⟩) hb').trans (by simp [go_sem])) ((k.below.cell (p := ⟨w.heap.size + 2, 3, none⟩) hb').trans (by simp [go_sem])) ((k.below.cell (p := ⟨w.heap.size + 2, 4, none⟩) hb').trans (by simp [go_sem])) ((k.below.cell (p := ⟨w.heap.size + 2, 5, none⟩) hb').trans (by simp [go_sem])) (fun v kv => ?_) (fun v kv => ?_)
    · exact this
    · have := xvalid_any a hDg1.rg (by omega) (.agg #[.bool a.neg, .slice a1 a.mag.length c1, .int .i64 a.exp]) v ⟨_, rfl, ((h1.kept hK).kept k).kept kv⟩
      rw [ha] at this
      exact this
    · have := xvalid_any b hDg2.rg (by omega) (.agg #[.bool b.neg, .slice a2 b.mag.length c2, .int .i64 b.exp]) v ⟨_, rfl, ((h2.kept hK).kept k).kept kv⟩
      rw [hb] at this
      exact this
  have KR3 : ∀ (a1 a2 : Option Addr) (c1 c2 : Nat) (w : World), Sl w (.slice a1 a.mag.length c1) a.mag → Sl w (.slice a2 b.mag.length c2) b.mag → Hid (Calls Tryd.prog 29 #[.int .i64 n, .int .i64 2, .slice (some ⟨w.heap.size + 2, 0, none⟩) 2 2] (((w.alloc (.cells #[.bool a.neg, .slice a1 a.mag.length c1, .int .i64 a.exp] 24)).alloc (.cells #[.bool b.neg, .slice a2 b.mag.length c2, .int .i64 b.exp] 24)).alloc (.cells (pairC a.neg (.slice a1 a.mag.length c1) a.exp b.neg (.slice a2 b.mag.length c2) b.exp) 24)) fun e w' => e = .returned (.tuple #[.agg #[.int .i64 n, .int .i64 (kprec n), .int .i64 (kleast n), .int .i64 (kinf n), .func (.func 71) #[] #[]], .int .i64 0]) ∧ Kept (((w.alloc (.cells #[.bool a.neg, .slice a1 a.mag.length c1, .int .i64 a.exp] 24)).alloc (.cells #[.bool b.neg, .slice a2 b.mag.length c2, .int .i64 b.exp] 24)).alloc (.cells (pairC a.neg (.slice a1 a.mag.length c1) a.exp b.neg (.slice a2 b.mag.length c2) b.exp) 24)) w') := fun a1 a2 c1 c2 w h1 h2 => by
    refine roundingOf_2 n (kprec n) (kleast n) (kinf n) (fun u => kindOf_ok n hn u) _ _ (fun u k => ?_)
    have hK : Kept w (((w.alloc (.cells #[.bool a.neg, .slice a1 a.mag.length c1, .int .i64 a.exp] 24)).alloc (.cells #[.bool b.neg, .slice a2 b.mag.length c2, .int .i64 b.exp] 24)).alloc (.cells (pairC a.neg (.slice a1 a.mag.length c1) a.exp b.neg (.slice a2 b.mag.length c2) b.exp) 24)) := (((Kept.refl w).alloc _ _).alloc _ _).alloc _ _
    have hb' : w.heap.size + 2 < (((w.alloc (.cells #[.bool a.neg, .slice a1 a.mag.length c1, .int .i64 a.exp] 24)).alloc (.cells #[.bool b.neg, .slice a2 b.mag.length c2, .int .i64 b.exp] 24)).alloc (.cells (pairC a.neg (.slice a1 a.mag.length c1) a.exp b.neg (.slice a2 b.mag.length c2) b.exp) 24)).heap.size := by simp
    have := allValid_2 u (w.heap.size + 2) 2 a.neg b.neg a1 a2 a.mag.length c1 b.mag.length c2 a.exp b.exp true true (Nat.lt_of_lt_of_le hb' k.below.size) ((k.below.cell (p := ⟨w.heap.size + 2, 0, none⟩) hb').trans (by simp [go_sem])) ((k.below.cell (p := ⟨w.heap.size + 2, 1, none⟩) hb').trans (by simp [go_sem])) ((k.below.cell (p := ⟨w.heap.size + 2, 2, none⟩) hb').trans (by simp [go_sem])) ((k.below.cell (p := ⟨w.heap.size + 2, 3, none⟩) hb').trans (by simp [go_sem])) ((k.below.cell (p := ⟨w.heap.size + 2, 4, none⟩) hb').trans (by simp [go_sem])) ((k.below.cell (p := ⟨w.heap.size + 2, 5, none⟩) hb').trans (by simp [go_sem])) (fun v kv => ?_) (fun v kv => ?_)
    · exact this
    · have := xvalid_any a hDg1.rg (by omega) (.agg #[.bool a.neg, .slice a1 a.mag.length c1, .int .i64 a.exp]) v ⟨_, rfl, ((h1.kept hK).kept k).kept kv⟩
      rw [ha] at this
      exact this
    · have := xvalid_any b hDg2.rg (by omega) (.agg #[.bool b.neg, .slice a2 b.mag.length c2, .int .i64 b.exp]) v ⟨_, rfl, ((h2.kept hK).kept k).kept kv⟩
      rw [hb] at this
      exact this
  have hl2 := List.length_pos_iff.2 hbm
  obtain ⟨sg2, hsg2, KG⟩ : ∃ sg2 : Int, (sg2 == 0) = false ∧ ∀ (a2 : Option Addr) (c2 : Nat) (w : World), Calls Tryd.prog 30 #[.agg #[.bool b.neg, .slice a2 b.mag.length c2, .int .i64 b.exp]] w fun e w' => e = .returned (.int .i64 sg2) ∧ Kept w w' := by
    refine ⟨if b.neg = true then -1 else 1, by split <;> decide, fun a2 c2 w => ?_⟩
    have := signOf_any b.neg a2 b.mag.length c2 b.exp w
    rw [if_neg (by omega)] at this
    exact this
  obtain ⟨p1, p2, p3, p4, p5, p6⟩ := vld_some a.neg a.mag a.exp ham ha
  obtain ⟨q1, q2, q3, q4, q5, q6⟩ := vld_some b.neg b.mag b.exp hbm hb
  have hba := bl_le _ _ (nv_lt a.mag p2)
  have hbb := bl_le _ _ (nv_lt b.mag q2)
  have h0a := nv_ne a ha ham
  have hb0 := nv_ne b hb hbm
  obtain ⟨v1, v2⟩ := quot_val a b ha hb ham hbm s hs1 hs3
  obtain ⟨g1, g2⟩ := qh_bounds a b ha hb ham hbm
  obtain ⟨k1, k2, k3⟩ := kp_toNat n hn
  obtain ⟨c1', c2'⟩ := cbn_pow n hn
  have hexr : -3000000 ≤ qex a b ∧ qex a b ≤ 3000000 := by unfold qex; omega
  obtain ⟨h, hh⟩ : ∃ h, qA a b / qU b = h := ⟨_, rfl⟩
  obtain ⟨B, hB54, hB62, hB1, hB2⟩ : ∃ B, 54 ≤ B ∧ B ≤ 62 ∧ 2 ^ (B - 1) ≤ h ∧ h < 2 ^ B := by
    rw [hh] at g1 g2
    by_cases h60 : h < 2 ^ 60
    · exact ⟨60, by decide, by decide, g1, h60⟩
    · exact ⟨61, by decide, by decide, Nat.not_lt.1 h60, g2⟩
  obtain ⟨un, hun⟩ : ∃ un, max (qex a b + (B : Int) - kprec n) (kleast n) = un := ⟨_, rfl⟩
  obtain ⟨m, hm⟩ : ∃ m : Nat, un - qex a b = (m : Int) + 1 := ⟨(un - qex a b - 1).toNat, by omega⟩
  obtain ⟨k, hk⟩ : ∃ k, k = h / 2 ^ (m + 1) := ⟨_, rfl⟩
  obtain ⟨F, hF⟩ : ∃ F, F = (un - kleast n).toNat * cbn n + k := ⟨_, rfl⟩
  have L : Ldz n h B (qex a b) un m k F := ⟨hun.symm, hm, hk, hF⟩
  obtain ⟨u1, u2, u3⟩ := ld_bounds hn L hB1 hB2 hB54
  have hcp : 0 < cbn n := by rw [c1']; exact Nat.two_pow_pos _
  have hce : cbn n % 2 = 0 := by rcases hn with rfl | rfl <;> rfl
  have hC := cutz_lead (cbn n) (2 ^ (kleast n - s).toNat * (nv b.mag * 2 ^ (b.exp - s).toNat)) (nv a.mag * 2 ^ (a.exp - 2 * s).toNat) (nv b.mag * 2 ^ (qex a b + b.exp - 2 * s).toNat) h (qrs a b) (un - kleast n).toNat m k F hcp hce (Nat.mul_pos (by omega) (Nat.two_pow_pos _)) (by rw [← hh]; exact v1) v2 hk hF u2 (by rcases u3 with h | h; left; omega; right; exact h) (by
    rw [Nat.mul_assoc, ← Nat.pow_add, ← Nat.mul_assoc, ← Nat.pow_add, Nat.mul_left_comm, ← Nat.pow_add]
    congr 2
    omega)
  refine ⟨_, _, _, _, _, _, _, hC, fun way hw a1 a2 c1 c2 w hT h1 h2 => ?_⟩
  have KQ : ∀ u, Kept w u → _ := fun u ku => quotient_any a b ha hb ham hbm a1 a2 c1 c2 u (h1.kept ku) (h2.kept ku)
  rw [hh] at KQ
  rcases hw with rfl | rfl | rfl
  · exact xquot_1 n _ _ _ a.neg b.neg a1 a2 a.mag.length c1 b.mag.length c2 a.exp b.exp _ sg2 _ hsg2 _ _ _ _ w (KR1 a1 a2 c1 c2 w h1 h2) (fun u _ => KG a2 c2 u) KQ (fun u ku => ldround_1 n hn (a.neg != b.neg) h B (qex a b) (qrs a b) un m k F L hB1 hB2 hB54 hB62 hexr.1 hexr.2 _ _ _ rfl rfl rfl u (hT.kept ku))
  · exact xquot_2 n _ _ _ a.neg b.neg a1 a2 a.mag.length c1 b.mag.length c2 a.exp b.exp _ sg2 _ hsg2 _ _ _ _ w (KR2 a1 a2 c1 c2 w h1 h2) (fun u _ => KG a2 c2 u) KQ (fun u ku => ldround_2 n hn (a.neg != b.neg) h B (qex a b) (qrs a b) un m k F L hB1 hB2 hB54 hB62 hexr.1 hexr.2 _ _ _ rfl rfl rfl u (hT.kept ku))
  · exact xquot_3 n _ _ _ a.neg b.neg a1 a2 a.mag.length c1 b.mag.length c2 a.exp b.exp _ sg2 _ hsg2 _ _ _ _ w (KR3 a1 a2 c1 c2 w h1 h2) (fun u _ => KG a2 c2 u) KQ (fun u ku => ldround_3 n hn (a.neg != b.neg) h B (qex a b) (qrs a b) un m k F L hB1 hB2 hB54 hB62 hexr.1 hexr.2 _ _ _ rfl rfl rfl u (hT.kept ku))
end Go.Proofs.YtbffekcjdcihpaaDoor

namespace Go.Proofs.YtbffekcjdcihpaaDoor
open Go.ChangeShapes Go.WideShapes Go.ChangeAt Go.RowKit
set_option linter.unusedVariables false
set_option linter.unusedSimpArgs false

theorem rootz_all (n : Int) (hn : n = 64 ∨ n = 32) (r : Nm) (hv : vld r = true) (hng : r.neg = false) (hne : r.mag ≠ []) : ∃ h l rs un m k F, Rtl r h l rs ∧ Ldz n h 56 (rlast r / 2) un m k F ∧ ∀ (way : Int), (way = 0 ∨ way = 1 ∨ way = 2) → ∀ (ao : Option Addr) (c : Nat) (w : World), Tab w → Sl w (.slice ao r.mag.length c) r.mag → Calls Tryd.prog 13 #[.agg #[.bool false, .slice ao r.mag.length c, .int .i64 r.exp], .int .i64 n, .int .i64 way] w fun e w' => e = .returned (.tuple #[.int .i64 (pz n (kyz false (mgz way false (ifn n) F (decide (k % 2 = 1)) (decide (h / 2 ^ m % 2 = 1)) (rs || h % 2 ^ m != 0)))), .bool (odz way false (ifn n) F (decide (k % 2 = 1)) (decide (h / 2 ^ m % 2 = 1)) (rs || h % 2 ^ m != 0)), .int .i64 0]) ∧ Kept w w' := by
  obtain ⟨hlen, hDg⟩ := vld_dg r.neg r.mag r.exp hv
  have KR1 : ∀ (ao : Option Addr) (c : Nat) (w : World), Sl w (.slice ao r.mag.length c) r.mag → Hid (∀ u, Kept ((w.alloc (.cells #[.bool false, .slice ao r.mag.length c, .int .i64 r.exp] 24)).alloc (.cells #[.bool false, .slice ao r.mag.length c, .int .i64 r.exp] 24)) u → Calls Tryd.prog 29 #[.int .i64 n, .int .i64 0, .slice (some ⟨w.heap.size + 1, 0, none⟩) 1 1] u fun e w' => e = .returned (.tuple #[.agg #[.int .i64 n, .int .i64 (kprec n), .int .i64 (kleast n), .int .i64 (kinf n), .func (.func 69) #[] #[]], .int .i64 0]) ∧ Kept u w') := fun ao c w h u k => by
    refine roundingOf_0 n (kprec n) (kleast n) (kinf n) (fun u => kindOf_ok n hn u) _ u ?_
    have hb : w.heap.size + 1 < ((w.alloc (.cells #[.bool false, .slice ao r.mag.length c, .int .i64 r.exp] 24)).alloc (.cells #[.bool false, .slice ao r.mag.length c, .int .i64 r.exp] 24)).heap.size := by simp
    exact allValid_at (w.heap.size + 1) (Nat.lt_of_lt_of_le hb k.below.size) false r.mag hDg.rg (by omega) ao c r.exp (h.kept ((((Kept.refl w).alloc _ _).alloc _ _).trans k)) ((k.below.cell (p := ⟨w.heap.size + 1, 0, none⟩) hb).trans (by simp [go_sem])) ((k.below.cell (p := ⟨w.heap.size + 1, 1, none⟩) hb).trans (by simp [go_sem])) ((k.below.cell (p := ⟨w.heap.size + 1, 2, none⟩) hb).trans (by simp [go_sem])) true (by rw [← hng]; exact hv)
  have KR2 : ∀ (ao : Option Addr) (c : Nat) (w : World), Sl w (.slice ao r.mag.length c) r.mag → Hid (∀ u, Kept ((w.alloc (.cells #[.bool false, .slice ao r.mag.length c, .int .i64 r.exp] 24)).alloc (.cells #[.bool false, .slice ao r.mag.length c, .int .i64 r.exp] 24)) u → Calls Tryd.prog 29 #[.int .i64 n, .int .i64 1, .slice (some ⟨w.heap.size + 1, 0, none⟩) 1 1] u fun e w' => e = .returned (.tuple #[.agg #[.int .i64 n, .int .i64 (kprec n), .int .i64 (kleast n), .int .i64 (kinf n), .func (.func 70) #[] #[]], .int .i64 0]) ∧ Kept u w') := fun ao c w h u k => by
    refine roundingOf_1 n (kprec n) (kleast n) (kinf n) (fun u => kindOf_ok n hn u) _ u ?_
    have hb : w.heap.size + 1 < ((w.alloc (.cells #[.bool false, .slice ao r.mag.length c, .int .i64 r.exp] 24)).alloc (.cells #[.bool false, .slice ao r.mag.length c, .int .i64 r.exp] 24)).heap.size := by simp
    exact allValid_at (w.heap.size + 1) (Nat.lt_of_lt_of_le hb k.below.size) false r.mag hDg.rg (by omega) ao c r.exp (h.kept ((((Kept.refl w).alloc _ _).alloc _ _).trans k)) ((k.below.cell (p := ⟨w.heap.size + 1, 0, none⟩) hb).trans (by simp [go_sem])) ((k.below.cell (p := ⟨w.heap.size + 1, 1, none⟩) hb).trans (by simp [go_sem])) ((k.below.cell (p := ⟨w.heap.size + 1, 2, none⟩) hb).trans (by simp [go_sem])) true (by rw [← hng]; exact hv)
  have KR3 : ∀ (ao : Option Addr) (c : Nat) (w : World), Sl w (.slice ao r.mag.length c) r.mag → Hid (∀ u, Kept ((w.alloc (.cells #[.bool false, .slice ao r.mag.length c, .int .i64 r.exp] 24)).alloc (.cells #[.bool false, .slice ao r.mag.length c, .int .i64 r.exp] 24)) u → Calls Tryd.prog 29 #[.int .i64 n, .int .i64 2, .slice (some ⟨w.heap.size + 1, 0, none⟩) 1 1] u fun e w' => e = .returned (.tuple #[.agg #[.int .i64 n, .int .i64 (kprec n), .int .i64 (kleast n), .int .i64 (kinf n), .func (.func 71) #[] #[]], .int .i64 0]) ∧ Kept u w') := fun ao c w h u k => by
    refine roundingOf_2 n (kprec n) (kleast n) (kinf n) (fun u => kindOf_ok n hn u) _ u ?_
    have hb : w.heap.size + 1 < ((w.alloc (.cells #[.bool false, .slice ao r.mag.length c, .int .i64 r.exp] 24)).alloc (.cells #[.bool false, .slice ao r.mag.length c, .int .i64 r.exp] 24)).heap.size := by simp
    exact allValid_at (w.heap.size + 1) (Nat.lt_of_lt_of_le hb k.below.size) false r.mag hDg.rg (by omega) ao c r.exp (h.kept ((((Kept.refl w).alloc _ _).alloc _ _).trans k)) ((k.below.cell (p := ⟨w.heap.size + 1, 0, none⟩) hb).trans (by simp [go_sem])) ((k.below.cell (p := ⟨w.heap.size + 1, 1, none⟩) hb).trans (by simp [go_sem])) ((k.below.cell (p := ⟨w.heap.size + 1, 2, none⟩) hb).trans (by simp [go_sem])) true (by rw [← hng]; exact hv)
  obtain ⟨h, l, H⟩ := rtl_of r hv hne
  obtain ⟨p1, p2, p3, p4, p5, p6⟩ := vld_some r.neg r.mag r.exp hne hv
  have hbl := bl_le _ _ (nv_lt r.mag p2)
  have h0 := nv_ne r hv hne
  obtain ⟨b1, b2, b3⟩ := bl_pos (nv r.mag) h0
  obtain ⟨k1, k2, k3⟩ := kp_toNat n hn
  have hxe : -3000000 ≤ rlast r / 2 ∧ rlast r / 2 ≤ 3000000 := by unfold rlast rfst; omega
  obtain ⟨un, hun⟩ : ∃ un, max (rlast r / 2 + ((56 : Nat) : Int) - kprec n) (kleast n) = un := ⟨_, rfl⟩
  obtain ⟨m, hm⟩ : ∃ m : Nat, un - rlast r / 2 = (m : Int) + 1 := ⟨(un - rlast r / 2 - 1).toNat, by omega⟩
  have L : Ldz n h 56 (rlast r / 2) un m (h / 2 ^ (m + 1)) ((un - kleast n).toNat * cbn n + h / 2 ^ (m + 1)) := ⟨hun.symm, hm, rfl, rfl⟩
  refine ⟨h, l, _, un, m, _, _, H, L, fun way hw ao c w hT hS => ?_⟩
  have hr := root_any r hv hne h l _ H
  rw [hng] at hr
  rcases hw with rfl | rfl | rfl
  · exact xroot_1 n _ _ _ ao r.mag.length c r.exp _ _ #[] _ _ _ _ w (KR1 ao c w hS) (fun u k => hr ao c u (hS.kept k)) (fun u ku => ldround_1 n hn false h 56 (rlast r / 2) _ un m _ _ L H.low H.high (by decide) (by decide) hxe.1 hxe.2 _ _ _ rfl rfl rfl u (hT.kept ku))
  · exact xroot_2 n _ _ _ ao r.mag.length c r.exp _ _ #[] _ _ _ _ w (KR2 ao c w hS) (fun u k => hr ao c u (hS.kept k)) (fun u ku => ldround_2 n hn false h 56 (rlast r / 2) _ un m _ _ L H.low H.high (by decide) (by decide) hxe.1 hxe.2 _ _ _ rfl rfl rfl u (hT.kept ku))
  · exact xroot_3 n _ _ _ ao r.mag.length c r.exp _ _ #[] _ _ _ _ w (KR3 ao c w hS) (fun u k => hr ao c u (hS.kept k)) (fun u ku => ldround_3 n hn false h 56 (rlast r / 2) _ un m _ _ L H.low H.high (by decide) (by decide) hxe.1 hxe.2 _ _ _ rfl rfl rfl u (hT.kept ku))
end Go.Proofs.YtbffekcjdcihpaaDoor

namespace Go.Proofs.YtbffekcjdcihpaaDoor
open Go.ChangeShapes Go.WideShapes Go.ChangeAt Go.RowKit

set_option maxHeartbeats 400000 in
theorem of_64 (w : World) : Calls Tryd.prog 38 #[.int .i64 64] w fun e w' => e = .returned (.tuple #[.agg #[.int .i64 64, .int .i64 53, .int .i64 4503599627370496, .int .i64 2047, .int .i64 (-1074), .int .i64 1024, .int .i64 9218868437227405312, .int .i64 (-9223372036854775808), .int .i64 9221120237041090561], .bool true]) ∧ Kept w w' := by
  go_enter Tryd.func38, Tryd.ntmps38
  go_wp2
  exact bodyPost_ret (v := .tuple #[.agg #[.int .i64 64, .int .i64 53, .int .i64 4503599627370496, .int .i64 2047, .int .i64 (-1074), .int .i64 1024, .int .i64 9218868437227405312, .int .i64 (-9223372036854775808), .int .i64 9221120237041090561], .bool true]) (by simp [results, Tryd.results38, go_sem]) rfl ⟨rfl, (Kept.refl _).alloc _ _⟩

set_option maxHeartbeats 400000 in
theorem of_32 (w : World) : Calls Tryd.prog 38 #[.int .i64 32] w fun e w' => e = .returned (.tuple #[.agg #[.int .i64 32, .int .i64 24, .int .i64 8388608, .int .i64 255, .int .i64 (-149), .int .i64 128, .int .i64 2139095040, .int .i64 2147483648, .int .i64 2143289345], .bool true]) ∧ Kept w w' := by
  go_enter Tryd.func38, Tryd.ntmps38
  go_wp2
  exact bodyPost_ret (v := .tuple #[.agg #[.int .i64 32, .int .i64 24, .int .i64 8388608, .int .i64 255, .int .i64 (-149), .int .i64 128, .int .i64 2139095040, .int .i64 2147483648, .int .i64 2143289345], .bool true]) (by simp [results, Tryd.results38, go_sem]) rfl ⟨rfl, (Kept.refl _).alloc _ _⟩

set_option maxHeartbeats 400000 in
theorem of_0 (n : Int) (h1 : (n == 32) = false) (h2 : (n == 64) = false) (w : World) : Calls Tryd.prog 38 #[.int .i64 n] w fun e w' => e = .returned (.tuple #[.agg #[.int .i64 0, .int .i64 0, .int .i64 0, .int .i64 0, .int .i64 0, .int .i64 0, .int .i64 0, .int .i64 0, .int .i64 0], .bool false]) ∧ Kept w w' := by
  go_enter Tryd.func38, Tryd.ntmps38
  go_wp2
  exact bodyPost_ret (v := .tuple #[.agg #[.int .i64 0, .int .i64 0, .int .i64 0, .int .i64 0, .int .i64 0, .int .i64 0, .int .i64 0, .int .i64 0, .int .i64 0], .bool false]) (by simp [results, Tryd.results38, go_sem]) rfl ⟨rfl, (Kept.refl _).alloc _ _⟩

/-! ### One contract a width, for every pattern -/
end Go.Proofs.YtbffekcjdcihpaaDoor

namespace Go.Proofs.YtbffekcjdcihpaaDoor
open Go.ChangeShapes Go.WideShapes Go.ChangeAt Go.RowKit
set_option linter.unusedVariables false

theorem half_pow (o : Int) (k j : Nat) (h : j < k) : o * 2 ^ (k - j) = 2 * (o * 2 ^ (k - (j + 1))) := by
  have e : k - j = (k - (j + 1)) + 1 := by omega
  rw [e, Int.pow_succ]
  have : o * (2 ^ (k - (j + 1)) * 2) = 2 * (o * 2 ^ (k - (j + 1))) := by
    rw [← Int.mul_assoc, Int.mul_comm]
  rw [this]

set_option maxHeartbeats 2000000 in
theorem shifted_64_yes (x e o : Int) (k : Nat) (hx : x = o * 2 ^ k) (hx1 : x ≤ 9223372036854775807) (ho0 : 0 < o) (ho2 : o % 2 = 1) (hk : k < 64) (he1 : -2000 ≤ e) (he2 : e ≤ 2000) (h53 : o < 9007199254740992) (hlow : -1074 ≤ e + (k : Int)) (U : Nat) (V : Int) (hV : o * 2 ^ U = V) (hUb : ∀ i : Nat, i < U → o * 2 ^ i < 4503599627370496 ∧ -1074 < e + (k : Int) - (i : Int)) (hUk : (U : Int) ≤ 4000) (hend : e + (k : Int) - (U : Int) ≤ -1074 ∨ (-1074 < e + (k : Int) - (U : Int) ∧ 4503599627370496 ≤ V)) (w : World) : Calls Tryd.prog 100 #[.agg #[.int .i64 64, .int .i64 53, .int .i64 4503599627370496, .int .i64 2047, .int .i64 (-1074), .int .i64 1024, .int .i64 9218868437227405312, .int .i64 (-9223372036854775808), .int .i64 9221120237041090561], .int .i64 x, .int .i64 e] w fun r w' => r = .returned (.tuple #[.int .i64 V, .int .i64 (e + (k : Int) - (U : Int)), .bool true]) ∧ Kept w w' := by
  have HV : Hid (o * 2 ^ U = V) := hV
  have HU : Hid (∀ i : Nat, i < U → o * 2 ^ i < 4503599627370496 ∧ -1074 < e + (k : Int) - (i : Int)) := hUb
  have hdbl : Hid (∀ i : Nat, o * 2 ^ (i + 1) = o * 2 ^ i + o * 2 ^ i) := by
    show ∀ i : Nat, o * 2 ^ (i + 1) = o * 2 ^ i + o * 2 ^ i
    intro i
    rw [Int.pow_succ, ← Int.mul_assoc]
    omega
  have hpos : Hid (∀ i : Nat, 0 < o * 2 ^ i) := by
    show ∀ i : Nat, 0 < o * 2 ^ i
    exact fun i => Int.mul_pos ho0 (Int.pow_pos (by decide))
  have HE : Hid (e + (k : Int) - (U : Int) ≤ -1074 ∨ (-1074 < e + (k : Int) - (U : Int) ∧ 4503599627370496 ≤ V)) := hend
  clear hV hUb hend
  have hb : ∀ j : Nat, j ≤ k → 0 < o * 2 ^ (k - j) ∧ o * 2 ^ (k - j) ≤ x := by
    intro j hj
    have hp : (0 : Int) < 2 ^ (k - j) := Int.pow_pos (by decide)
    have hq : (1 : Int) ≤ 2 ^ j := by have : (0 : Int) < 2 ^ j := Int.pow_pos (by decide); omega
    have h1 : 0 < o * 2 ^ (k - j) := Int.mul_pos ho0 hp
    refine ⟨h1, ?_⟩
    have e1 : x = o * 2 ^ (k - j) * 2 ^ j := by
      rw [hx, Int.mul_assoc, ← Int.pow_add]
      congr 2
      omega
    rw [e1]
    have := Int.mul_le_mul_of_nonneg_left hq (Int.le_of_lt h1)
    omega
  have HB : Hid (∀ j : Nat, j ≤ k → 0 < o * 2 ^ (k - j) ∧ o * 2 ^ (k - j) ≤ x) := hb
  have HX : Hid (x = o * 2 ^ k) := hx
  clear hb hx
  go_enter Tryd.func100, Tryd.ntmps100
  go_wp2
  go_loop [1, 2] (fun m t => ∃ j : Nat, j ≤ k ∧ m = .int .i64 (o * 2 ^ (k - j)) ∧ t = .int .i64 (e + (j : Int))) (fun _ t => (e + (k : Int) - intOf t).toNat)
  case atStart => exact ⟨0, Nat.zero_le _, by rw [HX.out]; rfl, by simp⟩
  case round =>
    obtain ⟨j, hj, rfl, rfl⟩ := hrel
    have hjb := HB.out j hj
    by_cases hlt : j < k
    · have hA := half_pow o k j hlt
      have hjb' := HB.out (j + 1) hlt
      obtain ⟨M, hM⟩ : ∃ M, M = o * 2 ^ (k - (j + 1)) := ⟨_, rfl⟩
      rw [← hM] at hA hjb'
      rw [hA] at hjb ⊢
      have HM : Hid (M = o * 2 ^ (k - (j + 1))) := hM
      clear hM hA
      have hmod : (2 * M) % 2 = 0 := by omega
      go_wp2
      go_round
      case rel => exact ⟨j + 1, by omega, by rw [← HM.out], by go_num⟩
      case measure => simp [intOf]; omega
    · obtain rfl : j = k := by omega
      rw [Nat.sub_self, Int.pow_zero, Int.mul_one] at hjb ⊢
      have hodd : (o % 2 == 0) = false := by rw [ho2]; rfl
      go_wp2
      go_loop [1, 2] (fun m t => ∃ i : Nat, i ≤ U ∧ m = .int .i64 (o * 2 ^ i) ∧ t = .int .i64 (e + (j : Int) - (i : Int))) (fun _ t => (intOf t - (e + (j : Int) - (U : Int))).toNat)
      case atStart => exact ⟨0, Nat.zero_le _, by simp, by simp⟩
      case round =>
        obtain ⟨i, hi, rfl, rfl⟩ := hrel
        by_cases hlt2 : i < U
        · obtain ⟨g1, g2⟩ := HU.out i hlt2
          have hd := hdbl.out i
          have hp0 := hpos.out i
          obtain ⟨M, hM⟩ : ∃ M, M = o * 2 ^ i := ⟨_, rfl⟩
          rw [← hM] at g1 hd hp0 ⊢
          have HD : Hid (o * 2 ^ (i + 1) = M + M) := hd
          clear hd hM
          go_wp2
          go_round
          case rel => exact ⟨i + 1, by omega, by rw [HD.out], by go_num⟩
          case measure => simp [intOf]; omega
        · obtain rfl : i = U := by omega
          rw [HV.out]
          rcases HE.out with hx1 | ⟨hx1, hx2⟩
          · go_wp2
            go_ret3
            exact ⟨rfl, (Kept.refl _).alloc _ _⟩
          · go_wp2
            go_ret3
            exact ⟨rfl, (Kept.refl _).alloc _ _⟩

set_option maxHeartbeats 2000000 in
theorem shifted_32_yes (x e o : Int) (k : Nat) (hx : x = o * 2 ^ k) (hx1 : x ≤ 9223372036854775807) (ho0 : 0 < o) (ho2 : o % 2 = 1) (hk : k < 64) (he1 : -2000 ≤ e) (he2 : e ≤ 2000) (h53 : o < 16777216) (hlow : -149 ≤ e + (k : Int)) (U : Nat) (V : Int) (hV : o * 2 ^ U = V) (hUb : ∀ i : Nat, i < U → o * 2 ^ i < 8388608 ∧ -149 < e + (k : Int) - (i : Int)) (hUk : (U : Int) ≤ 4000) (hend : e + (k : Int) - (U : Int) ≤ -149 ∨ (-149 < e + (k : Int) - (U : Int) ∧ 8388608 ≤ V)) (w : World) : Calls Tryd.prog 100 #[.agg #[.int .i64 32, .int .i64 24, .int .i64 8388608, .int .i64 255, .int .i64 (-149), .int .i64 128, .int .i64 2139095040, .int .i64 2147483648, .int .i64 2143289345], .int .i64 x, .int .i64 e] w fun r w' => r = .returned (.tuple #[.int .i64 V, .int .i64 (e + (k : Int) - (U : Int)), .bool true]) ∧ Kept w w' := by
  have HV : Hid (o * 2 ^ U = V) := hV
  have HU : Hid (∀ i : Nat, i < U → o * 2 ^ i < 8388608 ∧ -149 < e + (k : Int) - (i : Int)) := hUb
  have hdbl : Hid (∀ i : Nat, o * 2 ^ (i + 1) = o * 2 ^ i + o * 2 ^ i) := by
    show ∀ i : Nat, o * 2 ^ (i + 1) = o * 2 ^ i + o * 2 ^ i
    intro i
    rw [Int.pow_succ, ← Int.mul_assoc]
    omega
  have hpos : Hid (∀ i : Nat, 0 < o * 2 ^ i) := by
    show ∀ i : Nat, 0 < o * 2 ^ i
    exact fun i => Int.mul_pos ho0 (Int.pow_pos (by decide))
  have HE : Hid (e + (k : Int) - (U : Int) ≤ -149 ∨ (-149 < e + (k : Int) - (U : Int) ∧ 8388608 ≤ V)) := hend
  clear hV hUb hend
  have hb : ∀ j : Nat, j ≤ k → 0 < o * 2 ^ (k - j) ∧ o * 2 ^ (k - j) ≤ x := by
    intro j hj
    have hp : (0 : Int) < 2 ^ (k - j) := Int.pow_pos (by decide)
    have hq : (1 : Int) ≤ 2 ^ j := by have : (0 : Int) < 2 ^ j := Int.pow_pos (by decide); omega
    have h1 : 0 < o * 2 ^ (k - j) := Int.mul_pos ho0 hp
    refine ⟨h1, ?_⟩
    have e1 : x = o * 2 ^ (k - j) * 2 ^ j := by
      rw [hx, Int.mul_assoc, ← Int.pow_add]
      congr 2
      omega
    rw [e1]
    have := Int.mul_le_mul_of_nonneg_left hq (Int.le_of_lt h1)
    omega
  have HB : Hid (∀ j : Nat, j ≤ k → 0 < o * 2 ^ (k - j) ∧ o * 2 ^ (k - j) ≤ x) := hb
  have HX : Hid (x = o * 2 ^ k) := hx
  clear hb hx
  go_enter Tryd.func100, Tryd.ntmps100
  go_wp2
  go_loop [1, 2] (fun m t => ∃ j : Nat, j ≤ k ∧ m = .int .i64 (o * 2 ^ (k - j)) ∧ t = .int .i64 (e + (j : Int))) (fun _ t => (e + (k : Int) - intOf t).toNat)
  case atStart => exact ⟨0, Nat.zero_le _, by rw [HX.out]; rfl, by simp⟩
  case round =>
    obtain ⟨j, hj, rfl, rfl⟩ := hrel
    have hjb := HB.out j hj
    by_cases hlt : j < k
    · have hA := half_pow o k j hlt
      have hjb' := HB.out (j + 1) hlt
      obtain ⟨M, hM⟩ : ∃ M, M = o * 2 ^ (k - (j + 1)) := ⟨_, rfl⟩
      rw [← hM] at hA hjb'
      rw [hA] at hjb ⊢
      have HM : Hid (M = o * 2 ^ (k - (j + 1))) := hM
      clear hM hA
      have hmod : (2 * M) % 2 = 0 := by omega
      go_wp2
      go_round
      case rel => exact ⟨j + 1, by omega, by rw [← HM.out], by go_num⟩
      case measure => simp [intOf]; omega
    · obtain rfl : j = k := by omega
      rw [Nat.sub_self, Int.pow_zero, Int.mul_one] at hjb ⊢
      have hodd : (o % 2 == 0) = false := by rw [ho2]; rfl
      go_wp2
      go_loop [1, 2] (fun m t => ∃ i : Nat, i ≤ U ∧ m = .int .i64 (o * 2 ^ i) ∧ t = .int .i64 (e + (j : Int) - (i : Int))) (fun _ t => (intOf t - (e + (j : Int) - (U : Int))).toNat)
      case atStart => exact ⟨0, Nat.zero_le _, by simp, by simp⟩
      case round =>
        obtain ⟨i, hi, rfl, rfl⟩ := hrel
        by_cases hlt2 : i < U
        · obtain ⟨g1, g2⟩ := HU.out i hlt2
          have hd := hdbl.out i
          have hp0 := hpos.out i
          obtain ⟨M, hM⟩ : ∃ M, M = o * 2 ^ i := ⟨_, rfl⟩
          rw [← hM] at g1 hd hp0 ⊢
          have HD : Hid (o * 2 ^ (i + 1) = M + M) := hd
          clear hd hM
          go_wp2
          go_round
          case rel => exact ⟨i + 1, by omega, by rw [HD.out], by go_num⟩
          case measure => simp [intOf]; omega
        · obtain rfl : i = U := by omega
          rw [HV.out]
          rcases HE.out with hx1 | ⟨hx1, hx2⟩
          · go_wp2
            go_ret3
            exact ⟨rfl, (Kept.refl _).alloc _ _⟩
          · go_wp2
            go_ret3
            exact ⟨rfl, (Kept.refl _).alloc _ _⟩

end Go.Proofs.YtbffekcjdcihpaaDoor
