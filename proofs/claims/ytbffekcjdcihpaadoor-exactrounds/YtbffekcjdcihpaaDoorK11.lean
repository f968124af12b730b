/- The walks of the document's own Valid, Answer, Turned, Scale, Sig. The walks of the document's own Answer, Turned, Scale, Sig. The walk of the laws' own 'is'. What Neg, Sign, Scale tell of any number; and the document's own Scale beside it. -/
import Derived.Test.YtbffekcjdcihpaaDoorPn
namespace Go.Proofs.YtbffekcjdcihpaaDoor
open Go.ChangeShapes Go.WideShapes Go.ChangeAt Go.RowKit
set_option linter.unusedVariables false
set_option linter.unusedSimpArgs false

def natV (n : Nat) (d : Int) (g : Bool) : Bool := decide ((n : Int) ≤ 2000) && (d != 0) && g

set_option maxHeartbeats 1000000 in
set_option maxRecDepth 100000 in
theorem natValid_some (L : List Int) (hR : Rg L) (b off cap : Nat) (w : World) (hlen : L.length < 100000000) (hne : L ≠ []) (hr : Reads w b off L) : Calls Tryd.prog 60 #[.slice (some ⟨b, off, none⟩) L.length cap] w fun e w' => e = .returned (.bool (natV L.length (L.getD (L.length - 1) 0) (dgb L))) ∧ w = w' := by
  have hpos := List.length_pos_iff.2 hne
  have hlast := hr (L.length - 1) (by omega)
  obtain ⟨n, hn⟩ : ∃ n, n + 1 = L.length := ⟨L.length - 1, by omega⟩
  have HN : Hid (n + 1 = L.length) := hn
  have HR : Hid (Reads w b off L) := hr
  rw [← hn] at hlen hlast ⊢
  rw [Nat.add_sub_cancel] at hlast ⊢
  obtain ⟨dl, hdl⟩ : ∃ d, d = L.getD n 0 := ⟨_, rfl⟩
  rw [← hdl] at hlast ⊢
  have HD0 : Hid (dl = L.getD n 0) := hdl
  clear hr hn hpos hdl
  by_cases hbig : 2000 < n + 1
  · have e1 : natV (n + 1) dl (dgb L) = false := by unfold natV; rw [decide_eq_false (by omega)]; rfl
    rw [e1]
    go_enter Tryd.func60, Tryd.ntmps60
    go_wp2
    go_ret
    exact ⟨rfl, rfl⟩
  · by_cases hz : dl = 0
    · have e1 : natV (n + 1) dl (dgb L) = false := by unfold natV; simp [hz]
      rw [e1]
      have hz' : (dl == 0) = true := by simp [hz]
      go_enter Tryd.func60, Tryd.ntmps60
      go_wp2
      go_ret
      exact ⟨rfl, rfl⟩
    · have e1 : natV (n + 1) dl (dgb L) = dgb L := by unfold natV; rw [decide_eq_true (by omega)]; simp [hz]
      rw [e1]
      have hz' : (dl == 0) = false := by simp [hz]
      clear e1
      go_enter Tryd.func60, Tryd.ntmps60
      go_wp2
      go_loop [3] (fun i => ∃ k : Nat, k ≤ n + 1 ∧ i = .int .i64 k ∧ ∀ j, j < k → 0 ≤ L.getD j 0 ∧ L.getD j 0 < 1073741824) (fun i => n + 1 - (intOf i).toNat)
      case atStart => exact ⟨0, Nat.zero_le _, rfl, fun j h => by omega⟩
      case round =>
        obtain ⟨k, hk, rfl, hd⟩ := hrel
        have HD : Hid (∀ j, j < k → 0 ≤ L.getD j 0 ∧ L.getD j 0 < 1073741824) := hd
        clear hd
        by_cases hkn : k < n + 1
        · have hcell := HR.out k (by rw [← HN.out]; exact hkn)
          obtain ⟨d, hd⟩ : ∃ d, d = L.getD k 0 := ⟨_, rfl⟩
          have HE : Hid (d = L.getD k 0) := hd
          rw [← hd] at hcell
          clear hd
          by_cases hz2 : 0 ≤ d
          · by_cases hz3 : d < 1073741824
            · go_wp2
              go_round
              case rel =>
                refine ⟨k + 1, by omega, by go_num, fun j hj => ?_⟩
                by_cases hjk : j = k
                · subst hjk; rw [← HE.out]; exact ⟨hz2, hz3⟩
                · exact HD.out j (by omega)
              case measure => simp [intOf]; omega
            · go_wp2
              go_ret
              refine ⟨?_, rfl⟩
              rw [dgb_false L k (by rw [← HN.out]; exact hkn) (by rw [← HE.out]; omega)]
              rfl
          · go_wp2
            go_ret
            refine ⟨?_, rfl⟩
            rw [dgb_false L k (by rw [← HN.out]; exact hkn) (by rw [← HE.out]; omega)]
            rfl
        · go_wp2
          go_ret
          refine ⟨?_, rfl⟩
          rw [dgb_true L (fun j hj => HD.out j (by rw [← HN.out] at hj; omega))]
          rfl

set_option maxHeartbeats 400000 in
theorem rvalid_nil (neg : Bool) (ao : Option Addr) (cap : Nat) (x : Int) (w : World) : Calls Tryd.prog 37 #[.agg #[.bool neg, .slice ao 0 cap, .int .i64 x]] w fun e w' => e = .returned (.bool (!neg && x == 0)) ∧ Kept w w' := by
  cases neg
  all_goals
    go_enter Tryd.func37, Tryd.ntmps37
    go_wp2
    go_ret
    exact ⟨by simp, (Kept.refl _).alloc _ _⟩

set_option maxHeartbeats 1000000 in
set_option maxRecDepth 100000 in
theorem rvalid_no (neg : Bool) (n b off cap : Nat) (hn : n < 100000000) (x : Int) (w : World)
    (K : Hid (∀ w' : World, Kept w w' → Calls Tryd.prog 60 #[.slice (some ⟨b, off, none⟩) (n + 1) cap] w' fun e w'' => e = .returned (.bool false) ∧ w' = w'')) :
    Calls Tryd.prog 37 #[.agg #[.bool neg, .slice (some ⟨b, off, none⟩) (n + 1) cap, .int .i64 x]] w fun e w' => e = .returned (.bool false) ∧ Kept w w' := by
  have hK := (Kept.refl w).alloc #[.bool neg, .slice (some ⟨b, off, none⟩) (n + 1) cap, .int .i64 x] 24
  go_enter Tryd.func37, Tryd.ntmps37
  go_wp2_with (first | (go_at_call 60; refine (K.out _ hK).mono ?_; rintro e w1 ⟨rfl, rfl⟩))
  go_ret
  exact ⟨rfl, hK⟩

set_option maxHeartbeats 1000000 in
set_option maxRecDepth 100000 in
theorem rvalid_yes (neg : Bool) (n b off cap : Nat) (hn : n < 100000000) (d0 x : Int) (h0 : 0 ≤ d0) (w : World) (hb : b < w.heap.size) (hc : w.cell? ⟨b, off, none⟩ = some (.int .i64 d0))
    (K : Hid (∀ w' : World, Kept w w' → Calls Tryd.prog 60 #[.slice (some ⟨b, off, none⟩) (n + 1) cap] w' fun e w'' => e = .returned (.bool true) ∧ w' = w'')) :
    Calls Tryd.prog 37 #[.agg #[.bool neg, .slice (some ⟨b, off, none⟩) (n + 1) cap, .int .i64 x]] w fun e w' => e = .returned (.bool ((d0 % 2 == 1) && decide (-1048576 ≤ x) && decide (x ≤ 1048576))) ∧ Kept w w' := by
  have hK := (Kept.refl w).alloc #[.bool neg, .slice (some ⟨b, off, none⟩) (n + 1) cap, .int .i64 x] 24
  have c0 := (hK.below.cell (p := ⟨b, off, none⟩) hb).trans hc
  clear hc
  obtain ⟨r, hr⟩ : ∃ r, r = ((d0 % 2 == 1) && decide (-1048576 ≤ x) && decide (x ≤ 1048576)) := ⟨_, rfl⟩
  rw [← hr]
  have HR : Hid (r = ((d0 % 2 == 1) && decide (-1048576 ≤ x) && decide (x ≤ 1048576))) := hr
  clear hr
  go_enter Tryd.func37, Tryd.ntmps37
  go_wp2_with (first | (go_at_call 60; refine (K.out _ hK).mono ?_; rintro e w1 ⟨rfl, rfl⟩))
  all_goals
    go_ret
    refine ⟨?_, hK⟩
    rw [HR.out]
    clear HR c0 K hK
    simp_all
    try omega

theorem rvalid_any (x : Nm) (hR : Rg x.mag) (hlen : x.mag.length < 100000000) (v : Value) (w : World) (h : NumAt w v x) : Calls Tryd.prog 37 #[v] w fun e w' => e = .returned (.bool (vld x)) ∧ Kept w w' := by
  obtain ⟨neg, L, ex⟩ := x
  dsimp only at hR hlen
  obtain ⟨s, rfl, ao, cap, rfl, hc, hm, hr⟩ := h
  dsimp only at hc hr
  unfold vld
  by_cases hne : L = []
  · subst hne; exact rvalid_nil neg ao cap ex w
  · obtain ⟨b, off, rfl, hb, hr⟩ := hr hne
    have hpos := List.length_pos_iff.2 hne
    simp only [hne, if_false]
    have K : ∀ w' : World, Kept w w' → Calls Tryd.prog 60 #[.slice (some ⟨b, off, none⟩) L.length cap] w' fun e w'' => e = .returned (.bool (natV L.length (L.getD (L.length - 1) 0) (dgb L))) ∧ w' = w'' := fun w' k => natValid_some L hR b off cap w' hlen hne (hr.kept hb k)
    have h0 := hr 0 hpos
    obtain ⟨n, hn⟩ : ∃ n, L.length = n + 1 := ⟨L.length - 1, by omega⟩
    cases hv : natV L.length (L.getD (L.length - 1) 0) (dgb L) with
    | false =>
      rw [hv] at K
      have : vldN L.length (dgb L) (L.getD (L.length - 1) 0) (L.getD 0 0) ex = false := by
        unfold natV at hv
        unfold vldN
        cases h1 : decide ((L.length : Int) ≤ 2000)
        · simp
        · rw [h1] at hv
          cases h2 : (L.getD (L.length - 1) 0 != 0)
          · simp
          · rw [h2] at hv
            have : dgb L = false := by simpa using hv
            rw [this]
            simp
      rw [this]
      rw [hn] at K ⊢
      exact rvalid_no neg n b off cap (by omega) ex w K
    | true =>
      rw [hv] at K
      unfold natV at hv
      simp only [Bool.and_eq_true] at hv
      obtain ⟨⟨h1, h2⟩, h3⟩ := hv
      have hd := ((dgb_iff L).1 h3).getD 0
      have : vldN L.length (dgb L) (L.getD (L.length - 1) 0) (L.getD 0 0) ex = ((L.getD 0 0 % 2 == 1) && decide (-1048576 ≤ ex) && decide (ex ≤ 1048576)) := by
        unfold vldN
        rw [h1, h2, h3, and_one]
        simp
      rw [this]
      rw [hn] at K ⊢
      exact rvalid_yes neg n b off cap (by omega) _ ex (by omega) w hb h0 K

theorem NumAt.shape {w : World} {v : Value} {x : Nm} (h : NumAt w v x) : ∃ ao c, v = .agg #[.bool x.neg, .slice ao x.mag.length c, .int .i64 x.exp] := by
  obtain ⟨s, rfl, ao, c, rfl, -⟩ := h
  exact ⟨ao, c, rfl⟩

set_option maxHeartbeats 400000 in
theorem rvalid2_any (x : Nm) (hR : Rg x.mag) (hlen : x.mag.length < 100000000) (v : Value) (w : World) (h : NumAt w v x) : Calls Tryd.prog 15 #[v] w fun e w' => e = .returned (.bool (vld x)) ∧ Kept w w' := by
  obtain ⟨ao, c, rfl⟩ := h.shape
  have K : Hid (∀ u, Kept w u → Calls Tryd.prog 37 #[.agg #[.bool x.neg, .slice ao x.mag.length c, .int .i64 x.exp]] u fun e w' => e = .returned (.bool (vld x)) ∧ Kept u w') := fun u k => rvalid_any x hR hlen _ u (h.kept k)
  have hK := (Kept.refl w).alloc #[.bool x.neg, .slice ao x.mag.length c, .int .i64 x.exp] 24
  generalize vld x = b at *
  generalize x.mag.length = n at *
  generalize x.neg = ng at *
  generalize x.exp = ex at *
  clear h
  go_enter Tryd.func15, Tryd.ntmps15
  go_wp2_with (first | (go_at_call 37; refine (K.out _ hK).mono ?_; rintro e w1 ⟨rfl, k1⟩))
  go_ret
  exact ⟨rfl, hK.trans k1⟩
end Go.Proofs.YtbffekcjdcihpaaDoor

namespace Go.Proofs.YtbffekcjdcihpaaDoor
open Go.ChangeShapes Go.WideShapes Go.ChangeAt Go.RowKit
set_option linter.unusedVariables false
set_option linter.unusedSimpArgs false

end Go.Proofs.YtbffekcjdcihpaaDoor

namespace Go.Proofs.YtbffekcjdcihpaaDoor
open Go.ChangeShapes Go.WideShapes Go.ChangeAt Go.RowKit
set_option linter.unusedVariables false
set_option linter.unusedSimpArgs false

end Go.Proofs.YtbffekcjdcihpaaDoor

namespace Go.Proofs.YtbffekcjdcihpaaDoor
open Go.ChangeShapes Go.WideShapes Go.ChangeAt Go.RowKit
set_option linter.unusedVariables false
set_option linter.unusedSimpArgs false

end Go.Proofs.YtbffekcjdcihpaaDoor
