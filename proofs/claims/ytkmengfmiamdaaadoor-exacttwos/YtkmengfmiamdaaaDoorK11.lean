/- The walks of the document's own Valid, Answer, Turned, Scale, Sig. The walks of the document's own Answer, Turned, Scale, Sig. The walk of the laws' own 'is'. What Neg, Sign, Scale tell of any number; and the document's own Scale beside it. -/
import Derived.Test.YtkmengfmiamdaaaDoorK7
namespace Go.Proofs.YtkmengfmiamdaaaDoor
open Go.ChangeShapes Go.WideShapes Go.ChangeAt Go.RowKit
set_option linter.unusedVariables false
set_option linter.unusedSimpArgs false

def natV (n : Nat) (d : Int) (g : Bool) : Bool := decide ((n : Int) ≤ 2000) && (d != 0) && g

set_option maxHeartbeats 1000000 in
set_option maxRecDepth 100000 in
theorem natValid_some (L : List Int) (hR : Rg L) (b off cap : Nat) (w : World) (hlen : L.length < 100000000) (hne : L ≠ []) (hr : Reads w b off L) : Calls Tryd.prog 97 #[.slice (some ⟨b, off, none⟩) L.length cap] w fun e w' => e = .returned (.bool (natV L.length (L.getD (L.length - 1) 0) (dgb L))) ∧ w = w' := by
  have hpos := List.length_pos_iff.2 hne
  have hlast := hr (L.length - 1) (by omega)
  obtain ⟨n, hn⟩ : ∃ n, n + 1 = L.length := ⟨L.length - 1, by omega⟩
  have HN : Hid (n + 1 = L.length) := hn
  have HR : Hid (Reads w b off L) := hr
  rw [← hn] at hlen hlast ⊢
  rw [Nat.add_sub_cancel] at hlast ⊢
  obtain ⟨dl, hdl⟩ : ∃ d, d = L.getD n 0 := ⟨_, rfl⟩
  rw [← hdl] at hlast ⊢
  have HD0 : Hid (dl = L.getD n 0) := hdl
  clear hr hn hpos hdl
  by_cases hbig : 2000 < n + 1
  · have e1 : natV (n + 1) dl (dgb L) = false := by unfold natV; rw [decide_eq_false (by omega)]; rfl
    rw [e1]
    go_enter Tryd.func97, Tryd.ntmps97
    go_wp2
    go_ret
    exact ⟨rfl, rfl⟩
  · by_cases hz : dl = 0
    · have e1 : natV (n + 1) dl (dgb L) = false := by unfold natV; simp [hz]
      rw [e1]
      have hz' : (dl == 0) = true := by simp [hz]
      go_enter Tryd.func97, Tryd.ntmps97
      go_wp2
      go_ret
      exact ⟨rfl, rfl⟩
    · have e1 : natV (n + 1) dl (dgb L) = dgb L := by unfold natV; rw [decide_eq_true (by omega)]; simp [hz]
      rw [e1]
      have hz' : (dl == 0) = false := by simp [hz]
      clear e1
      go_enter Tryd.func97, Tryd.ntmps97
      go_wp2
      go_loop [3] (fun i => ∃ k : Nat, k ≤ n + 1 ∧ i = .int .i64 k ∧ ∀ j, j < k → 0 ≤ L.getD j 0 ∧ L.getD j 0 < 1073741824) (fun i => n + 1 - (intOf i).toNat)
      case atStart => exact ⟨0, Nat.zero_le _, rfl, fun j h => by omega⟩
      case round =>
        obtain ⟨k, hk, rfl, hd⟩ := hrel
        have HD : Hid (∀ j, j < k → 0 ≤ L.getD j 0 ∧ L.getD j 0 < 1073741824) := hd
        clear hd
        by_cases hkn : k < n + 1
        · have hcell := HR.out k (by rw [← HN.out]; exact hkn)
          obtain ⟨d, hd⟩ : ∃ d, d = L.getD k 0 := ⟨_, rfl⟩
          have HE : Hid (d = L.getD k 0) := hd
          rw [← hd] at hcell
          clear hd
          by_cases hz2 : 0 ≤ d
          · by_cases hz3 : d < 1073741824
            · go_wp2
              go_round
              case rel =>
                refine ⟨k + 1, by omega, by go_num, fun j hj => ?_⟩
                by_cases hjk : j = k
                · subst hjk; rw [← HE.out]; exact ⟨hz2, hz3⟩
                · exact HD.out j (by omega)
              case measure => simp [intOf]; omega
            · go_wp2
              go_ret
              refine ⟨?_, rfl⟩
              rw [dgb_false L k (by rw [← HN.out]; exact hkn) (by rw [← HE.out]; omega)]
              rfl
          · go_wp2
            go_ret
            refine ⟨?_, rfl⟩
            rw [dgb_false L k (by rw [← HN.out]; exact hkn) (by rw [← HE.out]; omega)]
            rfl
        · go_wp2
          go_ret
          refine ⟨?_, rfl⟩
          rw [dgb_true L (fun j hj => HD.out j (by rw [← HN.out] at hj; omega))]
          rfl

set_option maxHeartbeats 400000 in
theorem rvalid_nil (neg : Bool) (ao : Option Addr) (cap : Nat) (x : Int) (w : World) : Calls Tryd.prog 67 #[.agg #[.bool neg, .slice ao 0 cap, .int .i64 x]] w fun e w' => e = .returned (.bool (!neg && x == 0)) ∧ Kept w w' := by
  cases neg
  all_goals
    go_enter Tryd.func67, Tryd.ntmps67
    go_wp2
    go_ret
    exact ⟨by simp, (Kept.refl _).alloc _ _⟩

set_option maxHeartbeats 1000000 in
set_option maxRecDepth 100000 in
theorem rvalid_no (neg : Bool) (n b off cap : Nat) (hn : n < 100000000) (x : Int) (w : World)
    (K : Hid (∀ w' : World, Kept w w' → Calls Tryd.prog 97 #[.slice (some ⟨b, off, none⟩) (n + 1) cap] w' fun e w'' => e = .returned (.bool false) ∧ w' = w'')) :
    Calls Tryd.prog 67 #[.agg #[.bool neg, .slice (some ⟨b, off, none⟩) (n + 1) cap, .int .i64 x]] w fun e w' => e = .returned (.bool false) ∧ Kept w w' := by
  have hK := (Kept.refl w).alloc #[.bool neg, .slice (some ⟨b, off, none⟩) (n + 1) cap, .int .i64 x] 31
  go_enter Tryd.func67, Tryd.ntmps67
  go_wp2_with (first | (go_at_call 97; refine (K.out _ hK).mono ?_; rintro e w1 ⟨rfl, rfl⟩))
  go_ret
  exact ⟨rfl, hK⟩

set_option maxHeartbeats 1000000 in
set_option maxRecDepth 100000 in
theorem rvalid_yes (neg : Bool) (n b off cap : Nat) (hn : n < 100000000) (d0 x : Int) (h0 : 0 ≤ d0) (w : World) (hb : b < w.heap.size) (hc : w.cell? ⟨b, off, none⟩ = some (.int .i64 d0))
    (K : Hid (∀ w' : World, Kept w w' → Calls Tryd.prog 97 #[.slice (some ⟨b, off, none⟩) (n + 1) cap] w' fun e w'' => e = .returned (.bool true) ∧ w' = w'')) :
    Calls Tryd.prog 67 #[.agg #[.bool neg, .slice (some ⟨b, off, none⟩) (n + 1) cap, .int .i64 x]] w fun e w' => e = .returned (.bool ((d0 % 2 == 1) && decide (-1048576 ≤ x) && decide (x ≤ 1048576))) ∧ Kept w w' := by
  have hK := (Kept.refl w).alloc #[.bool neg, .slice (some ⟨b, off, none⟩) (n + 1) cap, .int .i64 x] 31
  have c0 := (hK.below.cell (p := ⟨b, off, none⟩) hb).trans hc
  clear hc
  obtain ⟨r, hr⟩ : ∃ r, r = ((d0 % 2 == 1) && decide (-1048576 ≤ x) && decide (x ≤ 1048576)) := ⟨_, rfl⟩
  rw [← hr]
  have HR : Hid (r = ((d0 % 2 == 1) && decide (-1048576 ≤ x) && decide (x ≤ 1048576))) := hr
  clear hr
  go_enter Tryd.func67, Tryd.ntmps67
  go_wp2_with (first | (go_at_call 97; refine (K.out _ hK).mono ?_; rintro e w1 ⟨rfl, rfl⟩))
  all_goals
    go_ret
    refine ⟨?_, hK⟩
    rw [HR.out]
    clear HR c0 K hK
    simp_all
    try omega

theorem rvalid_any (x : Nm) (hR : Rg x.mag) (hlen : x.mag.length < 100000000) (v : Value) (w : World) (h : NumAt w v x) : Calls Tryd.prog 67 #[v] w fun e w' => e = .returned (.bool (vld x)) ∧ Kept w w' := by
  obtain ⟨neg, L, ex⟩ := x
  dsimp only at hR hlen
  obtain ⟨s, rfl, ao, cap, rfl, hc, hm, hr⟩ := h
  dsimp only at hc hr
  unfold vld
  by_cases hne : L = []
  · subst hne; exact rvalid_nil neg ao cap ex w
  · obtain ⟨b, off, rfl, hb, hr⟩ := hr hne
    have hpos := List.length_pos_iff.2 hne
    simp only [hne, if_false]
    have K : ∀ w' : World, Kept w w' → Calls Tryd.prog 97 #[.slice (some ⟨b, off, none⟩) L.length cap] w' fun e w'' => e = .returned (.bool (natV L.length (L.getD (L.length - 1) 0) (dgb L))) ∧ w' = w'' := fun w' k => natValid_some L hR b off cap w' hlen hne (hr.kept hb k)
    have h0 := hr 0 hpos
    obtain ⟨n, hn⟩ : ∃ n, L.length = n + 1 := ⟨L.length - 1, by omega⟩
    cases hv : natV L.length (L.getD (L.length - 1) 0) (dgb L) with
    | false =>
      rw [hv] at K
      have : vldN L.length (dgb L) (L.getD (L.length - 1) 0) (L.getD 0 0) ex = false := by
        unfold natV at hv
        unfold vldN
        cases h1 : decide ((L.length : Int) ≤ 2000)
        · simp
        · rw [h1] at hv
          cases h2 : (L.getD (L.length - 1) 0 != 0)
          · simp
          · rw [h2] at hv
            have : dgb L = false := by simpa using hv
            rw [this]
            simp
      rw [this]
      rw [hn] at K ⊢
      exact rvalid_no neg n b off cap (by omega) ex w K
    | true =>
      rw [hv] at K
      unfold natV at hv
      simp only [Bool.and_eq_true] at hv
      obtain ⟨⟨h1, h2⟩, h3⟩ := hv
      have hd := ((dgb_iff L).1 h3).getD 0
      have : vldN L.length (dgb L) (L.getD (L.length - 1) 0) (L.getD 0 0) ex = ((L.getD 0 0 % 2 == 1) && decide (-1048576 ≤ ex) && decide (ex ≤ 1048576)) := by
        unfold vldN
        rw [h1, h2, h3, and_one]
        simp
      rw [this]
      rw [hn] at K ⊢
      exact rvalid_yes neg n b off cap (by omega) _ ex (by omega) w hb h0 K

theorem NumAt.shape {w : World} {v : Value} {x : Nm} (h : NumAt w v x) : ∃ ao c, v = .agg #[.bool x.neg, .slice ao x.mag.length c, .int .i64 x.exp] := by
  obtain ⟨s, rfl, ao, c, rfl, -⟩ := h
  exact ⟨ao, c, rfl⟩

set_option maxHeartbeats 400000 in
theorem rvalid2_any (x : Nm) (hR : Rg x.mag) (hlen : x.mag.length < 100000000) (v : Value) (w : World) (h : NumAt w v x) : Calls Tryd.prog 32 #[v] w fun e w' => e = .returned (.bool (vld x)) ∧ Kept w w' := by
  obtain ⟨ao, c, rfl⟩ := h.shape
  have K : Hid (∀ u, Kept w u → Calls Tryd.prog 67 #[.agg #[.bool x.neg, .slice ao x.mag.length c, .int .i64 x.exp]] u fun e w' => e = .returned (.bool (vld x)) ∧ Kept u w') := fun u k => rvalid_any x hR hlen _ u (h.kept k)
  have hK := (Kept.refl w).alloc #[.bool x.neg, .slice ao x.mag.length c, .int .i64 x.exp] 31
  generalize vld x = b at *
  generalize x.mag.length = n at *
  generalize x.neg = ng at *
  generalize x.exp = ex at *
  clear h
  go_enter Tryd.func32, Tryd.ntmps32
  go_wp2_with (first | (go_at_call 67; refine (K.out _ hK).mono ?_; rintro e w1 ⟨rfl, k1⟩))
  go_ret
  exact ⟨rfl, hK.trans k1⟩
end Go.Proofs.YtkmengfmiamdaaaDoor

namespace Go.Proofs.YtkmengfmiamdaaaDoor
open Go.ChangeShapes Go.WideShapes Go.ChangeAt Go.RowKit
set_option linter.unusedVariables false
set_option linter.unusedSimpArgs false

set_option maxHeartbeats 1000000 in
set_option maxRecDepth 100000 in
theorem answer_gen (b : Bool) (ng : Bool) (ao : Option Addr) (n c : Nat) (ex : Int) (w : World)
    (K : Hid (∀ u, Kept w u → Calls Tryd.prog 32 #[.agg #[.bool ng, .slice ao n c, .int .i64 ex]] u fun e w' => e = .returned (.bool b) ∧ Kept u w')) :
    Calls Tryd.prog 58 #[.agg #[.bool ng, .slice ao n c, .int .i64 ex]] w fun e w' => e = .returned (if b then .tuple #[.agg #[.bool ng, .slice ao n c, .int .i64 ex], .int .i64 0] else .tuple #[zeroNum, .int .i64 2]) ∧ Kept w w' := by
  have hK : Kept w ((w.alloc (.cells #[.bool ng, .slice ao n c, .int .i64 ex] 31)).alloc nilNum) := ((Kept.refl w).alloc _ _).alloc _ _
  cases b
  all_goals
    go_enter Tryd.func58, Tryd.ntmps58
    go_wp2_with (first | (go_at_call 32; refine (K.out _ hK).mono ?_; rintro e w1 ⟨rfl, hk1⟩; obtain ⟨f0, f1, f2, f3⟩ := res_cells (w.heap.size + 1) (by simp <;> omega) hk1 (by simp [go_sem]) (by simp [go_sem]) (by simp [go_sem]) (fun o => by simp [go_sem]); have b0 := (hk1.below.cell (p := ⟨w.heap.size, 0, none⟩) (by simp; omega)).trans (show _ = some (Value.bool ng) by simp [go_sem]); have b1 := (hk1.below.cell (p := ⟨w.heap.size, 1, none⟩) (by simp; omega)).trans (show _ = some (Value.slice ao n c) by simp [go_sem]); have b2 := (hk1.below.cell (p := ⟨w.heap.size, 2, none⟩) (by simp; omega)).trans (show _ = some (Value.int .i64 ex) by simp [go_sem])))
  · exact bodyPost_ret (v := .tuple #[zeroNum, .int .i64 2]) (by simp [results, Tryd.results58, go_sem, f0, f1, f2]) rfl ⟨rfl, res_kept (w.heap.size + 1) (by omega) hK hk1 _ _ _⟩
  · exact bodyPost_ret (v := .tuple #[.agg #[.bool ng, .slice ao n c, .int .i64 ex], .int .i64 0]) (by simp [results, Tryd.results58, go_sem, f0, f1, f2]) rfl ⟨rfl, res_kept (w.heap.size + 1) (by omega) hK hk1 _ _ _⟩

theorem answer_any (x : Nm) (hR : Rg x.mag) (hlen : x.mag.length < 100000000) (ao : Option Addr) (c : Nat) (w : World) (h : Sl w (.slice ao x.mag.length c) x.mag) :
    Calls Tryd.prog 58 #[.agg #[.bool x.neg, .slice ao x.mag.length c, .int .i64 x.exp]] w fun e w' => e = .returned (if vld x then .tuple #[.agg #[.bool x.neg, .slice ao x.mag.length c, .int .i64 x.exp], .int .i64 0] else .tuple #[zeroNum, .int .i64 2]) ∧ Kept w w' :=
  answer_gen (vld x) x.neg ao x.mag.length c x.exp w (fun u k => rvalid2_any x hR hlen _ u ⟨_, rfl, h.kept k⟩)

set_option maxHeartbeats 1000000 in
set_option maxRecDepth 100000 in
theorem turned_any (ng : Bool) (ao : Option Addr) (n c : Nat) (ex : Int) (w : World) :
    Calls Tryd.prog 60 #[.agg #[.bool ng, .slice ao n c, .int .i64 ex]] w fun e w' => e = .returned (.agg #[.bool (if n = 0 then ng else !ng), .slice ao n c, .int .i64 ex]) ∧ Kept w w' := by
  have hK : Kept w ((w.alloc (.cells #[.bool ng, .slice ao n c, .int .i64 ex] 31)).alloc nilNum) := ((Kept.refl w).alloc _ _).alloc _ _
  rcases n with _ | n
  all_goals
    go_enter Tryd.func60, Tryd.ntmps60
    go_wp2
  · exact bodyPost_ret (v := .agg #[.bool ng, .slice ao 0 c, .int .i64 ex]) (by simp [results, Tryd.results60, go_sem]) rfl ⟨rfl, ((Kept.refl w).alloc _ _).alloc _ _⟩
  · exact bodyPost_ret (v := .agg #[.bool (!ng), .slice ao (n + 1) c, .int .i64 ex]) (by simp [results, Tryd.results60, go_sem]) rfl ⟨rfl, ((Kept.refl w).alloc _ _).alloc _ _⟩

set_option maxHeartbeats 1000000 in
theorem rsig_any (ng : Bool) (ao : Option Addr) (n c : Nat) (ex : Int) (w : World) :
    Calls Tryd.prog 70 #[.agg #[.bool ng, .slice ao n c, .int .i64 ex]] w fun e w' => e = .returned (.int .i64 (if n = 0 then 0 else if ng then -1 else 1)) ∧ Kept w w' := by
  rcases n with _ | n
  · go_enter Tryd.func70, Tryd.ntmps70
    go_wp2
    go_ret
    exact ⟨rfl, (Kept.refl _).alloc _ _⟩
  · cases ng
    all_goals
      go_enter Tryd.func70, Tryd.ntmps70
      go_wp2
      go_ret
      exact ⟨rfl, (Kept.refl _).alloc _ _⟩

end Go.Proofs.YtkmengfmiamdaaaDoor

namespace Go.Proofs.YtkmengfmiamdaaaDoor
open Go.ChangeShapes Go.WideShapes Go.ChangeAt Go.RowKit
set_option linter.unusedVariables false
set_option linter.unusedSimpArgs false

theorem zero_numAt (w : World) : NumAt w zeroNum ⟨false, [], 0⟩ := ⟨_, rfl, none, 0, rfl, Nat.le_refl _, by simp [maxLen], fun h => absurd rfl h⟩

set_option maxHeartbeats 1000000 in
set_option maxRecDepth 100000 in
theorem is_bad (kp : Value) (n2 : Bool) (a2 : Option Addr) (l2 c2 : Nat) (e2 : Int) (w : World) :
    Calls Tryd.prog 29 #[kp, zeroNum, .int .i64 7, .bool true, .agg #[.bool n2, .slice a2 l2 c2, .int .i64 e2]] w fun e w' => e = .returned (.bool true) ∧ Kept w w' := by
  have hK : Kept w ((w.alloc (.cells #[.bool false, .slice none 0 0, .int .i64 0] 31)).alloc (.cells #[.bool n2, .slice a2 l2 c2, .int .i64 e2] 31)) := ((Kept.refl w).alloc _ _).alloc _ _
  have KS : Hid (∀ u, Calls Tryd.prog 17 #[zeroNum, zeroNum] u fun e w' => e = .returned (.bool true) ∧ Kept u w') := fun u => sameNum_true ⟨false, [], 0⟩ (by simp) _ _ u (zero_numAt u) (zero_numAt u)
  go_enter Tryd.func29, Tryd.ntmps29
  go_wp2_with (first | (go_at_call 17; refine (KS.out _).mono ?_; rintro e w1 ⟨rfl, k1⟩))
  go_ret
  exact ⟨rfl, hK.trans k1⟩

set_option maxHeartbeats 2000000 in
set_option maxRecDepth 100000 in
theorem is_gen (kp : Value) (n1 : Bool) (a1 : Option Addr) (l1 c1 : Nat) (e1 f : Int) (n2 : Bool) (a2 : Option Addr) (l2 c2 : Nat) (e2 : Int) (n3 : Bool) (a3 : Option Addr) (l3 c3 : Nat) (e3 : Int) (w : World) (Post : World → Prop)
    (KN : Hid (∀ u, Kept w u → Calls Tryd.prog 58 #[.agg #[.bool n2, .slice a2 l2 c2, .int .i64 e2]] u fun e w' => e = .returned (.tuple #[.agg #[.bool n3, .slice a3 l3 c3, .int .i64 e3], .int .i64 f]) ∧ Kept u w'))
    (KS : Hid (∀ u, Kept w u → Calls Tryd.prog 17 #[.agg #[.bool n1, .slice a1 l1 c1, .int .i64 e1], .agg #[.bool n3, .slice a3 l3 c3, .int .i64 e3]] u fun e w' => e = .returned (.bool true) ∧ Kept u w'))
    (KA : Hid (∀ u, Kept w u → Calls Tryd.prog 25 #[kp, .slice a1 l1 c1, .slice a3 l3 c3] u fun e w' => e = .returned (.bool true) ∧ Post w')) :
    Calls Tryd.prog 29 #[kp, .agg #[.bool n1, .slice a1 l1 c1, .int .i64 e1], .int .i64 f, .bool false, .agg #[.bool n2, .slice a2 l2 c2, .int .i64 e2]] w fun e w' => e = .returned (.bool true) ∧ Post w' := by
  have hK : Kept w ((w.alloc (.cells #[.bool n1, .slice a1 l1 c1, .int .i64 e1] 31)).alloc (.cells #[.bool n2, .slice a2 l2 c2, .int .i64 e2] 31)) := ((Kept.refl w).alloc _ _).alloc _ _
  have HC : Hid (∀ u, Kept ((w.alloc (.cells #[.bool n1, .slice a1 l1 c1, .int .i64 e1] 31)).alloc (.cells #[.bool n2, .slice a2 l2 c2, .int .i64 e2] 31)) u → u.cell? ⟨w.heap.size, 0, none⟩ = some (.bool n1) ∧ u.cell? ⟨w.heap.size, 1, none⟩ = some (.slice a1 l1 c1) ∧ u.cell? ⟨w.heap.size, 2, none⟩ = some (.int .i64 e1) ∧ w.heap.size + 1 < u.heap.size) := fun u k => ⟨(k.below.cell (p := ⟨w.heap.size, 0, none⟩) (by simp; omega)).trans (by simp [go_sem]), (k.below.cell (p := ⟨w.heap.size, 1, none⟩) (by simp; omega)).trans (by simp [go_sem]), (k.below.cell (p := ⟨w.heap.size, 2, none⟩) (by simp; omega)).trans (by simp [go_sem]), by have := k.below.size; simp at this; omega⟩
  have hff : (f == f) = true := by simp
  go_enter Tryd.func29, Tryd.ntmps29
  go_wp2_with (first | (go_at_call 58; refine (KN.out _ hK).mono ?_; rintro e w1 ⟨rfl, k1⟩; have kB := k1.alloc #[.bool n3, .slice a3 l3 c3, .int .i64 e3] 31; obtain ⟨b0, b1, b2, b3⟩ := HC.out _ kB) | (go_at_call 17; refine (KS.out _ ?_).mono ?_; (first | exact hK.trans kB | skip); rintro e w2 ⟨rfl, k2⟩; obtain ⟨d0, d1, d2, d3⟩ := HC.out _ (kB.trans k2); have g1 := (k2.below.cell (p := ⟨w1.heap.size, 1, none⟩) (by simp)).trans (show _ = some (Value.slice a3 l3 c3) by simp [go_sem])) | (go_at_call 25; refine (KA.out _ ?_).mono ?_; (first | exact hK.trans (kB.trans k2) | skip); rintro e w3 ⟨rfl, hP⟩))
  go_ret
  exact ⟨rfl, hP⟩
end Go.Proofs.YtkmengfmiamdaaaDoor

namespace Go.Proofs.YtkmengfmiamdaaaDoor
open Go.ChangeShapes Go.WideShapes Go.ChangeAt Go.RowKit
set_option linter.unusedVariables false
set_option linter.unusedSimpArgs false

theorem new_zero (w w' : World) : New w w' zeroNum ⟨false, [], 0⟩ := .inl ⟨rfl, rfl⟩
theorem wrap64_small (y : Int) (h1 : -1048576 ≤ y) (h2 : y ≤ 1048576) : wrap64 y = y := by unfold wrap64; omega

theorem sign_all (neg : Bool) (L : List Int) (x : Int) (hR : Rg L) (hlen : L.length < 60000000) : ∃ (sv se : Int),
    (∀ u (ao : Option Addr) (cap : Nat), Sl u (.slice ao L.length cap) L → Calls Tryd.prog 16 #[.agg #[.bool neg, .slice ao L.length cap, .int .i64 x]] u fun e w' => e = .returned (.tuple #[.int .i64 sv, .int .i64 se]) ∧ Kept u w') ∧
    (vld ⟨neg, L, x⟩ = false → sv = 0 ∧ se = 7) ∧ (vld ⟨neg, L, x⟩ = true → se = 0 ∧ sv = if L.length = 0 then 0 else if neg = true then -1 else 1) := by
  cases hv : vld ⟨neg, L, x⟩ with
  | false => exact ⟨0, 7, fun u ao cap hs => sign_bad neg L hR hlen ao cap x hv u hs, fun _ => ⟨rfl, rfl⟩, fun h => (by cases h)⟩
  | true => exact ⟨_, 0, fun u ao cap hs => sign_ok neg L hR hlen ao cap x hv u hs, fun h => (by cases h), fun _ => ⟨rfl, rfl⟩⟩

end Go.Proofs.YtkmengfmiamdaaaDoor
