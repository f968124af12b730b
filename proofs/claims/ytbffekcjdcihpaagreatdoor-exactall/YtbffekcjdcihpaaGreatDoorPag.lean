/- The walks of the document's own Valid, Answer, Turned, Scale, Sig. The walks of the document's own Answer, Turned, Scale, Sig. The walk of the laws' own 'is'. What Neg, Sign, Scale tell of any number; and the document's own Scale beside it. What is none of what is kept stays: blocks of another type. -/
import Derived.Test.YtbffekcjdcihpaaGreatDoorPaf
namespace Go.Proofs.YtbffekcjdcihpaaGreatDoor
open Go.ChangeShapes Go.WideShapes Go.ChangeAt Go.RowKit
set_option maxHeartbeats 16000000
set_option maxRecDepth 100000
set_option linter.unusedVariables false
set_option linter.unusedSimpArgs false
def natV (n : Nat) (d : Int) (g : Bool) : Bool := decide ((n : Int) ≤ 2000) && (d != 0) && g
theorem natValid_some (L : List Int) (hR : Rg L) (b off cap : Nat) (w : World) (hlen : L.length < 100000000) (hne : L ≠ []) (hr : Reads w b off L) : Calls Tryz.prog 89 #[.slice (some ⟨b, off, none⟩) L.length cap] w fun e w' => e = .returned (.bool (natV L.length (L.getD (L.length - 1) 0) (dgb L))) ∧ w = w' := by
 have hpos := List.length_pos_iff.2 hne
 have hlast := hr (L.length - 1) (by omega)
 obtain ⟨n, hn⟩ : ∃ n, n + 1 = L.length := ⟨L.length - 1, by omega⟩
 have HN : Hid (n + 1 = L.length) := hn
 have HR : Hid (Reads w b off L) := hr
 rw [← hn] at hlen hlast ⊢
 rw [Nat.add_sub_cancel] at hlast ⊢
 obtain ⟨dl, hdl⟩ : ∃ d, d = L.getD n 0 := ⟨_, rfl⟩
 rw [← hdl] at hlast ⊢
 have HD0 : Hid (dl = L.getD n 0) := hdl
 clear hr hn hpos hdl
 by_cases hbig : 2000 < n + 1
 ·have e1 : natV (n + 1) dl (dgb L) = false := by unfold natV; rw [decide_eq_false (by omega)]; rfl
  rw [e1]
  go_enter Tryz.func89, Tryz.ntmps89
  go_wp2
  go_ret
  exact ⟨rfl, rfl⟩
 ·by_cases hz : dl = 0
  ·have e1 : natV (n + 1) dl (dgb L) = false := by unfold natV; simp [hz]
   rw [e1]
   have hz' : (dl == 0) = true := by simp [hz]
   go_enter Tryz.func89, Tryz.ntmps89
   go_wp2
   go_ret
   exact ⟨rfl, rfl⟩
  ·have e1 : natV (n + 1) dl (dgb L) = dgb L := by unfold natV; rw [decide_eq_true (by omega)]; simp [hz]
   rw [e1]
   have hz' : (dl == 0) = false := by simp [hz]
   clear e1
   go_enter Tryz.func89, Tryz.ntmps89
   go_wp2
   go_loop [3] (fun i => ∃ k : Nat, k ≤ n + 1 ∧ i = .int .i64 k ∧ ∀ j, j < k → 0 ≤ L.getD j 0 ∧ L.getD j 0 < 1073741824) (fun i => n + 1 - (intOf i).toNat)
   case atStart => exact ⟨0, Nat.zero_le _, rfl, fun j h => by omega⟩
   case round =>
    obtain ⟨k, hk, rfl, hd⟩ := hrel
    have HD : Hid (∀ j, j < k → 0 ≤ L.getD j 0 ∧ L.getD j 0 < 1073741824) := hd
    clear hd
    by_cases hkn : k < n + 1
    ·have hcell := HR.out k (by rw [← HN.out]; exact hkn)
     obtain ⟨d, hd⟩ : ∃ d, d = L.getD k 0 := ⟨_, rfl⟩
     have HE : Hid (d = L.getD k 0) := hd
     rw [← hd] at hcell
     clear hd
     by_cases hz2 : 0 ≤ d
     ·by_cases hz3 : d < 1073741824
      ·go_wp2
       go_round
       case rel =>
        refine ⟨k + 1, by omega, by go_num, fun j hj => ?_⟩
        by_cases hjk : j = k
        ·subst hjk; rw [← HE.out]; exact ⟨hz2, hz3⟩
        ·exact HD.out j (by omega)
       case measure => simp [intOf]; omega
      ·go_wp2
       go_ret
       refine ⟨?_, rfl⟩
       rw [dgb_false L k (by rw [← HN.out]; exact hkn) (by rw [← HE.out]; omega)]
       rfl
     ·go_wp2
      go_ret
      refine ⟨?_, rfl⟩
      rw [dgb_false L k (by rw [← HN.out]; exact hkn) (by rw [← HE.out]; omega)]
      rfl
    ·go_wp2
     go_ret
     refine ⟨?_, rfl⟩
     rw [dgb_true L (fun j hj => HD.out j (by rw [← HN.out] at hj; omega))]
     rfl
theorem rvalid_nil (neg : Bool) (ao : Option Addr) (cap : Nat) (x : Int) (w : World) : Calls Tryz.prog 49 #[.agg #[.bool neg, .slice ao 0 cap, .int .i64 x]] w fun e w' => e = .returned (.bool (!neg && x == 0)) ∧ Kept w w' := by
 cases neg
 all_goals
  go_enter Tryz.func49, Tryz.ntmps49
  go_wp2
  go_ret
  exact ⟨by simp, (Kept.refl _).alloc _ _⟩
theorem rvalid_no (neg : Bool) (n b off cap : Nat) (hn : n < 100000000) (x : Int) (w : World)
  (K : Hid (∀ w' : World, Kept w w' → Calls Tryz.prog 89 #[.slice (some ⟨b, off, none⟩) (n + 1) cap] w' fun e w'' => e = .returned (.bool false) ∧ w' = w'')) :
  Calls Tryz.prog 49 #[.agg #[.bool neg, .slice (some ⟨b, off, none⟩) (n + 1) cap, .int .i64 x]] w fun e w' => e = .returned (.bool false) ∧ Kept w w' := by
 have hK := (Kept.refl w).alloc #[.bool neg, .slice (some ⟨b, off, none⟩) (n + 1) cap, .int .i64 x] 29
 go_enter Tryz.func49, Tryz.ntmps49
 go_wp2_with (first | (go_at_call 89; refine (K.out _ hK).mono ?_; rintro e w1 ⟨rfl, rfl⟩))
 go_ret
 exact ⟨rfl, hK⟩
theorem rvalid_yes (neg : Bool) (n b off cap : Nat) (hn : n < 100000000) (d0 x : Int) (h0 : 0 ≤ d0) (w : World) (hb : b < w.heap.size) (hc : w.cell? ⟨b, off, none⟩ = some (.int .i64 d0))
  (K : Hid (∀ w' : World, Kept w w' → Calls Tryz.prog 89 #[.slice (some ⟨b, off, none⟩) (n + 1) cap] w' fun e w'' => e = .returned (.bool true) ∧ w' = w'')) :
  Calls Tryz.prog 49 #[.agg #[.bool neg, .slice (some ⟨b, off, none⟩) (n + 1) cap, .int .i64 x]] w fun e w' => e = .returned (.bool ((d0 % 2 == 1) && decide (-1048576 ≤ x) && decide (x ≤ 1048576))) ∧ Kept w w' := by
 have hK := (Kept.refl w).alloc #[.bool neg, .slice (some ⟨b, off, none⟩) (n + 1) cap, .int .i64 x] 29
 have c0 := (hK.below.cell (p := ⟨b, off, none⟩) hb).trans hc
 clear hc
 obtain ⟨r, hr⟩ : ∃ r, r = ((d0 % 2 == 1) && decide (-1048576 ≤ x) && decide (x ≤ 1048576)) := ⟨_, rfl⟩
 rw [← hr]
 have HR : Hid (r = ((d0 % 2 == 1) && decide (-1048576 ≤ x) && decide (x ≤ 1048576))) := hr
 clear hr
 go_enter Tryz.func49, Tryz.ntmps49
 go_wp2_with (first | (go_at_call 89; refine (K.out _ hK).mono ?_; rintro e w1 ⟨rfl, rfl⟩))
 all_goals
  go_ret
  refine ⟨?_, hK⟩
  rw [HR.out]
  clear HR c0 K hK
  simp_all
  try omega
theorem rvalid_any (x : Nm) (hR : Rg x.mag) (hlen : x.mag.length < 100000000) (v : Value) (w : World) (h : NumAt w v x) : Calls Tryz.prog 49 #[v] w fun e w' => e = .returned (.bool (vld x)) ∧ Kept w w' := by
 obtain ⟨neg, L, ex⟩ := x
 dsimp only at hR hlen
 obtain ⟨s, rfl, ao, cap, rfl, hc, hm, hr⟩ := h
 dsimp only at hc hr
 unfold vld
 by_cases hne : L = []
 ·subst hne; exact rvalid_nil neg ao cap ex w
 ·obtain ⟨b, off, rfl, hb, hr⟩ := hr hne
  have hpos := List.length_pos_iff.2 hne
  simp only [hne, if_false]
  have K : ∀ w' : World, Kept w w' → Calls Tryz.prog 89 #[.slice (some ⟨b, off, none⟩) L.length cap] w' fun e w'' => e = .returned (.bool (natV L.length (L.getD (L.length - 1) 0) (dgb L))) ∧ w' = w'' := fun w' k => natValid_some L hR b off cap w' hlen hne (hr.kept hb k)
  have h0 := hr 0 hpos
  obtain ⟨n, hn⟩ : ∃ n, L.length = n + 1 := ⟨L.length - 1, by omega⟩
  cases hv : natV L.length (L.getD (L.length - 1) 0) (dgb L) with
  | false =>
   rw [hv] at K
   have : vldN L.length (dgb L) (L.getD (L.length - 1) 0) (L.getD 0 0) ex = false := by
    unfold natV at hv
    unfold vldN
    cases h1 : decide ((L.length : Int) ≤ 2000)
    ·simp
    ·rw [h1] at hv
     cases h2 : (L.getD (L.length - 1) 0 != 0)
     ·simp
     ·rw [h2] at hv
      have : dgb L = false := by simpa using hv
      rw [this]
      simp
   rw [this]
   rw [hn] at K ⊢
   exact rvalid_no neg n b off cap (by omega) ex w K
  | true =>
   rw [hv] at K
   unfold natV at hv
   simp only [Bool.and_eq_true] at hv
   obtain ⟨⟨h1, h2⟩, h3⟩ := hv
   have hd := ((dgb_iff L).1 h3).getD 0
   have : vldN L.length (dgb L) (L.getD (L.length - 1) 0) (L.getD 0 0) ex = ((L.getD 0 0 % 2 == 1) && decide (-1048576 ≤ ex) && decide (ex ≤ 1048576)) := by
    unfold vldN
    rw [h1, h2, h3, and_one]
    simp
   rw [this]
   rw [hn] at K ⊢
   exact rvalid_yes neg n b off cap (by omega) _ ex (by omega) w hb h0 K
theorem NumAt.shape {w : World} {v : Value} {x : Nm} (h : NumAt w v x) : ∃ ao c, v = .agg #[.bool x.neg, .slice ao x.mag.length c, .int .i64 x.exp] := by
 obtain ⟨s, rfl, ao, c, rfl, -⟩ := h
 exact ⟨ao, c, rfl⟩
theorem rvalid2_any (x : Nm) (hR : Rg x.mag) (hlen : x.mag.length < 100000000) (v : Value) (w : World) (h : NumAt w v x) : Calls Tryz.prog 11 #[v] w fun e w' => e = .returned (.bool (vld x)) ∧ Kept w w' := by
 obtain ⟨ao, c, rfl⟩ := h.shape
 have K : Hid (∀ u, Kept w u → Calls Tryz.prog 49 #[.agg #[.bool x.neg, .slice ao x.mag.length c, .int .i64 x.exp]] u fun e w' => e = .returned (.bool (vld x)) ∧ Kept u w') := fun u k => rvalid_any x hR hlen _ u (h.kept k)
 have hK := (Kept.refl w).alloc #[.bool x.neg, .slice ao x.mag.length c, .int .i64 x.exp] 29
 generalize vld x = b at *
 generalize x.mag.length = n at *
 generalize x.neg = ng at *
 generalize x.exp = ex at *
 clear h
 go_enter Tryz.func11, Tryz.ntmps11
 go_wp2_with (first | (go_at_call 49; refine (K.out _ hK).mono ?_; rintro e w1 ⟨rfl, k1⟩))
 go_ret
 exact ⟨rfl, hK.trans k1⟩
theorem answer_gen (b : Bool) (ng : Bool) (ao : Option Addr) (n c : Nat) (ex : Int) (w : World)
  (K : Hid (∀ u, Kept w u → Calls Tryz.prog 11 #[.agg #[.bool ng, .slice ao n c, .int .i64 ex]] u fun e w' => e = .returned (.bool b) ∧ Kept u w')) :
  Calls Tryz.prog 56 #[.agg #[.bool ng, .slice ao n c, .int .i64 ex]] w fun e w' => e = .returned (if b then .tuple #[.agg #[.bool ng, .slice ao n c, .int .i64 ex], .int .i64 0] else .tuple #[zeroNum, .int .i64 2]) ∧ Kept w w' := by
 have hK : Kept w ((w.alloc (.cells #[.bool ng, .slice ao n c, .int .i64 ex] 29)).alloc nilNum) := ((Kept.refl w).alloc _ _).alloc _ _
 cases b
 all_goals
  go_enter Tryz.func56, Tryz.ntmps56
  go_wp2_with (first | (go_at_call 11; refine (K.out _ hK).mono ?_; rintro e w1 ⟨rfl, hk1⟩; obtain ⟨f0, f1, f2, f3⟩ := res_cells (w.heap.size + 1) (by simp <;> omega) hk1 (by simp [go_sem]) (by simp [go_sem]) (by simp [go_sem]) (fun o => by simp [go_sem]); have b0 := (hk1.below.cell (p := ⟨w.heap.size, 0, none⟩) (by simp; omega)).trans (show _ = some (Value.bool ng) by simp [go_sem]); have b1 := (hk1.below.cell (p := ⟨w.heap.size, 1, none⟩) (by simp; omega)).trans (show _ = some (Value.slice ao n c) by simp [go_sem]); have b2 := (hk1.below.cell (p := ⟨w.heap.size, 2, none⟩) (by simp; omega)).trans (show _ = some (Value.int .i64 ex) by simp [go_sem])))
 ·exact bodyPost_ret (v := .tuple #[zeroNum, .int .i64 2]) (by simp [results, Tryz.results56, go_sem, f0, f1, f2]) rfl ⟨rfl, res_kept (w.heap.size + 1) (by omega) hK hk1 _ _ _⟩
 ·exact bodyPost_ret (v := .tuple #[.agg #[.bool ng, .slice ao n c, .int .i64 ex], .int .i64 0]) (by simp [results, Tryz.results56, go_sem, f0, f1, f2]) rfl ⟨rfl, res_kept (w.heap.size + 1) (by omega) hK hk1 _ _ _⟩
theorem answer_any (x : Nm) (hR : Rg x.mag) (hlen : x.mag.length < 100000000) (ao : Option Addr) (c : Nat) (w : World) (h : Sl w (.slice ao x.mag.length c) x.mag) :
  Calls Tryz.prog 56 #[.agg #[.bool x.neg, .slice ao x.mag.length c, .int .i64 x.exp]] w fun e w' => e = .returned (if vld x then .tuple #[.agg #[.bool x.neg, .slice ao x.mag.length c, .int .i64 x.exp], .int .i64 0] else .tuple #[zeroNum, .int .i64 2]) ∧ Kept w w' :=
 answer_gen (vld x) x.neg ao x.mag.length c x.exp w (fun u k => rvalid2_any x hR hlen _ u ⟨_, rfl, h.kept k⟩)
theorem turned_any (ng : Bool) (ao : Option Addr) (n c : Nat) (ex : Int) (w : World) :
  Calls Tryz.prog 30 #[.agg #[.bool ng, .slice ao n c, .int .i64 ex]] w fun e w' => e = .returned (.agg #[.bool (if n = 0 then ng else !ng), .slice ao n c, .int .i64 ex]) ∧ Kept w w' := by
 have hK : Kept w ((w.alloc (.cells #[.bool ng, .slice ao n c, .int .i64 ex] 29)).alloc nilNum) := ((Kept.refl w).alloc _ _).alloc _ _
 rcases n with _ | n
 all_goals
  go_enter Tryz.func30, Tryz.ntmps30
  go_wp2
 ·exact bodyPost_ret (v := .agg #[.bool ng, .slice ao 0 c, .int .i64 ex]) (by simp [results, Tryz.results30, go_sem]) rfl ⟨rfl, ((Kept.refl w).alloc _ _).alloc _ _⟩
 ·exact bodyPost_ret (v := .agg #[.bool (!ng), .slice ao (n + 1) c, .int .i64 ex]) (by simp [results, Tryz.results30, go_sem]) rfl ⟨rfl, ((Kept.refl w).alloc _ _).alloc _ _⟩
theorem rsig_any (ng : Bool) (ao : Option Addr) (n c : Nat) (ex : Int) (w : World) :
  Calls Tryz.prog 68 #[.agg #[.bool ng, .slice ao n c, .int .i64 ex]] w fun e w' => e = .returned (.int .i64 (if n = 0 then 0 else if ng then -1 else 1)) ∧ Kept w w' := by
 rcases n with _ | n
 ·go_enter Tryz.func68, Tryz.ntmps68
  go_wp2
  go_ret
  exact ⟨rfl, (Kept.refl _).alloc _ _⟩
 ·cases ng
  all_goals
   go_enter Tryz.func68, Tryz.ntmps68
   go_wp2
   go_ret
   exact ⟨rfl, (Kept.refl _).alloc _ _⟩
theorem rsig2_any (ng : Bool) (ao : Option Addr) (n c : Nat) (ex : Int) (w : World) :
  Calls Tryz.prog 31 #[.agg #[.bool ng, .slice ao n c, .int .i64 ex]] w fun e w' => e = .returned (.int .i64 (if n = 0 then 0 else if ng then -1 else 1)) ∧ Kept w w' := by
 generalize hs : (if n = 0 then (0 : Int) else if ng then -1 else 1) = s
 have K : Hid (∀ u, Calls Tryz.prog 68 #[.agg #[.bool ng, .slice ao n c, .int .i64 ex]] u fun e w' => e = .returned (.int .i64 s) ∧ Kept u w') := fun u => by rw [← hs]; exact rsig_any ng ao n c ex u
 have hK := (Kept.refl w).alloc #[.bool ng, .slice ao n c, .int .i64 ex] 29
 clear hs
 go_enter Tryz.func31, Tryz.ntmps31
 go_wp2_with (first | (go_at_call 68; refine (K.out _).mono ?_; rintro e w1 ⟨rfl, k1⟩))
 go_ret
 exact ⟨rfl, hK.trans k1⟩
theorem rscale_nil (ng : Bool) (ao : Option Addr) (c : Nat) (ex k0 : Int) (w : World) :
  Calls Tryz.prog 29 #[.agg #[.bool ng, .slice ao 0 c, .int .i64 ex], .int .i64 k0] w fun e w' => e = .returned (.tuple #[.agg #[.bool ng, .slice ao 0 c, .int .i64 ex], .int .i64 0]) ∧ Kept w w' := by
 go_enter Tryz.func29, Tryz.ntmps29
 go_wp2
 exact bodyPost_ret (v := .tuple #[.agg #[.bool ng, .slice ao 0 c, .int .i64 ex], .int .i64 0]) (by simp [results, Tryz.results29, go_sem]) rfl ⟨rfl, ((Kept.refl w).alloc _ _).alloc _ _⟩
theorem rscale_far (ng : Bool) (ao : Option Addr) (n c : Nat) (ex k0 : Int) (hk : k0 < -3145728 ∨ 3145728 < k0) (w : World) :
  Calls Tryz.prog 29 #[.agg #[.bool ng, .slice ao (n + 1) c, .int .i64 ex], .int .i64 k0] w fun e w' => e = .returned (.tuple #[zeroNum, .int .i64 2]) ∧ Kept w w' := by
 rcases (show 3145728 < k0 ∨ (¬ 3145728 < k0 ∧ k0 < -3145728) by omega) with h | ⟨h', h⟩
 all_goals
  go_enter Tryz.func29, Tryz.ntmps29
  go_wp2
  exact bodyPost_ret (v := .tuple #[zeroNum, .int .i64 2]) (by simp [results, Tryz.results29, go_sem]) rfl ⟨rfl, ((Kept.refl w).alloc _ _).alloc _ _⟩
theorem rscale_near (ng : Bool) (ao : Option Addr) (n c : Nat) (ex k0 : Int) (hk1 : -3145728 ≤ k0) (hk2 : k0 ≤ 3145728) (he1 : -1048576 ≤ ex) (he2 : ex ≤ 1048576) (b : Bool) (w : World)
  (K : Hid (∀ u, Kept w u → Calls Tryz.prog 56 #[.agg #[.bool ng, .slice ao (n + 1) c, .int .i64 (ex + k0)]] u fun e w' => e = .returned (if b then .tuple #[.agg #[.bool ng, .slice ao (n + 1) c, .int .i64 (ex + k0)], .int .i64 0] else .tuple #[zeroNum, .int .i64 2]) ∧ Kept u w')) :
  Calls Tryz.prog 29 #[.agg #[.bool ng, .slice ao (n + 1) c, .int .i64 ex], .int .i64 k0] w fun e w' => e = .returned (if b then .tuple #[.agg #[.bool ng, .slice ao (n + 1) c, .int .i64 (ex + k0)], .int .i64 0] else .tuple #[zeroNum, .int .i64 2]) ∧ Kept w w' := by
 have hK : Kept w ((w.alloc (.cells #[.bool ng, .slice ao (n + 1) c, .int .i64 (ex + k0)] 29)).alloc nilNum) := ((Kept.refl w).alloc _ _).alloc _ _
 cases b
 all_goals
  simp only [if_true, if_false, Bool.false_eq_true] at K ⊢
  go_enter Tryz.func29, Tryz.ntmps29
  go_wp2_with (first | (go_at_call 56; refine (K.out _ ?_).mono ?_; (first | exact hK | skip); rintro e w1 ⟨rfl, hk1⟩; obtain ⟨f0, f1, f2, f3⟩ := res_cells (w.heap.size + 1) (by simp <;> omega) hk1 (by simp [go_sem]) (by simp [go_sem]) (by simp [go_sem]) (fun o => by simp [go_sem])))
 ·exact bodyPost_ret (v := .tuple #[zeroNum, .int .i64 2]) (by simp [results, Tryz.results29, go_sem, f0, f1, f2]) rfl ⟨rfl, res_kept (w.heap.size + 1) (by omega) hK hk1 _ _ _⟩
 ·exact bodyPost_ret (v := .tuple #[.agg #[.bool ng, .slice ao (n + 1) c, .int .i64 (ex + k0)], .int .i64 0]) (by simp [results, Tryz.results29, go_sem, f0, f1, f2]) rfl ⟨rfl, res_kept (w.heap.size + 1) (by omega) hK hk1 _ _ _⟩
theorem zero_numAt (w : World) : NumAt w zeroNum ⟨false, [], 0⟩ := ⟨_, rfl, none, 0, rfl, Nat.le_refl _, by simp [maxLen], fun h => absurd rfl h⟩
theorem is_bad (kp : Value) (n2 : Bool) (a2 : Option Addr) (l2 c2 : Nat) (e2 : Int) (w : World) :
  Calls Tryz.prog 22 #[kp, zeroNum, .int .i64 7, .bool true, .agg #[.bool n2, .slice a2 l2 c2, .int .i64 e2]] w fun e w' => e = .returned (.bool true) ∧ Kept w w' := by
 have hK : Kept w ((w.alloc (.cells #[.bool false, .slice none 0 0, .int .i64 0] 29)).alloc (.cells #[.bool n2, .slice a2 l2 c2, .int .i64 e2] 29)) := ((Kept.refl w).alloc _ _).alloc _ _
 have KS : Hid (∀ u, Calls Tryz.prog 16 #[zeroNum, zeroNum] u fun e w' => e = .returned (.bool true) ∧ Kept u w') := fun u => sameNum_true ⟨false, [], 0⟩ (by simp) _ _ u (zero_numAt u) (zero_numAt u)
 go_enter Tryz.func22, Tryz.ntmps22
 go_wp2_with (first | (go_at_call 16; refine (KS.out _).mono ?_; rintro e w1 ⟨rfl, k1⟩))
 go_ret
 exact ⟨rfl, hK.trans k1⟩
theorem is_gen (kp : Value) (n1 : Bool) (a1 : Option Addr) (l1 c1 : Nat) (e1 f : Int) (n2 : Bool) (a2 : Option Addr) (l2 c2 : Nat) (e2 : Int) (n3 : Bool) (a3 : Option Addr) (l3 c3 : Nat) (e3 : Int) (w : World) (Post : World → Prop)
  (KN : Hid (∀ u, Kept w u → Calls Tryz.prog 56 #[.agg #[.bool n2, .slice a2 l2 c2, .int .i64 e2]] u fun e w' => e = .returned (.tuple #[.agg #[.bool n3, .slice a3 l3 c3, .int .i64 e3], .int .i64 f]) ∧ Kept u w'))
  (KS : Hid (∀ u, Kept w u → Calls Tryz.prog 16 #[.agg #[.bool n1, .slice a1 l1 c1, .int .i64 e1], .agg #[.bool n3, .slice a3 l3 c3, .int .i64 e3]] u fun e w' => e = .returned (.bool true) ∧ Kept u w'))
  (KA : Hid (∀ u, Kept w u → Calls Tryz.prog 17 #[kp, .slice a1 l1 c1, .slice a3 l3 c3] u fun e w' => e = .returned (.bool true) ∧ Post w')) :
  Calls Tryz.prog 22 #[kp, .agg #[.bool n1, .slice a1 l1 c1, .int .i64 e1], .int .i64 f, .bool false, .agg #[.bool n2, .slice a2 l2 c2, .int .i64 e2]] w fun e w' => e = .returned (.bool true) ∧ Post w' := by
 have hK : Kept w ((w.alloc (.cells #[.bool n1, .slice a1 l1 c1, .int .i64 e1] 29)).alloc (.cells #[.bool n2, .slice a2 l2 c2, .int .i64 e2] 29)) := ((Kept.refl w).alloc _ _).alloc _ _
 have HC : Hid (∀ u, Kept ((w.alloc (.cells #[.bool n1, .slice a1 l1 c1, .int .i64 e1] 29)).alloc (.cells #[.bool n2, .slice a2 l2 c2, .int .i64 e2] 29)) u → u.cell? ⟨w.heap.size, 0, none⟩ = some (.bool n1) ∧ u.cell? ⟨w.heap.size, 1, none⟩ = some (.slice a1 l1 c1) ∧ u.cell? ⟨w.heap.size, 2, none⟩ = some (.int .i64 e1) ∧ w.heap.size + 1 < u.heap.size) := fun u k => ⟨(k.below.cell (p := ⟨w.heap.size, 0, none⟩) (by simp; omega)).trans (by simp [go_sem]), (k.below.cell (p := ⟨w.heap.size, 1, none⟩) (by simp; omega)).trans (by simp [go_sem]), (k.below.cell (p := ⟨w.heap.size, 2, none⟩) (by simp; omega)).trans (by simp [go_sem]), by have := k.below.size; simp at this; omega⟩
 have hff : (f == f) = true := by simp
 go_enter Tryz.func22, Tryz.ntmps22
 go_wp2_with (first | (go_at_call 56; refine (KN.out _ hK).mono ?_; rintro e w1 ⟨rfl, k1⟩; have kB := k1.alloc #[.bool n3, .slice a3 l3 c3, .int .i64 e3] 29; obtain ⟨b0, b1, b2, b3⟩ := HC.out _ kB) | (go_at_call 16; refine (KS.out _ ?_).mono ?_; (first | exact hK.trans kB | skip); rintro e w2 ⟨rfl, k2⟩; obtain ⟨d0, d1, d2, d3⟩ := HC.out _ (kB.trans k2); have g1 := (k2.below.cell (p := ⟨w1.heap.size, 1, none⟩) (by simp)).trans (show _ = some (Value.slice a3 l3 c3) by simp [go_sem])) | (go_at_call 17; refine (KA.out _ ?_).mono ?_; (first | exact hK.trans (kB.trans k2) | skip); rintro e w3 ⟨rfl, hP⟩))
 go_ret
 exact ⟨rfl, hP⟩
theorem new_zero (w w' : World) : New w w' zeroNum ⟨false, [], 0⟩ := .inl ⟨rfl, rfl⟩
theorem wrap64_small (y : Int) (h1 : -1048576 ≤ y) (h2 : y ≤ 1048576) : wrap64 y = y := by unfold wrap64; omega
theorem neg_all (neg : Bool) (L : List Int) (x : Int) (hR : Rg L) (hlen : L.length < 60000000) : ∃ (rp : Nm) (pe : Int),
  (∀ u (ao : Option Addr) (cap : Nat), (ao = none → cap = 0) → Sl u (.slice ao L.length cap) L → Tab u → Calls Tryz.prog 25 #[.agg #[.bool neg, .slice ao L.length cap, .int .i64 x]] u fun e w' => ∃ v, e = .returned (.tuple #[v, .int .i64 pe]) ∧ New u w' v rp ∧ Kept u w') ∧
  (vld ⟨neg, L, x⟩ = false → rp = ⟨false, [], 0⟩ ∧ pe = 7) ∧ (vld ⟨neg, L, x⟩ = true → pe = 0 ∧ rp = ⟨if L.length = 0 then neg else !neg, L, x⟩) := by
 cases hv : vld ⟨neg, L, x⟩ with
 | false =>
  refine ⟨⟨false, [], 0⟩, 7, fun u ao cap hc hs hT => ?_, fun _ => ⟨rfl, rfl⟩, fun h => (by cases h)⟩
  refine (neg_bad neg L hR hlen ao cap hc x hv u hs hT).mono ?_
  rintro e w' ⟨rfl, k⟩
  exact ⟨_, rfl, new_zero _ _, k⟩
 | true =>
  by_cases hne : L = []
  ·subst hne
   obtain ⟨rfl, rfl⟩ := vld_nil neg x hv
   exact ⟨⟨false, [], 0⟩, 0, fun u ao cap hc hs hT => neg_ok false [] hR hlen ao cap hc 0 hv _ (frm_nil _ _) u hs hT, fun h => (by cases h), fun _ => ⟨rfl, rfl⟩⟩
  ·obtain ⟨p1, p2, p3, p4, p5, p6⟩ := vld_some neg L x hne hv
   have hw := wrap64_small x p5 p6
   refine ⟨⟨!neg, L, x⟩, 0, fun u ao cap hc hs hT => neg_ok neg L hR hlen ao cap hc x hv _ (by rw [frm_odd neg (!neg) L x x hne hv, hw, if_pos ⟨p5, p6⟩]) u hs hT, fun h => (by cases h), fun _ => ⟨rfl, ?_⟩⟩
   rw [if_neg (by simpa using hne)]
theorem sign_all (neg : Bool) (L : List Int) (x : Int) (hR : Rg L) (hlen : L.length < 60000000) : ∃ (sv se : Int),
  (∀ u (ao : Option Addr) (cap : Nat), Sl u (.slice ao L.length cap) L → Calls Tryz.prog 26 #[.agg #[.bool neg, .slice ao L.length cap, .int .i64 x]] u fun e w' => e = .returned (.tuple #[.int .i64 sv, .int .i64 se]) ∧ Kept u w') ∧
  (vld ⟨neg, L, x⟩ = false → sv = 0 ∧ se = 7) ∧ (vld ⟨neg, L, x⟩ = true → se = 0 ∧ sv = if L.length = 0 then 0 else if neg = true then -1 else 1) := by
 cases hv : vld ⟨neg, L, x⟩ with
 | false => exact ⟨0, 7, fun u ao cap hs => sign_bad neg L hR hlen ao cap x hv u hs, fun _ => ⟨rfl, rfl⟩, fun h => (by cases h)⟩
 | true => exact ⟨_, 0, fun u ao cap hs => sign_ok neg L hR hlen ao cap x hv u hs, fun h => (by cases h), fun _ => ⟨rfl, rfl⟩⟩
theorem scale_all (w0 : World) (neg : Bool) (L : List Int) (x k0 : Int) (hk0 : -9223372036854775808 ≤ k0 ∧ k0 ≤ 9223372036854775807) (hR : Rg L) (hlen : L.length < 60000000) (ar : Option Addr) (cr : Nat) (hr : ∀ u, Kept w0 u → Sl u (.slice ar L.length cr) L) : ∃ (rr : Nm) (re : Int) (aw : Option Addr) (cw : Nat),
  (∀ u (ao : Option Addr) (cap : Nat), (ao = none → cap = 0) → Sl u (.slice ao L.length cap) L → Tab u → Calls Tryz.prog 27 #[.agg #[.bool neg, .slice ao L.length cap, .int .i64 x], .int .i64 k0] u fun e w' => ∃ v, e = .returned (.tuple #[v, .int .i64 re]) ∧ New u w' v rr ∧ Kept u w') ∧
  (vld ⟨neg, L, x⟩ = false → rr = ⟨false, [], 0⟩ ∧ re = 7) ∧ (vld ⟨neg, L, x⟩ = true → rr.mag.length ≤ L.length ∧ (∀ u, Kept w0 u → Sl u (.slice aw rr.mag.length cw) rr.mag) ∧ ∀ u, Kept w0 u → Calls Tryz.prog 29 #[.agg #[.bool neg, .slice ar L.length cr, .int .i64 x], .int .i64 k0] u fun e w' => e = .returned (.tuple #[.agg #[.bool rr.neg, .slice aw rr.mag.length cw, .int .i64 rr.exp], .int .i64 re]) ∧ Kept u w') := by
 have hy : IntKind.i64.wrap (x + k0) = wrap64 (x + k0) := by rw [wrap_i64]; unfold wrap64; omega
 cases hv : vld ⟨neg, L, x⟩ with
 | false =>
  refine ⟨⟨false, [], 0⟩, 7, none, 0, fun u ao cap hc hs hT => ?_, fun _ => ⟨rfl, rfl⟩, fun h => (by cases h)⟩
  refine (scale_bad neg L hR hlen ao cap hc x k0 _ hy rfl hv u hs hT).mono ?_
  rintro e w' ⟨rfl, k⟩
  exact ⟨_, rfl, new_zero _ _, k⟩
 | true =>
  by_cases hne : L = []
  ·subst hne
   obtain ⟨rfl, rfl⟩ := vld_nil neg x hv
   exact ⟨⟨false, [], 0⟩, 0, ar, cr, fun u ao cap hc hs hT => scale_ok false [] hR hlen ao cap hc 0 k0 _ hy rfl hv _ (frm_nil _ _) u hs hT, fun h => (by cases h), fun _ => ⟨Nat.le_refl _, hr, fun u k => rscale_nil false ar cr 0 k0 u⟩⟩
  ·obtain ⟨p1, p2, p3, p4, p5, p6⟩ := vld_some neg L x hne hv
   have hf := frm_odd neg neg L x (wrap64 (x + k0)) hne hv
   have hww : wrap64 (wrap64 (x + k0)) = wrap64 (x + k0) := by unfold wrap64; omega
   rw [hww] at hf
   obtain ⟨n, hn⟩ : ∃ n, L.length = n + 1 := ⟨L.length - 1, by have := List.length_pos_iff.2 hne; omega⟩
   by_cases hin : -1048576 ≤ wrap64 (x + k0) ∧ wrap64 (x + k0) ≤ 1048576
   ·rw [if_pos hin] at hf
    have hn1 : -3145728 ≤ k0 ∧ k0 ≤ 3145728 ∧ wrap64 (x + k0) = x + k0 := by unfold wrap64 at hin ⊢; omega
    obtain ⟨h1, h2, h3⟩ := hn1
    rw [h3] at hin hf
    have hv2 : vld ⟨neg, L, x + k0⟩ = true := by
     unfold vld at hv ⊢
     dsimp only at hv ⊢
     rw [if_neg hne] at hv ⊢
     unfold vldN at hv ⊢
     simp only [Bool.and_eq_true, decide_eq_true_eq] at hv ⊢
     exact ⟨⟨hv.1.1, hin.1⟩, hin.2⟩
    refine ⟨⟨neg, L, x + k0⟩, 0, ar, cr, fun u ao cap hc hs hT => scale_ok neg L hR hlen ao cap hc x k0 (x + k0) (by rw [hy, h3]) h3 hv _ hf u hs hT, fun h => (by cases h), fun _ => ⟨Nat.le_refl _, hr, fun u k => ?_⟩⟩
    have KA : ∀ t, Kept u t → Calls Tryz.prog 56 #[.agg #[.bool neg, .slice ar L.length cr, .int .i64 (x + k0)]] t fun e w' => e = .returned (if true then .tuple #[.agg #[.bool neg, .slice ar L.length cr, .int .i64 (x + k0)], .int .i64 0] else .tuple #[zeroNum, .int .i64 2]) ∧ Kept t w' := fun t kt => by
     have := answer_any ⟨neg, L, x + k0⟩ hR (by dsimp only; omega) ar cr t (hr t (k.trans kt))
     rw [hv2] at this
     exact this
    dsimp only
    rw [hn] at KA ⊢
    exact rscale_near neg ar n cr x k0 h1 h2 p5 p6 true u KA
   ·rw [if_neg hin] at hf
    refine ⟨⟨false, [], 0⟩, 2, none, 0, fun u ao cap hc hs hT => ?_, fun h => (by cases h), fun _ => ⟨Nat.zero_le _, fun u k => ⟨none, 0, rfl, Nat.le_refl _, by simp [maxLen], fun h => absurd rfl h⟩, fun u k => ?_⟩⟩
    ·refine (scale_no neg L hR hlen ao cap hc x k0 _ hy rfl hv hf u hs hT).mono ?_
     rintro e w' ⟨rfl, k⟩
     exact ⟨_, rfl, new_zero _ _, k⟩
    ·by_cases hfar : k0 < -3145728 ∨ 3145728 < k0
     ·rw [hn]
      exact rscale_far neg ar n cr x k0 hfar u
     ·have h3 : wrap64 (x + k0) = x + k0 := by unfold wrap64; omega
      rw [h3] at hin
      have hv2 : vld ⟨neg, L, x + k0⟩ = false := by
       cases h : vld ⟨neg, L, x + k0⟩
       ·rfl
       ·obtain ⟨-, -, -, -, q5, q6⟩ := vld_some neg L (x + k0) hne h
        exact absurd ⟨q5, q6⟩ hin
      have KA : ∀ t, Kept u t → Calls Tryz.prog 56 #[.agg #[.bool neg, .slice ar L.length cr, .int .i64 (x + k0)]] t fun e w' => e = .returned (if false then .tuple #[.agg #[.bool neg, .slice ar L.length cr, .int .i64 (x + k0)], .int .i64 0] else .tuple #[zeroNum, .int .i64 2]) ∧ Kept t w' := fun t kt => by
       have := answer_any ⟨neg, L, x + k0⟩ hR (by dsimp only; omega) ar cr t (hr t (k.trans kt))
       rw [hv2] at this
       exact this
      rw [hn] at KA ⊢
      exact rscale_near neg ar n cr x k0 (by omega) (by omega) p5 p6 false u KA
def TS (w w' : World) : Prop := ∀ (p : Nat) (cs : Array Value) (fz : Nat × Nat), w.heap[p]? = some (Obj.cells cs 31 fz) → w'.heap[p]? = some (Obj.cells cs 31 fz)
theorem TS.refl (w : World) : TS w w := fun _ _ _ h => h
theorem TS.trans {a b c : World} (h : TS a b) (k : TS b c) : TS a c := fun p cs fz g => k p cs fz (h p cs fz g)
theorem ts_lt {w : World} {p : Nat} {o : Obj} (h : w.heap[p]? = some o) : p < w.heap.size := by
 apply Decidable.byContradiction
 intro g
 rw [Array.getElem?_eq_none (by omega)] at h
 cases h
theorem Kept.ts {a b : World} (k : Kept a b) : TS a b := fun p cs fz h => by
 rw [k.below.block p (ts_lt h)]
 exact h
theorem GrwS.ts {S : List Nat} {a b : World} (k : GrwS S a b) (hS : ∀ p ∈ S, ∀ (cs : Array Value) (fz : Nat × Nat), a.heap[p]? ≠ some (Obj.cells cs 31 fz)) : TS a b := fun p cs fz h => by
 rw [k.block p (ts_lt h) (fun hm => hS p hm cs fz h)]
 exact h
theorem GrwS.ts_new {S : List Nat} {a b : World} (k : GrwS S a b) (hS : ∀ p ∈ S, a.heap.size ≤ p) : TS a b := fun p cs fz h => by
 have hl := ts_lt h
 rw [k.block p hl (fun hm => by have := hS p hm; omega)]
 exact h
theorem Own.ts_ne {w : World} {g cap : Nat} {L : List Int} (h : Own w g cap L) : ∀ p ∈ [g], ∀ (cs : Array Value) (fz : Nat × Nat), w.heap[p]? ≠ some (Obj.cells cs 31 fz) := by
 intro p hp cs fz hc
 obtain ⟨cur, hg, -⟩ := h
 rw [List.mem_singleton.1 hp, hg] at hc
 injection hc with hc
 injection hc with _ ht
 exact absurd ht (by decide)
theorem Rw.ts_ne {w : World} {v : Value} {V : List Value} (h : Rw w v 27 V) : ∀ p ∈ blk v, ∀ (cs : Array Value) (fz : Nat × Nat), w.heap[p]? ≠ some (Obj.cells cs 31 fz) := by
 intro p hp cs fz hc
 rcases h with ⟨-, rfl⟩ | ⟨g, cap, rfl, cur, hg, -⟩
 ·simp [blk] at hp
 ·simp only [blk, List.mem_singleton] at hp
  rw [hp, hg] at hc
  injection hc with hc
  injection hc with _ ht
  exact absurd ht (by decide)
theorem KeepAt.ts_ne {w0 w : World} {kb : Nat} {vL vW : Value} {E : List Ent} (h : KeepAt w0 w kb vL vW E) : ∀ p ∈ kb :: (blk vL ++ blk vW), ∀ (cs : Array Value) (fz : Nat × Nat), w.heap[p]? ≠ some (Obj.cells cs 31 fz) := by
 intro p hp
 rcases List.mem_cons.1 hp with rfl | hp
 ·intro cs fz hc
  rw [h.cells] at hc
  injection hc with hc
  injection hc with _ ht
  exact absurd ht (by decide)
 ·rcases List.mem_append.1 hp with hp | hp
  ·exact h.rows.ts_ne p hp
  ·exact h.was.ts_ne p hp
theorem KeepAt.ts {w0 w w' : World} {kb : Nat} {vL vW : Value} {E : List Ent} (h : KeepAt w0 w kb vL vW E) (k : GrwS (kb :: (blk vL ++ blk vW)) w w') : TS w w' := k.ts h.ts_ne
end Go.Proofs.YtbffekcjdcihpaaGreatDoor
