/- The walks of the closures that clone and form: Make's, Neg's, Scale's. -/
import Derived.Test.YtkmengfmiamdaaaDoorD8
namespace Go.Proofs.YtkmengfmiamdaaaDoor
open Go.ChangeShapes Go.WideShapes Go.ChangeAt Go.RowKit
set_option linter.unusedVariables false
set_option linter.unusedSimpArgs false

set_option maxHeartbeats 1000000 in
set_option maxRecDepth 100000 in
theorem make_in_ok (neg : Bool) (x : Int) (L : List Int) (hL : Dg L) (hlen : L.length < 60000000) (ao : Option Addr) (cap : Nat) (hcap : ao = none → cap = 0) (r : Nm) (hf : frm (neg) (nv L) (x) = some r) (p q s : Nat) (w : World) (hp : p < w.heap.size) (hq : q < w.heap.size) (hs : s < w.heap.size) (h : Sl w (.slice ao L.length cap) L) (hT : Tab w)
    (c0 : w.cell? ⟨p, 0, none⟩ = some (.bool neg)) (c1 : w.cell? ⟨q, 0, none⟩ = some (.slice ao L.length cap)) (c2 : w.cell? ⟨s, 0, none⟩ = some (.int .i64 x)) : Calls Tryd.prog 50 #[.pointer (some ⟨p, 0, none⟩), .pointer (some ⟨q, 0, none⟩), .pointer (some ⟨s, 0, none⟩)] w fun e w' => (∃ v, e = .returned v ∧ New w w' v r) ∧ Kept w w' := by
  have hK := (Kept.refl w).alloc #[.bool false, .slice none 0 0, .int .i64 0] 31
  have C0 : Hid (∀ u, Kept w u → u.cell? ⟨p, 0, none⟩ = some (.bool neg)) := fun u k => (k.below.cell (p := ⟨p, 0, none⟩) hp).trans c0
  have C1 : Hid (∀ u, Kept w u → u.cell? ⟨q, 0, none⟩ = some (.slice ao L.length cap)) := fun u k => (k.below.cell (p := ⟨q, 0, none⟩) hq).trans c1
  have C2 : Hid (∀ u, Kept w u → u.cell? ⟨s, 0, none⟩ = some (.int .i64 x)) := fun u k => (k.below.cell (p := ⟨s, 0, none⟩) hs).trans c2
  have KC : Hid (∀ u, Kept w u → Calls Tryd.prog 52 #[.slice ao L.length cap] u fun e w' => (∃ sv, e = .returned sv ∧ Cl u w' sv L) ∧ Kept u w') := fun u k => clone_any L (by omega) ao cap hcap u (h.kept k)
  have KF : Hid (∀ u0 u sv, Kept w u0 → Kept u0 u → Cl u0 u sv L → Calls Tryd.prog 51 #[.bool (neg), sv, .int .i64 (x)] u fun e w' => (∃ v, e = .returned v ∧ New u0 w' v r) ∧ Kept u0 w') := fun u0 u sv k0 k1 hc => form_cl_ok (neg) L hL hlen sv (x) u0 u k1 hc (hT.kept (k0.trans k1)) r hf
  clear c0 c1 c2 h hT hf
  generalize L.length = n at *
  have hD : Kept (numW w) (numW w).drew := (Kept.refl _).drew
  have HS : Hid (∀ u, Kept w u → Kept w u ∧ u.cell? ⟨p, 0, none⟩ = some (.bool neg) ∧ u.cell? ⟨q, 0, none⟩ = some (.slice ao n cap) ∧ u.cell? ⟨s, 0, none⟩ = some (.int .i64 x)) := fun u k => ⟨k, C0.out u k, C1.out u k, C2.out u k⟩
  go_enter Tryd.func50, Tryd.ntmps50
  go_wp2
  go_region_held (fun u => Kept w u ∧ u.cell? ⟨p, 0, none⟩ = some (.bool neg) ∧ u.cell? ⟨q, 0, none⟩ = some (.slice ao n cap) ∧ u.cell? ⟨s, 0, none⟩ = some (.int .i64 x)) (first | exact HS.out _ hK.drew | assumption | exact HS.out _ ((num_done hN k2 _ _ _).2)) (first | (go_at_call 52; refine (KC.out _ hK.drew).mono ?_; rintro e u1 ⟨⟨sv, rfl, hcl⟩, k1⟩; have e0 := HS.out _ (hK.drew.trans k1)) | (go_at_call 51; refine (KF.out (numW w) _ _ hK (hD.trans k1) (hcl.from hD)).mono ?_; rintro e u2 ⟨⟨v, rfl, hN⟩, k2⟩; obtain ⟨f0, f1, f2, f3⟩ := num_cells k2; obtain ⟨vn, va, vl, vc, vx, rfl⟩ := hN.shape; have e0 := HS.out _ (hK.trans k2)))
  all_goals
    go_wp2
    refine bodyPost_ret (v := .agg #[.bool vn, .slice va vl vc, .int .i64 vx]) (by simp [results, Tryd.results50, go_sem, f0, f1, f2]) rfl ?_
    have := num_done hN k2 (.bool vn) (.slice va vl vc) (.int .i64 vx)
    exact ⟨⟨_, rfl, this.1⟩, this.2⟩

set_option maxHeartbeats 1000000 in
set_option maxRecDepth 100000 in
theorem make_in_no (neg : Bool) (x : Int) (L : List Int) (hL : Dg L) (hlen : L.length < 60000000) (ao : Option Addr) (cap : Nat) (hcap : ao = none → cap = 0)  (hf : frm (neg) (nv L) (x) = none) (p q s : Nat) (w : World) (hp : p < w.heap.size) (hq : q < w.heap.size) (hs : s < w.heap.size) (h : Sl w (.slice ao L.length cap) L) (hT : Tab w)
    (c0 : w.cell? ⟨p, 0, none⟩ = some (.bool neg)) (c1 : w.cell? ⟨q, 0, none⟩ = some (.slice ao L.length cap)) (c2 : w.cell? ⟨s, 0, none⟩ = some (.int .i64 x)) : Calls Tryd.prog 50 #[.pointer (some ⟨p, 0, none⟩), .pointer (some ⟨q, 0, none⟩), .pointer (some ⟨s, 0, none⟩)] w fun e w' => e = .panicked gaveUp ∧ Kept w w' := by
  have hK := (Kept.refl w).alloc #[.bool false, .slice none 0 0, .int .i64 0] 31
  have C0 : Hid (∀ u, Kept w u → u.cell? ⟨p, 0, none⟩ = some (.bool neg)) := fun u k => (k.below.cell (p := ⟨p, 0, none⟩) hp).trans c0
  have C1 : Hid (∀ u, Kept w u → u.cell? ⟨q, 0, none⟩ = some (.slice ao L.length cap)) := fun u k => (k.below.cell (p := ⟨q, 0, none⟩) hq).trans c1
  have C2 : Hid (∀ u, Kept w u → u.cell? ⟨s, 0, none⟩ = some (.int .i64 x)) := fun u k => (k.below.cell (p := ⟨s, 0, none⟩) hs).trans c2
  have KC : Hid (∀ u, Kept w u → Calls Tryd.prog 52 #[.slice ao L.length cap] u fun e w' => (∃ sv, e = .returned sv ∧ Cl u w' sv L) ∧ Kept u w') := fun u k => clone_any L (by omega) ao cap hcap u (h.kept k)
  have KF : Hid (∀ u0 u sv, Kept w u0 → Kept u0 u → Cl u0 u sv L → Calls Tryd.prog 51 #[.bool (neg), sv, .int .i64 (x)] u fun e w' => e = .panicked gaveUp ∧ Kept u0 w') := fun u0 u sv k0 k1 hc => form_cl_no (neg) L hL hlen sv (x) u0 u k1 hc (hT.kept (k0.trans k1)) hf
  clear c0 c1 c2 h hT hf
  generalize L.length = n at *
  have hD : Kept (numW w) (numW w).drew := (Kept.refl _).drew
  have HS : Hid (∀ u, Kept w u → Kept w u ∧ u.cell? ⟨p, 0, none⟩ = some (.bool neg) ∧ u.cell? ⟨q, 0, none⟩ = some (.slice ao n cap) ∧ u.cell? ⟨s, 0, none⟩ = some (.int .i64 x)) := fun u k => ⟨k, C0.out u k, C1.out u k, C2.out u k⟩
  go_enter Tryd.func50, Tryd.ntmps50
  go_wp2
  refine wp_region_held_drew (S := fun u => Kept w u ∧ u.cell? ⟨p, 0, none⟩ = some (.bool neg) ∧ u.cell? ⟨q, 0, none⟩ = some (.slice ao n cap) ∧ u.cell? ⟨s, 0, none⟩ = some (.int .i64 x)) (by kernel_rfl) (HS.out _ hK.drew) (fun hHeld => ?_)
  refine wpAnyH_take (i := 0) (v := ?_) rfl (by kernel_rfl) (by kernel_rfl) (by kernel_rfl) (fun _ _ _ h => h) (Or.inl ⟨by rfl, ?hy0⟩) (by assumption) ?_
  case hy0 => (intro w hSw; (try dsimp only at hSw); go_simp; try (with_reducible rfl))
  try simp only [Act.put, List.setIfInBounds_toArray, List.set_cons_zero, List.set_cons_succ]
  refine wpAnyH_take (i := 1) (v := ?_) rfl (by kernel_rfl) (by kernel_rfl) (by kernel_rfl) (fun _ _ _ h => h) (Or.inl ⟨by rfl, ?hy1⟩) (by assumption) ?_
  case hy1 => (intro w hSw; (try dsimp only at hSw); go_simp; try (with_reducible rfl))
  try simp only [Act.put, List.setIfInBounds_toArray, List.set_cons_zero, List.set_cons_succ]
  refine wpAnyH_take (i := 3) (v := ?_) rfl (by kernel_rfl) (by kernel_rfl) (by kernel_rfl) (fun _ _ _ h => h) (Or.inl ⟨by rfl, ?hy3⟩) (by assumption) ?_
  case hy3 => (intro w hSw; (try dsimp only at hSw); go_simp; try (with_reducible rfl))
  try simp only [Act.put, List.setIfInBounds_toArray, List.set_cons_zero, List.set_cons_succ]
  refine wpAnyH_ready (rs := [2]) (by kernel_rfl) (by simp) ?_
  refine AllReadyH.cons rfl (fun K hK0 => ?_) AllReadyH.nil
  go_simp
  go_wp2_with (first | (go_at_call 52; refine (KC.out _ hK.drew).mono ?_; rintro e u1 ⟨⟨sv, rfl, hcl⟩, k1⟩; have e0 := HS.out _ (hK.drew.trans k1)))
  refine hK0.out _ _ e0 (fun hHeld => ?_)
  clear hK0 K
  refine wpAnyH_ready (rs := [4]) (by kernel_rfl) (by simp) ?_
  refine AllReadyH.cons rfl (fun K hK0 => ?_) AllReadyH.nil
  go_simp
  go_wp2_with (first | (go_at_call 51; refine (KF.out (numW w) _ _ hK (hD.trans k1) (hcl.from hD)).mono ?_; rintro e u2 ⟨rfl, k2⟩; have e0 := HS.out _ (hK.trans k2)))
  all_goals exact ⟨rfl, rfl, hK.trans k2⟩

end Go.Proofs.YtkmengfmiamdaaaDoor
