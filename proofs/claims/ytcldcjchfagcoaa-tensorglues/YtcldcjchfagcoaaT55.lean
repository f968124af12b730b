/- The laws' own moved. -/
import Derived.Test.YtcldcjchfagcoaaT52
import Derived.Test.YtcldcjchfagcoaaT53
import Derived.Test.YtcldcjchfagcoaaT15
namespace Go.Proofs.Ytcldcjchfagcoaa
open Go.ChangeShapes Go.WideShapes Go.ChangeAt Go.RowKit
set_option linter.unusedVariables false
set_option linter.unusedSimpArgs false

abbrev mvW (w : World) (r c n : Int) (s : Value) (vr vc vn : Int) (vs : Value) : World := ((w.alloc (.cells #[.int .i64 r, .int .i64 c, .int .i64 n, s] 24)).alloc (.cells #[.int .i64 vr, .int .i64 vc, .int .i64 vn, vs] 60)).alloc (.cells #[.int .i64 0, .int .i64 0, .int .i64 0, .slice none 0 0] 24)
theorem mv_facts (w : World) (r c n : Int) (s : Value) (vr vc vn : Int) (vs : Value) : M4 (mvW w r c n s vr vc vn vs) w.heap.size (.int .i64 r) (.int .i64 c) (.int .i64 n) s ∧ M4 (mvW w r c n s vr vc vn vs) (w.heap.size + 1) (.int .i64 vr) (.int .i64 vc) (.int .i64 vn) vs ∧ M4 (mvW w r c n s vr vc vn vs) (w.heap.size + 2) (.int .i64 0) (.int .i64 0) (.int .i64 0) (.slice none 0 0) ∧ (∀ o, (mvW w r c n s vr vc vn vs).frozen? ⟨w.heap.size + 2, o, none⟩ = false) ∧ Kept w (mvW w r c n s vr vc vn vs) ∧ (mvW w r c n s vr vc vn vs).heap.size = w.heap.size + 3 := by
  refine ⟨⟨by simp [go_sem], by simp [go_sem], by simp [go_sem], by simp [go_sem]⟩, ⟨by simp [go_sem], by simp [go_sem], by simp [go_sem], by simp [go_sem]⟩, ⟨by simp [go_sem], by simp [go_sem], by simp [go_sem], by simp [go_sem]⟩, fun o => by simp [go_sem], (((Kept.refl w).alloc _ _).alloc _ _).alloc _ _, by simp⟩

set_option maxHeartbeats 2000000 in
set_option maxRecDepth 100000 in
theorem moved_no (r c n vr vc vn fe : Int) (ao : Option Addr) (cap : Nat) (L : List Int) (va : Option Addr) (vl vcp : Nat) (q : Int) (hq0 : q ≠ 0) (h : ckM r c n L = q ∨ (ckM r c n L = 0 ∧ fe = q)) (w : World) (hS : Sl w (.slice ao L.length cap) L) : Calls Try.prog 39 #[.agg #[.int .i64 r, .int .i64 c, .int .i64 n, .slice ao L.length cap], .agg #[.int .i64 vr, .int .i64 vc, .int .i64 vn, .slice va vl vcp], .int .i64 fe] w fun e w' => e = .returned (.tuple #[zeroMat, .int .i64 q]) ∧ Kept w w' := by
  obtain ⟨hM, hV, hR, hF, hK, hs⟩ := mv_facts w r c n (.slice ao L.length cap) vr vc vn (.slice va vl vcp)
  obtain ⟨X, hX⟩ : ∃ X, X = mvW w r c n (.slice ao L.length cap) vr vc vn (.slice va vl vcp) := ⟨_, rfl⟩
  rw [← hX] at hM hV hR hF hK hs
  have KC : Hid (Calls Try.prog 15 #[.agg #[.int .i64 r, .int .i64 c, .int .i64 n, .slice ao L.length cap]] X fun e w' => e = .returned (.int .i64 (ckM r c n L)) ∧ Kept X w') := rcheck_any r c n ao cap L _ (hS.kept hK)
  unfold mvW at hX
  have hqb : (q != 0) = true := by simpa using hq0
  clear hS hq0
  rcases h with h | ⟨h, rfl⟩
  all_goals
    rw [h] at KC
    clear h
    generalize L.length = l at *
    go_enter Try.func39, Try.ntmps39
    go_upto_region 1 with fail
    rw [← hX]
    clear hX
    obtain ⟨m0, m1, m2, m3⟩ := hM
    go_wp2_with (first | (go_at_call 15; refine (KC.out).mono ?_; rintro e w1 ⟨rfl, k1⟩; have hr1 := hR.bl k1.bl; have f1 : ∀ o, w1.frozen? ⟨w.heap.size + 2, o, none⟩ = false := fun o => (k1.frozen _).trans (hF o); obtain ⟨p0, p1, p2, p3⟩ := res4 w1 _ _ _ _ _ hr1 (.int .i64 0) (.int .i64 0) (.int .i64 0) (.slice none 0 0); obtain ⟨r0, r1, r2, r3⟩ := hr1))
    exact bodyPost_ret (by simp [results, Try.results39, go_sem, *]) rfl ⟨rfl, (((hK.trans k1).setCell (p := ⟨w.heap.size + 2, 0, none⟩) (by simp) _).setCell (p := ⟨w.heap.size + 2, 1, none⟩) (by simp) _).setCell (p := ⟨w.heap.size + 2, 2, none⟩) (by simp) _ |>.setCell (p := ⟨w.heap.size + 2, 3, none⟩) (by simp) _⟩

set_option maxHeartbeats 2000000 in
set_option maxRecDepth 100000 in
theorem moved_ok (r c n vr vc vn : Int) (hn : vn = 64 ∨ vn = 32) (b off cap : Nat) (L : List Int) (hck : ckM r c n L = 0) (q : Nat) (hq0 : 0 < q) (hq : q ≤ 100000) (p : Nat → Nat) (hp : ∀ j, j < q → p j < L.length) (hRg : Rgl L) (vs : Value) (Hv : Nat) (w : World) (hb : b < w.heap.size) (hrd : Reads w b off L) (hS : Sl w (.slice (some ⟨b, off, none⟩) L.length cap) L) (hV : MS 2 89 Hv w vs q (prl q (fun _ => 0) p)) : Calls Try.prog 39 #[.agg #[.int .i64 r, .int .i64 c, .int .i64 n, .slice (some ⟨b, off, none⟩) L.length cap], .agg #[.int .i64 vr, .int .i64 vc, .int .i64 vn, vs], .int .i64 0] w fun e w' => ∃ v, e = .returned (.tuple #[.agg #[.int .i64 vr, .int .i64 vc, .int .i64 vn, v], .int .i64 0]) ∧ MR w.heap.size w' v ((lst q (fun j => L.getD (p j) 0)).map (cln · vn)) ∧ Kept w w' := by
  obtain ⟨va, vcp, rfl⟩ := hV.form
  obtain ⟨hM, hVx, hR, hF, hK, hs⟩ := mv_facts w r c n (.slice (some ⟨b, off, none⟩) L.length cap) vr vc vn (.slice va q vcp)
  obtain ⟨X, hX⟩ : ∃ X, X = mvW w r c n (.slice (some ⟨b, off, none⟩) L.length cap) vr vc vn (.slice va q vcp) := ⟨_, rfl⟩
  rw [← hX] at hM hVx hR hF hK hs
  have KC : Hid (Calls Try.prog 15 #[.agg #[.int .i64 r, .int .i64 c, .int .i64 n, .slice (some ⟨b, off, none⟩) L.length cap]] X fun e w' => e = .returned (.int .i64 0) ∧ Kept X w') := by
    have := rcheck_any r c n (some ⟨b, off, none⟩) cap L _ (hS.kept hK)
    rw [hck] at this
    exact this
  have KM : Hid (∀ u, Kept X u → Calls Try.prog 43 #[.agg #[.int .i64 vr, .int .i64 vc, .int .i64 vn, .slice va q vcp], .slice (some ⟨u.heap.size, 0, none⟩) 1 1] (u.alloc (.cells #[.int .i64 r, .int .i64 c, .int .i64 n, .slice (some ⟨b, off, none⟩) L.length cap] 24)) fun e w' => ∃ v, e = .returned (.agg #[.int .i64 vr, .int .i64 vc, .int .i64 vn, v]) ∧ MR (w.heap.size + 3) w' v ((lst q (fun j => L.getD (p j) 0)).map (cln · vn)) ∧ Kept X w') := fun u k => by
    have kA : Kept u (u.alloc (.cells #[.int .i64 r, .int .i64 c, .int .i64 n, .slice (some ⟨b, off, none⟩) L.length cap] 24)) := (Kept.refl u).alloc _ _
    have hwu := (hK.trans k).below.size
    have hxu := k.below.size
    have := rmoved_ok vr vc vn hn q hq0 hq (fun _ => 0) p (fun j => L.getD (p j) 0) (fun i hi => by
      rw [lst_length] at hi
      rw [lst_get _ _ _ hi]
      exact hRg _ (hp i hi)) (.slice va q vcp) Hv u.heap.size 0 1 1 (by decide) (u.alloc (.cells #[.int .i64 r, .int .i64 c, .int .i64 n, .slice (some ⟨b, off, none⟩) L.length cap] 24)) (hV.kept ((hK.trans k).trans kA)) ⟨by simp, fun j hj => ⟨Nat.zero_lt_one, b, off, L.length, cap, by simp [go_sem], hp j hj, by simp; omega, ((hrd.kept hb ((hK.trans k).trans kA)) _ (hp j hj))⟩⟩
    refine this.mono ?_
    rintro e w' ⟨v, rfl, hMR, k'⟩
    exact ⟨v, rfl, hMR.mono (by simp; omega), k.trans (kA.trans k')⟩
  unfold mvW at hX
  obtain ⟨T, hT⟩ : ∃ T, (lst q (fun j => L.getD (p j) 0)).map (cln · vn) = T := ⟨_, rfl⟩
  rw [hT]
  rw [hT] at KM
  clear hS hck hrd hV hRg hp hT
  generalize L.length = l at *
  go_enter Try.func39, Try.ntmps39
  go_upto_region 1 with fail
  rw [← hX]
  clear hX
  have hM' := hM
  obtain ⟨m0, m1, m2, m3⟩ := hM'
  go_upto_region 6 with (first | (go_at_call 15; refine (KC.out).mono ?_; rintro e w1 ⟨rfl, k1⟩))
  clear m0 m1 m2 m3
  obtain ⟨m0, m1, m2, m3⟩ := hM.bl k1.bl
  obtain ⟨v0, v1, v2, v3⟩ := hVx.bl k1.bl
  go_wp2_with (first | (go_at_call 43; refine (KM.out _ k1).mono ?_; rintro e w3 ⟨v, rfl, hMR, k3⟩; obtain ⟨ta, tn, tc, rfl⟩ := hMR.form; have hr3 := hR.bl k3.bl; have f3 : ∀ o, w3.frozen? ⟨w.heap.size + 2, o, none⟩ = false := fun o => (k3.frozen _).trans (hF o); obtain ⟨p0, p1, p2, p3⟩ := res4 w3 _ _ _ _ _ hr3 (.int .i64 vr) (.int .i64 vc) (.int .i64 vn) (.slice ta tn tc); obtain ⟨r0, r1, r2, r3⟩ := hr3))
  have hfin := (((hMR.setOther (p := ⟨w.heap.size + 2, 0, none⟩) (by simp) (.int .i64 vr)).setOther (p := ⟨w.heap.size + 2, 1, none⟩) (by simp) (.int .i64 vc)).setOther (p := ⟨w.heap.size + 2, 2, none⟩) (by simp) (.int .i64 vn)).setOther (p := ⟨w.heap.size + 2, 3, none⟩) (by simp) (.slice ta tn tc)
  refine bodyPost_ret (v := .tuple #[.agg #[.int .i64 vr, .int .i64 vc, .int .i64 vn, .slice ta tn tc], .int .i64 0]) (by simp [results, Try.results39, go_sem, *]) rfl ⟨.slice ta tn tc, rfl, hfin.mono (by omega), (((hK.trans k3).setCell (by simp <;> omega) _).setCell (by simp <;> omega) _).setCell (by simp <;> omega) _ |>.setCell (by simp <;> omega) _⟩
end Go.Proofs.Ytcldcjchfagcoaa
