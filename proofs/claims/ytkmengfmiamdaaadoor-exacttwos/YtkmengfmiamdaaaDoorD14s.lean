/- The walk of exact's settled: columns are carried, once or twice, and formed. -/
import Derived.Test.YtkmengfmiamdaaaDoorD14
namespace Go.Proofs.YtkmengfmiamdaaaDoor
open Go.ChangeShapes Go.WideShapes Go.ChangeAt Go.RowKit
set_option linter.unusedVariables false
set_option linter.unusedSimpArgs false

def ToldG (g cap : Nat) (Res : Option Nm) (w0 w : World) (e : Ending) : Prop := match Res with | some r => ∃ v, e = .returned v ∧ NewG g cap w0 w v r | none => e = .panicked gaveUp
theorem num_cellsg {w w1 : World} {g : Nat} (h : Grw g (numW w) w1) (hne : g ≠ w.heap.size) : w1.cell? ⟨w.heap.size, 0, none⟩ = some (.bool false) ∧ w1.cell? ⟨w.heap.size, 1, none⟩ = some (.slice none 0 0) ∧ w1.cell? ⟨w.heap.size, 2, none⟩ = some (.int .i64 0) ∧ (∀ o, w1.frozen? ⟨w.heap.size, o, none⟩ = false) :=
  ⟨(grw_new h hne 0).1.trans (by simp [go_sem]), (grw_new h hne 1).1.trans (by simp [go_sem]), (grw_new h hne 2).1.trans (by simp [go_sem]), fun o => (grw_new h hne o).2.trans (by simp [go_sem])⟩
theorem num_doneg {w u0 z : World} {g cap : Nat} {v : Value} {r : Nm} (hN : NewG g cap u0 z v r) (hne : g ≠ w.heap.size) (hu : u0.heap.size ≤ w.heap.size) (hk : Kept u0 z) (a b c : Value) : New u0 (((z.setCell ⟨w.heap.size, 0, none⟩ a).setCell ⟨w.heap.size, 1, none⟩ b).setCell ⟨w.heap.size, 2, none⟩ c) v r ∧ Kept u0 (((z.setCell ⟨w.heap.size, 0, none⟩ a).setCell ⟨w.heap.size, 1, none⟩ b).setCell ⟨w.heap.size, 2, none⟩ c) := by
  constructor
  · rcases hN with h | ⟨e, hg, ho, hne2⟩
    · exact .inl h
    · exact .inr ⟨g, cap, e, hg, ((ho.setOther (by simpa using hne) _).setOther (by simpa using hne) _).setOther (by simpa using hne) _, hne2⟩
  · exact hk.setCell hu _ |>.setCell hu _ |>.setCell hu _

set_option maxHeartbeats 2000000 in
theorem settled_walk (w : World) (n cap g : Nat) (x : Int) (C D1 D2 : List Int) (ng : Bool) (u0 : World) (hk : Kept u0 w) (hg : u0.heap.size ≤ g) (ho : Own w g cap C)
    (KC1 : Hid (∀ u, Own u g cap C → Calls Tryd.prog 99 #[.slice (some ⟨g, 0, none⟩) n cap, .int .i64 1] u fun e w' => e = .returned (.bool ng) ∧ Own w' g cap D1 ∧ Grw g u w'))
    (KC2 : Hid (ng = true → ∀ u, Own u g cap D1 → Calls Tryd.prog 99 #[.slice (some ⟨g, 0, none⟩) n cap, .int .i64 (-1)] u fun e w' => (∃ b, e = .returned (.bool b)) ∧ Own w' g cap D2 ∧ Grw g u w'))
    (Res : Option Nm) (KF : Hid (∀ u, Kept u0 u → Own u g cap (if ng = true then D2 else D1) → Calls Tryd.prog 51 #[.bool ng, .slice (some ⟨g, 0, none⟩) n cap, .int .i64 x] u fun e w' => ToldG g cap Res u0 w' e ∧ Kept u0 w' ∧ Grw g u w'))
    : Calls Tryd.prog 74 #[.slice (some ⟨g, 0, none⟩) n cap, .int .i64 x] w fun e w' => ToldR Res u0 w' e ∧ Kept u0 w' := by
  have hK0 : Kept w (numW w) := (Kept.refl w).alloc _ _
  have hne : g ≠ w.heap.size := by have := ho.lt; omega
  have hu := hk.below.size
  have HO : Hid (Own (numW w) g cap C) := ho.kept hK0
  have HK : Hid (Kept u0 (numW w)) := hk.trans hK0
  clear ho
  go_enter Tryd.func74, Tryd.ntmps74
  go_wp2_with fail
  refine (KC1.out _ HO.out).mono ?_
  rintro e z3 ⟨rfl, oz3, gz3⟩
  cases ng
  · go_wp2_with fail
    refine (KF.out _ (HK.out.grw hg gz3) oz3).mono ?_
    rintro e z5 ⟨hres, k5, g5⟩
    cases Res with
    | none =>
      have hres2 : e = .panicked gaveUp := hres
      subst hres2
      go_wp2
      exact ⟨rfl, rfl, k5⟩
    | some r =>
      obtain ⟨v, rfl, hN⟩ := hres
      obtain ⟨f0, f1, f2, f3⟩ := num_cellsg (gz3.trans g5) hne
      obtain ⟨vn, va, vl, vc, vx, rfl⟩ := hN.new.shape
      go_wp2
      have := num_doneg hN hne hu k5 (.bool vn) (.slice va vl vc) (.int .i64 vx)
      exact bodyPost_ret (v := .agg #[.bool vn, .slice va vl vc, .int .i64 vx]) (by simp [results, Tryd.results74, go_sem, f0, f1, f2]) rfl ⟨⟨_, rfl, this.1⟩, this.2⟩
  · go_wp2_with fail
    refine (KC2.out (by trivial) _ oz3).mono ?_
    rintro e z4 ⟨⟨b4, rfl⟩, oz4, gz4⟩
    go_wp2_with fail
    refine (KF.out _ (HK.out.grw hg (gz3.trans gz4)) oz4).mono ?_
    rintro e z5 ⟨hres, k5, g5⟩
    cases Res with
    | none =>
      have hres2 : e = .panicked gaveUp := hres
      subst hres2
      go_wp2
      exact ⟨rfl, rfl, k5⟩
    | some r =>
      obtain ⟨v, rfl, hN⟩ := hres
      obtain ⟨f0, f1, f2, f3⟩ := num_cellsg ((gz3.trans gz4).trans g5) hne
      obtain ⟨vn, va, vl, vc, vx, rfl⟩ := hN.new.shape
      go_wp2
      have := num_doneg hN hne hu k5 (.bool vn) (.slice va vl vc) (.int .i64 vx)
      exact bodyPost_ret (v := .agg #[.bool vn, .slice va vl vc, .int .i64 vx]) (by simp [results, Tryd.results74, go_sem, f0, f1, f2]) rfl ⟨⟨_, rfl, this.1⟩, this.2⟩

theorem settled_any (w : World) (n cap g : Nat) (x : Int) (C : List Int) (hn : C.length = n) (hn2 : n < 60000000) (hb : ∀ j, -9223372036854775807 ≤ C.getD j 0 ∧ C.getD j 0 ≤ 9223372036854775807) (T : Int) (hT : cv C = T) (h1 : -(2 : Int) ^ (30 * n) < T) (h2 : T < (2 : Int) ^ (30 * n)) (u0 : World) (hTab : Tab u0) (hk : Kept u0 w) (hg : u0.heap.size ≤ g) (ho : Own w g cap C) (Res : Option Nm) (hRes : frm (decide (T < 0)) T.natAbs x = Res) :
    Calls Tryd.prog 74 #[.slice (some ⟨g, 0, none⟩) n cap, .int .i64 x] w fun e w' => ToldR Res u0 w' e ∧ Kept u0 w' := by
  have hcar := carried C T hT (by rw [hn]; exact h1) (by rw [hn]; exact h2)
  have hD1 := cr_dg 1 0 C
  have hD2 := cr_dg (-1) 0 (cr 1 0 C).1
  have lD1 : (cr 1 0 C).1.length = n := by rw [cr_length, hn]
  have lD2 : (cr (-1) 0 (cr 1 0 C).1).1.length = n := by rw [cr_length, lD1]
  refine settled_walk w n cap g x C (cr 1 0 C).1 (cr (-1) 0 (cr 1 0 C).1).1 (decide (T < 0)) u0 hk hg ho ?_ ?_ Res ?_
  · intro u ho
    have := carry_any C 1 (.inl rfl) g cap (by rw [hn]; omega) hb u ho
    rw [hn, hcar.1] at this
    exact this
  · intro hng u ho
    have := carry_any (cr 1 0 C).1 (-1) (.inr rfl) g cap (by rw [lD1]; omega) (fun j => by have := hD1.getD j; omega) u ho
    rw [lD1] at this
    refine this.mono ?_
    rintro e w' ⟨rfl, r⟩
    exact ⟨⟨_, rfl⟩, r⟩
  · intro u k1 ho
    subst hRes
    obtain ⟨D, hDe, hDd, hDl, hDv⟩ : ∃ D, (if decide (T < 0) = true then (cr (-1) 0 (cr 1 0 C).1).1 else (cr 1 0 C).1) = D ∧ Dg D ∧ D.length = n ∧ nv D = T.natAbs := by
      by_cases hneg : T < 0
      · exact ⟨_, by rw [if_pos (decide_eq_true hneg)], hD2, lD2, hcar.2.2 hneg⟩
      · exact ⟨_, by rw [if_neg (by simpa using hneg)], hD1, lD1, hcar.2.1 hneg⟩
    rw [hDe] at ho
    rw [← hDv]
    cases hfr : frm (decide (T < 0)) (nv D) x with
    | none =>
      have hf := form_no (decide (T < 0)) D hDd (by omega) g cap x u ho (hTab.kept k1) hfr
      rw [hDl] at hf
      refine hf.mono ?_
      rintro e w' ⟨rfl, k⟩
      exact ⟨rfl, k1.trans k, k.toGrw g⟩
    | some r =>
      have hf := form_okg (decide (T < 0)) D hDd (by omega) g cap x u0 u k1 hg ho (hTab.kept k1) r hfr
      rw [hDl] at hf
      exact hf
end Go.Proofs.YtkmengfmiamdaaaDoor
