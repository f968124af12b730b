/- The walks of exact's Valid, allValid, fit, digitsOf, trailing. -/
import Derived.Test.YtkmengfmiamdaaaDoorD2
namespace Go.Proofs.YtkmengfmiamdaaaDoor
open Go.ChangeShapes Go.WideShapes Go.ChangeAt Go.RowKit
set_option linter.unusedVariables false

def vldN (n : Nat) (g : Bool) (d d0 x : Int) : Bool := decide ((n : Int) ≤ 2000) && g && (d != 0) && (bits .and .i64 d0 1 == 1) && decide (-1048576 ≤ x) && decide (x ≤ 1048576)

set_option maxHeartbeats 1000000 in
set_option maxRecDepth 100000 in
theorem valid_some (neg : Bool) (n b off cap : Nat) (hn : n < 100000000) (d d0 x : Int) (g : Bool) (w : World) (hb : b < w.heap.size) (h0 : w.cell? ⟨b, off, none⟩ = some (.int .i64 d0)) (h1 : w.cell? ⟨b, off + n, none⟩ = some (.int .i64 d))
    (K : Hid (∀ w' : World, Kept w w' → Calls Tryd.prog 49 #[.slice (some ⟨b, off, none⟩) (n + 1) cap] w' fun e w'' => e = .returned (.bool g) ∧ w' = w'')) :
    Calls Tryd.prog 18 #[.agg #[.bool neg, .slice (some ⟨b, off, none⟩) (n + 1) cap, .int .i64 x]] w fun e w' => e = .returned (.bool (vldN (n + 1) g d d0 x)) ∧ Kept w w' := by
  have hK := (Kept.refl w).alloc #[.bool neg, .slice (some ⟨b, off, none⟩) (n + 1) cap, .int .i64 x] 31
  have c0 := (hK.below.cell (p := ⟨b, off, none⟩) hb).trans h0
  have c1 := (hK.below.cell (p := ⟨b, off + n, none⟩) hb).trans h1
  clear h0 h1
  obtain ⟨r, hr⟩ : ∃ r, r = vldN (n + 1) g d d0 x := ⟨_, rfl⟩
  rw [← hr]
  have HR : Hid (r = vldN (n + 1) g d d0 x) := hr
  clear hr
  go_enter Tryd.func18, Tryd.ntmps18
  go_wp2_with (first | (go_at_call 49; refine (K.out _ hK).mono ?_; rintro e w1 ⟨rfl, rfl⟩))
  all_goals
    go_ret
    refine ⟨?_, hK⟩
    rw [HR.out]
    clear HR c0 c1 K hK
    unfold vldN
    simp_all
    try omega

set_option maxHeartbeats 400000 in
theorem valid_nil (neg : Bool) (ao : Option Addr) (cap : Nat) (x : Int) (w : World) : Calls Tryd.prog 18 #[.agg #[.bool neg, .slice ao 0 cap, .int .i64 x]] w fun e w' => e = .returned (.bool (!neg && x == 0)) ∧ Kept w w' := by
  cases neg
  all_goals
    go_enter Tryd.func18, Tryd.ntmps18
    go_wp2
    go_ret
    exact ⟨by simp, (Kept.refl _).alloc _ _⟩

/-! ### A number as it lies: its sign, its digits, its exponent -/
structure Nm where
  neg : Bool
  mag : List Int
  exp : Int

def vld (x : Nm) : Bool := if x.mag = [] then (!x.neg && x.exp == 0) else vldN x.mag.length (dgb x.mag) (x.mag.getD (x.mag.length - 1) 0) (x.mag.getD 0 0) x.exp
def NumAt (w : World) (v : Value) (x : Nm) : Prop := ∃ s, v = .agg #[.bool x.neg, s, .int .i64 x.exp] ∧ Sl w s x.mag
theorem NumAt.kept {w w' : World} {v : Value} {x : Nm} (h : NumAt w v x) (k : Kept w w') : NumAt w' v x := by
  obtain ⟨s, e, hs⟩ := h
  exact ⟨s, e, hs.kept k⟩

theorem xvalid_any (x : Nm) (hR : Rg x.mag) (hlen : x.mag.length < 100000000) (v : Value) (w : World) (h : NumAt w v x) : Calls Tryd.prog 18 #[v] w fun e w' => e = .returned (.bool (vld x)) ∧ Kept w w' := by
  obtain ⟨neg, L, ex⟩ := x
  dsimp only at hR hlen
  obtain ⟨s, rfl, ao, cap, rfl, hc, hm, hr⟩ := h
  dsimp only at hc hr
  unfold vld
  by_cases hne : L = []
  · subst hne; exact valid_nil neg ao cap ex w
  · obtain ⟨b, off, rfl, hb, hr⟩ := hr hne
    have hpos := List.length_pos_iff.2 hne
    simp only [hne, if_false]
    have K : Hid (∀ w' : World, Kept w w' → Calls Tryd.prog 49 #[.slice (some ⟨b, off, none⟩) L.length cap] w' fun e w'' => e = .returned (.bool (dgb L)) ∧ w' = w'') := fun w' k => areDigits_some L hR b off cap w' hlen (hr.kept hb k)
    have h0 := hr 0 hpos
    have h1 := hr (L.length - 1) (by omega)
    obtain ⟨n, hn⟩ : ∃ n, L.length = n + 1 := ⟨L.length - 1, by omega⟩
    rw [hn] at K h1 hlen ⊢
    rw [Nat.add_sub_cancel] at h1 ⊢
    exact valid_some neg n b off cap (by omega) _ _ ex _ w hb h0 h1 K
end Go.Proofs.YtkmengfmiamdaaaDoor
