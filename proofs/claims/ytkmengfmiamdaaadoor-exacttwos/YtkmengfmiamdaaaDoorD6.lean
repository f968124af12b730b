/- What exact's form gives: the one form of a number, or it gives up. -/
import Derived.Test.YtkmengfmiamdaaaDoorD5
namespace Go.Proofs.YtkmengfmiamdaaaDoor
open Go.ChangeShapes Go.WideShapes Go.ChangeAt Go.RowKit
set_option linter.unusedVariables false

set_option maxHeartbeats 2000000 in
set_option maxRecDepth 100000 in
theorem form_up (neg : Bool) (L : List Int) (hlen : L.length < 100000000) (m : Nat) (hm : m < L.length) (hz : ∀ j, m < j → L.getD j 0 = 0) (hne : L.getD m 0 ≠ 0) (g cap : Nat) (x y : Int) (Z BL : Nat) (lg : Int) (hlg : (BL : Int) - (Z : Int) = lg) (hy0 : wrap64 (x + (Z : Int)) = y) (hno : 60000 < lg ∨ y < -1048576 ∨ 1048576 < y) (hZ : Z < 3000000000) (hBL : BL < 3000000000) (w : World) (h : Own w g cap L)
    (KT : Hid (Calls Tryd.prog 79 #[.slice (some ⟨g, 0, none⟩) L.length cap] (w.alloc (.cells #[.bool false, .slice none 0 0, .int .i64 0] 31)) fun e w' => e = .returned (.int .i64 (Z : Int)) ∧ (w.alloc (.cells #[.bool false, .slice none 0 0, .int .i64 0] 31)) = w'))
    (KL : Hid (Calls Tryd.prog 76 #[.slice (some ⟨g, 0, none⟩) (m + 1) cap] (w.alloc (.cells #[.bool false, .slice none 0 0, .int .i64 0] 31)) fun e w' => e = .returned (.int .i64 (BL : Int)) ∧ (w.alloc (.cells #[.bool false, .slice none 0 0, .int .i64 0] 31)) = w')) : Calls Tryd.prog 51 #[.bool neg, .slice (some ⟨g, 0, none⟩) L.length cap, .int .i64 x] w fun e w' => e = .panicked gaveUp ∧ Kept w w' := by
  have hK := (Kept.refl w).alloc #[.bool false, .slice none 0 0, .int .i64 0] 31
  have HC : Hid (∀ j, j < L.length → (w.alloc (.cells #[.bool false, .slice none 0 0, .int .i64 0] 31)).cell? ⟨g, j, none⟩ = some (.int .i64 (L.getD j 0))) := fun j hj => (h.kept hK).cell j hj
  have hcap : L.length ≤ cap := by obtain ⟨_, _, h1, _⟩ := h; exact h1
  obtain ⟨n, hn⟩ : ∃ n, n = L.length := ⟨_, rfl⟩
  have HN : Hid (n = L.length) := hn
  rw [← hn] at hlen hm HC KT hcap ⊢
  have HZ : Hid (∀ j, m < j → L.getD j 0 = 0) := hz
  clear h hz hn
  go_enter Tryd.func51, Tryd.ntmps51
  go_wp2
  go_loop [7] (fun i => ∃ k : Nat, k ≤ n ∧ m < k ∧ i = .int .i64 k) (fun i => (intOf i).toNat)
  case atStart => exact ⟨n, Nat.le_refl _, hm, rfl⟩
  case round =>
    obtain ⟨k, hk, hmk, rfl⟩ := hrel
    obtain ⟨k, rfl⟩ : ∃ j, k = j + 1 := ⟨k - 1, by omega⟩
    have hc := HC.out k (by omega)
    by_cases hkm : m < k
    · rw [HZ.out k hkm] at hc
      go_wp2
      go_round
      case rel => exact ⟨k, by omega, hkm, by go_num⟩
      case measure => simp [intOf]
    · obtain rfl : k = m := by omega
      have hne2 : (L.getD k 0 == 0) = false := by simpa using hne
      generalize L.getD k 0 = d at *
      go_wp2_with (first | (go_at_call 79; refine KT.out.mono ?_; rintro e w1 ⟨rfl, rfl⟩) | (go_at_call 76; refine KL.out.mono ?_; rintro e w1 ⟨rfl, rfl⟩) | (go_at_call 75; refine (fit_no _ _ hno _).mono ?_; rintro e w1 ⟨rfl, rfl⟩))
      exact ⟨rfl, rfl, hK⟩

/-! ### The one form, as a plain function -/
def frm (neg : Bool) (v : Nat) (x : Int) : Option Nm :=
  if v = 0 then some ⟨false, [], 0⟩ else
  if bl v - tzn v ≤ 60000 ∧ -1048576 ≤ wrap64 (x + (tzn v : Int)) ∧ wrap64 (x + (tzn v : Int)) ≤ 1048576 then some ⟨neg, digs (v / 2 ^ tzn v), wrap64 (x + (tzn v : Int))⟩ else none

def New (w0 w : World) (v : Value) (x : Nm) : Prop :=
  (x = ⟨false, [], 0⟩ ∧ v = zeroNum) ∨ ∃ g cap, v = .agg #[.bool x.neg, .slice (some ⟨g, 0, none⟩) x.mag.length cap, .int .i64 x.exp] ∧ w0.heap.size ≤ g ∧ Own w g cap x.mag ∧ x.mag ≠ []

def NewG (g cap : Nat) (w0 w : World) (v : Value) (x : Nm) : Prop :=
  (x = ⟨false, [], 0⟩ ∧ v = zeroNum) ∨ (v = .agg #[.bool x.neg, .slice (some ⟨g, 0, none⟩) x.mag.length cap, .int .i64 x.exp] ∧ w0.heap.size ≤ g ∧ Own w g cap x.mag ∧ x.mag ≠ [])
theorem NewG.new {g cap : Nat} {w0 w : World} {v : Value} {x : Nm} (h : NewG g cap w0 w v x) : New w0 w v x := by
  rcases h with h | h
  · exact .inl h
  · exact .inr ⟨g, cap, h⟩
theorem New.numAt {w0 w : World} {v : Value} {x : Nm} (h : New w0 w v x) : NumAt w v x := by
  rcases h with ⟨rfl, rfl⟩ | ⟨g, cap, rfl, hg, ho, hne⟩
  · exact ⟨_, rfl, none, 0, rfl, Nat.le_refl _, by simp [maxLen], fun h => absurd rfl h⟩
  · exact ⟨_, rfl, ho.sl⟩
theorem New.kept {w0 w w' : World} {v : Value} {x : Nm} (h : New w0 w v x) (k : Kept w w') : New w0 w' v x := by
  rcases h with h | ⟨g, cap, e, hg, ho, hne⟩
  · exact .inl h
  · exact .inr ⟨g, cap, e, hg, ho.kept k, hne⟩
theorem New.from {w0 w1 w : World} {v : Value} {x : Nm} (h : New w1 w v x) (k : Kept w0 w1) : New w0 w v x := by
  rcases h with h | ⟨g, cap, e, hg, ho, hne⟩
  · exact .inl h
  · exact .inr ⟨g, cap, e, Nat.le_trans k.below.size hg, ho, hne⟩

theorem bl_sub (v : Nat) (hv : v ≠ 0) : bl v = bl (v / 2 ^ tzn v) + tzn v ∧ v / 2 ^ tzn v ≠ 0 := by
  obtain ⟨h1, h2⟩ := tzn_div v hv
  generalize v / 2 ^ tzn v = o at *
  have : bl v = bl (o * 2 ^ tzn v) := by rw [← h2]
  rw [this, bl_mul _ _ (by omega)]
  exact ⟨rfl, by omega⟩
theorem digs_len (n : Nat) (h : n ≠ 0) : (digs n).length = (bl n + 29) / 30 := by
  have h1 := bl_pos n h
  obtain ⟨k, hk⟩ : ∃ k, (bl n + 29) / 30 = k + 1 := ⟨(bl n + 29) / 30 - 1, by omega⟩
  have a := digs_length_le n (k + 1) (Nat.lt_of_lt_of_le h1.2.1 (Nat.pow_le_pow_right (by decide) (by omega)))
  have b := digs_length_ge n k (Nat.le_trans (Nat.pow_le_pow_right (by decide) (by omega)) h1.1)
  omega
theorem top_at (L : List Int) (h : ¬ ∀ j, L.getD j 0 = 0) : ∃ m, m < L.length ∧ (∀ j, m < j → L.getD j 0 = 0) ∧ L.getD m 0 ≠ 0 := by
  induction L with
  | nil => exact absurd (fun j => by simp) h
  | cons d L ih =>
    by_cases hL : ∀ j, L.getD j 0 = 0
    · refine ⟨0, by simp, fun j hj => ?_, ?_⟩
      · obtain ⟨i, rfl⟩ : ∃ i, j = i + 1 := ⟨j - 1, by omega⟩
        rw [List.getD_cons_succ]; exact hL i
      · intro h0
        apply h
        intro j
        cases j with
        | zero => exact h0
        | succ i => rw [List.getD_cons_succ]; exact hL i
    · obtain ⟨m, h1, h2, h3⟩ := ih hL
      refine ⟨m + 1, by simpa using h1, fun j hj => ?_, by rw [List.getD_cons_succ]; exact h3⟩
      obtain ⟨i, rfl⟩ : ∃ i, j = i + 1 := ⟨j - 1, by omega⟩
      rw [List.getD_cons_succ]; exact h2 i (by omega)
theorem low_at (L : List Int) (h : ¬ ∀ j, L.getD j 0 = 0) : ∃ m, m < L.length ∧ (∀ j, j < m → L.getD j 0 = 0) ∧ L.getD m 0 ≠ 0 := by
  induction L with
  | nil => exact absurd (fun j => by simp) h
  | cons d L ih =>
    by_cases hd : d = 0
    · have hL : ¬ ∀ j, L.getD j 0 = 0 := fun hL => h (fun j => by
        cases j with
        | zero => simpa using hd
        | succ i => rw [List.getD_cons_succ]; exact hL i)
      obtain ⟨m, h1, h2, h3⟩ := ih hL
      refine ⟨m + 1, by simpa using h1, fun j hj => ?_, by rw [List.getD_cons_succ]; exact h3⟩
      cases j with
      | zero => simpa using hd
      | succ i => rw [List.getD_cons_succ]; exact h2 i (by omega)
    · exact ⟨0, by simp, fun j hj => by omega, by simpa using hd⟩
theorem nv_take (L : List Int) (h : Dg L) (m : Nat) (hz : ∀ j, m < j → L.getD j 0 = 0) : nv (L.take (m + 1)) = nv L := by
  have e := nv_append (L.take (m + 1)) (L.drop (m + 1))
  rw [List.take_append_drop] at e
  have : nv (L.drop (m + 1)) = 0 := by
    rw [nv_zero _ (fun d hd => h d (List.mem_of_mem_drop hd))]
    intro i
    have := hz (m + 1 + i) (by omega)
    rw [List.getD_eq_getElem?_getD] at this ⊢
    rw [List.getElem?_drop]
    exact this
  rw [this] at e
  omega
theorem dg_take (L : List Int) (h : Dg L) (m : Nat) : Dg (L.take m) := fun d hd => h d (List.mem_of_mem_take hd)

/-- What trailing and length tell on the way. -/
theorem form_ways (L : List Int) (hL : Dg L) (hlen : L.length < 60000000) (g cap : Nat) (hv : nv L ≠ 0) (w : World) (h : Own w g cap L) (hT : Tab w) :
    ∃ m, m < L.length ∧ (∀ j, m < j → L.getD j 0 = 0) ∧ L.getD m 0 ≠ 0 ∧ tzn (nv L) < 2000000000 ∧ bl (nv L) < 3000000000 ∧ bl (nv L) ≤ 30 * (m + 1) ∧
      Hid (Calls Tryd.prog 79 #[.slice (some ⟨g, 0, none⟩) L.length cap] (w.alloc (.cells #[.bool false, .slice none 0 0, .int .i64 0] 31)) fun e w' => e = .returned (.int .i64 (tzn (nv L) : Int)) ∧ (w.alloc (.cells #[.bool false, .slice none 0 0, .int .i64 0] 31)) = w') ∧
      Hid (Calls Tryd.prog 76 #[.slice (some ⟨g, 0, none⟩) (m + 1) cap] (w.alloc (.cells #[.bool false, .slice none 0 0, .int .i64 0] 31)) fun e w' => e = .returned (.int .i64 (bl (nv L) : Int)) ∧ (w.alloc (.cells #[.bool false, .slice none 0 0, .int .i64 0] 31)) = w') := by
  have hnz : ¬ ∀ j, L.getD j 0 = 0 := fun hz => hv ((nv_zero L hL).2 hz)
  obtain ⟨m, hm, hz, hne⟩ := top_at L hnz
  obtain ⟨t, ht, htz, htn⟩ := low_at L hnz
  have hK := (Kept.refl w).alloc #[.bool false, .slice none 0 0, .int .i64 0] 31
  have hO := h.kept hK
  have hb := bl_le _ _ (nv_lt _ (dg_take L hL (m + 1)))
  rw [nv_take L hL m hz, List.length_take, Nat.min_eq_left (by omega)] at hb
  have hs := bl_sub _ hv
  have hq := (bl_pos _ hs.2).2.2
  refine ⟨m, hm, hz, hne, by omega, by omega, hb, ?_, ?_⟩
  · exact trailing_some L hL (by omega) t ht htz htn g 0 cap _ hO.reads (hT.kept hK)
  · have := length_any (L.take (m + 1)) ⟨dg_take L hL _, fun _ => ?_⟩ (by simp; omega) _ _ (hO.slTake (m + 1) (by omega))
    · rw [nv_take L hL m hz] at this
      exact this
    · rw [List.length_take, Nat.min_eq_left (by omega), Nat.add_sub_cancel, List.getD_eq_getElem?_getD, List.getElem?_take, if_pos (by omega), ← List.getD_eq_getElem?_getD]
      exact hne

theorem form_no (neg : Bool) (L : List Int) (hL : Dg L) (hlen : L.length < 60000000) (g cap : Nat) (x : Int) (w : World) (h : Own w g cap L) (hT : Tab w) (hf : frm neg (nv L) x = none) : Calls Tryd.prog 51 #[.bool neg, .slice (some ⟨g, 0, none⟩) L.length cap, .int .i64 x] w fun e w' => e = .panicked gaveUp ∧ Kept w w' := by
  unfold frm at hf
  by_cases hv : nv L = 0
  · rw [if_pos hv] at hf; cases hf
  · rw [if_neg hv] at hf
    split at hf
    · cases hf
    · rename_i hno
      obtain ⟨m, hm, hz, hne, hZ, hB, hBm, KT, KL⟩ := form_ways L hL hlen g cap hv w h hT
      have hs := bl_sub _ hv
      exact form_up neg L (by omega) m hm hz hne g cap x _ _ _ _ rfl rfl (by omega) (by omega) hB w h KT KL

theorem form_okg (neg : Bool) (L : List Int) (hL : Dg L) (hlen : L.length < 60000000) (g cap : Nat) (x : Int) (w0 w : World) (hk : Kept w0 w) (hg : w0.heap.size ≤ g) (h : Own w g cap L) (hT : Tab w) (r : Nm) (hf : frm neg (nv L) x = some r) : Calls Tryd.prog 51 #[.bool neg, .slice (some ⟨g, 0, none⟩) L.length cap, .int .i64 x] w fun e w' => (∃ v, e = .returned v ∧ NewG g cap w0 w' v r) ∧ Kept w0 w' ∧ Grw g w w' := by
  unfold frm at hf
  by_cases hv : nv L = 0
  · rw [if_pos hv] at hf
    cases hf
    refine (form_zero neg L (by omega) ((nv_zero L hL).1 hv) g cap x w h).mono ?_
    rintro e w' ⟨rfl, k⟩
    exact ⟨⟨_, rfl, .inl ⟨rfl, rfl⟩⟩, hk.trans k, k.toGrw g⟩
  · rw [if_neg hv] at hf
    split at hf
    · rename_i hyes
      cases hf
      obtain ⟨m, hm, hz, hne, hZ, hB, hBm, KT, KL⟩ := form_ways L hL hlen g cap hv w h hT
      have hs := bl_sub _ hv
      have hq := (bl_pos _ hs.2).2.2
      have hdl := digs_len _ hs.2
      refine (form_main neg L (by omega) m hm hz hne g cap x _ _ _ (digs (nv L / 2 ^ tzn (nv L))).length _ rfl (by omega) (by omega) (by omega) rfl hyes.2.1 hyes.2.2 hZ hB (by omega) w h KT KL).mono ?_
      rintro e w' ⟨M, rfl, hO, hC, hM, hG⟩
      have hO2 := hO.take _ hC
      have e1 : M.take (digs (nv L / 2 ^ tzn (nv L))).length = digs (nv L / 2 ^ tzn (nv L)) := by
        apply List.ext_getElem?
        intro j
        rw [List.getElem?_take]
        split
        · rename_i hj
          have h1 := hM j hj
          have h2 := pcq_eq L hL ((tzn (nv L) / 30 + j : Nat) : Int) (tzn (nv L) % 30) (by omega)
          have h3 := nv_getD _ (dg_digs (nv L / 2 ^ tzn (nv L))) j
          have h4 := (dg_digs (nv L / 2 ^ tzn (nv L))).getD j
          rw [nv_digs] at h3
          rw [h2, show 30 * ((tzn (nv L) / 30 + j : Nat) : Int) + ((tzn (nv L) % 30 : Nat) : Int) = ((tzn (nv L) + 30 * j : Nat) : Int) by omega] at h1
          unfold pcz at h1
          rw [if_pos (by omega), Int.toNat_natCast, Nat.pow_add, ← Nat.div_div_eq_div_mul, ← h3] at h1
          rw [List.getElem?_eq_getElem hj, List.getElem?_eq_getElem (by omega)]
          rw [List.getD_eq_getElem?_getD, List.getElem?_eq_getElem (by omega)] at h1
          rw [List.getD_eq_getElem?_getD, List.getElem?_eq_getElem hj] at h1 h4
          simp only [Option.getD_some] at h1 h4
          congr 1
          omega
        · rename_i hj
          rw [List.getElem?_eq_none (by omega)]
      rw [e1] at hO2
      have hne3 : digs (nv L / 2 ^ tzn (nv L)) ≠ [] := by
        intro hh
        rw [hh] at hdl
        simp only [List.length_nil] at hdl
        omega
      exact ⟨⟨_, rfl, .inr ⟨rfl, hg, hO2, hne3⟩⟩, hk.grw hg hG, hG⟩
    · cases hf
theorem form_ok (neg : Bool) (L : List Int) (hL : Dg L) (hlen : L.length < 60000000) (g cap : Nat) (x : Int) (w0 w : World) (hk : Kept w0 w) (hg : w0.heap.size ≤ g) (h : Own w g cap L) (hT : Tab w) (r : Nm) (hf : frm neg (nv L) x = some r) : Calls Tryd.prog 51 #[.bool neg, .slice (some ⟨g, 0, none⟩) L.length cap, .int .i64 x] w fun e w' => (∃ v, e = .returned v ∧ New w0 w' v r) ∧ Kept w0 w' := (form_okg neg L hL hlen g cap x w0 w hk hg h hT r hf).mono fun _ _ h => ⟨let ⟨v, h1, h2⟩ := h.1; ⟨v, h1, h2.new⟩, h.2.1⟩
end Go.Proofs.YtkmengfmiamdaaaDoor
