/- DataBatches. -/
import Derived.Test.YtedghjededicpaaBM2
import Derived.Test.YtedghjededicpaaBM4
namespace Go.Proofs.Ytedghjededicpaa
open Go.ChangeShapes Go.WideShapes Go.ChangeAt Go.RowKit
set_option linter.unusedVariables false
set_option linter.unusedSimpArgs false

theorem divs5 (n s : Nat) (hn : 0 < n) (hs : 0 < s) (b : Nat) (hb : b < (n + s - 1) / s) : b * s < n := by
  have h1 : (b + 1) * s ≤ n + s - 1 := (Nat.le_div_iff_mul_le hs).1 hb
  rw [Nat.succ_mul] at h1
  omega
theorem bord_at5 (L : List Int) (f m i : Nat) (hi : i < m) (hf : f + m ≤ L.length) : (bord L f m).getD (f + i) 0 = (srt (bpt L f m)).getD i 0 := by
  have h1 := bpt_len L f m hf
  have h2 : (L.take f).length = f := by rw [List.length_take]; omega
  unfold bord
  rw [List.getD_eq_getElem?_getD, List.getD_eq_getElem?_getD, List.append_assoc, List.getElem?_append_right (by omega), h2, Nat.add_sub_cancel_left, List.getElem?_append_left (by rw [srt_length, h1]; exact hi)]
theorem bord_len5 (L : List Int) (f m : Nat) (hf : f + m ≤ L.length) : (bord L f m).length = L.length := by
  have h1 := bpt_len L f m hf
  unfold bord
  rw [List.length_append, List.length_append, List.length_take, List.length_drop, srt_length, h1]
  omega
def PL (u : World) (e : Ending) (w' : World) (q : Int) (L : List Int) : Prop := ∃ a c, e = .returned (.tuple #[.slice a L.length c, .int .i64 q]) ∧ Ew w' a c L ∧ (a = none → c = 0) ∧ (∀ b ∈ eb a, u.heap.size ≤ b)
def DL (u : World) (e : Ending) (w' : World) (q : Int) (L : List Int) : Prop := ∃ a c, e = .returned (.tuple #[.slice a L.length c, .int .i64 q]) ∧ Sl w' (.slice a L.length c) L
theorem pl_nil (u w' : World) (q : Int) : PL u (.returned (.tuple #[.slice none 0 0, .int .i64 q])) w' q [] := ⟨none, 0, rfl, .inl ⟨rfl, rfl⟩, fun _ => rfl, fun b hb => by simp [eb] at hb⟩
theorem dl_nil (u w' : World) (q : Int) : DL u (.returned (.tuple #[.slice none 0 0, .int .i64 q])) w' q [] := ⟨none, 0, rfl, none, 0, rfl, by simp, by simp [maxLen], fun h => absurd rfl h⟩
theorem order_any (n sd ep : Int) : ∃ q L, L.length ≤ 4096 ∧ (∀ u, Calls Try.prog 5 #[.int .i64 n, .int .i64 sd, .int .i64 ep] u fun e w' => PL u e w' q L ∧ Kept u w') ∧ (∀ u, Calls Try.prog 6 #[.int .i64 n, .int .i64 sd, .int .i64 ep] u fun e w' => DL u e w' q L ∧ Kept u w') := by
  have err : ∀ q : Int, ((n < 1 ∨ ep < 0) ∧ q = 1 ∨ ¬ (n < 1 ∨ ep < 0) ∧ 4096 < n ∧ q = 2) → ∃ q L, L.length ≤ 4096 ∧ (∀ u, Calls Try.prog 5 #[.int .i64 n, .int .i64 sd, .int .i64 ep] u fun e w' => PL u e w' q L ∧ Kept u w') ∧ (∀ u, Calls Try.prog 6 #[.int .i64 n, .int .i64 sd, .int .i64 ep] u fun e w' => DL u e w' q L ∧ Kept u w') := fun q hq =>
    ⟨q, [], by simp, fun u => (order_e n sd ep q hq u).mono fun e w' ⟨h1, h2⟩ => ⟨by rw [h1]; exact pl_nil u w' q, h2⟩, fun u => (rorder_e n sd ep q hq u).mono fun e w' ⟨h1, h2⟩ => ⟨by rw [h1]; exact dl_nil u w' q, h2⟩⟩
  by_cases h1 : n < 1 ∨ ep < 0
  · exact err 1 (.inl ⟨h1, rfl⟩)
  · by_cases h2 : 4096 < n
    · exact err 2 (.inr ⟨h1, h2, rfl⟩)
    · obtain ⟨m, rfl⟩ : ∃ m : Nat, n = m := ⟨n.toNat, by omega⟩
      have hl := (ech_ord sd ep m (by omega)).len
      refine ⟨0, ord sd ep m, by omega, fun u => (order_ok m (by omega) (by omega) sd ep (by omega) u).mono ?_, fun u => (rorder_ok m (by omega) (by omega) sd ep (by omega) u).mono ?_⟩
      · rintro e w' ⟨g, rfl, h3, h4, h5⟩
        exact ⟨⟨some ⟨g, 0, none⟩, m, by rw [hl], .inr ⟨g, 0, rfl, .of h4⟩, fun h => (by cases h), fun b hb => (by
          have : b = g := by simpa [eb] using hb
          omega)⟩, h5⟩
      · rintro e w' ⟨g, c, rfl, h3, h4, h5⟩
        exact ⟨⟨some ⟨g, 0, none⟩, c, by rw [hl], h4.sl⟩, h5⟩
theorem batches_any (n s : Int) : ∃ q k, (∀ u, Calls Try.prog 7 #[.int .i64 n, .int .i64 s] u fun e w' => e = .returned (.tuple #[.int .i64 k, .int .i64 q]) ∧ Kept u w') ∧ (∀ u, Calls Try.prog 8 #[.int .i64 n, .int .i64 s] u fun e w' => e = .returned (.tuple #[.int .i64 k, .int .i64 q]) ∧ Kept u w') := by
  by_cases h1 : n < 1 ∨ s < 1
  · exact ⟨1, 0, fun u => batches_e n s 1 (.inl ⟨h1, rfl⟩) u, fun u => rbatches_e n s 1 (.inl ⟨h1, rfl⟩) u⟩
  · by_cases h2 : 4096 < n ∨ 256 < s
    · exact ⟨2, 0, fun u => batches_e n s 2 (.inr ⟨h1, h2, rfl⟩) u, fun u => rbatches_e n s 2 (.inr ⟨h1, h2, rfl⟩) u⟩
    · obtain ⟨m, rfl⟩ : ∃ m : Nat, n = m := ⟨n.toNat, by omega⟩
      obtain ⟨t, rfl⟩ : ∃ t : Nat, s = t := ⟨s.toNat, by omega⟩
      exact ⟨0, _, fun u => batches_ok m t _ (by omega) (by omega) (by omega) (by omega) rfl u, fun u => rbatches_ok m t _ (by omega) (by omega) (by omega) (by omega) rfl u⟩
theorem batch_any (n s sd ep b : Int) : ∃ q L, L.length ≤ 4096 ∧ (∀ u, Calls Try.prog 9 #[.int .i64 n, .int .i64 s, .int .i64 sd, .int .i64 ep, .int .i64 b] u fun e w' => PL u e w' q L ∧ Below u.heap.size u w') ∧ (∀ u, Calls Try.prog 10 #[.int .i64 n, .int .i64 s, .int .i64 sd, .int .i64 ep, .int .i64 b] u fun e w' => DL u e w' q L ∧ Kept u w') := by
  have nil : ∀ q : Int, (∀ u, Calls Try.prog 9 #[.int .i64 n, .int .i64 s, .int .i64 sd, .int .i64 ep, .int .i64 b] u fun e w' => e = .returned (.tuple #[.slice none 0 0, .int .i64 q]) ∧ Kept u w') → (∀ u, Calls Try.prog 10 #[.int .i64 n, .int .i64 s, .int .i64 sd, .int .i64 ep, .int .i64 b] u fun e w' => e = .returned (.tuple #[.slice none 0 0, .int .i64 q]) ∧ Kept u w') → ∃ q L, L.length ≤ 4096 ∧ (∀ u, Calls Try.prog 9 #[.int .i64 n, .int .i64 s, .int .i64 sd, .int .i64 ep, .int .i64 b] u fun e w' => PL u e w' q L ∧ Below u.heap.size u w') ∧ (∀ u, Calls Try.prog 10 #[.int .i64 n, .int .i64 s, .int .i64 sd, .int .i64 ep, .int .i64 b] u fun e w' => DL u e w' q L ∧ Kept u w') := fun q K1 K2 =>
    ⟨q, [], by simp, fun u => (K1 u).mono fun e w' ⟨h1, h2⟩ => ⟨by rw [h1]; exact pl_nil u w' q, h2.below⟩, fun u => (K2 u).mono fun e w' ⟨h1, h2⟩ => ⟨by rw [h1]; exact dl_nil u w' q, h2⟩⟩
  by_cases h1 : n < 1 ∨ s < 1
  · exact nil 1 (fun u => pb_e n s sd ep b 1 (by decide) u (fun u => batches_e n s 1 (.inl ⟨h1, rfl⟩) u)) (fun u => rb_e n s sd ep b 1 (by decide) u (fun u => rbatches_e n s 1 (.inl ⟨h1, rfl⟩) u))
  by_cases h2 : 4096 < n ∨ 256 < s
  · exact nil 2 (fun u => pb_e n s sd ep b 2 (by decide) u (fun u => batches_e n s 2 (.inr ⟨h1, h2, rfl⟩) u)) (fun u => rb_e n s sd ep b 2 (by decide) u (fun u => rbatches_e n s 2 (.inr ⟨h1, h2, rfl⟩) u))
  obtain ⟨m, rfl⟩ : ∃ m : Nat, n = m := ⟨n.toNat, by omega⟩
  obtain ⟨t, rfl⟩ : ∃ t : Nat, s = t := ⟨s.toNat, by omega⟩
  have hm : 0 < m := by omega
  have hm4 : m ≤ 4096 := by omega
  have ht : 0 < t := by omega
  have ht4 : t ≤ 256 := by omega
  by_cases h3 : ep < 0
  · exact nil 1 (fun u => pb_o m t sd ep b _ 1 (by decide) u (fun u => batches_ok m t _ hm hm4 ht ht4 rfl u) (fun u => order_e m sd ep 1 (.inl ⟨.inr h3, rfl⟩) u)) (fun u => rb_o m t sd ep b _ 1 (by decide) u (fun u => rbatches_ok m t _ hm hm4 ht ht4 rfl u) (fun u => rorder_e m sd ep 1 (.inl ⟨.inr h3, rfl⟩) u))
  obtain ⟨k, hk⟩ : ∃ k, (m + t - 1) / t = k := ⟨_, rfl⟩
  by_cases h4 : b < 0 ∨ (k : Int) ≤ b
  · exact nil 5 (fun u => pb_i m t k b hm hm4 ht ht4 hk h4 sd ep (by omega) u) (fun u => rb_i m t k b hm hm4 ht ht4 hk h4 sd ep (by omega) u)
  obtain ⟨c, rfl⟩ : ∃ c : Nat, b = c := ⟨b.toNat, by omega⟩
  have hc : c < k := by omega
  have hf := divs5 m t hm ht c (by rw [hk]; exact hc)
  have hc4 : c ≤ 4096 := by
    have := Nat.le_mul_of_pos_right c ht
    omega
  obtain ⟨f, hf'⟩ : ∃ f, c * t = f := ⟨_, rfl⟩
  rw [hf'] at hf
  have hq : (c + 1) * t = f + t := by rw [Nat.succ_mul, hf']
  obtain ⟨r, hr⟩ : ∃ r, min m ((c + 1) * t) = f + r := ⟨min m ((c + 1) * t) - f, by rw [hq]; omega⟩
  have hr0 : 0 < r := by rw [hq] at hr; omega
  have hfr : f + r ≤ m := by rw [hq] at hr; omega
  have hE := ech_ord sd ep m hm4
  have hL := hE.len
  have hb := bpt_len (ord sd ep m) f r (by omega)
  have hS : (srt (bpt (ord sd ep m) f r)).length = r := by rw [srt_length, hb]
  refine ⟨0, srt (bpt (ord sd ep m) f r), by omega, fun u => (batch_ok m t k c f r hm hm4 ht ht4 hk hc hc4 hf' hr hr0 sd ep (by omega) u).mono ?_, fun u => (rbatch_ok m t k c f r hm hm4 ht ht4 hk hc hc4 hf' hr sd ep (by omega) u).mono ?_⟩
  · rintro e w' ⟨g, rfl, h5, h6, h7⟩
    refine ⟨⟨some ⟨g, f, none⟩, r, by rw [hS], .inr ⟨g, f, rfl, m, _, h6, ?_, fun j hj => ?_, .inr hS.symm⟩, fun h => (by cases h), fun b hb => ?_⟩, h7⟩
    · rw [bord_len5 _ _ _ (by omega)]; omega
    · exact bord_at5 _ _ _ _ (by omega) (by omega)
    · have : b = g := by simpa [eb] using hb
      omega
  · rintro e w' ⟨lv, rfl, h5, h6⟩
    obtain ⟨a, cc, h7, -, h8⟩ := h5.sl
    exact ⟨⟨a, cc, by rw [h7], h8⟩, h6⟩
theorem dataBatches_true (n s sd ep b : Int) (w : World) : Calls Try.prog 3 #[.int .i64 n, .int .i64 s, .int .i64 sd, .int .i64 ep, .int .i64 b] w fun e w' => e = .returned (.bool true) ∧ Below w.heap.size w w' := by
  by_cases h : 500 < n ∧ n ≤ 4096
  · exact dbat_far n s sd ep b h.1 h.2 w
  · obtain ⟨e1, La, ha, K1, K2⟩ := order_any n sd ep
    obtain ⟨e2, k, K3, K4⟩ := batches_any n s
    obtain ⟨e3, Lp, hp, K5, K6⟩ := batch_any n s sd ep b
    exact dbat_walk n s sd ep b h e1 e2 e3 k La Lp ha hp w
      (fun u => (K1 u).mono fun e w' ⟨⟨a, c, h1, h2, h3, h4⟩, h5⟩ => ⟨a, c, h1, h2, h3, h4, h5⟩)
      (fun u => (K2 u).mono fun e w' ⟨⟨a, c, h1, h2⟩, h5⟩ => ⟨a, c, h1, h2, h5⟩) K3 K4
      (fun u => (K5 u).mono fun e w' ⟨⟨a, c, h1, h2, h3, h4⟩, h5⟩ => ⟨a, c, h1, h2, h3, h4, h5⟩)
      (fun u => (K6 u).mono fun e w' ⟨⟨a, c, h1, h2⟩, h5⟩ => ⟨a, c, h1, h2, h5⟩)
end Go.Proofs.Ytedghjededicpaa
