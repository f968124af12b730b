/- The laws of chapter 23: alive. -/
import Derived.Test.YtphkdkenopkbbaaWA
import Derived.Test.YtphkdkenopkbbaaWB
namespace Go.Proofs.Ytphkdkenopkbbaa
open Go.ChangeShapes Go.WideShapes Go.ChangeAt Go.RowKit
set_option linter.unusedVariables false
set_option linter.unusedSimpArgs false

theorem MsV.get {H : Nat} {w : World} : ∀ {l : List Mat} {V : List Value}, MsV H w l V → ∀ (i : Nat) (m : Mat), l[i]? = some m → ∃ g, Own w g m.L.length m.L ∧ V[i * 4]? = some (.int .i64 m.r) ∧ V[i * 4 + 1]? = some (.int .i64 m.c) ∧ V[i * 4 + 2]? = some (.int .i64 m.n) ∧ V[i * 4 + 3]? = some (.slice (some ⟨g, 0, none⟩) m.L.length m.L.length)
  | [], _, _, i, m, hi => by simp at hi
  | x :: l, _, ⟨g, V', e, hg, ho, h⟩, 0, m, hi => by
    cases hi
    subst e
    exact ⟨g, ho, rfl, rfl, rfl, rfl⟩
  | x :: l, _, ⟨g, V', e, hg, ho, h⟩, i + 1, m, hi => by
    obtain ⟨g2, ho2, h0, h1, h2, h3⟩ := MsV.get h i m (by simpa using hi)
    subst e
    refine ⟨g2, ho2, ?_, ?_, ?_, ?_⟩
    · rw [List.getElem?_append_right (by show 4 ≤ _; omega), show (i + 1) * 4 - (mc4 x g).length = i * 4 by show (i + 1) * 4 - 4 = _; omega]; exact h0
    · rw [List.getElem?_append_right (by show 4 ≤ _; omega), show (i + 1) * 4 + 1 - (mc4 x g).length = i * 4 + 1 by show (i + 1) * 4 + 1 - 4 = _; omega]; exact h1
    · rw [List.getElem?_append_right (by show 4 ≤ _; omega), show (i + 1) * 4 + 2 - (mc4 x g).length = i * 4 + 2 by show (i + 1) * 4 + 2 - 4 = _; omega]; exact h2
    · rw [List.getElem?_append_right (by show 4 ≤ _; omega), show (i + 1) * 4 + 3 - (mc4 x g).length = i * 4 + 3 by show (i + 1) * 4 + 3 - 4 = _; omega]; exact h3
theorem LsV.ml {H : Nat} {w : World} {v : Value} {l : List Mat} (h : LsV H w v l) : MlI w v l := by
  obtain ⟨V, hM, hV⟩ := h
  rcases hM with ⟨h0, -, rfl⟩ | ⟨g, cap, rfl, -, -, hc, hO⟩
  · have : l = [] := List.length_eq_zero_iff.1 h0
    subst this
    exact ⟨none, 0, rfl, Nat.le_refl _, fun h => absurd rfl h⟩
  · refine ⟨_, cap, rfl, hc, fun _ => ⟨g, 0, rfl, fun i m hi => ?_⟩⟩
    obtain ⟨b, ho, h0, h1, h2, h3⟩ := hV.get i m hi
    rw [Nat.zero_add]
    exact ⟨_, _, hO.cell _ _ h0, hO.cell _ _ h1, hO.cell _ _ h2, hO.cell _ _ h3, ho.sl⟩
theorem SsV.get {H : Nat} {w : World} : ∀ {Q : List (List Mat)} {V : List Value}, SsV H w Q V → ∀ (i : Nat) (l : List Mat), Q[i]? = some l → ∃ v, V[i]? = some v ∧ LsV H w v l
  | [], _, _, i, m, hi => by simp at hi
  | x :: l, _, ⟨v, V', e, h1, h⟩, 0, m, hi => by
    cases hi
    subst e
    exact ⟨v, rfl, h1⟩
  | x :: l, _, ⟨v, V', e, h1, h⟩, i + 1, m, hi => by
    obtain ⟨u, h2, h3⟩ := SsV.get h i m (by simpa using hi)
    subst e
    exact ⟨u, by simpa using h2, h3⟩
theorem LlV.ll {H : Nat} {w : World} {v : Value} {Q : List (List Mat)} (h : LlV H w v Q) : LlI w v Q := by
  obtain ⟨V, hM, hV⟩ := h
  rcases hM with ⟨h0, -, rfl⟩ | ⟨g, cap, rfl, -, -, hc, hO⟩
  · have : Q = [] := List.length_eq_zero_iff.1 h0
    subst this
    exact ⟨none, 0, rfl, Nat.le_refl _, fun h => absurd rfl h⟩
  · refine ⟨_, cap, rfl, hc, fun _ => ⟨g, 0, rfl, fun i l hi => ?_⟩⟩
    obtain ⟨u, h1, h2⟩ := hV.get i l hi
    rw [Nat.zero_add]
    exact ⟨u, hO.cell _ _ h1, h2.ml⟩
theorem StV.st {H : Nat} {w : World} {v : Value} {s : Sta} (h : StV H w v s) : StI w v s := by
  obtain ⟨pv, qv, e, h1, h2⟩ := h
  exact ⟨pv, qv, e, h1.ml, h2.ll⟩
/-- Bytes that one owns. -/
theorem own_br {w : World} {g C : Nat} {B : List Int} (h : OwnV w g C 5 (B.map (Value.int .u8))) : B ≠ [] → ∃ b off, (some ⟨g, 0, none⟩ : Option Addr) = some ⟨b, off, none⟩ ∧ b < w.heap.size ∧ BR w b off B := fun _ => ⟨g, 0, rfl, h.lt, fun j hj => by
  rw [Nat.zero_add]
  refine h.cell j _ ?_
  rw [List.getElem?_map, List.getElem?_eq_getElem hj, List.getD_eq_getElem?_getD, List.getElem?_eq_getElem hj]
  rfl⟩

set_option maxHeartbeats 8000000 in
set_option maxRecDepth 100000 in
theorem alive23 (w : World) : Calls Try.prog 6 #[] w fun e w' => e = .returned (.bool true) ∧ Kept w w' := by
  have HSm := hid sample_any
  have HSame : Hid (∀ v1 v2 u, StI u v1 smp → StI u v2 smp → Calls Try.prog 14 #[v1, v2] u fun e w' => e = .returned (.bool true) ∧ Kept u w') := fun v1 v2 u h1 h2 => same_true smp v1 v2 (by decide) (by decide) (by decide) u h1 h2
  have HW : Hid (∀ v u, StI u v smp → Calls Try.prog 11 #[v] u fun e w' => Kept u w' ∧ ∃ g, e = .returned (.tuple #[.slice (some ⟨g, 0, none⟩) 105 105, .int .i64 0]) ∧ OwnV w' g 105 5 ((Go.Proofs.Ytphkdkenopkbbaa.enc smp).map (Value.int .u8))) := fun v u h => by
    refine (write_any v smp (by decide) (by decide) u h).mono ?_
    rintro e w' ⟨k, ⟨-, g, rfl, -, ho⟩ | ⟨hn, -⟩⟩
    · rw [smp_len] at ho ⊢
      exact ⟨k, g, rfl, ho⟩
    · exact absurd smp_frm hn
  have HRd : Hid (∀ g u, OwnV u g 105 5 ((Go.Proofs.Ytphkdkenopkbbaa.enc smp).map (Value.int .u8)) → Calls Try.prog 13 #[.slice (some ⟨g, 0, none⟩) 105 105] u fun e w' => Kept u w' ∧ ∃ v, e = .returned (.tuple #[v, .int .i64 0, .int .i64 0]) ∧ StI w' v smp) := fun g u h => by
    have := read_any (some ⟨g, 0, none⟩) 105 (Go.Proofs.Ytphkdkenopkbbaa.enc smp) (byt_enc smp) (by rw [smp_len]; exact Nat.le_refl _) u (own_br h)
    rw [smp_len, read_enc smp_frm smp_rg] at this
    refine this.mono ?_
    rintro e w' ⟨k, v, rfl, hv⟩
    exact ⟨k, v, rfl, hv.st⟩
  have HCk : Hid (∀ v u, StI u v smp → Calls Try.prog 15 #[v] u fun e w' => e = .returned (.int .i64 0) ∧ Kept u w') := fun v u h => by
    refine (checkf_any v smp (by decide) (by decide) u h).mono ?_
    rintro e w' ⟨k, ⟨-, rfl⟩ | ⟨hn, -⟩⟩
    · exact ⟨rfl, k⟩
    · exact absurd smp_frm hn
  go_enter Try.func6, Try.ntmps6
  go_wp2_with fail
  go_at_call 12
  refine (HSm.out w).mono ?_
  rintro e w1 ⟨v1, rfl, hs1, k1⟩
  have HS1 := hid hs1
  have K1 := hid k1
  clear hs1 k1
  go_wp2_with fail
  go_at_call 11
  refine (HW.out v1 w1 HS1.out).mono ?_
  rintro e w2 ⟨k2, g, rfl, ho⟩
  have HO := hid ho
  have K2 := hid (K1.out.trans k2)
  clear ho k2
  go_wp2_with fail
  go_at_call 13
  refine (HRd.out g w2 HO.out).mono ?_
  rintro e w3 ⟨k3, v3, rfl, hs3⟩
  have HS3 := hid hs3
  have K3 := hid (K2.out.trans k3)
  obtain ⟨pv, qv, rfl, hp, hq⟩ := hs3
  obtain ⟨pa, pc, rfl⟩ := hp.len
  obtain ⟨qa, qc, rfl, -, -⟩ := hq
  obtain ⟨D, hD⟩ : ∃ D, w3.heap.size = D := ⟨_, rfl⟩
  obtain ⟨W3, hW3⟩ : ∃ W3, w3.alloc (.cells #[.int .i64 smp.a, .int .i64 smp.b, .int .i64 smp.d, .slice pa smp.P.length pc, .slice qa smp.Q.length qc, .int .i64 smp.lo, .int .i64 smp.ra] 25) = W3 := ⟨_, rfl⟩
  have kW : Kept w3 W3 := by rw [← hW3]; exact (Kept.refl w3).alloc _ _
  have b3 : Bk W3 D [.int .i64 smp.a, .int .i64 smp.b, .int .i64 smp.d, .slice pa smp.P.length pc, .slice qa smp.Q.length qc, .int .i64 smp.lo, .int .i64 smp.ra] := by rw [← hW3, ← hD]; exact Bk.new w3 _ _
  have HS4 := hid (HS3.out.kept kW)
  have K4 := hid (K3.out.trans kW)
  clear k3 hp kW HO HS3
  generalize smp.a = sa at *
  generalize smp.b = sb at *
  generalize smp.d = sd at *
  generalize smp.P.length = pl at *
  generalize smp.Q.length = ql at *
  generalize smp.lo = lo at *
  generalize smp.ra = ra at *
  have x0 := b3.c 0 _ rfl
  have x1 := b3.c 1 _ rfl
  have x2 := b3.c 2 _ rfl
  have x3 := b3.c 3 _ rfl
  have x4 := b3.c 4 _ rfl
  have x5 := b3.c 5 _ rfl
  have x6 := b3.c 6 _ rfl
  clear b3
  go_wp2_with fail
  refine wp_region_held_drew (S := fun u => Kept W3 u ∧ u.cell? ⟨D, 0, none⟩ = some (.int .i64 sa) ∧ u.cell? ⟨D, 1, none⟩ = some (.int .i64 sb) ∧ u.cell? ⟨D, 2, none⟩ = some (.int .i64 sd) ∧ u.cell? ⟨D, 3, none⟩ = some (.slice pa pl pc) ∧ u.cell? ⟨D, 4, none⟩ = some (.slice qa ql qc) ∧ u.cell? ⟨D, 5, none⟩ = some (.int .i64 lo) ∧ u.cell? ⟨D, 6, none⟩ = some (.int .i64 ra)) (by kernel_rfl) (⟨(Kept.refl W3).drew, (((Kept.refl W3).drew).below.cell (p := ⟨D, 0, none⟩) (World.block_lt_of_cell? _ _ x0)).trans x0, (((Kept.refl W3).drew).below.cell (p := ⟨D, 1, none⟩) (World.block_lt_of_cell? _ _ x1)).trans x1, (((Kept.refl W3).drew).below.cell (p := ⟨D, 2, none⟩) (World.block_lt_of_cell? _ _ x2)).trans x2, (((Kept.refl W3).drew).below.cell (p := ⟨D, 3, none⟩) (World.block_lt_of_cell? _ _ x3)).trans x3, (((Kept.refl W3).drew).below.cell (p := ⟨D, 4, none⟩) (World.block_lt_of_cell? _ _ x4)).trans x4, (((Kept.refl W3).drew).below.cell (p := ⟨D, 5, none⟩) (World.block_lt_of_cell? _ _ x5)).trans x5, (((Kept.refl W3).drew).below.cell (p := ⟨D, 6, none⟩) (World.block_lt_of_cell? _ _ x6)).trans x6⟩) (fun hHeld => ?_)
  refine wpAnyH_take (i := 0) (v := ?_) rfl (by kernel_rfl) (by kernel_rfl) (by kernel_rfl) (fun _ _ _ h => h) (Or.inl ⟨by rfl, ?hya0⟩) (by assumption) ?_
  case hya0 => (intro w hSw; (try dsimp only at hSw); go_simp; try (with_reducible rfl))
  simp only [Act.put, List.getElem_toArray, List.getElem_cons_succ, List.getElem_cons_zero, List.setIfInBounds_toArray, List.set_cons_zero, List.set_cons_succ]
  refine wpAnyH_take (i := 1) (v := ?_) rfl (by kernel_rfl) (by kernel_rfl) (by kernel_rfl) (fun _ _ _ h => h) (Or.inl ⟨by rfl, ?hya1⟩) (by assumption) ?_
  case hya1 => (intro w hSw; (try dsimp only at hSw); go_simp; try (with_reducible rfl))
  simp only [Act.put, List.getElem_toArray, List.getElem_cons_succ, List.getElem_cons_zero, List.setIfInBounds_toArray, List.set_cons_zero, List.set_cons_succ]
  refine wpAnyH_take (i := 2) (v := ?_) rfl (by kernel_rfl) (by kernel_rfl) (by kernel_rfl) (fun _ _ _ h => h) (Or.inl ⟨by rfl, ?hya2⟩) (by assumption) ?_
  case hya2 => (intro w hSw; (try dsimp only at hSw); go_simp; try (with_reducible rfl))
  simp only [Act.put, List.getElem_toArray, List.getElem_cons_succ, List.getElem_cons_zero, List.setIfInBounds_toArray, List.set_cons_zero, List.set_cons_succ]
  refine wpAnyH_take (i := 3) (v := ?_) rfl (by kernel_rfl) (by kernel_rfl) (by kernel_rfl) (fun _ _ _ h => h) (Or.inl ⟨by rfl, ?hya3⟩) (by assumption) ?_
  case hya3 => (intro w hSw; (try dsimp only at hSw); go_simp; try (with_reducible rfl))
  simp only [Act.put, List.getElem_toArray, List.getElem_cons_succ, List.getElem_cons_zero, List.setIfInBounds_toArray, List.set_cons_zero, List.set_cons_succ]
  refine wpAnyH_take (i := 4) (v := ?_) rfl (by kernel_rfl) (by kernel_rfl) (by kernel_rfl) (fun _ _ _ h => h) (Or.inl ⟨by rfl, ?hya4⟩) (by assumption) ?_
  case hya4 => (intro w hSw; (try dsimp only at hSw); go_simp; try (with_reducible rfl))
  simp only [Act.put, List.getElem_toArray, List.getElem_cons_succ, List.getElem_cons_zero, List.setIfInBounds_toArray, List.set_cons_zero, List.set_cons_succ]
  refine wpAnyH_take (i := 5) (v := ?_) rfl (by kernel_rfl) (by kernel_rfl) (by kernel_rfl) (fun _ _ _ h => h) (Or.inl ⟨by rfl, ?hya5⟩) (by assumption) ?_
  case hya5 => (intro w hSw; (try dsimp only at hSw); go_simp; try (with_reducible rfl))
  simp only [Act.put, List.getElem_toArray, List.getElem_cons_succ, List.getElem_cons_zero, List.setIfInBounds_toArray, List.set_cons_zero, List.set_cons_succ]
  refine wpAnyH_take (i := 6) (v := ?_) rfl (by kernel_rfl) (by kernel_rfl) (by kernel_rfl) (fun _ _ _ h => h) (Or.inl ⟨by rfl, ?hya6⟩) (by assumption) ?_
  case hya6 => (intro w hSw; (try dsimp only at hSw); go_simp; try (with_reducible rfl))
  simp only [Act.put, List.getElem_toArray, List.getElem_cons_succ, List.getElem_cons_zero, List.setIfInBounds_toArray, List.set_cons_zero, List.set_cons_succ]
  refine wpAnyH_take (i := 7) (v := ?_) rfl (by kernel_rfl) (by kernel_rfl) (by kernel_rfl) (fun _ _ _ h => h) (Or.inl ⟨by rfl, ?hya7⟩) (by assumption) ?_
  case hya7 => (intro w hSw; (try dsimp only at hSw); go_simp; try (with_reducible rfl))
  simp only [Act.put, List.getElem_toArray, List.getElem_cons_succ, List.getElem_cons_zero, List.setIfInBounds_toArray, List.set_cons_zero, List.set_cons_succ]
  refine wpAnyH_take (i := 8) (v := ?_) rfl (by kernel_rfl) (by kernel_rfl) (by kernel_rfl) (fun _ _ _ h => h) (Or.inl ⟨by rfl, ?hya8⟩) (by assumption) ?_
  case hya8 => (intro w hSw; (try dsimp only at hSw); go_simp; try (with_reducible rfl))
  simp only [Act.put, List.getElem_toArray, List.getElem_cons_succ, List.getElem_cons_zero, List.setIfInBounds_toArray, List.set_cons_zero, List.set_cons_succ]
  refine wpAnyH_take (i := 9) (v := ?_) rfl (by kernel_rfl) (by kernel_rfl) (by kernel_rfl) (fun _ _ _ h => h) (Or.inl ⟨by rfl, ?hya9⟩) (by assumption) ?_
  case hya9 => (intro w hSw; (try dsimp only at hSw); go_simp; try (with_reducible rfl))
  simp only [Act.put, List.getElem_toArray, List.getElem_cons_succ, List.getElem_cons_zero, List.setIfInBounds_toArray, List.set_cons_zero, List.set_cons_succ]
  refine wpAnyH_take (i := 10) (v := ?_) rfl (by kernel_rfl) (by kernel_rfl) (by kernel_rfl) (fun _ _ _ h => h) (Or.inl ⟨by rfl, ?hya10⟩) (by assumption) ?_
  case hya10 => (intro w hSw; (try dsimp only at hSw); go_simp; try (with_reducible rfl))
  simp only [Act.put, List.getElem_toArray, List.getElem_cons_succ, List.getElem_cons_zero, List.setIfInBounds_toArray, List.set_cons_zero, List.set_cons_succ]
  refine wpAnyH_take (i := 11) (v := ?_) rfl (by kernel_rfl) (by kernel_rfl) (by kernel_rfl) (fun _ _ _ h => h) (Or.inl ⟨by rfl, ?hya11⟩) (by assumption) ?_
  case hya11 => (intro w hSw; (try dsimp only at hSw); go_simp; try (with_reducible rfl))
  simp only [Act.put, List.getElem_toArray, List.getElem_cons_succ, List.getElem_cons_zero, List.setIfInBounds_toArray, List.set_cons_zero, List.set_cons_succ]
  refine wpAnyH_take (i := 12) (v := ?_) rfl (by kernel_rfl) (by kernel_rfl) (by kernel_rfl) (fun _ _ _ h => h) (Or.inl ⟨by rfl, ?hya12⟩) (by assumption) ?_
  case hya12 => (intro w hSw; (try dsimp only at hSw); go_simp; try (with_reducible rfl))
  simp only [Act.put, List.getElem_toArray, List.getElem_cons_succ, List.getElem_cons_zero, List.setIfInBounds_toArray, List.set_cons_zero, List.set_cons_succ]
  refine wpAnyH_take (i := 13) (v := ?_) rfl (by kernel_rfl) (by kernel_rfl) (by kernel_rfl) (fun _ _ _ h => h) (Or.inl ⟨by rfl, ?hya13⟩) (by assumption) ?_
  case hya13 => (intro w hSw; (try dsimp only at hSw); go_simp; try (with_reducible rfl))
  simp only [Act.put, List.getElem_toArray, List.getElem_cons_succ, List.getElem_cons_zero, List.setIfInBounds_toArray, List.set_cons_zero, List.set_cons_succ]
  refine wpAnyH_take (i := 14) (v := ?_) rfl (by kernel_rfl) (by kernel_rfl) (by kernel_rfl) (fun _ _ _ h => h) (Or.inl ⟨by rfl, ?hya14⟩) (by assumption) ?_
  case hya14 => (intro w hSw; (try dsimp only at hSw); go_simp; try (with_reducible rfl))
  simp only [Act.put, List.getElem_toArray, List.getElem_cons_succ, List.getElem_cons_zero, List.setIfInBounds_toArray, List.set_cons_zero, List.set_cons_succ]
  refine wpAnyH_take (i := 15) (v := ?_) rfl (by kernel_rfl) (by kernel_rfl) (by kernel_rfl) (fun _ _ _ h => h) (Or.inl ⟨by rfl, ?hya15⟩) (by assumption) ?_
  case hya15 => (intro w hSw; (try dsimp only at hSw); go_simp; try (with_reducible rfl))
  simp only [Act.put, List.getElem_toArray, List.getElem_cons_succ, List.getElem_cons_zero, List.setIfInBounds_toArray, List.set_cons_zero, List.set_cons_succ]
  refine wpAnyH_take (i := 16) (v := ?_) rfl (by kernel_rfl) (by kernel_rfl) (by kernel_rfl) (fun _ _ _ h => h) (Or.inl ⟨by rfl, ?hya16⟩) (by assumption) ?_
  case hya16 => (intro w hSw; (try dsimp only at hSw); go_simp; try (with_reducible rfl))
  simp only [Act.put, List.getElem_toArray, List.getElem_cons_succ, List.getElem_cons_zero, List.setIfInBounds_toArray, List.set_cons_zero, List.set_cons_succ]
  refine wpAnyH_ready (rs := [17]) (by kernel_rfl) (by simp) ?_
  refine AllReadyH.cons rfl (fun K9 hK9 => ?_) AllReadyH.nil
  go_simp
  go_wp2_with fail
  refine (HSm.out _).mono ?_
  rintro e u5 ⟨v5, rfl, hs5, k5⟩
  have kk5 : Kept W3 u5 := ((Kept.refl W3).drew).trans k5
  refine hK9.out _ _ ⟨kk5, ((kk5).below.cell (p := ⟨D, 0, none⟩) (World.block_lt_of_cell? _ _ x0)).trans x0, ((kk5).below.cell (p := ⟨D, 1, none⟩) (World.block_lt_of_cell? _ _ x1)).trans x1, ((kk5).below.cell (p := ⟨D, 2, none⟩) (World.block_lt_of_cell? _ _ x2)).trans x2, ((kk5).below.cell (p := ⟨D, 3, none⟩) (World.block_lt_of_cell? _ _ x3)).trans x3, ((kk5).below.cell (p := ⟨D, 4, none⟩) (World.block_lt_of_cell? _ _ x4)).trans x4, ((kk5).below.cell (p := ⟨D, 5, none⟩) (World.block_lt_of_cell? _ _ x5)).trans x5, ((kk5).below.cell (p := ⟨D, 6, none⟩) (World.block_lt_of_cell? _ _ x6)).trans x6⟩ (fun hHeld5 => ?_)
  clear hK9 K9
  refine wpAnyH_ready (rs := [18]) (by kernel_rfl) (by simp) ?_
  refine AllReadyH.cons rfl (fun K9 hK9 => ?_) AllReadyH.nil
  go_simp
  go_wp2_with fail
  refine (HSame.out _ _ _ (HS4.out.kept kk5) hs5).mono ?_
  rintro e u6 ⟨rfl, k6⟩
  have kk6 : Kept W3 u6 := kk5.trans k6
  refine hK9.out _ _ ⟨kk6, ((kk6).below.cell (p := ⟨D, 0, none⟩) (World.block_lt_of_cell? _ _ x0)).trans x0, ((kk6).below.cell (p := ⟨D, 1, none⟩) (World.block_lt_of_cell? _ _ x1)).trans x1, ((kk6).below.cell (p := ⟨D, 2, none⟩) (World.block_lt_of_cell? _ _ x2)).trans x2, ((kk6).below.cell (p := ⟨D, 3, none⟩) (World.block_lt_of_cell? _ _ x3)).trans x3, ((kk6).below.cell (p := ⟨D, 4, none⟩) (World.block_lt_of_cell? _ _ x4)).trans x4, ((kk6).below.cell (p := ⟨D, 5, none⟩) (World.block_lt_of_cell? _ _ x5)).trans x5, ((kk6).below.cell (p := ⟨D, 6, none⟩) (World.block_lt_of_cell? _ _ x6)).trans x6⟩ (fun hHeld6 => ?_)
  clear hK9 K9
  refine wpAnyH_take (i := 19) (v := ?_) rfl (by kernel_rfl) (by kernel_rfl) (by kernel_rfl) (fun _ _ _ h => h) (Or.inl ⟨by rfl, ?hyb19⟩) (by assumption) ?_
  case hyb19 => (intro w hSw; (try dsimp only at hSw); go_simp; try (with_reducible rfl))
  simp only [Act.put, List.getElem_toArray, List.getElem_cons_succ, List.getElem_cons_zero, List.setIfInBounds_toArray, List.set_cons_zero, List.set_cons_succ]
  refine wpAnyH_take (i := 20) (v := ?_) rfl (by kernel_rfl) (by kernel_rfl) (by kernel_rfl) (fun _ _ _ h => h) (Or.inl ⟨by rfl, ?hyb20⟩) (by assumption) ?_
  case hyb20 => (intro w hSw; (try dsimp only at hSw); go_simp; try (with_reducible rfl))
  simp only [Act.put, List.getElem_toArray, List.getElem_cons_succ, List.getElem_cons_zero, List.setIfInBounds_toArray, List.set_cons_zero, List.set_cons_succ]
  refine wpAnyH_ready (rs := [21]) (by kernel_rfl) (by simp) ?_
  refine AllReadyH.cons rfl (fun K9 hK9 => ?_) AllReadyH.nil
  go_simp
  go_wp2_with fail
  refine (HSm.out _).mono ?_
  rintro e u7 ⟨v7, rfl, hs7, k7⟩
  have kk7 : Kept W3 u7 := kk6.trans k7
  refine hK9.out _ _ ⟨kk7, ((kk7).below.cell (p := ⟨D, 0, none⟩) (World.block_lt_of_cell? _ _ x0)).trans x0, ((kk7).below.cell (p := ⟨D, 1, none⟩) (World.block_lt_of_cell? _ _ x1)).trans x1, ((kk7).below.cell (p := ⟨D, 2, none⟩) (World.block_lt_of_cell? _ _ x2)).trans x2, ((kk7).below.cell (p := ⟨D, 3, none⟩) (World.block_lt_of_cell? _ _ x3)).trans x3, ((kk7).below.cell (p := ⟨D, 4, none⟩) (World.block_lt_of_cell? _ _ x4)).trans x4, ((kk7).below.cell (p := ⟨D, 5, none⟩) (World.block_lt_of_cell? _ _ x5)).trans x5, ((kk7).below.cell (p := ⟨D, 6, none⟩) (World.block_lt_of_cell? _ _ x6)).trans x6⟩ (fun hHeld7 => ?_)
  clear hK9 K9
  refine wpAnyH_ready (rs := [22]) (by kernel_rfl) (by simp) ?_
  refine AllReadyH.cons rfl (fun K9 hK9 => ?_) AllReadyH.nil
  go_simp
  go_wp2_with fail
  refine (HCk.out _ _ hs7).mono ?_
  rintro e u8 ⟨rfl, k8⟩
  have kk8 : Kept W3 u8 := kk7.trans k8
  refine hK9.out _ _ ⟨kk8, ((kk8).below.cell (p := ⟨D, 0, none⟩) (World.block_lt_of_cell? _ _ x0)).trans x0, ((kk8).below.cell (p := ⟨D, 1, none⟩) (World.block_lt_of_cell? _ _ x1)).trans x1, ((kk8).below.cell (p := ⟨D, 2, none⟩) (World.block_lt_of_cell? _ _ x2)).trans x2, ((kk8).below.cell (p := ⟨D, 3, none⟩) (World.block_lt_of_cell? _ _ x3)).trans x3, ((kk8).below.cell (p := ⟨D, 4, none⟩) (World.block_lt_of_cell? _ _ x4)).trans x4, ((kk8).below.cell (p := ⟨D, 5, none⟩) (World.block_lt_of_cell? _ _ x5)).trans x5, ((kk8).below.cell (p := ⟨D, 6, none⟩) (World.block_lt_of_cell? _ _ x6)).trans x6⟩ (fun hHeld8 => ?_)
  clear hK9 K9
  refine wpAnyH_take (i := 23) (v := ?_) rfl (by kernel_rfl) (by kernel_rfl) (by kernel_rfl) (fun _ _ _ h => h) (Or.inl ⟨by rfl, ?hyc23⟩) (by assumption) ?_
  case hyc23 => (intro w hSw; (try dsimp only at hSw); go_simp; try (with_reducible rfl))
  simp only [Act.put, List.getElem_toArray, List.getElem_cons_succ, List.getElem_cons_zero, List.setIfInBounds_toArray, List.set_cons_zero, List.set_cons_succ]
  refine wpAnyH_take (i := 24) (v := ?_) rfl (by kernel_rfl) (by kernel_rfl) (by kernel_rfl) (fun _ _ _ h => h) (Or.inl ⟨by rfl, ?hyc24⟩) (by assumption) ?_
  case hyc24 => (intro w hSw; (try dsimp only at hSw); go_simp; try (with_reducible rfl))
  simp only [Act.put, List.getElem_toArray, List.getElem_cons_succ, List.getElem_cons_zero, List.setIfInBounds_toArray, List.set_cons_zero, List.set_cons_succ]
  refine wpAnyH_take (i := 25) (v := ?_) rfl (by kernel_rfl) (by kernel_rfl) (by kernel_rfl) (fun _ _ _ h => h) (Or.inl ⟨by rfl, ?hyc25⟩) (by assumption) ?_
  case hyc25 => (intro w hSw; (try dsimp only at hSw); go_simp; try (with_reducible rfl))
  simp only [Act.put, List.getElem_toArray, List.getElem_cons_succ, List.getElem_cons_zero, List.setIfInBounds_toArray, List.set_cons_zero, List.set_cons_succ]
  refine wpAnyH_done (by kernel_rfl) ?_ _
  clear hHeld hHeld5 hHeld6 hHeld7 hHeld8 x0 x1 x2 x3 x4 x5 x6 hW3 hD
  go_wp2_with fail
  go_ret
  exact ⟨rfl, K4.out.trans kk8⟩
end Go.Proofs.Ytphkdkenopkbbaa
