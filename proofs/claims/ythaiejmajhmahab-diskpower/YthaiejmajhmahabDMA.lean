/- Package disk: Pending. -/
import Derived.Test.YthaiejmajhmahabDLZ
namespace Go.Proofs.Ythaiejmajhmahab
open Go.ChangeShapes Go.WideShapes Go.ChangeAt Go.RowKit Go.Maps
set_option linter.unusedVariables false
set_option linter.unusedSimpArgs false

theorem psl_u : Try.prog.underlying 67 = some (.slice 57) := by kernel_rfl
theorem pwork_i : (Try.prog.info? 57).map (fun i => (i.zero, i.size, i.bytes)) = some (some (.agg #[.int .i64 0, .string ⟨#[]⟩, .string ⟨#[]⟩, .int .i64 0]), 4, 48) := by kernel_rfl
abbrev zW : Array Value := #[.int .i64 0, .string ⟨#[]⟩, .string ⟨#[]⟩, .int .i64 0]
theorem make_works (n : Nat) (hn : n < 100000000) (w : World) : (Instr.makeSlice 67 (.int .i64 (n : Int)) (.int .i64 (n : Int))).run Try.prog w = .ok (.slice (some ⟨w.heap.size, 0, none⟩) n n) (w.alloc (.cells (madeCells zW (n * 4)) 57)) := by
  obtain ⟨i, hi, hz, hs, hby⟩ := info_parts (pwork_i)
  have := run_make (P := Try.prog) w 67 57 i (.agg zW) psl_u hi hz .i64 .i64 (n : Int) (n : Int) (by omega) (Int.le_refl _) (by rw [hby]; omega) (by omega)
  rw [hs, Int.toNat_natCast] at this
  exact this
theorem own_works (n : Nat) (hn : n < 100000000) (w : World) : OwnS (w.alloc (.cells (madeCells zW (n * 4)) 57)) w.heap.size n 4 57 (madeCells zW (n * 4)).toList := by
  refine ⟨_, heap_alloc_new w _, by simp [size_madeCells], by simp [maxLen]; omega, by simp [size_madeCells], ?_⟩
  rw [List.take_of_length_le (Nat.le_refl _)]
/-- What Pending answers. -/
def PenR (w : World) (W : List Wk) (v : Value) (w' : World) : Prop :=
  Kept w w' ∧ ∃ g V, v = .slice (some ⟨g, 0, none⟩) W.length W.length ∧ w.heap.size ≤ g ∧ OwnS w' g W.length 4 57 V ∧ V.length = W.length * 4 ∧ ∀ (i : Nat) x, W[i]? = some x → V[i * 4]? = some (.int .i64 x.kind) ∧ V[i * 4 + 1]? = some (.string x.nm) ∧ V[i * 4 + 2]? = some (.string x.to_) ∧ V[i * 4 + 3]? = some (.int .i64 x.len)
def PenI (X : World) (g n : Nat) (W : List Wk) (i : Nat) (wr : World) : Prop :=
  KX (fun b => b = g) X wr ∧ ∃ V, OwnS wr g n 4 57 V ∧ V.length = n * 4 ∧ ∀ (j : Nat) x, j < i → W[j]? = some x → V[j * 4]? = some (.int .i64 x.kind) ∧ V[j * 4 + 1]? = some (.string x.nm) ∧ V[j * 4 + 2]? = some (.string x.to_) ∧ V[j * 4 + 3]? = some (.int .i64 x.len)
theorem PenI.kept {X u u' : World} {g n i : Nat} {W : List Wk} (h : PenI X g n W i u) (k : Kept u u') : PenI X g n W i u' := by
  obtain ⟨h1, V, h2, h3⟩ := h
  exact ⟨h1.trans (k.kx _), V, h2.kept k, h3⟩
theorem PenI.step {X u : World} {g n i : Nat} {W : List Wk} (h : PenI X g n W i u) (hi : i < n) {x : Wk} (hx : W[i]? = some x) :
    PenI X g n W (i + 1) ((((u.setCell ⟨g, i * 4, none⟩ (.int .i64 x.kind)).setCell ⟨g, i * 4 + 1, none⟩ (.string x.nm)).setCell ⟨g, i * 4 + 2, none⟩ (.string x.to_)).setCell ⟨g, i * 4 + 3, none⟩ (.int .i64 x.len)) := by
  obtain ⟨h1, V, h2, h3, h4⟩ := h
  have s1 := h2.set (i * 4) (.int .i64 x.kind) (by omega)
  have s2 := s1.set (i * 4 + 1) (.string x.nm) (by simp only [List.length_set]; omega)
  have s3 := s2.set (i * 4 + 2) (.string x.to_) (by simp only [List.length_set]; omega)
  have s4 := s3.set (i * 4 + 3) (.int .i64 x.len) (by simp only [List.length_set]; omega)
  refine ⟨h1.trans (((((KX.refl (fun b => b = g) u).setCell (.inl rfl) _).setCell (.inl rfl) _).setCell (.inl rfl) _).setCell (.inl rfl) _), _, s4, by simp only [List.length_set]; exact h3, fun j y hj hy => ?_⟩
  by_cases e : j = i
  · subst e
    rw [hx] at hy
    cases hy
    simp only [List.getElem?_set, List.length_set]
    refine ⟨?_, ?_, ?_, ?_⟩
    · rw [if_neg (by omega), if_neg (by omega), if_neg (by omega), if_pos trivial, if_pos (by omega)]
    · rw [if_neg (by omega), if_neg (by omega), if_pos trivial, if_pos (by omega)]
    · rw [if_neg (by omega), if_pos trivial, if_pos (by omega)]
    · rw [if_pos trivial, if_pos (by omega)]
  · obtain ⟨a0, a1, a2, a3⟩ := h4 j y (by omega) hy
    have ne : ∀ (p : Nat), (p = j * 4 ∨ p = j * 4 + 1 ∨ p = j * 4 + 2 ∨ p = j * 4 + 3) → i * 4 ≠ p ∧ i * 4 + 1 ≠ p ∧ i * 4 + 2 ≠ p ∧ i * 4 + 3 ≠ p := fun p hp => by omega
    have get : ∀ (p : Nat), (p = j * 4 ∨ p = j * 4 + 1 ∨ p = j * 4 + 2 ∨ p = j * 4 + 3) → ((((V.set (i * 4) (.int .i64 x.kind)).set (i * 4 + 1) (.string x.nm)).set (i * 4 + 2) (.string x.to_)).set (i * 4 + 3) (.int .i64 x.len))[p]? = V[p]? := fun p hp => by
      obtain ⟨n0, n1, n2, n3⟩ := ne p hp
      rw [List.getElem?_set_ne n3, List.getElem?_set_ne n2, List.getElem?_set_ne n1, List.getElem?_set_ne n0]
    exact ⟨(get _ (.inl rfl)).trans a0, (get _ (.inr (.inl rfl))).trans a1, (get _ (.inr (.inr (.inl rfl)))).trans a2, (get _ (.inr (.inr (.inr rfl)))).trans a3⟩
theorem PenI.cells {X u : World} {g n i : Nat} {W : List Wk} (h : PenI X g n W i u) (hi : i < n) : (∀ j, j < 4 → ∃ z, u.cell? ⟨g, i * 4 + j, none⟩ = some z) ∧ ∀ j, u.frozen? ⟨g, j, none⟩ = false := by
  obtain ⟨h1, V, h2, h3, h4⟩ := h
  exact ⟨fun j hj => Option.isSome_iff_exists.1 (h2.some (i * 4 + j) (by omega)), fun j => h2.free j⟩
theorem DSt.at_ {w : World} {O : Nat → Prop} {B : Nat} {a : Da} {d : Dk} (h : DSt w O B a d) {i : Nat} (hi : i < d.W.length) :
    ∃ x v g cap, d.W[i]? = some x ∧ (∃ ao n c, v = .slice ao n c) ∧ a.pv = .slice (some ⟨g, 0, none⟩) d.W.length cap ∧ ∀ j, j < 6 → w.cell? ⟨g, i * 6 + j, none⟩ = (wcell x v)[j]? := by
  have hw := h.wks
  obtain ⟨x, hx⟩ : ∃ x, d.W[i]? = some x := ⟨_, List.getElem?_eq_getElem hi⟩
  obtain ⟨v, hv⟩ : ∃ v, a.vb[i]? = some v := ⟨_, List.getElem?_eq_getElem (by rw [hw.len]; exact hi)⟩
  have ho := hw.ok i x v hx hv
  rcases hw.ms with ⟨h0, -⟩ | ⟨g, cap, hpv, -, -, hc, hO⟩
  · omega
  · refine ⟨x, v, g, cap, hx, ho.form, hpv, fun j hj => ?_⟩
    have hl : (wcell x v)[j]? = some ((wcell x v)[j]'(by show j < 6; exact hj)) := List.getElem?_eq_getElem _
    rw [hl]
    refine hO.cell _ _ ?_
    rw [wcs_at hw.len i j x v hx hv hj]
    exact hl
set_option maxHeartbeats 4000000 in
set_option maxRecDepth 100000 in
theorem pending_any (O : Nat → Prop) (B : Nat) (a : Da) (d : Dk) (w : World) (hd : DSt w O B a d) (hW : d.W.length < 99999999) :
    Calls Try.prog 31 #[.pointer (some ⟨B, 0, none⟩)] w fun e w' => ∃ v, e = .returned v ∧ PenR w d.W v w' := by
  have hc7 := hd.blk.cell 7 _ rfl
  obtain ⟨n, hn⟩ : ∃ n, d.W.length = n := ⟨_, rfl⟩
  have hpf : ∃ ao c, a.pv = .slice ao n c := by rw [← hn]; exact hd.wks.ms.form
  obtain ⟨ao, c, hpv⟩ := hpf
  rw [hpv] at hc7
  have hmk := fun u => make_works n (by omega) u
  have hX := own_works n (by omega) w
  have hc7X := kept_cell ((Kept.refl w).alloc (madeCells zW (n * 4)) 57) hc7
  have kX := (Kept.refl w).alloc (madeCells zW (n * 4)) 57
  obtain ⟨g, hg⟩ : ∃ g, w.heap.size = g := ⟨_, rfl⟩
  obtain ⟨X, hXe⟩ : ∃ X, w.alloc (.cells (madeCells zW (n * 4)) 57) = X := ⟨_, rfl⟩
  rw [hXe, hg] at hX
  rw [hXe] at hc7X kX
  have hl : (madeCells zW (n * 4)).toList.length = n * 4 := by simp [size_madeCells]
  have hP0 : PenI X g n d.W 0 X := ⟨KX.refl _ X, _, hX, hl, fun j x hj => absurd hj (Nat.not_lt_zero j)⟩
  have HD := hid hd
  have HDX := hid (hd.kept kX)
  have HKX := hid kX
  have HN := hid hn
  have HPV := hid hpv
  have HNB := hid (show n < 99999999 by omega)
  have HG := hid hg
  have HP0 := hid hP0
  have hgw : ∀ b, O b → b ≠ g := fun b hb => by have := hd.olt b hb; omega
  have HGW := hid hgw
  clear hd hn hpv hX hl hP0 kX hgw hW
  go_enter Try.func31, Try.ntmps31
  go_wp2_with (first | (go_at_call 17; refine (there_any B _).mono ?_; rintro e u1 ⟨rfl, rfl⟩))
  go_loopw [19] (fun iv wr => ∃ i : Nat, iv = .int .i64 i ∧ i ≤ n ∧ PenI X g n d.W i wr) (fun v _ => match v with | .int _ i => n - i.toNat | _ => 0)
  case atStart => exact ⟨0, rfl, Nat.zero_le n, HP0.out⟩
  case round =>
    clear hc7 hc7X hmk hXe hg
    obtain ⟨i, rfl, hi, hS⟩ := hrel
    have HS := hid hS
    clear hS
    by_cases hp : i < n
    · have hdr := HDX.out.kx HS.out.1 fun b hb ho => HGW.out b ho hb
      obtain ⟨x, v, gp, cap, hx, hvf, hpv2, hcells⟩ := hdr.at_ (by rw [HN.out]; exact hp)
      have e := HPV.out.symm.trans hpv2
      rw [HN.out] at e
      simp only [Value.slice.injEq] at e
      obtain ⟨rfl, -, rfl⟩ := e
      obtain ⟨av, nv, cv, rfl⟩ := hvf
      have c0 : wr.cell? ⟨gp, i * 6, none⟩ = some (.int .i64 x.kind) := hcells 0 (by decide)
      have c1 : wr.cell? ⟨gp, i * 6 + 1, none⟩ = some (.string x.nm) := hcells 1 (by decide)
      have c2 : wr.cell? ⟨gp, i * 6 + 2, none⟩ = some (.string x.to_) := hcells 2 (by decide)
      have c3 : wr.cell? ⟨gp, i * 6 + 3, none⟩ = some (.int .i64 x.len) := hcells 3 (by decide)
      have c4 : wr.cell? ⟨gp, i * 6 + 4, none⟩ = some (.pointer (some ⟨x.file, 0, none⟩)) := hcells 4 (by decide)
      have c5 : wr.cell? ⟨gp, i * 6 + 5, none⟩ = some (.slice av nv cv) := hcells 5 (by decide)
      clear hcells hpv2 hdr
      have HX := hid hx
      have h9 : wrap64 ((i : Int) + 1) = i + 1 := by unfold wrap64; have := HNB.out; omega
      have H9 := hid h9
      have HI := hid hi
      have hal := HS.out.kept ((Kept.refl wr).alloc #[.int .i64 x.kind, .string x.nm, .string x.to_, .int .i64 x.len, .pointer (some ⟨x.file, 0, none⟩), .slice av nv cv] 59)
      have HP1 := hid (hal.step hp hx)
      obtain ⟨hce, hfz⟩ := hal.cells hp
      obtain ⟨z0, e0⟩ := hce 0 (by decide)
      obtain ⟨z1, e1⟩ := hce 1 (by decide)
      obtain ⟨z2, e2⟩ := hce 2 (by decide)
      obtain ⟨z3, e3⟩ := hce 3 (by decide)
      rw [Nat.add_zero] at e0
      have f0 := hfz (i * 4)
      have f1 := hfz (i * 4 + 1)
      have f2 := hfz (i * 4 + 2)
      have f3 := hfz (i * 4 + 3)
      clear hx hi h9 hal hce hfz
      go_wp2_with fail
      go_roundw
      case rel => exact ⟨i + 1, by rw [H9.out]; simp, hp, HP1.out⟩
      case measure => simp [H9.out]; omega
    · have ei : i = n := by omega
      go_wp2_with fail
      go_ret
      obtain ⟨k1, V, o1, l1, p1⟩ := HS.out
      have kw : Kept w wr := kept_of_kx HKX.out k1 fun b hb => by rw [hb, ← HG.out]; exact Nat.le_refl _
      refine ⟨_, rfl, kw, g, V, ?_, Nat.le_of_eq HG.out, ?_, ?_, fun j y hy => p1 j y ?_ hy⟩
      · rw [HN.out]
        rfl
      · rw [HN.out]
        exact o1
      · rw [HN.out]
        exact l1
      · obtain ⟨hj, -⟩ := List.getElem?_eq_some_iff.1 hy
        have := HN.out
        omega
end Go.Proofs.Ythaiejmajhmahab
