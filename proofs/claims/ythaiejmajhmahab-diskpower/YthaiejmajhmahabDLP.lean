/- Package disk: settle. -/
import Derived.Test.YthaiejmajhmahabDLO
namespace Go.Proofs.Ythaiejmajhmahab
open Go.ChangeShapes Go.WideShapes Go.ChangeAt Go.RowKit Go.Maps
set_option linter.unusedVariables false
set_option linter.unusedSimpArgs false

theorem SetI.done {w wr : World} {O : Nat → Prop} {B : Nat} {a : Da} {d : Dk} {p : Wk → Bool} {q : Nat} {lv : Value} (h : SetI w O B a d p q d.W.length lv wr) (hq : Bd q d) (w2 : World) (hw2 : w2 = wr.setCell ⟨B, 7, none⟩ lv) :
    ∃ O' a', Stp w O w2 O' ∧ DSt w2 O' B a' (setD p d) ∧ Bd q (setD p d) ∧ a'.Fs = a.Fs := by
  obtain ⟨O', a', dd, left, vbl, h1, h2, h3, ⟨e1, e2, e3, e4, e5, e6, e7⟩, h5, h6, h7, h8, h9, h10⟩ := h
  have hd : DSt wr (fun b => O' b ∨ ob lv b) B a' dd := h2.mono (fun b hb => .inl hb) fun b hb => by
    rcases hb with hb | hb
    · exact h2.olt b hb
    · obtain ⟨c, hc⟩ := h5.ob hb
      exact lt_of_block hc
  have hS : Stp w O wr (fun b => O' b ∨ ob lv b) := ⟨h1.kx, fun b hb => by
    rcases hb with hb | hb
    · exact h1.new b hb
    · exact .inr (h7 b hb).2⟩
  obtain ⟨s1, s2⟩ := hd.works lv left vbl (KX.refl _ wr) (fun b hb => .inl (.inr hb)) h6 h5 (fun j x v hx hv => by
    obtain ⟨k, hk1, hk2⟩ := h8 j x v hx hv
    exact hd.wks.ok k x v (by rw [e5]; exact hk1) (by rw [e2]; exact hk2)) hw2
  have hs : setD p d = { dd with W := left } := by
    unfold setD
    rw [List.take_length] at h3
    rw [h3]
  rw [List.drop_length] at h9 h10
  simp only [wsum, Nat.add_zero] at h9 h10
  rw [hs]
  refine ⟨_, _, hS.trans s1, s2, ⟨by simp only; rw [e7]; exact hq.nn, h9, fun f => by simp only; rw [e6]; exact hq.cn f, h10, fun x hx => ?_⟩, e3⟩
  have hx : x ∈ left := hx
  obtain ⟨j, hj, e⟩ := List.getElem_of_mem hx
  obtain ⟨k, hk1, -⟩ := h8 j x (vbl[j]'(by rw [h6]; exact hj)) (by rw [List.getElem?_eq_getElem hj, e]) (List.getElem?_eq_getElem _)
  exact hq.ln x (List.mem_of_getElem? hk1)
theorem SetI.c7 {w wr : World} {O : Nat → Prop} {B : Nat} {a : Da} {d : Dk} {p : Wk → Bool} {q i : Nat} {lv : Value} (h : SetI w O B a d p q i lv wr) : wr.cell? ⟨B, 7, none⟩ = some a.pv ∧ wr.frozen? ⟨B, 7, none⟩ = false := by
  obtain ⟨O', a', dd, left, vbl, h1, h2, h3, ⟨e1, -⟩, h5⟩ := h
  have := h2.blk.cell 7 _ rfl
  rw [e1] at this
  exact ⟨this, h2.blk.free 7⟩
theorem SetI.kx {w wr : World} {O : Nat → Prop} {B : Nat} {a : Da} {d : Dk} {p : Wk → Bool} {q i : Nat} {lv : Value} (h : SetI w O B a d p q i lv wr) : KX O w wr := by
  obtain ⟨O', a', dd, left, vbl, h1, -⟩ := h
  exact h1.kx
theorem SetI.file {w wr : World} {O : Nat → Prop} {B : Nat} {a : Da} {d : Dk} {p : Wk → Bool} {q i : Nat} {lv : Value} (h : SetI w O B a d p q i lv wr) {f : Nat} (hf : a.Fs f) : Cb wr f := by
  obtain ⟨O', a', dd, left, vbl, h1, h2, h3, ⟨e1, e2, e3, -⟩, -⟩ := h
  exact (h2.fls.blk f (by rw [e3]; exact hf)).cb
theorem file_at (w : World) (f g : Nat) (hf : Cb w f) (hg : Cb w g) : (binOp .eql 52 (.pointer (some ⟨f, 0, none⟩)) (.pointer (some ⟨g, 0, none⟩))).run Try.prog w = .ok (.bool (decide (f = g))) w := eqlp w f g hf hg
/-- Works of a file's bytes. -/
def ofF (f0 : Nat) (x : Wk) : Bool := decide (x.file = f0) && !ofN x.kind
set_option maxHeartbeats 1000000 in
theorem flush1_any (C f0 : Nat) (x : Wk) (v : Value) (hv : ∃ ao n c, v = .slice ao n c) (w : World) (hC : w.cell? ⟨C, 0, none⟩ = some (.pointer (some ⟨f0, 0, none⟩))) (hCl : C < w.heap.size) (hx : Cb w x.file) (h0 : Cb w f0) :
    Calls Try.prog 25 #[wval x v, .pointer (some ⟨C, 0, none⟩)] w fun e w' => e = .returned (.bool (ofF f0 x)) ∧ Kept w w' := by
  obtain ⟨ao, n, c, rfl⟩ := hv
  obtain ⟨k, s, t, ln, f, bs⟩ := x
  have hX0 := arr_new w [.int .i64 k, .string s, .string t, .int .i64 ln, .pointer (some ⟨f, 0, none⟩), .slice ao n c] 59
  have kX : Kept w (w.alloc (.cells #[.int .i64 k, .string s, .string t, .int .i64 ln, .pointer (some ⟨f, 0, none⟩), .slice ao n c] 59)) := (Kept.refl w).alloc _ _
  have heq := eqlp _ f f0 (hx.kx (kX.kx fun _ => False) id) (h0.kx (kX.kx fun _ => False) id)
  have hCC := hid hC
  have hN := hid fun u => ofNames_raw k s t ln f ao n c u
  have HK := hid kX
  unfold ofF
  clear hx h0 hX0 kX
  simp only
  by_cases e : f = f0
  · rw [decide_eq_true e] at heq ⊢
    subst e
    rcases e2 : ofN k
    all_goals
      rw [e2] at hN
      go_enter Try.func25, Try.ntmps25
      go_wp2_with (first | (go_at_call 26; refine (hN.out _).mono ?_; rintro e u1 ⟨rfl, k1⟩))
      go_ret
      exact ⟨rfl, HK.out.trans k1⟩
  · rw [decide_eq_false e] at heq ⊢
    clear e
    go_enter Try.func25, Try.ntmps25
    go_wp2_with (first | (go_at_call 26; refine (hN.out _).mono ?_; rintro e u1 ⟨rfl, k1⟩))
    go_ret
    exact ⟨rfl, HK.out⟩
set_option maxHeartbeats 4000000 in
set_option maxRecDepth 100000 in
theorem settle_names (O : Nat → Prop) (B : Nat) (a : Da) (d : Dk) (q : Nat) (w : World) (hd : DSt w O B a d) (hq : Bd q d) (hq8 : q < 99999999) :
    Calls Try.prog 24 #[.pointer (some ⟨B, 0, none⟩), .func (.func 26) #[] #[]] w fun e w' => e = .returned (.tuple #[]) ∧ ∃ O' a', Stp w O w' O' ∧ DSt w' O' B a' (setD (fun x : Wk => ofN x.kind) d) ∧ Bd q (setD (fun x : Wk => ofN x.kind) d) ∧ a'.Fs = a.Fs := by
  have hc7 := hd.blk.cell 7 _ rfl
  have hI := SetI.start (p := (fun x : Wk => ofN x.kind)) hd hq
  obtain ⟨n, hn⟩ : ∃ n, d.W.length = n := ⟨_, rfl⟩
  have hpf : ∃ ao c, a.pv = .slice ao n c := by rw [← hn]; exact hd.wks.ms.form
  obtain ⟨ao, c, hpv⟩ := hpf
  rw [hpv] at hc7
  have HD := hid hd
  have HQ := hid hq
  have HQ8 := hid hq8
  have HN := hid hn
  have HPV := hid hpv
  have HnB := hid (show n < 99999999 by have := len_wsum d.W; have := hq.nf; omega)
  clear hd hq hq8 hpv
  go_enter Try.func24, Try.ntmps24
  go_wp2_with fail
  go_loopw [4, 12] (fun lv iv wr => ∃ i : Nat, iv = .int .i64 i ∧ i ≤ n ∧ (∃ ao k c, lv = .slice ao k c) ∧ SetI w O B a d (fun x : Wk => ofN x.kind) q i lv wr) (fun _ v _ => match v with | .int _ i => n - i.toNat | _ => 0)
  case atStart => exact ⟨0, rfl, Nat.zero_le n, ⟨_, _, _, rfl⟩, hI⟩
  case round =>
    clear hc7 hI
    obtain ⟨i, rfl, hi, ⟨al, kl, cl, rfl⟩, hS⟩ := hrel
    by_cases hp : i < n
    · obtain ⟨x, v, g, cap, hx, hv, hvf, hpv2, hcb, -, hcells⟩ := hS.at_ (by rw [HN.out]; exact hp)
      have e := HPV.out.symm.trans hpv2
      rw [HN.out] at e
      simp only [Value.slice.injEq] at e
      obtain ⟨rfl, -, rfl⟩ := e
      obtain ⟨av, nv, cv, rfl⟩ := hvf
      have c0 : wr.cell? ⟨g, i * 6, none⟩ = some (.int .i64 x.kind) := hcells 0 (by decide)
      have c1 : wr.cell? ⟨g, i * 6 + 1, none⟩ = some (.string x.nm) := hcells 1 (by decide)
      have c2 : wr.cell? ⟨g, i * 6 + 2, none⟩ = some (.string x.to_) := hcells 2 (by decide)
      have c3 : wr.cell? ⟨g, i * 6 + 3, none⟩ = some (.int .i64 x.len) := hcells 3 (by decide)
      have c4 : wr.cell? ⟨g, i * 6 + 4, none⟩ = some (.pointer (some ⟨x.file, 0, none⟩)) := hcells 4 (by decide)
      have c5 : wr.cell? ⟨g, i * 6 + 5, none⟩ = some (.slice av nv cv) := hcells 5 (by decide)
      clear hcells hpv2
      have HS := hid hS
      have HX := hid hx
      have HV := hid hv
      obtain ⟨M, hM⟩ : ∃ M, wr.heap.size = M := ⟨_, rfl⟩
      have hA := arr_new wr [.int .i64 x.kind, .string x.nm, .string x.to_, .int .i64 x.len, .pointer (some ⟨x.file, 0, none⟩), .slice av nv cv] 59
      rw [hM] at hA
      have HA := hid hA
      have kA : Kept wr (wr.alloc (.cells #[.int .i64 x.kind, .string x.nm, .string x.to_, .int .i64 x.len, .pointer (some ⟨x.file, 0, none⟩), .slice av nv cv] 59)) := (Kept.refl wr).alloc _ _
      have KA := hid kA
      have hC := hid (ofNames_any x (.slice av nv cv) ⟨_, _, _, rfl⟩ (wr.alloc (.cells #[.int .i64 x.kind, .string x.nm, .string x.to_, .int .i64 x.len, .pointer (some ⟨x.file, 0, none⟩), .slice av nv cv] 59)))
      have hC : Hid (Calls Try.prog 26 #[wval x (.slice av nv cv)] (wr.alloc (.cells #[.int .i64 x.kind, .string x.nm, .string x.to_, .int .i64 x.len, .pointer (some ⟨x.file, 0, none⟩), .slice av nv cv] 59)) fun e w' => e = .returned (.bool ((fun x : Wk => ofN x.kind) x)) ∧ Kept (wr.alloc (.cells #[.int .i64 x.kind, .string x.nm, .string x.to_, .int .i64 x.len, .pointer (some ⟨x.file, 0, none⟩), .slice av nv cv] 59)) w') := hC
      clear hS hx hv hA kA
      have HI := hid hi
      rcases hb : ((fun x : Wk => ofN x.kind)) x
      · rw [hb] at hC
        have HB := hid hb
        clear hb hi
        go_wp2_with (first | (go_at_call 26; (try rw [hM]); refine (hC.out).mono ?_; rintro e u1 ⟨rfl, k1⟩; obtain ⟨m0, m1, m2, m3, m4, m5⟩ := six (HA.out.kept k1)) | (at_builtin; have hL := HS.out.left HQ8.out (KA.out.trans k1) HX.out HV.out ⟨av, nv, cv, rfl⟩ HB.out; obtain ⟨ao2, n2, c2', w2, r1, r2⟩ := hL; refine wpList_append_run rfl _ _ _ rfl _ _ rfl rfl _ _ (r1 _) ?_))
        go_roundw
        case rel => exact ⟨i + 1, by simp [wrap64] <;> (have := HnB.out; omega), hp, ⟨_, _, _, rfl⟩, r2⟩
        case measure =>
          have h9 : wrap64 ((i : Int) + 1) = i + 1 := by unfold wrap64; have := HnB.out; omega
          simp [h9]
          omega
      · rw [hb] at hC
        have HB := hid hb
        clear hb hi
        go_wp2_with (first | (go_at_call 26; (try rw [hM]); refine (hC.out).mono ?_; rintro e u1 ⟨rfl, k1⟩; obtain ⟨m0, m1, m2, m3, m4, m5⟩ := six (HA.out.kept k1)) | (go_at_call 29; refine (HS.out.fast HQ.out (Nat.lt_succ_of_lt HQ8.out) (KA.out.trans k1) HX.out HV.out HB.out).mono ?_; rintro e u2 ⟨rfl, s2⟩))
        go_roundw
        case rel => exact ⟨i + 1, by simp [wrap64] <;> (have := HnB.out; omega), hp, ⟨_, _, _, rfl⟩, s2⟩
        case measure =>
          have h9 : wrap64 ((i : Int) + 1) = i + 1 := by unfold wrap64; have := HnB.out; omega
          simp [h9]
          omega
    · obtain ⟨c7, f7⟩ := hS.c7
      rw [HPV.out] at c7
      have HS := hid hS
      have ei : i = n := by omega
      clear hS
      go_wp2
      refine bodyPost_end (v := .tuple #[]) (by simp [results, Try.results24, go_sem]) rfl ⟨rfl, ?_⟩
      have hS := HS.out
      rw [ei, ← HN.out] at hS
      exact hS.done HQ.out _ rfl
set_option maxHeartbeats 4000000 in
set_option maxRecDepth 100000 in
theorem settle_file (O : Nat → Prop) (B : Nat) (a : Da) (d : Dk) (q : Nat) (w : World) (C f0 : Nat) (hC : Arr w C 52 [.pointer (some ⟨f0, 0, none⟩)]) (hCO : ¬ O C) (h0 : a.Fs f0) (hd : DSt w O B a d) (hq : Bd q d) (hq8 : q < 99999999) :
    Calls Try.prog 24 #[.pointer (some ⟨B, 0, none⟩), .func (.func 25) #[] #[.pointer (some ⟨C, 0, none⟩)]] w fun e w' => e = .returned (.tuple #[]) ∧ ∃ O' a', Stp w O w' O' ∧ DSt w' O' B a' (setD (ofF f0) d) ∧ Bd q (setD (ofF f0) d) ∧ a'.Fs = a.Fs := by
  have hc7 := hd.blk.cell 7 _ rfl
  have hI := SetI.start (p := (ofF f0)) hd hq
  obtain ⟨n, hn⟩ : ∃ n, d.W.length = n := ⟨_, rfl⟩
  have hpf : ∃ ao c, a.pv = .slice ao n c := by rw [← hn]; exact hd.wks.ms.form
  obtain ⟨ao, c, hpv⟩ := hpf
  rw [hpv] at hc7
  have HD := hid hd
  have HQ := hid hq
  have HQ8 := hid hq8
  have HN := hid hn
  have HPV := hid hpv
  have HnB := hid (show n < 99999999 by have := len_wsum d.W; have := hq.nf; omega)
  have HAC := hid hC
  have HCO := hid hCO
  have H0 := hid h0
  clear hC hCO h0
  clear hd hq hq8 hpv
  go_enter Try.func24, Try.ntmps24
  go_wp2_with fail
  go_loopw [4, 12] (fun lv iv wr => ∃ i : Nat, iv = .int .i64 i ∧ i ≤ n ∧ (∃ ao k c, lv = .slice ao k c) ∧ SetI w O B a d (ofF f0) q i lv wr) (fun _ v _ => match v with | .int _ i => n - i.toNat | _ => 0)
  case atStart => exact ⟨0, rfl, Nat.zero_le n, ⟨_, _, _, rfl⟩, hI⟩
  case round =>
    clear hc7 hI
    obtain ⟨i, rfl, hi, ⟨al, kl, cl, rfl⟩, hS⟩ := hrel
    by_cases hp : i < n
    · obtain ⟨x, v, g, cap, hx, hv, hvf, hpv2, hcb, -, hcells⟩ := hS.at_ (by rw [HN.out]; exact hp)
      have e := HPV.out.symm.trans hpv2
      rw [HN.out] at e
      simp only [Value.slice.injEq] at e
      obtain ⟨rfl, -, rfl⟩ := e
      obtain ⟨av, nv, cv, rfl⟩ := hvf
      have c0 : wr.cell? ⟨g, i * 6, none⟩ = some (.int .i64 x.kind) := hcells 0 (by decide)
      have c1 : wr.cell? ⟨g, i * 6 + 1, none⟩ = some (.string x.nm) := hcells 1 (by decide)
      have c2 : wr.cell? ⟨g, i * 6 + 2, none⟩ = some (.string x.to_) := hcells 2 (by decide)
      have c3 : wr.cell? ⟨g, i * 6 + 3, none⟩ = some (.int .i64 x.len) := hcells 3 (by decide)
      have c4 : wr.cell? ⟨g, i * 6 + 4, none⟩ = some (.pointer (some ⟨x.file, 0, none⟩)) := hcells 4 (by decide)
      have c5 : wr.cell? ⟨g, i * 6 + 5, none⟩ = some (.slice av nv cv) := hcells 5 (by decide)
      clear hcells hpv2
      have HS := hid hS
      have HX := hid hx
      have HV := hid hv
      obtain ⟨M, hM⟩ : ∃ M, wr.heap.size = M := ⟨_, rfl⟩
      have hA := arr_new wr [.int .i64 x.kind, .string x.nm, .string x.to_, .int .i64 x.len, .pointer (some ⟨x.file, 0, none⟩), .slice av nv cv] 59
      rw [hM] at hA
      have HA := hid hA
      have kA : Kept wr (wr.alloc (.cells #[.int .i64 x.kind, .string x.nm, .string x.to_, .int .i64 x.len, .pointer (some ⟨x.file, 0, none⟩), .slice av nv cv] 59)) := (Kept.refl wr).alloc _ _
      have KA := hid kA
      have hC := hid (flush1_any C f0 x (.slice av nv cv) ⟨_, _, _, rfl⟩ (wr.alloc (.cells #[.int .i64 x.kind, .string x.nm, .string x.to_, .int .i64 x.len, .pointer (some ⟨x.file, 0, none⟩), .slice av nv cv] 59)) (((HAC.out.kx hS.kx HCO.out).kept kA).cell 0 _ rfl) ((HAC.out.kx hS.kx HCO.out).kept kA).lt (hcb.kx (kA.kx fun _ => False) id) ((hS.file H0.out).kx (kA.kx fun _ => False) id))
      clear hS hx hv hA kA
      have HI := hid hi
      rcases hb : ((ofF f0)) x
      · rw [hb] at hC
        have HB := hid hb
        clear hb hi
        go_wp2_with (first | (go_at_call 25; (try rw [hM]); refine (hC.out).mono ?_; rintro e u1 ⟨rfl, k1⟩; obtain ⟨m0, m1, m2, m3, m4, m5⟩ := six (HA.out.kept k1)) | (at_builtin; have hL := HS.out.left HQ8.out (KA.out.trans k1) HX.out HV.out ⟨av, nv, cv, rfl⟩ HB.out; obtain ⟨ao2, n2, c2', w2, r1, r2⟩ := hL; refine wpList_append_run rfl _ _ _ rfl _ _ rfl rfl _ _ (r1 _) ?_))
        go_roundw
        case rel => exact ⟨i + 1, by simp [wrap64] <;> (have := HnB.out; omega), hp, ⟨_, _, _, rfl⟩, r2⟩
        case measure =>
          have h9 : wrap64 ((i : Int) + 1) = i + 1 := by unfold wrap64; have := HnB.out; omega
          simp [h9]
          omega
      · rw [hb] at hC
        have HB := hid hb
        clear hb hi
        go_wp2_with (first | (go_at_call 25; (try rw [hM]); refine (hC.out).mono ?_; rintro e u1 ⟨rfl, k1⟩; obtain ⟨m0, m1, m2, m3, m4, m5⟩ := six (HA.out.kept k1)) | (go_at_call 29; refine (HS.out.fast HQ.out (Nat.lt_succ_of_lt HQ8.out) (KA.out.trans k1) HX.out HV.out HB.out).mono ?_; rintro e u2 ⟨rfl, s2⟩))
        go_roundw
        case rel => exact ⟨i + 1, by simp [wrap64] <;> (have := HnB.out; omega), hp, ⟨_, _, _, rfl⟩, s2⟩
        case measure =>
          have h9 : wrap64 ((i : Int) + 1) = i + 1 := by unfold wrap64; have := HnB.out; omega
          simp [h9]
          omega
    · obtain ⟨c7, f7⟩ := hS.c7
      rw [HPV.out] at c7
      have HS := hid hS
      have ei : i = n := by omega
      clear hS
      go_wp2
      refine bodyPost_end (v := .tuple #[]) (by simp [results, Try.results24, go_sem]) rfl ⟨rfl, ?_⟩
      have hS := HS.out
      rw [ei, ← HN.out] at hS
      exact hS.done HQ.out _ rfl
end Go.Proofs.Ythaiejmajhmahab
