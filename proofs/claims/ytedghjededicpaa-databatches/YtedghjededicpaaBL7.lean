/- The laws' book of lists: growInts. -/
import Derived.Test.YtedghjededicpaaBL6
namespace Go.Proofs.Ytedghjededicpaa
open Go.ChangeShapes Go.WideShapes Go.ChangeAt Go.RowKit
set_option linter.unusedVariables false
set_option linter.unusedSimpArgs false

theorem bli_info : (Try.prog.info? 23).map (fun i => (i.zero, i.size, i.bytes)) = some (some (.slice none 0 0), 1, 24) := by kernel_rfl
theorem blli_under : Try.prog.underlying 36 = some (.slice 23) := by kernel_rfl
theorem mkl_app (i : Int) (p q : Nat) : mkl i 0 p ++ mkl i (p : Int) q = mkl i 0 (p + q) := by
  refine List.ext_getElem (by rw [List.length_append, mkl_len, mkl_len, mkl_len]) (fun t h1 h2 => ?_)
  rw [mkl_len] at h2
  have e : ∀ (a : Int) (n t : Nat) (h : t < (mkl i a n).length), (mkl i a n)[t] = -1000000 * i - (a + (t : Int)) - 7 := fun a n t h => by simp [mkl]
  rw [e]
  by_cases h : t < p
  · rw [List.getElem_append_left (by rw [mkl_len]; exact h), e]
  · rw [List.getElem_append_right (by rw [mkl_len]; omega), e, mkl_len]
    omega
theorem mkl_take (i : Int) (p q : Nat) (h : q ≤ p) : (mkl i 0 p).take q = mkl i 0 q := by
  rw [show p = q + (p - q) by omega, ← mkl_app, List.take_append_of_le_length (by rw [mkl_len]; exact Nat.le_refl _), List.take_of_length_le (by rw [mkl_len]; exact Nat.le_refl _)]
theorem Own.capEq {w : World} {g c d : Nat} {L M : List Int} (h : Own w g c L) (k : Own w g d M) : c = d := by
  obtain ⟨cur, h1, -, -, h2, -⟩ := h
  obtain ⟨cur', k1, -, -, k2, -⟩ := k
  rw [h1] at k1
  cases k1
  omega
/- append to a list that has no room behind -/
theorem app_full (t e : TypeId) (ht : Try.prog.underlying t = some (.slice e)) (z : Value) (by8 : Nat) (hinf : (Try.prog.info? e).map (fun i => (i.zero, i.size, i.bytes)) = some (some z, 1, by8)) (hz : z.cells.size = 1) (hby : by8 ≤ 24)
    (w : World) (b off : Nat) (olds news : List Value) (hO : ∀ j u, olds[j]? = some u → w.cell? ⟨b, off + j, none⟩ = some u) (ad : Addr) (m c : Nat) (hl : news.length = m) (hnews : ∀ j u, news[j]? = some u → w.cell? (ad.add j) = some u) (h1 : ∀ u ∈ news, u.oneCell' = true) (hm : 0 < m) (hsz : olds.length + m < 100000000) :
    ∃ cap w', (∀ ty, (Builtin.append_ #[t, t] ty #[.slice (some ⟨b, off, none⟩) olds.length olds.length, .slice (some ad) m c]).run Try.prog w = .ok (.slice (some ⟨w.heap.size, 0, none⟩) (olds.length + m) cap) w') ∧ OwnV w' w.heap.size cap e (olds ++ news) ∧ Kept w w' := by
  obtain ⟨i, hi, hz2, hs, hb⟩ := info_parts hinf
  have hS : Src Try.prog i.size t (.slice (some ad) m c) m news w := Src.ofSlice w ht ad m c news (by rw [hs]; omega) hnews h1
  obtain ⟨C, hC⟩ : ∃ C, grownCap w (olds.length + m) olds.length e = C := ⟨_, rfl⟩
  have hC1 : olds.length + m ≤ C := by rw [← hC]; exact grownCap_ge _ _ _ _
  have hC2 : C ≤ maxLen := by rw [← hC]; exact grownCap_le_maxLen _ _ _ _ (by simp [maxLen]; omega)
  have hO2 := ownV_new w.drew e z hz (olds ++ news) C (by rw [List.length_append]; omega) hC2
  have hK : Kept w (w.drew.alloc (.cells ((olds ++ news).toArray ++ Builtin.zeroCells z.cells (C - (olds ++ news).length)) e)) := (Kept.refl w).drew.alloc _ _
  refine ⟨C, _, fun ty => ?_, by simpa using hO2, hK⟩
  have hcl : olds.length < olds.length + m := by omega
  have := run_append_grow_src w t t ty e i z ht hi hz2 (some ⟨b, off, none⟩) olds.length olds.length olds (run_firstCells_some (P := Try.prog) w.drew i.size olds.length ⟨b, off, none⟩ olds.length olds.length olds (by rw [hs]; omega) (fun j u hu => by rw [Addr.add_lit]; exact hO j u hu)) (.slice (some ad) m c) m news hS hcl (by omega) (growslice_fits hcl (by rw [hb]; exact Nat.le_trans (Nat.mul_le_mul_left _ hby) (by omega)))
  rw [hC] at this
  rw [this]
  simp [hl]
/- a list of the book, as it grows: where it lay, or in a new block -/
structure GL (g n : Nat) (a : Nat → Option Addr) (c m : Nat → Nat) (i H p : Nat) (lv : Value) (u : World) : Prop where
  st : (lv = .slice none 0 0 ∧ p = 0) ∨ ∃ bl off cl, lv = .slice (some ⟨bl, off, none⟩) p cl ∧ Pw u bl off cl (mkl (i : Int) 0 p) ∧ ((a i = some ⟨bl, off, none⟩ ∧ cl = c i) ∨ H ≤ bl)
  ll : Lls u g n a c m (fun j => mkl (j : Int) 0 (m j))
theorem GL.kept {g n : Nat} {a : Nat → Option Addr} {c m : Nat → Nat} {i H p : Nat} {lv : Value} {u u' : World} (h : GL g n a c m i H p lv u) (k : Kept u u') : GL g n a c m i H p lv u' := by
  refine ⟨?_, h.ll.kept k⟩
  rcases h.st with h1 | ⟨bl, off, cl, h1, h2, h3⟩
  · exact .inl h1
  · exact .inr ⟨bl, off, cl, h1, h2.kept k, h3⟩
theorem app_pw (i p : Nat) (lv : Value) (u : World) (hst : (lv = .slice none 0 0 ∧ p = 0) ∨ ∃ bl off cl, lv = .slice (some ⟨bl, off, none⟩) p cl ∧ Pw u bl off cl (mkl (i : Int) 0 p)) (hp2 : p ≤ 2000000) (q : Nat) (hq : 0 < q) (hq2 : q ≤ 100) (gm cm : Nat) (hM : Own u gm cm (mkl (i : Int) (p : Int) q)) :
    ∃ bl cl w', (∀ ty, (Builtin.append_ #[23, 23] ty #[lv, .slice (some ⟨gm, 0, none⟩) q cm]).run Try.prog u = .ok (.slice (some ⟨bl, 0, none⟩) (p + q) cl) w') ∧ Own w' bl cl (mkl (i : Int) 0 (p + q)) ∧ ((bl = u.heap.size ∧ Kept u w') ∨ (lv = .slice (some ⟨bl, 0, none⟩) p cl ∧ Own u bl cl (mkl (i : Int) 0 p) ∧ Grw bl u w')) := by
  have hnew : ∀ (j : Nat) (v : Value), ((mkl (i : Int) (p : Int) q).map (Value.int .i64))[j]? = some v → u.cell? ((⟨gm, 0, none⟩ : Addr).add j) = some v := fun j v hj => by
    rw [Addr.add_lit, Nat.zero_add]
    rw [List.getElem?_map] at hj
    by_cases hjq : j < q
    · have := hM.cell j (by rw [mkl_len]; exact hjq)
      rw [List.getD_eq_getElem?_getD] at this
      cases hx : (mkl (i : Int) (p : Int) q)[j]? with
      | none => rw [hx] at hj; simp at hj
      | some d => rw [hx] at hj this; simp at hj; rw [← hj]; exact this
    · rw [List.getElem?_eq_none (by rw [mkl_len]; omega)] at hj; simp at hj
  have hone : ∀ v ∈ (mkl (i : Int) (p : Int) q).map (Value.int .i64), v.oneCell' = true := fun v hv => by
    obtain ⟨d, -, rfl⟩ := List.mem_map.1 hv
    rfl
  have whole : Rw u lv 3 ((mkl (i : Int) 0 p).map (Value.int .i64)) → ∃ bl cl w', (∀ ty, (Builtin.append_ #[23, 23] ty #[lv, .slice (some ⟨gm, 0, none⟩) q cm]).run Try.prog u = .ok (.slice (some ⟨bl, 0, none⟩) (p + q) cl) w') ∧ Own w' bl cl (mkl (i : Int) 0 (p + q)) ∧ ((bl = u.heap.size ∧ Kept u w') ∨ (lv = .slice (some ⟨bl, 0, none⟩) p cl ∧ Own u bl cl (mkl (i : Int) 0 p) ∧ Grw bl u w')) := fun hR => by
    obtain ⟨bl, cl, w', hr, hO, hk⟩ := app_gen 23 3 li_under (.int .i64 0) 8 int_info (by rfl) (by decide) u lv ((mkl (i : Int) 0 p).map (Value.int .i64)) ((mkl (i : Int) (p : Int) q).map (Value.int .i64)) hR ⟨gm, 0, none⟩ q cm (by rw [List.length_map, mkl_len]) hnew hone hq (by rw [List.length_map, mkl_len]; omega)
    rw [List.length_map, mkl_len] at hr hk
    rw [← List.map_append, mkl_app] at hO
    refine ⟨bl, cl, w', hr, own_v.2 hO, ?_⟩
    rcases hk with hk | ⟨e, k⟩
    · exact .inl hk
    · refine .inr ⟨e, ?_, k⟩
      rcases hR with ⟨-, e2⟩ | ⟨g2, c2, e2, h2⟩
      · rw [e2] at e; cases e
      · rw [e2] at e
        simp only [Value.slice.injEq, Option.some.injEq, Addr.mk.injEq] at e
        obtain ⟨⟨rfl, -⟩, -, rfl⟩ := e
        exact own_v.2 h2
  rcases hst with ⟨rfl, rfl⟩ | ⟨bl, off, cl, rfl, N, M, hO, h2, h3, ⟨rfl, rfl, rfl⟩ | e⟩
  · exact whole (.inl ⟨rfl, rfl⟩)
  · exact whole (.inr ⟨bl, N, by rw [List.length_map, mkl_len], own_v.1 hO⟩)
  · rw [mkl_len] at e
    subst e
    have hold : ∀ (j : Nat) (v : Value), ((mkl (i : Int) 0 cl).map (Value.int .i64))[j]? = some v → u.cell? ⟨bl, off + j, none⟩ = some v := fun j v hj => by
      rw [mkl_len] at h2 h3
      rw [List.getElem?_map] at hj
      by_cases hjq : j < cl
      · have h5 := hO.cell (off + j) (by omega)
        rw [h3 j hjq, List.getD_eq_getElem?_getD] at h5
        cases hx : (mkl (i : Int) 0 cl)[j]? with
        | none => rw [hx] at hj; simp at hj
        | some d => rw [hx] at hj h5; simp at hj; rw [← hj]; exact h5
      · rw [List.getElem?_eq_none (by rw [mkl_len]; omega)] at hj; simp at hj
    obtain ⟨C, w', hr, hO', hk⟩ := app_full 23 3 li_under (.int .i64 0) 8 int_info (by rfl) (by decide) u bl off ((mkl (i : Int) 0 cl).map (Value.int .i64)) ((mkl (i : Int) (cl : Int) q).map (Value.int .i64)) hold ⟨gm, 0, none⟩ q cm (by rw [List.length_map, mkl_len]) hnew hone hq (by rw [List.length_map, mkl_len]; omega)
    rw [List.length_map, mkl_len] at hr
    rw [← List.map_append, mkl_app] at hO'
    exact ⟨_, C, w', hr, own_v.2 hO', .inl ⟨rfl, hk⟩⟩
theorem Gs.grw {S : List Nat} {W u w' : World} {bl : Nat} (h : Gs S W u) (hb : bl ∈ S ∨ W.heap.size ≤ bl) (k : Grw bl u w') : Gs S W w' :=
  ⟨k.grown.os.trans h.os, k.grown.tape.trans h.tape, k.grown.output.trans h.output, Nat.le_trans h.size k.grown.size, fun i hi hn => (k.grown.block i (Nat.lt_of_lt_of_le hi h.size) (fun e => by
    cases e
    rcases hb with h1 | h1
    · exact hn h1
    · omega)).trans (h.block i hi hn), fun x => (k.frozen x).trans (h.frozen x)⟩
theorem GL.step {g n : Nat} {a : Nat → Option Addr} {c m : Nat → Nat} {i H p : Nat} {lv : Value} {u : World} (h : GL g n a c m i H p lv u) (hi : i < n) (hp : m i ≤ p) (hp2 : p ≤ 2000000) (q : Nat) (hq : 0 < q) (hq2 : q ≤ 100) (gm cm : Nat) (hM : Own u gm cm (mkl (i : Int) (p : Int) q)) (hgo : g ∉ ebs n a) (hlt : ∀ b ∈ ebs n a, b < H) (hgH : g < H) (W : World) (hW : W.heap.size = H) (hG : Gs (eb (a i)) W u) :
    ∃ bl cl w', (∀ ty, (Builtin.append_ #[23, 23] ty #[lv, .slice (some ⟨gm, 0, none⟩) q cm]).run Try.prog u = .ok (.slice (some ⟨bl, 0, none⟩) (p + q) cl) w') ∧ GL g n a c m i H (p + q) (.slice (some ⟨bl, 0, none⟩) (p + q) cl) w' ∧ Gs (eb (a i)) W w' ∧ Own w' bl cl (mkl (i : Int) 0 (p + q)) := by
  obtain ⟨bl, cl, w', hr, hOw, hk⟩ := app_pw i p lv u (by
    rcases h.st with h1 | ⟨bl, off, cl, h1, h2, -⟩
    · exact .inl h1
    · exact .inr ⟨bl, off, cl, h1, h2⟩) hp2 q hq hq2 gm cm hM
  have hin : ∀ bl, a i = some ⟨bl, 0, none⟩ → bl ∈ eb (a i) := fun bl e => by rw [e]; simp [eb]
  refine ⟨bl, cl, w', hr, ?_, ?_, hOw⟩
  · rcases hk with ⟨h1, k⟩ | ⟨h1, h2, k⟩
    · exact ⟨.inr ⟨bl, 0, cl, rfl, .of hOw, .inr (by rw [h1, ← hW]; exact hG.size)⟩, h.ll.kept k⟩
    · have h3 : (a i = some ⟨bl, 0, none⟩ ∧ cl = c i) ∨ H ≤ bl := by
        rcases h.st with ⟨e, -⟩ | ⟨bl', off', cl', e, -, h3⟩
        · rw [e] at h1; cases h1
        · rw [e] at h1
          simp only [Value.slice.injEq, Option.some.injEq, Addr.mk.injEq] at h1
          obtain ⟨⟨rfl, rfl, -⟩, -, rfl⟩ := h1
          exact h3
      refine ⟨.inr ⟨bl, 0, cl, rfl, .of hOw, h3⟩, ⟨fun j hj => ?_, fun j hj => ?_, h.ll.len, h.ll.ap, h.ll.out⟩⟩
      · have hgb : g ≠ bl := fun e => by
          rcases h3 with ⟨h3, -⟩ | h3
          · exact hgo (eb_in hi _ (by rw [e]; exact hin _ h3))
          · omega
        exact ((k.gs).cell g j (World.block_lt_of_cell? _ _ (h.ll.cell j hj)) (by simpa using hgb)).trans (h.ll.cell j hj)
      · by_cases e : j = i ∧ a i = some ⟨bl, 0, none⟩ ∧ cl = c i
        · obtain ⟨rfl, hb, hcl⟩ := e
          have hlen : p + q ≤ cl := by obtain ⟨cur, -, h5, -⟩ := hOw; rw [mkl_len] at h5; exact h5
          rcases h.ll.own j hj with ⟨h4, -⟩ | ⟨b, off, h4, N, M, h5, h6, h7, h8⟩
          · rw [h4] at hb; cases hb
          · rw [h4] at hb
            simp only [Option.some.injEq, Addr.mk.injEq] at hb
            obtain ⟨rfl, rfl, -⟩ := hb
            rcases h8 with ⟨-, h9, -⟩ | h9
            · refine .inr ⟨b, 0, h4, ?_⟩
              have := hOw.take (m j) (by rw [mkl_len]; omega)
              rw [mkl_take _ _ _ (by omega), hcl] at this
              exact .of this
            · rw [mkl_len] at h9; omega
        · refine (h.ll.own j hj).gs k.gs (fun b hb hm => ?_)
          rw [List.mem_singleton] at hm
          subst hm
          rcases h3 with h3 | h3
          · by_cases hji : j = i
            · exact e ⟨hji, h3⟩
            · exact h.ll.ap j i hj hi hji b hb (hin _ h3.1)
          · have := hlt b (eb_in hj _ hb)
            omega
  · rcases hk with ⟨-, k⟩ | ⟨h1, h2, k⟩
    · exact hG.kept k
    · rcases h.st with ⟨e, -⟩ | ⟨bl', off', cl', e, -, h3⟩
      · rw [e] at h1; cases h1
      · rw [e] at h1
        simp only [Value.slice.injEq, Option.some.injEq, Addr.mk.injEq] at h1
        obtain ⟨⟨rfl, rfl, -⟩, -, -⟩ := h1
        exact hG.grw (by
          rw [hW]
          rcases h3 with h3 | h3
          · exact .inl (hin _ h3.1)
          · exact .inr h3) k
theorem OwnV.gs {S : List Nat} {w w' : World} {g cap : Nat} {e : TypeId} {V : List Value} (h : OwnV w g cap e V) (k : Gs S w w') (hn : g ∉ S) : OwnV w' g cap e V := by
  obtain ⟨cur, h1, h2⟩ := h
  have hl : g < w.heap.size := by
    apply Decidable.byContradiction
    intro hc
    rw [Array.getElem?_eq_none (by omega)] at h1
    cases h1
  exact ⟨cur, (k.block g hl hn).trans h1, h2⟩
theorem own_two {w : World} {g g' c c' : Nat} {L : List Int} {V : List Value} (h : Own w g c L) (k : OwnV w g' c' 23 V) : g ≠ g' := fun e => by
  subst e
  obtain ⟨cur, h1, -⟩ := h
  obtain ⟨cur', k1, -⟩ := k
  rw [h1] at k1
  simp at k1
theorem Lls.gs {S : List Nat} {u u' : World} {g n : Nat} {a : Nat → Option Addr} {c m : Nat → Nat} {L : Nat → List Int} (h : Lls u g n a c m L) (k : Gs S u u') (hg : g ∉ S) (hb : ∀ b ∈ ebs n a, b ∉ S) : Lls u' g n a c m L :=
  ⟨fun j hj => (k.cell g j (World.block_lt_of_cell? _ _ (h.cell j hj)) hg).trans (h.cell j hj), fun j hj => (h.own j hj).gs k (fun b hbb => hb b (eb_in hj b hbb)), h.len, h.ap, h.out⟩
/- what has been grown so far, in a row of its own -/
structure Gout (H0 : Nat) (a : Nat → Option Addr) (m : Nat → Nat) (i : Nat) (ov : Value) (wr : World) (gb cb : Nat → Nat) : Prop where
  row : (i = 0 ∧ ov = .slice none 0 0) ∨ ∃ go co, ov = .slice (some ⟨go, 0, none⟩) i co ∧ H0 ≤ go ∧ OwnV wr go co 23 ((List.range i).map fun j => Value.slice (some ⟨gb j, 0, none⟩) (m j + 96) (cb j))
  el : ∀ j, j < i → Own wr (gb j) (cb j) (mkl (j : Int) 0 (m j + 96)) ∧ (gb j ∈ eb (a j) ∨ H0 ≤ gb j)
theorem gout_step {w : World} {g n : Nat} {a : Nat → Option Addr} {c m : Nat → Nat} {i : Nat} {ov : Value} {wr u : World} {gb cb : Nat → Nat} (h : Gout w.heap.size a m i ov wr gb cb) (hi : i < n) (hn : n ≤ 900) (bl cl : Nat) (hGL : GL g n a c m i wr.heap.size (m i + 96) (.slice (some ⟨bl, 0, none⟩) (m i + 96) cl) u) (hG : Gs (eb (a i)) wr u) (hown : Own u bl cl (mkl (i : Int) 0 (m i + 96))) (hGw : Gs (ebs n a) w wr) (hgo : g ∉ ebs n a) (hlt : ∀ b ∈ ebs n a, b < w.heap.size) (hgH : g < w.heap.size) :
    ∃ go co w', (∀ ty, (Builtin.append_ #[36, 36] ty #[ov, .slice (some ⟨u.heap.size, 0, none⟩) 1 1]).run Try.prog (u.alloc (.cells #[.slice (some ⟨bl, 0, none⟩) (m i + 96) cl] 23)) = .ok (.slice (some ⟨go, 0, none⟩) (i + 1) co) w') ∧ (∃ gb' cb', Gout w.heap.size a m (i + 1) (.slice (some ⟨go, 0, none⟩) (i + 1) co) w' gb' cb') ∧ Lls w' g n a c m (fun j => mkl (j : Int) 0 (m j)) ∧ Gs (ebs n a) w w' := by
  have k0 : Kept u (u.alloc (.cells #[.slice (some ⟨bl, 0, none⟩) (m i + 96) cl] 23)) := (Kept.refl u).alloc _ _
  obtain ⟨olds, hol⟩ : ∃ olds, olds = (List.range i).map fun j => Value.slice (some ⟨gb j, 0, none⟩) (m j + 96) (cb j) := ⟨_, rfl⟩
  have hlen : olds.length = i := by rw [hol, List.length_map, List.length_range]
  have hnin : ∀ b, w.heap.size ≤ b → b ∉ eb (a i) := fun b hb hm => by have := hlt b (eb_in hi _ hm); omega
  have hR : Rw u ov 23 olds := by
    rcases h.row with ⟨h1, h2⟩ | ⟨go, co, h1, h2, h3⟩
    · subst h1
      exact .inl ⟨by rw [hol]; rfl, h2⟩
    · rw [← hol] at h3
      exact .inr ⟨go, co, by rw [h1, hlen], h3.gs hG (hnin _ h2)⟩
  have hR0 : Rw (u.alloc (.cells #[.slice (some ⟨bl, 0, none⟩) (m i + 96) cl] 23)) ov 23 olds := by
    rcases hR with h1 | ⟨go, co, h1, h2⟩
    · exact .inl h1
    · exact .inr ⟨go, co, h1, h2.gs (k0.gs []) (by simp)⟩
  obtain ⟨go, co, w', hr, hO, hk⟩ := app_gen 36 23 blli_under (.slice none 0 0) 24 bli_info (by simp [Value.cells]) (by omega) (u.alloc (.cells #[.slice (some ⟨bl, 0, none⟩) (m i + 96) cl] 23)) ov olds [.slice (some ⟨bl, 0, none⟩) (m i + 96) cl] hR0 ⟨u.heap.size, 0, none⟩ 1 1 rfl (fun j v hj => by
    rw [Addr.add_lit, Nat.zero_add]
    rcases j with _ | j
    · cases hj; simp [go_sem]
    · simp at hj) (fun v hv => by simp at hv; rw [hv]; rfl) (by omega) (by omega)
  rw [hlen] at hr
  have hbl : Own u bl cl (mkl (i : Int) 0 (m i + 96)) ∧ (bl ∈ eb (a i) ∨ w.heap.size ≤ bl) := by
    refine ⟨hown, ?_⟩
    rcases hGL.st with ⟨e, -⟩ | ⟨bl', off', cl', e, h2, h3⟩
    · cases e
    · simp only [Value.slice.injEq, Option.some.injEq, Addr.mk.injEq] at e
      obtain ⟨⟨rfl, rfl, -⟩, -, rfl⟩ := e
      rcases h3 with ⟨h3, -⟩ | h3
      · exact .inl (by rw [h3]; simp [eb])
      · exact .inr (Nat.le_trans hGw.size h3)
  have hgw : w.heap.size ≤ go ∧ Gs [go] u w' := by
    have hs := Nat.le_trans hGw.size hG.size
    rcases hk with ⟨h1, k⟩ | ⟨h1, k⟩
    · exact ⟨by rw [h1]; simp; omega, (k0.trans k).gs _⟩
    · refine ⟨?_, (k0.gs _).trans k.gs⟩
      rcases h.row with ⟨-, h2⟩ | ⟨go', co', h2, h3, -⟩
      · rw [h2] at h1; cases h1
      · rw [h2] at h1
        simp only [Value.slice.injEq, Option.some.injEq, Addr.mk.injEq] at h1
        obtain ⟨⟨rfl, -⟩, -⟩ := h1
        exact h3
  have hfin : ∀ x c2 L, Own u x c2 L → Own w' x c2 L := fun x c2 L ho => by
    by_cases hxg : x = go
    · rcases hk with ⟨h1, k⟩ | ⟨h1, k⟩
      · exact ho.kept (k0.trans k)
      · exfalso
        rcases hR with ⟨-, h2⟩ | ⟨go', co', h2, h3⟩
        · rw [h2] at h1; cases h1
        · rw [h2] at h1
          simp only [Value.slice.injEq, Option.some.injEq, Addr.mk.injEq] at h1
          obtain ⟨⟨rfl, -⟩, -⟩ := h1
          exact own_two ho h3 hxg
    · exact ho.gs hgw.2 (by simpa using hxg)
  refine ⟨go, co, w', hr, ⟨fun j => if j = i then bl else gb j, fun j => if j = i then cl else cb j, ⟨.inr ⟨go, co, rfl, hgw.1, ?_⟩, fun j hj => ?_⟩⟩, ?_, ?_⟩
  · rw [List.range_succ, List.map_append]
    have e1 : ((List.range i).map fun j => Value.slice (some ⟨if j = i then bl else gb j, 0, none⟩) (m j + 96) (if j = i then cl else cb j)) = olds := by
      rw [hol]
      refine List.map_congr_left (fun j hj => ?_)
      rw [List.mem_range] at hj
      rw [if_neg (by omega), if_neg (by omega)]
    rw [e1]
    simp only [List.map_cons, List.map_nil, if_true]
    exact hO
  · by_cases e : j = i
    · subst e
      simp only [if_true]
      exact ⟨hfin _ _ _ hbl.1, hbl.2⟩
    · simp only [if_neg e]
      obtain ⟨h1, h2⟩ := h.el j (by omega)
      refine ⟨hfin _ _ _ (h1.gs hG (fun hm => ?_)), h2⟩
      rcases h2 with h2 | h2
      · exact hGL.ll.ap j i (by omega) hi e _ h2 hm
      · exact hnin _ h2 hm
  · exact hGL.ll.gs hgw.2 (by simp; omega) (fun b hb hm => by
      rw [List.mem_singleton] at hm
      have := hlt b hb
      omega)
  · have h1 : Gs (ebs n a) w u := hGw.trans (hG.mono (fun b hb => eb_in hi b hb))
    exact ⟨hgw.2.os.trans h1.os, hgw.2.tape.trans h1.tape, hgw.2.output.trans h1.output, Nat.le_trans h1.size hgw.2.size, fun x hx hn2 => (hgw.2.block x (Nat.lt_of_lt_of_le hx h1.size) (by simp; omega)).trans (h1.block x hx hn2), fun x => (hgw.2.frozen x).trans (h1.frozen x)⟩
end Go.Proofs.Ytedghjededicpaa
