/- How a state and bytes are read. -/
import Derived.Test.YtocjfdiimapojaaLiftN
import Derived.Test.YtocjfdiimapojaaMH
import Derived.Deep.Slices
namespace Go.Proofs.Ytocjfdiimapojaa
open Go.ChangeShapes Go.WideShapes Go.ChangeAt Go.RowKit Go.Joins
set_option linter.unusedVariables false
set_option linter.unusedSimpArgs false

theorem cells_li : Try.prog.cellsOf 52 = 1 := by kernel_rfl
theorem cells_mat4 : Try.prog.cellsOf 54 = 4 := by kernel_rfl
theorem cells_lm : Try.prog.cellsOf 32 = 1 := by kernel_rfl
theorem cells_llm : Try.prog.cellsOf 33 = 1 := by kernel_rfl
theorem cells_sta : Try.prog.cellsOf 35 = 7 := by kernel_rfl
theorem cells_u8 : Try.prog.cellsOf 5 = 1 := by kernel_rfl
section
variable {H : Type} {enc : TypeId × Value → H} {W : World}

theorem open_bytes {fuel : Nat} {cs : List Value} {x : DataW H × List MemPlace} (h : DataW.trod enc Try.prog W 0 (fun _ => true) true fuel 22 cs = some x) :
    ∃ (L : List Int) (ar : Option Addr) (cr : Nat), cs = [.slice ar L.length cr] ∧ Byt L ∧ L.length ≤ cr ∧ cr ≤ maxLen ∧ (L ≠ [] → ∃ b off, ar = some ⟨b, off, none⟩ ∧ b < W.heap.size ∧ BR W b off L) := by
  rcases open_ints Try.underlying22 Try.underlying5 cells_u8 h with ⟨rfl, -⟩ | ⟨a, len, cap, zs, rfl, -, hl, hm, hz, -, hcell, hwf⟩
  · exact ⟨[], none, 0, rfl, byt_nil, Nat.le_refl _, by simp [maxLen], fun h => absurd rfl h⟩
  · have hlen : (zs.take len).length = len := by
      rw [List.length_take, hz]
      simp
      omega
    have hzl : len ≤ zs.length := by rw [hz]; simp; omega
    refine ⟨zs.take len, some a, cap, by rw [hlen], fun i hi => ?_, by rw [hlen]; exact hl, hm, fun hne => ?_⟩
    · rw [hlen] at hi
      have hw := hwf ((zs.take len).getD i 0) (List.mem_of_mem_take (i := len) (by
        rw [List.getD_eq_getElem?_getD, List.getElem?_eq_getElem (by rw [hlen]; exact hi)]
        exact List.getElem_mem _))
      simp only [Lit.wf, Bool.and_eq_true, decide_eq_true_eq] at hw
      have h1 : IntKind.u8.min = 0 := rfl
      have h2 : IntKind.u8.max = 255 := rfl
      omega
    · have hpos : 0 < len := by
        rcases Nat.eq_zero_or_pos len with h0 | h0
        · subst h0; simp at hne
        · exact h0
      have h0 := hcell 0 (by omega)
      have hs := World.cell?_spot h0
      have hb := World.block_lt_of_cell? W _ h0
      obtain ⟨ab, ao, asp⟩ := a
      simp [Addr.add] at hs hb
      subst hs
      refine ⟨ab, ao, rfl, hb, fun i hi => ?_⟩
      rw [hlen] at hi
      have := hcell i (by omega)
      rw [Addr.add_lit] at this
      rw [this, List.getD_eq_getElem?_getD, List.getD_eq_getElem?_getD, List.getElem?_take, if_pos hi]

set_option maxRecDepth 100000 in
theorem open_ml {fuel : Nat} {cs : List Value} {x : DataW H × List MemPlace} (hf : DataW.trod enc Try.prog W 0 (fun _ => true) true fuel 32 cs = some x) :
    ∃ (v : Value) (l : List Mat), cs = [v] ∧ MlI W v l ∧ l.length ≤ maxLen ∧ ∀ m ∈ l, MRg m := by
  rcases Go.Deep.open_slice Try.underlying32 hf with ⟨rfl, -⟩ | ⟨a, len, cap, m, n, D, Pl, rfl, hb, hl, hm, hmm, hxd, hx⟩
  · exact ⟨_, [], rfl, ⟨none, 0, rfl, Nat.le_refl _, fun h => absurd rfl h⟩, by simp, fun m hm => by cases hm⟩
  · have hlm : len ≤ m := by rw [hmm]; simp; omega
    have hsp : 0 < len → a.spot = none := fun h0 => by
      obtain ⟨cz, hz1, -⟩ := hx 0 (by omega)
      rw [cells_mat4] at hz1
      obtain ⟨_, hlz, hcz⟩ := World.cells?_some hz1
      have c0 := hcz 0 (by omega)
      obtain ⟨u, hu⟩ : ∃ u, cz[0]? = some u := ⟨cz[0]'(by omega), List.getElem?_eq_getElem _⟩
      rw [hu] at c0
      have := World.cell?_spot c0
      simpa [Addr.add] using this
    have each : ∀ i, ∃ q : Mat, i < len → ∃ B off b c, a = ⟨B, off, none⟩ ∧ MC W B (off + i * 4) b c q ∧ MRg q := fun i => by
      by_cases hi : i < len
      · obtain ⟨cs', h1, h2⟩ := hx i (by omega)
        rw [cells_mat4] at h1
        obtain ⟨_, hlen', hcell⟩ := World.cells?_some h1
        obtain ⟨y0, y1, y2, y3, n1, hy, -, g0, g1, g2, g3⟩ := trod_struct4 Try.underlying54 h2
        match cs', hlen' with
        | [v0, v1, v2, v3], _ =>
          simp only [cells_int, cells_li, List.drop_zero, List.drop_succ_cons, List.take_succ_cons, List.take_zero] at g0 g1 g2 g3
          obtain ⟨x0, e0, -, w0⟩ := DataW.trod_int Try.underlying3 g0
          obtain ⟨x1, e1, -, w1⟩ := DataW.trod_int Try.underlying3 g1
          obtain ⟨x2, e2, -, w2⟩ := DataW.trod_int Try.underlying3 g2
          obtain ⟨L, lr, cr, e3, -, hR, hS⟩ := open_lst g3
          simp only [List.cons.injEq, and_true] at e0 e1 e2 e3
          subst e0 e1 e2 e3
          have c0 := hcell 0 (by omega)
          have c1 := hcell 1 (by omega)
          have c2 := hcell 2 (by omega)
          have c3 := hcell 3 (by omega)
          simp only [List.getElem?_cons_zero, List.getElem?_cons_succ] at c0 c1 c2 c3
          have hs : a.spot = none := hsp (by omega)
          obtain ⟨ab, ao, asp⟩ := a
          simp only at hs
          subst hs
          rw [Addr.add_lit, Addr.add_lit] at c0 c1 c2 c3
          exact ⟨⟨x0, x1, x2, L⟩, fun _ => ⟨ab, ao, lr, cr, rfl, ⟨by simpa using c0, by simpa using c1, by simpa using c2, by simpa using c3, hS⟩, hR⟩⟩
      · exact ⟨⟨0, 0, 0, []⟩, fun h => absurd h hi⟩
    have hll : ((List.range len).map fun i => Classical.choose (each i)).length = len := by simp
    refine ⟨_, (List.range len).map fun i => Classical.choose (each i), rfl, ⟨some a, cap, by rw [hll], by rw [hll]; exact hl, fun hne => ?_⟩, by rw [hll]; omega, fun q hq => ?_⟩
    · have hpos : 0 < len := by
        rcases Nat.eq_zero_or_pos len with h0 | h0
        · subst h0; simp at hne
        · exact h0
      obtain ⟨B, off, -, -, ea, -, -⟩ := Classical.choose_spec (each 0) hpos
      refine ⟨B, off, by rw [ea], fun i q hq => ?_⟩
      obtain ⟨hi, hq2⟩ := List.getElem?_eq_some_iff.1 hq
      rw [hll] at hi
      obtain ⟨B2, off2, b, c, ea2, hmc, -⟩ := Classical.choose_spec (each i) hi
      rw [ea] at ea2
      cases ea2
      simp only [List.getElem_map, List.getElem_range] at hq2
      rw [← hq2]
      exact ⟨b, c, hmc⟩
    · obtain ⟨i, hi, rfl⟩ := List.mem_map.1 hq
      obtain ⟨-, -, -, -, -, -, hr⟩ := Classical.choose_spec (each i) (List.mem_range.1 hi)
      exact hr

set_option maxRecDepth 100000 in
theorem open_ll {fuel : Nat} {cs : List Value} {x : DataW H × List MemPlace} (hf : DataW.trod enc Try.prog W 0 (fun _ => true) true fuel 33 cs = some x) :
    ∃ (v : Value) (Q : List (List Mat)), cs = [v] ∧ LlI W v Q ∧ Q.length ≤ maxLen ∧ ∀ l ∈ Q, l.length ≤ maxLen ∧ ∀ m ∈ l, MRg m := by
  rcases Go.Deep.open_slice Try.underlying33 hf with ⟨rfl, -⟩ | ⟨a, len, cap, m, n, D, Pl, rfl, hb, hl, hm, hmm, hxd, hx⟩
  · exact ⟨_, [], rfl, ⟨none, 0, rfl, Nat.le_refl _, fun h => absurd rfl h⟩, by simp, fun m hm => by cases hm⟩
  · have hlm : len ≤ m := by rw [hmm]; simp; omega
    have hsp : 0 < len → a.spot = none := fun h0 => by
      obtain ⟨cz, hz1, -⟩ := hx 0 (by omega)
      rw [cells_lm] at hz1
      obtain ⟨_, hlz, hcz⟩ := World.cells?_some hz1
      have c0 := hcz 0 (by omega)
      obtain ⟨u, hu⟩ : ∃ u, cz[0]? = some u := ⟨cz[0]'(by omega), List.getElem?_eq_getElem _⟩
      rw [hu] at c0
      have := World.cell?_spot c0
      simpa [Addr.add] using this
    have each : ∀ i, ∃ q : List Mat, i < len → ∃ B off lv, a = ⟨B, off, none⟩ ∧ W.cell? ⟨B, off + i, none⟩ = some lv ∧ MlI W lv q ∧ q.length ≤ maxLen ∧ ∀ m ∈ q, MRg m := fun i => by
      by_cases hi : i < len
      · obtain ⟨cs', h1, h2⟩ := hx i (by omega)
        rw [cells_lm] at h1
        obtain ⟨_, hlen', hcell⟩ := World.cells?_some h1
        obtain ⟨lv, q, rfl, hM, hq, hr⟩ := open_ml h2
        have c0 := hcell 0 (by omega)
        simp only [List.getElem?_cons_zero] at c0
        have hs : a.spot = none := hsp (by omega)
        obtain ⟨ab, ao, asp⟩ := a
        simp only at hs
        subst hs
        rw [Addr.add_lit, Addr.add_lit] at c0
        exact ⟨q, fun _ => ⟨ab, ao, lv, rfl, by simpa using c0, hM, hq, hr⟩⟩
      · exact ⟨[], fun h => absurd h hi⟩
    have hll : ((List.range len).map fun i => Classical.choose (each i)).length = len := by simp
    refine ⟨_, (List.range len).map fun i => Classical.choose (each i), rfl, ⟨some a, cap, by rw [hll], by rw [hll]; exact hl, fun hne => ?_⟩, by rw [hll]; omega, fun q hq => ?_⟩
    · have hpos : 0 < len := by
        rcases Nat.eq_zero_or_pos len with h0 | h0
        · subst h0; simp at hne
        · exact h0
      obtain ⟨B, off, -, ea, -⟩ := Classical.choose_spec (each 0) hpos
      refine ⟨B, off, by rw [ea], fun i q hq => ?_⟩
      obtain ⟨hi, hq2⟩ := List.getElem?_eq_some_iff.1 hq
      rw [hll] at hi
      obtain ⟨B2, off2, lv, ea2, hc, hmc, -⟩ := Classical.choose_spec (each i) hi
      rw [ea] at ea2
      cases ea2
      simp only [List.getElem_map, List.getElem_range] at hq2
      rw [← hq2]
      exact ⟨lv, hc, hmc⟩
    · obtain ⟨i, hi, rfl⟩ := List.mem_map.1 hq
      obtain ⟨-, -, -, -, -, -, hr⟩ := Classical.choose_spec (each i) (List.mem_range.1 hi)
      exact hr
theorem array7 {cs : Array Value} (h : cs.size = 7) : ∃ c0 c1 c2 c3 c4 c5 c6, cs = #[c0, c1, c2, c3, c4, c5, c6] := by
  obtain ⟨l⟩ := cs
  match l, h with
  | [c0, c1, c2, c3, c4, c5, c6], _ => exact ⟨c0, c1, c2, c3, c4, c5, c6, rfl⟩
set_option maxRecDepth 100000 in
theorem open_state {b0 : Nat} {v : Value} {d : DataW H} {p : List MemPlace} (hv : Value.okWide Try.prog W .any b0 35 v) (h : DataW.Trod enc Try.prog W 0 (fun _ => true) true 35 v d p) :
    ∃ s : Sta, StI W v s ∧ SRg s ∧ s.P.length ≤ maxLen ∧ s.Q.length ≤ maxLen ∧ ∀ l ∈ s.Q, l.length ≤ maxLen := by
  obtain ⟨cs, rfl, hsz⟩ := okWide_struct Try.underlying35 hv
  obtain ⟨c0, c1, c2, c3, c4, c5, c6, rfl⟩ := array7 (hsz.trans cells_sta)
  obtain ⟨fuel, hf⟩ := h
  obtain ⟨xs, n, -, -, -, hlen, hg⟩ := DataW.trod_struct Try.underlying35 hf
  match xs, hlen with
  | [y0, y1, y2, y3, y4, y5, y6], _ =>
    have h0 := hg 0 { name := "Step", type := 3, offset := 0, embedded := false, tag := "", pkgPath := "", byteOffset := 0 } rfl
    have h1 := hg 1 { name := "Epoch", type := 3, offset := 1, embedded := false, tag := "", pkgPath := "", byteOffset := 8 } rfl
    have h2 := hg 2 { name := "Batch", type := 3, offset := 2, embedded := false, tag := "", pkgPath := "", byteOffset := 16 } rfl
    have h3 := hg 3 { name := "Params", type := 32, offset := 3, embedded := false, tag := "", pkgPath := "", byteOffset := 24 } rfl
    have h4 := hg 4 { name := "Slots", type := 33, offset := 4, embedded := false, tag := "", pkgPath := "", byteOffset := 48 } rfl
    have h5 := hg 5 { name := "Loss", type := 3, offset := 5, embedded := false, tag := "", pkgPath := "", byteOffset := 72 } rfl
    have h6 := hg 6 { name := "Rate", type := 3, offset := 6, embedded := false, tag := "", pkgPath := "", byteOffset := 80 } rfl
    simp only [Value.cells, cells_int, cells_lm, cells_llm, List.drop_zero, List.drop_succ_cons, List.take_succ_cons, List.take_zero, List.getElem?_cons_zero, List.getElem?_cons_succ] at h0 h1 h2 h3 h4 h5 h6
    obtain ⟨x0, e0, -, w0⟩ := DataW.trod_int Try.underlying3 h0
    obtain ⟨x1, e1, -, w1⟩ := DataW.trod_int Try.underlying3 h1
    obtain ⟨x2, e2, -, w2⟩ := DataW.trod_int Try.underlying3 h2
    obtain ⟨pv, P, e3, hP, hPl, hPr⟩ := open_ml h3
    obtain ⟨qv, Q, e4, hQ, hQl, hQr⟩ := open_ll h4
    obtain ⟨x5, e5, -, w5⟩ := DataW.trod_int Try.underlying3 h5
    obtain ⟨x6, e6, -, w6⟩ := DataW.trod_int Try.underlying3 h6
    simp only [Value.cells, cells_int, List.drop_zero, List.drop_succ_cons, List.take_succ_cons, List.take_zero, List.cons.injEq, and_true] at e0 e1 e2 e3 e4 e5 e6
    subst e0 e1 e2 e3 e4 e5 e6
    exact ⟨⟨x0, x1, x2, P, Q, x5, x6⟩, ⟨_, _, rfl, hP, hQ⟩, ⟨wf_rng x5 w5, wf_rng x6 w6, hPr, fun l hl => (hQr l hl).2⟩, hPl, hQl, fun l hl => (hQr l hl).1⟩
end
theorem slen_of (s : Sta) (h1 : s.P.length ≤ maxLen) (h2 : s.Q.length ≤ maxLen) (h3 : ∀ l ∈ s.Q, l.length ≤ maxLen) : s.P.length ≤ 9223372036854775807 ∧ s.Q.length ≤ 9223372036854775807 ∧ ∀ l ∈ s.Q, l.length ≤ 9223372036854775807 := by
  have e : maxLen = 9223372036854775807 := by decide +kernel
  rw [e] at h1 h2
  exact ⟨h1, h2, fun l hl => by have := h3 l hl; rw [e] at this; exact this⟩
end Go.Proofs.Ytocjfdiimapojaa
