/- How a list of matrices is read. -/
import Derived.Test.YtcldcjchfagcoaaLiftN
import Derived.Test.YtcldcjchfagcoaaTGa
import Derived.Deep.Slices
import Derived.SizedLaws
namespace Go.Proofs.Ytcldcjchfagcoaa
open Go.ChangeShapes Go.WideShapes Go.ChangeAt Go.RowKit Go.Joins
set_option linter.unusedVariables false

theorem bytes_int : Try.prog.bytesOf 3 = 8 := by kernel_rfl
theorem bytes_mat : Try.prog.bytesOf 24 = 48 := by kernel_rfl
theorem cells_li : Try.prog.cellsOf 22 = 1 := by kernel_rfl

section
variable {H : Type} {enc : TypeId × Value → H} {W : World}

theorem open_lst2 {fuel : Nat} {cs : List Value} {x : DataW H × List MemPlace} (h : DataW.trod enc Try.prog W 0 (fun _ => true) true fuel 22 cs = some x) (hz : ∀ m ∈ x.1.weights Try.prog 22, m ≤ reachBytes) :
    ∃ (L : List Int) (ar : Option Addr) (cr : Nat), cs = [.slice ar L.length cr] ∧ (∀ d ∈ L, -9223372036854775808 ≤ d ∧ d ≤ 9223372036854775807) ∧ Sl W (.slice ar L.length cr) L ∧ L.length ≤ 140737488351232 := by
  have h' := h
  rcases open_ints Try.underlying22 Try.underlying3 cells_int h with ⟨rfl, -⟩ | ⟨a, len, cap, zs, rfl, -, hl, hm, hzs, hx, -, -⟩
  · obtain ⟨L, ar, cr, e, -, hR, hS⟩ := open_lst h'
    refine ⟨L, ar, cr, e, hR, hS, ?_⟩
    simp only [List.cons.injEq, and_true] at e
    injection e with e1 e2 e3
    omega
  · obtain ⟨L, ar, cr, e, -, hR, hS⟩ := open_lst h'
    refine ⟨L, ar, cr, e, hR, hS, ?_⟩
    simp only [List.cons.injEq, and_true] at e
    injection e with e1 e2 e3
    have := hz ((lits IntKind.i64 (zs.take len)).length * 8 + (lits IntKind.i64 (zs.drop len)).length * 8) (by
      rw [hx]
      simp [DataW.weights, Try.underlying22, bytes_int, Nat.add_mul]
      exact .inl rfl)
    simp only [lits, List.length_map, List.length_take, List.length_drop, reachBytes] at this
    have : len ≤ zs.length := by rw [hzs]; simp; omega
    omega

theorem weightsAll_mem {P : Program} {e : TypeId} : ∀ {l : List (DataW H)} {d : DataW H}, d ∈ l → ∀ m ∈ d.weights P e, m ∈ DataW.weightsAll P e l
  | [], _, h, _, _ => by cases h
  | d0 :: l, d, h, m, hm => by
    rw [DataW.weightsAll]
    rcases List.mem_cons.1 h with h | h
    · subst h; exact List.mem_append_left _ hm
    · exact List.mem_append_right _ (weightsAll_mem h m hm)

set_option maxRecDepth 100000 in
theorem open_mats {b0 : Nat} {v : Value} {d : DataW H} {p : List MemPlace} (hv : Value.okWide Try.prog W .any b0 70 v) (h : DataW.Trod enc Try.prog W 0 (fun _ => true) true 70 v d p) (hsz : ∀ m ∈ d.weights Try.prog 70, m ≤ reachBytes) :
    ∃ (la : Option Addr) (k lc : Nat) (r c n : Nat → Int) (a : Nat → Option Addr) (cap : Nat → Nat) (L : Nat → List Int), v = .slice la k lc ∧ k ≤ 140737488351232 ∧ (0 < k → ∃ B off, la = some ⟨B, off, none⟩ ∧ Lm W B off k r c n a cap L) ∧ (∀ i, i < k → (L i).length ≤ 140737488351232) ∧ (∀ i, i < k → ∀ x ∈ L i, -9223372036854775808 ≤ x ∧ x ≤ 9223372036854775807) := by
  obtain ⟨ar, len, cp, rfl⟩ := okWide_slice Try.underlying70 hv
  obtain ⟨fuel, hf⟩ := h
  rcases Nat.eq_zero_or_pos len with rfl | hlen
  · exact ⟨ar, 0, cp, fun _ => 0, fun _ => 0, fun _ => 0, fun _ => none, fun _ => 0, fun _ => [], rfl, by omega, fun h => by omega, fun i hi => by omega, fun i hi => by omega⟩
  rcases Go.Deep.open_slice Try.underlying70 hf with ⟨h0, -⟩ | ⟨a, len', cap', m, n, D, Pl, hcs, hb, hl, hm, hmm, hxd, hx⟩
  · have : len = 0 := by simp [Value.cells] at h0; exact h0.2.1
    omega
  · have he : ar = some a ∧ len = len' ∧ cp = cap' := by simp [Value.cells] at hcs; exact hcs
    obtain ⟨rfl, rfl, rfl⟩ := he
    have hlm : len ≤ m := by rw [hmm]; simp; omega
    have hd : d = .slice ((List.range len).map D) ((List.range (m - len)).map fun j => D (len + j)) := congrArg Prod.fst hxd
    have hk : len ≤ 140737488351232 := by
      have := hsz ((len + (m - len)) * 48) (by
        rw [hd]
        simp [DataW.weights, Try.underlying70, bytes_mat])
      simp only [reachBytes] at this
      omega
    obtain ⟨cz, hz1, hz2⟩ := hx 0 (by omega)
    rw [cells_mat] at hz1
    obtain ⟨_, hlz, hcz⟩ := World.cells?_some hz1
    have c0 := hcz 0 (by omega)
    obtain ⟨u, hu⟩ : ∃ u, cz[0]? = some u := ⟨cz[0]'(by omega), List.getElem?_eq_getElem _⟩
    rw [hu] at c0
    have hs : a.spot = none := by
      have := World.cell?_spot c0
      simpa [Addr.add] using this
    have hbl : a.block < W.heap.size := by
      have := World.block_lt_of_cell? W _ c0
      simpa [Addr.add] using this
    obtain ⟨ab, ao, asp⟩ := a
    simp only at hs hbl
    subst hs
    clear hcz hz1 hz2 hlz c0 hu
    have each : ∀ i, ∃ q : Int × Int × Int × Option Addr × Nat × List Int, i < len → (W.cell? ⟨ab, ao + i * 4, none⟩ = some (.int .i64 q.1) ∧ W.cell? ⟨ab, ao + i * 4 + 1, none⟩ = some (.int .i64 q.2.1) ∧ W.cell? ⟨ab, ao + i * 4 + 2, none⟩ = some (.int .i64 q.2.2.1) ∧ W.cell? ⟨ab, ao + i * 4 + 3, none⟩ = some (.slice q.2.2.2.1 q.2.2.2.2.2.length q.2.2.2.2.1)) ∧ Sl W (.slice q.2.2.2.1 q.2.2.2.2.2.length q.2.2.2.2.1) q.2.2.2.2.2 ∧ q.2.2.2.2.2.length ≤ 140737488351232 ∧ ∀ x ∈ q.2.2.2.2.2, -9223372036854775808 ≤ x ∧ x ≤ 9223372036854775807 := fun i => by
      by_cases hi : i < len
      · obtain ⟨cs', h1, h2⟩ := hx i (by omega)
        rw [cells_mat] at h1
        obtain ⟨_, hlen', hcell⟩ := World.cells?_some h1
        obtain ⟨y0, y1, y2, y3, n1, hy, -, g0, g1, g2, g3⟩ := trod_struct4 Try.underlying24 h2
        have hD : D i = .agg [y0.1, y1.1, y2.1, y3.1] := congrArg Prod.fst hy
        match cs', hlen' with
        | [v0, v1, v2, v3], _ =>
          simp only [cells_int, cells_li, List.drop_zero, List.drop_succ_cons, List.take_succ_cons, List.take_zero] at g0 g1 g2 g3
          obtain ⟨x0, e0, -, w0⟩ := DataW.trod_int Try.underlying3 g0
          obtain ⟨x1, e1, -, w1⟩ := DataW.trod_int Try.underlying3 g1
          obtain ⟨x2, e2, -, w2⟩ := DataW.trod_int Try.underlying3 g2
          obtain ⟨L, lr, cr, e3, hR, hS, hL⟩ := open_lst2 g3 (fun m hm => hsz m (by
            rw [hd]
            simp only [DataW.weights, Try.underlying70, List.mem_cons, List.mem_append]
            refine .inr (.inl (weightsAll_mem (d := D i) (List.mem_map.2 ⟨i, List.mem_range.2 hi, rfl⟩) m ?_))
            rw [hD]
            simp only [DataW.weights, Try.underlying24, DataW.weightsEach, List.mem_append, List.map_cons, List.map_nil]
            exact .inr (.inr (.inr (.inl hm)))))
          simp only [List.cons.injEq, and_true] at e0 e1 e2 e3
          subst e0 e1 e2 e3
          have c0 := hcell 0 (by omega)
          have c1 := hcell 1 (by omega)
          have c2 := hcell 2 (by omega)
          have c3 := hcell 3 (by omega)
          simp only [List.getElem?_cons_zero, List.getElem?_cons_succ] at c0 c1 c2 c3
          rw [Addr.add_lit, Addr.add_lit] at c0 c1 c2 c3
          exact ⟨(x0, x1, x2, lr, cr, L), fun _ => ⟨⟨by simpa using c0, by simpa using c1, by simpa using c2, by simpa using c3⟩, hS, hL, hR⟩⟩
      · exact ⟨(0, 0, 0, none, 0, []), fun h => absurd h hi⟩
    refine ⟨_, len, cp, fun i => (Classical.choose (each i)).1, fun i => (Classical.choose (each i)).2.1, fun i => (Classical.choose (each i)).2.2.1, fun i => (Classical.choose (each i)).2.2.2.1, fun i => (Classical.choose (each i)).2.2.2.2.1, fun i => (Classical.choose (each i)).2.2.2.2.2, rfl, hk, fun _ => ⟨ab, ao, rfl, hbl, fun i hi => (Classical.choose_spec (each i) hi).1, fun i hi => (Classical.choose_spec (each i) hi).2.1⟩, fun i hi => (Classical.choose_spec (each i) hi).2.2.1, fun i hi => (Classical.choose_spec (each i) hi).2.2.2⟩
end
end Go.Proofs.Ytcldcjchfagcoaa
