/- How a matrix is read; how a shape is read; and that arguments read behind the call as before. How a set is read. -/
import Derived.Test.YtcjgdfnbjbboeaaWr21
import Derived.Test.YtcjgdfnbjbboeaaRows
import Derived.ProofKit
import Derived.OpenShut
import Derived.Carry
import Derived.Lib.SmallJoins
import Derived.ChangeSlices
import Derived.Test.YtcjgdfnbjbboeaaWr26
import Derived.SizedLaws
namespace Go.Proofs.Ytcjgdfnbjbboeaa
open Go.ChangeShapes Go.WideShapes Go.ChangeAt Go.RowKit Go.Joins
set_option linter.unusedVariables false

theorem laid_out : laidOutB Try.prog = true := by kernel_rfl
theorem wf_rng (n : Int) (h : (Lit.int .i64 n).wf = true) : -9223372036854775808 ≤ n ∧ n ≤ 9223372036854775807 := by
  have e1 : IntKind.i64.min = -9223372036854775808 := rfl
  have e2 : IntKind.i64.max = 9223372036854775807 := rfl
  simp [Lit.wf] at h
  omega

theorem cells_int : Try.prog.cellsOf 3 = 1 := by kernel_rfl
theorem cells_mat : Try.prog.cellsOf 24 = 4 := by kernel_rfl

section
variable {H : Type} {enc : TypeId × Value → H} {W : World}

theorem open_lst {fuel : Nat} {cs : List Value} {x : DataW H × List MemPlace} (h : DataW.trod enc Try.prog W 0 (fun _ => true) true fuel 22 cs = some x) :
    ∃ (L : List Int) (ar : Option Addr) (cr : Nat), cs = [.slice ar L.length cr] ∧ (ar = none → cr = 0) ∧ (∀ d ∈ L, -9223372036854775808 ≤ d ∧ d ≤ 9223372036854775807) ∧ Sl W (.slice ar L.length cr) L := by
  rcases open_ints Try.underlying22 Try.underlying3 cells_int h with ⟨rfl, -⟩ | ⟨a, len, cap, zs, rfl, -, hl, hm, hz, -, hcell, hwf⟩
  · exact ⟨[], none, 0, rfl, fun _ => rfl, fun d hd => (by cases hd), none, 0, rfl, Nat.le_refl _, by simp [maxLen], fun h => absurd rfl h⟩
  · have hlen : (zs.take len).length = len := by
      rw [List.length_take, hz]
      simp
      omega
    refine ⟨zs.take len, some a, cap, by rw [hlen], fun h => (by cases h), fun d hd => wf_rng d (hwf d (List.mem_of_mem_take hd)), some a, cap, by rw [hlen], by rw [hlen]; exact hl, hm, fun hne => ?_⟩
    have hpos : 0 < len := by
      rcases Nat.eq_zero_or_pos len with h0 | h0
      · subst h0; simp at hne
      · exact h0
    have hzl : len ≤ zs.length := by rw [hz]; simp; omega
    have h0 := hcell 0 (by omega)
    have hs := World.cell?_spot h0
    have hb := World.block_lt_of_cell? W _ h0
    obtain ⟨ab, ao, asp⟩ := a
    simp [Addr.add] at hs hb
    subst hs
    refine ⟨ab, ao, rfl, hb, fun i hi => ?_⟩
    rw [hlen] at hi
    have := hcell i (by omega)
    rw [Addr.add_lit] at this
    rw [this, List.getD_eq_getElem?_getD, List.getD_eq_getElem?_getD, List.getElem?_take, if_pos hi]


theorem trodAll_stays {W' : World} {sp : Nat → Bool} : ∀ {ts : List TypeId} {vs : List Value} {ds : List (DataW H)} {p : List MemPlace}, (∀ t ∈ ts, Try.prog.readableRec t = true ∧ t < Try.prog.types.size) → DataW.TrodAll enc Try.prog W 0 (fun _ => true) true ts vs ds p → (∀ x ∈ p, W.sameAt W' x) → (∀ x ∈ p, sp x.block = true) → DataW.TrodAll enc Try.prog W' 0 sp true ts vs ds p
  | [], _, _, _, _, h, _, _ => by
    obtain ⟨rfl, rfl, rfl⟩ := trodAll_nil h
    exact trodAll_mk0
  | t :: ts, _, _, _, hr, h, hs, hp => by
    obtain ⟨v, vs1, d, ds1, a, b, rfl, rfl, rfl, h1, h2⟩ := trodAll_cons h
    obtain ⟨r1, r2⟩ := hr t (by simp)
    exact trodAll_cons_mk (WideElems.Trod_stays laid_out r1 r2 h1 (fun x hx => hs x (by simp [hx])) (fun x hx => hp x (by simp [hx]))) (trodAll_stays (fun t' ht' => hr t' (by simp [ht'])) h2 (fun x hx => hs x (by simp [hx])) (fun x hx => hp x (by simp [hx])))
end
end Go.Proofs.Ytcjgdfnbjbboeaa

namespace Go.Proofs.Ytcjgdfnbjbboeaa
open Go.ChangeShapes Go.WideShapes Go.ChangeAt Go.RowKit Go.Joins
set_option linter.unusedVariables false

theorem bytes_int : Try.prog.bytesOf 3 = 8 := by kernel_rfl
theorem cells_li : Try.prog.cellsOf 22 = 1 := by kernel_rfl
theorem cells_set : Try.prog.cellsOf 26 = 8 := by kernel_rfl

section
variable {H : Type} {enc : TypeId × Value → H} {W : World}

theorem open_lst2 {fuel : Nat} {cs : List Value} {x : DataW H × List MemPlace} (h : DataW.trod enc Try.prog W 0 (fun _ => true) true fuel 22 cs = some x) (hz : ∀ m ∈ x.1.weights Try.prog 22, m ≤ reachBytes) :
    ∃ (L : List Int) (ar : Option Addr) (cr : Nat), cs = [.slice ar L.length cr] ∧ (∀ d ∈ L, -9223372036854775808 ≤ d ∧ d ≤ 9223372036854775807) ∧ Sl W (.slice ar L.length cr) L ∧ L.length ≤ 140737488351232 := by
  have h' := h
  rcases open_ints Try.underlying22 Try.underlying3 cells_int h with ⟨rfl, -⟩ | ⟨a, len, cap, zs, rfl, -, hl, hm, hzs, hx, -, -⟩
  · obtain ⟨L, ar, cr, e, -, hR, hS⟩ := open_lst h'
    refine ⟨L, ar, cr, e, hR, hS, ?_⟩
    simp only [List.cons.injEq, and_true] at e
    injection e with e1 e2 e3
    omega
  · obtain ⟨L, ar, cr, e, -, hR, hS⟩ := open_lst h'
    refine ⟨L, ar, cr, e, hR, hS, ?_⟩
    simp only [List.cons.injEq, and_true] at e
    injection e with e1 e2 e3
    have := hz ((lits IntKind.i64 (zs.take len)).length * 8 + (lits IntKind.i64 (zs.drop len)).length * 8) (by
      rw [hx]
      simp [DataW.weights, Try.underlying22, bytes_int, Nat.add_mul]
      exact .inl rfl)
    simp only [lits, List.length_map, List.length_take, List.length_drop, reachBytes] at this
    have : len ≤ zs.length := by rw [hzs]; simp; omega
    omega

set_option maxRecDepth 100000 in
theorem open_mat4 {fuel : Nat} {v0 v1 v2 v3 : Value} {x : DataW H × List MemPlace} (h : DataW.trod enc Try.prog W 0 (fun _ => true) true fuel 24 [v0, v1, v2, v3] = some x) (hz : ∀ m ∈ x.1.weights Try.prog 24, m ≤ reachBytes) :
    ∃ (r c n : Int) (L : List Int) (ar : Option Addr) (cr : Nat), v0 = .int .i64 r ∧ v1 = .int .i64 c ∧ v2 = .int .i64 n ∧ v3 = .slice ar L.length cr ∧ (∀ d ∈ L, -9223372036854775808 ≤ d ∧ d ≤ 9223372036854775807) ∧ Sl W (.slice ar L.length cr) L ∧ L.length ≤ 140737488351232 := by
  obtain ⟨y0, y1, y2, y3, n1, hy, -, g0, g1, g2, g3⟩ := trod_struct4 Try.underlying24 h
  simp only [cells_int, cells_li, List.drop_zero, List.drop_succ_cons, List.take_succ_cons, List.take_zero] at g0 g1 g2 g3
  obtain ⟨x0, e0, -, w0⟩ := DataW.trod_int Try.underlying3 g0
  obtain ⟨x1, e1, -, w1⟩ := DataW.trod_int Try.underlying3 g1
  obtain ⟨x2, e2, -, w2⟩ := DataW.trod_int Try.underlying3 g2
  have hD : x.1 = .agg [y0.1, y1.1, y2.1, y3.1] := congrArg Prod.fst hy
  obtain ⟨L, lr, cr, e3, hR, hS, hL⟩ := open_lst2 g3 (fun m hm => hz m (by
    rw [hD]
    simp only [DataW.weights, Try.underlying24, DataW.weightsEach, List.mem_append, List.map_cons, List.map_nil]
    exact .inr (.inr (.inr (.inl hm)))))
  simp only [List.cons.injEq, and_true] at e0 e1 e2 e3
  exact ⟨x0, x1, x2, L, lr, cr, e0, e1, e2, e3, hR, hS, hL⟩

set_option maxRecDepth 100000 in
theorem open_set {b0 : Nat} {v : Value} {d : DataW H} {p : List MemPlace} (hv : Value.okWide Try.prog W .any b0 26 v) (h : DataW.Trod enc Try.prog W 0 (fun _ => true) true 26 v d p) (hsz : ∀ m ∈ d.weights Try.prog 26, m ≤ reachBytes) :
    ∃ (r c n : Int) (L : List Int) (a : Option Addr) (q : Nat) (r' c' n' : Int) (L' : List Int) (a' : Option Addr) (q' : Nat), v = sv8 r c n (.slice a L.length q) r' c' n' (.slice a' L'.length q') ∧ (∀ d ∈ L, -9223372036854775808 ≤ d ∧ d ≤ 9223372036854775807) ∧ (∀ d ∈ L', -9223372036854775808 ≤ d ∧ d ≤ 9223372036854775807) ∧ Sl W (.slice a L.length q) L ∧ Sl W (.slice a' L'.length q') L' ∧ L.length ≤ 140737488351232 ∧ L'.length ≤ 140737488351232 := by
  obtain ⟨cs, rfl, hl⟩ := okWide_struct Try.underlying26 hv
  rw [cells_set] at hl
  obtain ⟨fuel, hf⟩ := h
  obtain ⟨y0, y1, n1, hy, -, g0, g1⟩ := trod_struct2 Try.underlying26 hf
  have hD : d = .agg [y0.1, y1.1] := congrArg Prod.fst hy
  obtain ⟨l⟩ := cs
  match l, hl with
  | [v0, v1, v2, v3, v4, v5, v6, v7], _ =>
    simp only [Value.cells, cells_mat, List.drop_zero, List.drop_succ_cons, List.take_succ_cons, List.take_zero] at g0 g1
    obtain ⟨r, c, n, L, a, q, rfl, rfl, rfl, rfl, hR, hS, hL⟩ := open_mat4 g0 (fun m hm => hsz m (by
      rw [hD]
      simp only [DataW.weights, Try.underlying26, DataW.weightsEach, List.mem_append, List.map_cons, List.map_nil]
      exact .inl hm))
    obtain ⟨r', c', n', L', a', q', rfl, rfl, rfl, rfl, hR', hS', hL'⟩ := open_mat4 g1 (fun m hm => hsz m (by
      rw [hD]
      simp only [DataW.weights, Try.underlying26, DataW.weightsEach, List.mem_append, List.map_cons, List.map_nil]
      exact .inr (.inl hm)))
    exact ⟨r, c, n, L, a, q, r', c', n', L', a', q', rfl, hR, hR', hS, hS', hL, hL'⟩
theorem rgl_of {L : List Int} (h : ∀ d ∈ L, -9223372036854775808 ≤ d ∧ d ≤ 9223372036854775807) : Rgl L := fun i hi => by
  rw [List.getD_eq_getElem?_getD, List.getElem?_eq_getElem hi]
  exact h _ (List.getElem_mem hi)
end
end Go.Proofs.Ytcjgdfnbjbboeaa
