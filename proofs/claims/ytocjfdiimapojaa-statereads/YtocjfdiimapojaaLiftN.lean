/- How a matrix is read; how a shape is read; and that arguments read behind the call as before. -/
import Derived.Test.YtocjfdiimapojaaT1
import Derived.Test.YtocjfdiimapojaaRows
import Derived.ProofKit
import Derived.OpenShut
import Derived.Carry
import Derived.Lib.SmallJoins
import Derived.ChangeSlices
namespace Go.Proofs.Ytocjfdiimapojaa
open Go.ChangeShapes Go.WideShapes Go.ChangeAt Go.RowKit Go.Joins
set_option linter.unusedVariables false

theorem laid_out : laidOutB Try.prog = true := by kernel_rfl
theorem cells_shape : Try.prog.cellsOf 103 = 3 := by kernel_rfl
theorem wf_rng (n : Int) (h : (Lit.int .i64 n).wf = true) : -9223372036854775808 ≤ n ∧ n ≤ 9223372036854775807 := by
  have e1 : IntKind.i64.min = -9223372036854775808 := rfl
  have e2 : IntKind.i64.max = 9223372036854775807 := rfl
  simp [Lit.wf] at h
  omega

theorem cells_int : Try.prog.cellsOf 3 = 1 := by kernel_rfl
theorem cells_mat : Try.prog.cellsOf 54 = 4 := by kernel_rfl

section
variable {H : Type} {enc : TypeId × Value → H} {W : World}

set_option maxRecDepth 100000 in
theorem open_shape {b0 : Nat} {v : Value} {d : DataW H} {p : List MemPlace} (hv : Value.okWide Try.prog W .any b0 103 v) (h : DataW.Trod enc Try.prog W 0 (fun _ => true) true 103 v d p) :
    ∃ (s t a : Int), v = .agg #[.int .i64 s, .int .i64 t, .int .i64 a] ∧ (Lit.int .i64 s).wf = true ∧ (Lit.int .i64 t).wf = true ∧ (Lit.int .i64 a).wf = true := by
  obtain ⟨v0, v1, v2, y0, y1, y2, n, rfl, -, -, h0, h1, h2⟩ := open_agg3 Try.underlying103 (by kernel_rfl) cells_shape hv h
  obtain ⟨x0, e0, -, w0⟩ := DataW.trod_int Try.underlying3 h0
  obtain ⟨x1, e1, -, w1⟩ := DataW.trod_int Try.underlying3 h1
  obtain ⟨x2, e2, -, w2⟩ := DataW.trod_int Try.underlying3 h2
  simp only [List.cons.injEq, and_true] at e0 e1 e2
  subst e0 e1 e2
  exact ⟨x0, x1, x2, rfl, w0, w1, w2⟩

theorem open_lst {fuel : Nat} {cs : List Value} {x : DataW H × List MemPlace} (h : DataW.trod enc Try.prog W 0 (fun _ => true) true fuel 52 cs = some x) :
    ∃ (L : List Int) (ar : Option Addr) (cr : Nat), cs = [.slice ar L.length cr] ∧ (ar = none → cr = 0) ∧ (∀ d ∈ L, -9223372036854775808 ≤ d ∧ d ≤ 9223372036854775807) ∧ Sl W (.slice ar L.length cr) L := by
  rcases open_ints Try.underlying52 Try.underlying3 cells_int h with ⟨rfl, -⟩ | ⟨a, len, cap, zs, rfl, -, hl, hm, hz, -, hcell, hwf⟩
  · exact ⟨[], none, 0, rfl, fun _ => rfl, fun d hd => (by cases hd), none, 0, rfl, Nat.le_refl _, by simp [maxLen], fun h => absurd rfl h⟩
  · have hlen : (zs.take len).length = len := by
      rw [List.length_take, hz]
      simp
      omega
    refine ⟨zs.take len, some a, cap, by rw [hlen], fun h => (by cases h), fun d hd => wf_rng d (hwf d (List.mem_of_mem_take hd)), some a, cap, by rw [hlen], by rw [hlen]; exact hl, hm, fun hne => ?_⟩
    have hpos : 0 < len := by
      rcases Nat.eq_zero_or_pos len with h0 | h0
      · subst h0; simp at hne
      · exact h0
    have hzl : len ≤ zs.length := by rw [hz]; simp; omega
    have h0 := hcell 0 (by omega)
    have hs := World.cell?_spot h0
    have hb := World.block_lt_of_cell? W _ h0
    obtain ⟨ab, ao, asp⟩ := a
    simp [Addr.add] at hs hb
    subst hs
    refine ⟨ab, ao, rfl, hb, fun i hi => ?_⟩
    rw [hlen] at hi
    have := hcell i (by omega)
    rw [Addr.add_lit] at this
    rw [this, List.getD_eq_getElem?_getD, List.getD_eq_getElem?_getD, List.getElem?_take, if_pos hi]


set_option maxRecDepth 100000 in
theorem open_mat {b0 : Nat} {v : Value} {d : DataW H} {p : List MemPlace} (hv : Value.okWide Try.prog W .any b0 54 v) (h : DataW.Trod enc Try.prog W 0 (fun _ => true) true 54 v d p) :
    ∃ (L : List Int) (r c n : Int) (ar : Option Addr) (cr : Nat), v = .agg #[.int .i64 r, .int .i64 c, .int .i64 n, .slice ar L.length cr] ∧ (ar = none → cr = 0) ∧ (∀ d ∈ L, -9223372036854775808 ≤ d ∧ d ≤ 9223372036854775807) ∧ Sl W (.slice ar L.length cr) L ∧ (Lit.int .i64 r).wf = true ∧ (Lit.int .i64 c).wf = true ∧ (Lit.int .i64 n).wf = true := by
  obtain ⟨v0, v1, v2, v3, y0, y1, y2, y3, m, rfl, -, -, h0, h1, h2, h3⟩ := open_agg4 Try.underlying54 (by kernel_rfl) cells_mat hv h
  obtain ⟨x0, e0, -, w0⟩ := DataW.trod_int Try.underlying3 h0
  obtain ⟨x1, e1, -, w1⟩ := DataW.trod_int Try.underlying3 h1
  obtain ⟨x2, e2, -, w2⟩ := DataW.trod_int Try.underlying3 h2
  obtain ⟨L, ar, cr, e3, hc, hR, hS⟩ := open_lst h3
  simp only [List.cons.injEq, and_true] at e0 e1 e2 e3
  subst e0 e1 e2 e3
  exact ⟨L, x0, x1, x2, ar, cr, rfl, hc, hR, hS, w0, w1, w2⟩

theorem trodAll_stays {W' : World} {sp : Nat → Bool} : ∀ {ts : List TypeId} {vs : List Value} {ds : List (DataW H)} {p : List MemPlace}, (∀ t ∈ ts, Try.prog.readableRec t = true ∧ t < Try.prog.types.size) → DataW.TrodAll enc Try.prog W 0 (fun _ => true) true ts vs ds p → (∀ x ∈ p, W.sameAt W' x) → (∀ x ∈ p, sp x.block = true) → DataW.TrodAll enc Try.prog W' 0 sp true ts vs ds p
  | [], _, _, _, _, h, _, _ => by
    obtain ⟨rfl, rfl, rfl⟩ := trodAll_nil h
    exact trodAll_mk0
  | t :: ts, _, _, _, hr, h, hs, hp => by
    obtain ⟨v, vs1, d, ds1, a, b, rfl, rfl, rfl, h1, h2⟩ := trodAll_cons h
    obtain ⟨r1, r2⟩ := hr t (by simp)
    exact trodAll_cons_mk (WideElems.Trod_stays laid_out r1 r2 h1 (fun x hx => hs x (by simp [hx])) (fun x hx => hp x (by simp [hx]))) (trodAll_stays (fun t' ht' => hr t' (by simp [ht'])) h2 (fun x hx => hs x (by simp [hx])) (fun x hx => hp x (by simp [hx])))
end
end Go.Proofs.Ytocjfdiimapojaa
