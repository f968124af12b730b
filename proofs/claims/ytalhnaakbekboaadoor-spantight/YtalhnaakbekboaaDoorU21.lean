/- acc's begin. Regions that draw their order and whose last operations write a cell that earlier ones load: S is asked behind all operations but the late ones; a load may be taken first under S if every late one waits for it. A sum that is being made lies in one block; its cells. acc's lay: a product is added to the columns. acc's lay where the signs differ: a product is added to the columns. acc's lay of any two finite floats. acc's lay of any two finite floats: what it adds to the columns. acc's add, where both floats are finite. -/
import Derived.Test.YtalhnaakbekboaaDoorU20
import Derived.Deep.MidRow
import Derived.Test.YtalhnaakbekboaaDoorU02
import Derived.Deep.RegionHeld
import Derived.Test.YtalhnaakbekboaaDoorU03
import Derived.Test.YtalhnaakbekboaaDoorU17
namespace Go.Proofs.YtalhnaakbekboaaDoor
open Go.ChangeShapes Go.WideShapes Go.ChangeAt Go.RowKit
set_option linter.unusedVariables false
set_option linter.unusedSimpArgs false

/- what a sum that is being made is, cell by cell: what it tells, its width, its columns, from where to where -/
def mkC (ac : List Value) (n : Int) (C : List Int) (lo hi : Int) : List Value := ac ++ (.int .i64 n :: (C.map (Value.int .i64) ++ [.int .i64 lo, .int .i64 hi]))
abbrev acc0 : List Value := [.bool false, .slice none 0 0, .int .i64 0, .bool false, .bool false, .bool false]
def C0 : List Int := List.replicate 141 0
theorem mk_size (ac : List Value) (n : Int) (C : List Int) (lo hi : Int) (h : ac.length = 6) (hC : C.length = 141) : (mkC ac n C lo hi).length = 150 := by
  simp [mkC, h, hC]
theorem mk_one (ac : List Value) (n : Int) (C : List Int) (lo hi : Int) (h : ∀ v ∈ ac, v.oneCell' = true) : ∀ v ∈ mkC ac n C lo hi, v.oneCell' = true := by
  intro v hv
  simp only [mkC, List.mem_append, List.mem_cons, List.mem_map, List.not_mem_nil, or_false] at hv
  rcases hv with hv | rfl | ⟨d, -, rfl⟩ | rfl | rfl
  · exact h v hv
  all_goals rfl
theorem there_new (w : World) (C : Array Value) (t : TypeId) : (w.alloc (.cells C t)).there w.heap.size 0 C.size := by
  intro j hj
  refine ⟨?_, by simp [go_sem]⟩
  simp [go_sem, hj]

end Go.Proofs.YtalhnaakbekboaaDoor

namespace Go.Proofs.YtalhnaakbekboaaDoor
open Go
set_option linter.unusedVariables false

section
variable {P : Program} {ops : Array Oper} {Q : Exit → Act → World → Prop} {md : Region.Mode} {S : World → Prop} {D : List Nat}

/-- Whatever order is picked; S holds behind every operation that is not late. -/
def wpAnyD (P : Program) (md : Region.Mode) (ops : Array Oper) (Q : Exit → Act → World → Prop) (S : World → Prop) (D : List Nat) : Nat → Array Bool → Act → World → Prop
  | 0, listed, a, w => Region.ready md ops listed = [] ∧ Q .normal a w
  | fuel + 1, listed, a, w =>
    (Region.ready md ops listed = [] → Q .normal a w) ∧
    ∀ i ∈ Region.ready md ops listed, wpOp P ops Q i (fun a' w' => (D.contains i = false → S w') ∧ wpAnyD P md ops Q S D fuel (listed.setIfInBounds i true) a' w') a w

theorem wpAny_of_late : ∀ (fuel : Nat) (listed : Array Bool) (a : Act) (w : World), wpAnyD P md ops Q S D fuel listed a w → wpAny P md ops Q fuel listed a w
  | 0, _, _, _, h => h
  | fuel + 1, _, _, _, h => ⟨h.1, fun i hi => wpOp_mono (fun a' w' h' => wpAny_of_late fuel _ a' w' h'.2) (h.2 i hi)⟩

/-- Those that wait for i, or for one of these. -/
def waits (md : Region.Mode) (i : Nat) (E : List Nat) (o : Oper) : Bool := o.after.any fun e => Region.binds md e && (e.on == i || E.contains e.on)
def lateOf (md : Region.Mode) (ops : Array Oper) (i : Nat) : List Nat := (List.range ops.size).foldl (fun E j => match ops[j]? with
  | some o => if waits md i E o then j :: E else E
  | none => E) []
def lateB (md : Region.Mode) (ops : Array Oper) (listed : Array Bool) (D : List Nat) (i : Nat) (E : List Nat) : Bool :=
  D.all (fun j => E.contains j) && E.all fun j => (listed.getD j true == false) && (j != i) && (match ops[j]? with
    | some o => waits md i E o
    | none => true)

def LateP (md : Region.Mode) (ops : Array Oper) (listed : Array Bool) (i : Nat) (E : List Nat) : Prop :=
  ∀ j ∈ E, listed.getD j true = false ∧ j ≠ i ∧ ∀ o, ops[j]? = some o → ∃ e ∈ o.after, Region.binds md e = true ∧ (e.on = i ∨ e.on ∈ E)

theorem lateB_spec {listed : Array Bool} {i : Nat} {E : List Nat} (h : lateB md ops listed D i E = true) : (∀ j ∈ D, j ∈ E) ∧ LateP md ops listed i E := by
  unfold lateB at h
  rw [Bool.and_eq_true, List.all_eq_true, List.all_eq_true] at h
  refine ⟨fun j hj => by simpa using h.1 j hj, fun j hj => ?_⟩
  have h1 := h.2 j hj
  rw [Bool.and_eq_true, Bool.and_eq_true] at h1
  refine ⟨by simpa using h1.1.1, by simpa using h1.1.2, fun o ho => ?_⟩
  have h2 := h1.2
  rw [ho] at h2
  unfold waits at h2
  obtain ⟨e, he, hb⟩ := Array.any_eq_true'.1 h2
  simp only [Bool.and_eq_true, Bool.or_eq_true, beq_iff_eq, List.contains_iff_mem] at hb
  exact ⟨e, he, hb.1, hb.2⟩

theorem getD_ff {listed : Array Bool} {k : Nat} (h0 : listed.getD k true = false) (h1 : listed.getD k false = true) : False := by
  rcases Nat.lt_or_ge k listed.size with h' | h'
  · simp [h'] at h0 h1; rw [h0] at h1; cases h1
  · simp [Array.getElem?_eq_none h'] at h1

theorem late_not_ready {listed : Array Bool} {i j : Nat} {E : List Nat} (hL : LateP md ops listed i E) (hi : i ∈ Region.ready md ops listed) (hj : j ∈ Region.ready md ops listed) : j ∉ E := by
  intro hE
  obtain ⟨-, -, h3⟩ := hL j hE
  obtain ⟨-, o, ho, hall⟩ := mem_ready.1 hj
  obtain ⟨e, he, hb, hw⟩ := h3 o ho
  have h1 := hall e he hb
  rcases hw with hw | hw
  · rw [hw] at h1
    exact getD_ff (mem_ready.1 hi).1 h1
  · exact getD_ff (hL _ hw).1 h1

theorem wpAnyD_first {i : Nat} {oi : Oper} {v : Value} {E : List Nat} (hi : ops[i]? = some oi) (hsel : ∀ (j : Nat) (o : Oper) cs b, ops[j]? = some o → o.op ≠ .select cs b)
    (hQ : ∀ c a w, Q (.panic c) (a.put oi.dst v) w → Q (.panic c) a w) (hD : ∀ j ∈ D, j ∈ E) :
    ∀ (fuel : Nat) (listed : Array Bool) (a : Act) (w : World), LateP md ops listed i E →
      (∀ j oj, ops[j]? = some oj → j ≠ i → listed.getD j true = false → (∀ e ∈ oj.after, Region.binds md e = true → e.on ≠ i) → oi.apart ops oj = true) →
      i ∈ Region.ready md ops listed → YieldsIf P ops S oi v a → S w →
      wpAnyD P md ops Q S D fuel (listed.setIfInBounds i true) (a.put oi.dst v) w → wpAnyD P md ops Q S D (fuel + 1) listed a w := by
  intro fuel
  induction fuel with
  | zero =>
    intro listed a w _ _ hr hy hS H
    refine ⟨fun h => (by rw [h] at hr; cases hr), fun j hj => ?_⟩
    by_cases hji : j = i
    · subst hji; exact hy.wpOp hi hS ⟨fun _ => hS, H⟩
    · have := ready_mono hj hji
      rw [H.1] at this
      cases this
  | succ fuel ih =>
    intro listed a w hL hfree hr hy hS H
    refine ⟨fun h => (by rw [h] at hr; cases hr), fun j hj => ?_⟩
    by_cases hji : j = i
    · subst hji; exact hy.wpOp hi hS ⟨fun _ => hS, H⟩
    · have h1 := H.2 j (ready_mono hj hji)
      have hjE := late_not_ready hL hr hj
      have hjD : D.contains j = false := by
        rcases hc : D.contains j with _ | _
        · rfl
        · exact absurd (hD j (by simpa using hc)) hjE
      obtain ⟨hjun, oj, hoj, hall⟩ := mem_ready.1 hj
      have hnot : ∀ e ∈ oj.after, Region.binds md e = true → e.on ≠ i := fun e he hb heq => by
        have h1 := hall e he hb
        rw [heq] at h1
        exact getD_ff (mem_ready.1 hr).1 h1
      have h2 := wpOp_putIf hoj (hfree j oj hoj hji hjun hnot) (fun cs b => hsel i oi cs b hi) (fun cs b => hsel j oj cs b hoj) hQ hy h1
      have hfree' : ∀ k ok, ops[k]? = some ok → k ≠ i → (listed.setIfInBounds j true).getD k true = false →
          (∀ e ∈ ok.after, Region.binds md e = true → e.on ≠ i) → oi.apart ops ok = true := fun k ok hk hki hun hno => by
        refine hfree k ok hk hki ?_ hno
        by_cases hjk : j = k
        · subst hjk; exact hjun
        · rw [getD_set_ne true hjk] at hun; exact hun
      have hL' : LateP md ops (listed.setIfInBounds j true) i E := fun k hk => by
        obtain ⟨g1, g2, g3⟩ := hL k hk
        have hne : j ≠ k := fun e => by subst e; exact hjE hk
        exact ⟨by rw [getD_set_ne true hne]; exact g1, g2, g3⟩
      refine wpOp_mono (fun a' w' h3 => ⟨h3.2.1, ih (listed.setIfInBounds j true) a' w' hL' hfree' (ready_mono hr (Ne.symm hji)) h3.1 (h3.2.1 hjD) ?_⟩) h2
      rw [Array.setIfInBounds_comm _ _ hji]
      exact h3.2.2

theorem wpAnyD_take {i : Nat} {oi : Oper} {v : Value} {fuel : Nat} {listed : Array Bool} {a : Act} {w : World} (hi : ops[i]? = some oi)
    (hs : Region.noSelect ops = true) (hf : Region.free md ops listed i = true) (hr : (Region.ready md ops listed).contains i = true) (hl : lateB md ops listed D i (lateOf md ops i) = true)
    (hQ : ∀ c a w, Q (.panic c) (a.put oi.dst v) w → Q (.panic c) a w) (hy : YieldsIf P ops S oi v a) (hS : S w)
    (h : wpAnyD P md ops Q S D fuel (listed.setIfInBounds i true) (a.put oi.dst v) w) : wpAnyD P md ops Q S D (fuel + 1) listed a w :=
  wpAnyD_first hi (Region.noSelect_spec hs) hQ (lateB_spec hl).1 fuel listed a w (lateB_spec hl).2 (Region.free_spec hi hf) (by simpa using hr) hy hS h

theorem wpAnyD_all {rs : List Nat} {fuel : Nat} {listed : Array Bool} {a : Act} {w : World} (hr : Region.ready md ops listed = rs) (hne : rs ≠ [])
    (h : ∀ i ∈ rs, wpOp P ops Q i (fun a' w' => (D.contains i = false → S w') ∧ wpAnyD P md ops Q S D fuel (listed.setIfInBounds i true) a' w') a w) : wpAnyD P md ops Q S D (fuel + 1) listed a w :=
  ⟨fun h0 => absurd (hr ▸ h0) hne, hr ▸ h⟩

/-- One operation alone may come up; it is not late: S is shown anew behind it. -/
theorem wpAnyD_step {i : Nat} {o : Oper} {fuel : Nat} {listed : Array Bool} {a : Act} {w : World} (hr : Region.ready md ops listed = [i]) (ho : ops[i]? = some o)
    (h : ∀ K' : Act → World → Prop, Shut (∀ a w, S w → (S w → wpAnyD P md ops Q S D fuel (listed.setIfInBounds i true) a w) → K' a w) → if Region.wanted o (yielded ops a.tmps) = true then Oper.wp P o a w K' Q else K' (a.put o.dst undef) w) :
    wpAnyD P md ops Q S D (fuel + 1) listed a w := by
  refine wpAnyD_all hr (by simp) fun j hj => ?_
  obtain rfl := List.mem_singleton.1 hj
  exact wpOp_step ho (fun K' hK => h K' (fun a w hS hW => hK a w ⟨fun _ => hS, hW hS⟩))

/-- One operation alone may come up, and it is late. -/
theorem wpAnyD_late {i : Nat} {o : Oper} {fuel : Nat} {listed : Array Bool} {a : Act} {w : World} (hr : Region.ready md ops listed = [i]) (ho : ops[i]? = some o) (hd : D.contains i = true)
    (h : ∀ K' : Act → World → Prop, Shut (∀ a w, wpAnyD P md ops Q S D fuel (listed.setIfInBounds i true) a w → K' a w) → if Region.wanted o (yielded ops a.tmps) = true then Oper.wp P o a w K' Q else K' (a.put o.dst undef) w) :
    wpAnyD P md ops Q S D (fuel + 1) listed a w := by
  refine wpAnyD_all hr (by simp) fun j hj => ?_
  obtain rfl := List.mem_singleton.1 hj
  exact wpOp_step ho (fun K' hK => h K' (fun a w hW => hK a w ⟨fun hc => (by rw [hd] at hc; cases hc), hW⟩))

theorem wpAnyD_done {listed : Array Bool} {a : Act} {w : World} (hr : Region.ready md ops listed = []) (h : Q .normal a w) :
    ∀ fuel, wpAnyD P md ops Q S D fuel listed a w
  | 0 => ⟨hr, h⟩
  | _ + 1 => ⟨fun _ => h, by rw [hr]; simp⟩

theorem wp_region_late {id : Nat} {a : Act} {w : World} (D : List Nat) (S : World → Prop) (hm : P.follows .mixedOrders = true) (hS : S w.drew)
    (h : S w.drew → wpAnyD P .any ops Q S D ops.size (Array.replicate ops.size false) a w.drew) : (Code.region id ops true).wp P Q a w :=
  wp_region_any hm (wpAny_of_late _ _ _ _ (h hS))

/-- Append at a step of a drawn region. -/
theorem oper_append_run {P : Program} {w : World} {o : Oper} {a : Act} {K : Act → World → Prop} {Q : Exit → Act → World → Prop} (s x : Operand) (t : TypeId)
    (ho : o.op = .call { callee := .builtin .append, args := #[s, x], argTypes := #[t, t] }) (v xv : Value) (hs : a.eval s = v) (hx : a.eval x = xv) (v' : Value) (w' : World)
    (hr : (Builtin.append_ #[t, t] o.type #[v, xv]).run P w = .ok v' w') (h : K (a.put o.dst v') w') : Oper.wp P o a w K Q := by
  unfold Oper.wp execOp
  simp only [ho, resolve, invoke, builtin, Sem.run_bind, Sem.run_pure, Result.andThen_ok, List.map_toArray, List.map_cons, List.map_nil, hs, hx, hr]
  exact h

end
end Go.Proofs.YtalhnaakbekboaaDoor

namespace Go.Proofs.YtalhnaakbekboaaDoor
open Go.ChangeShapes Go.WideShapes Go.ChangeAt Go.RowKit
set_option linter.unusedVariables false
set_option linter.unusedSimpArgs false

theorem set_cell_block (w : World) (b i : Nat) (cs : Array Value) (t : TypeId) (v : Value) (h : w.heap[b]? = some (.cells cs t (0, 0))) : (w.setCell ⟨b, i, none⟩ v).heap[b]? = some (.cells (cs.setIfInBounds i v) t (0, 0)) := by
  have hb : b < w.heap.size := by
    apply Decidable.byContradiction
    intro g
    rw [Array.getElem?_eq_none (by omega)] at h
    cases h
  have h' : w.heap[b] = .cells cs t (0, 0) := by
    have e := Array.getElem?_eq_getElem hb
    rw [h] at e
    injection e with e
    exact e.symm
  simp [World.setCell, hb, Array.getElem_modify, h']
end Go.Proofs.YtalhnaakbekboaaDoor

namespace Go.Proofs.YtalhnaakbekboaaDoor
open Go.ChangeShapes Go.WideShapes Go.ChangeAt Go.RowKit
set_option linter.unusedVariables false
set_option linter.unusedSimpArgs false

theorem Grw.drew {g : Nat} {a c : World} (h : Grw g a c) : Grw g a c.drew := by
  have k : Kept c c.drew := (Kept.refl c).drew
  exact ⟨⟨k.below.os.trans h.grown.os, k.below.tape.trans h.grown.tape, k.below.output.trans h.grown.output, Nat.le_trans h.grown.size k.below.size, fun i hi hn => (k.below.block i (Nat.lt_of_lt_of_le hi h.grown.size)).trans (h.grown.block i hi hn)⟩, fun x => (k.frozen x).trans (h.frozen x)⟩
def ws (M0 M1 M2 : Int) : Nat → Int
  | 0 => 0
  | 1 => M0
  | 2 => M0 + M1 * 1073741824
  | _ => M0 + M1 * 1073741824 + M2 * 1152921504606846976
def mv (M0 M1 M2 : Int) : Nat → Int
  | 0 => M0
  | 1 => M1
  | _ => M2
def dsm (d0 d1 : Int) : Nat → Int
  | 0 => 0
  | 1 => d0
  | _ => d0 + d1 * 1073741824
def dv (d0 d1 : Int) : Nat → Int
  | 0 => d0
  | _ => d1
/- the columns behind so many steps -/
structure Ly (C C' : List Int) (f st : Nat) (V : Int) : Prop where
  len : C'.length = 141
  val : cv C' = cv C + V * 2 ^ (30 * f)
  near : ∀ k, -((st : Int) * 2147483648) ≤ C'.getD k 0 - C.getD k 0 ∧ C'.getD k 0 - C.getD k 0 ≤ (st : Int) * 2147483648
  out : ∀ k, (k < f ∨ f + 5 ≤ k) → C'.getD k 0 = C.getD k 0

set_option maxRecDepth 100000 in
set_option maxRecDepth 100000 in
theorem mul_bound (m d : Int) (h1 : 0 ≤ m ∧ m < 1073741824) (h2 : -1073741824 ≤ d ∧ d < 1073741824) : -1152921504606846976 ≤ m * d ∧ m * d < 1152921504606846976 := by
  have a1 : m * d ≤ m * 1073741823 := Int.mul_le_mul_of_nonneg_left (by omega) h1.1
  have a2 : m * (-1073741824) ≤ m * d := Int.mul_le_mul_of_nonneg_left h2.1 h1.1
  omega
theorem blk_lt {w : World} {p : Nat} {o : Obj} (h : w.heap[p]? = some o) : p < w.heap.size := by
  apply Decidable.byContradiction
  intro g
  rw [Array.getElem?_eq_none (by omega)] at h
  cases h
theorem Ly.step {C C' : List Int} {f st : Nat} {V : Int} (h : Ly C C' f st V) (r : Nat) (hr : r + 1 < 5) (hf : f + 5 ≤ 141) (P : Int) (hP : -1152921504606846976 ≤ P ∧ P < 1152921504606846976) : Ly C ((C'.set (f + r) (C'.getD (f + r) 0 + P % 1073741824)).set (f + r + 1) ((C'.set (f + r) (C'.getD (f + r) 0 + P % 1073741824)).getD (f + r + 1) 0 + P / 1073741824)) f (st + 1) (V + P * 2 ^ (30 * r)) := by
  have hl := h.len
  refine ⟨by simp [hl], ?_, fun k => ?_, fun k hk => ?_⟩
  · rw [cv_set _ _ (by simp; omega), cv_set _ _ (by omega), h.val, Int.add_mul, Int.mul_assoc P, ← Int.pow_add, show 30 * r + 30 * f = 30 * (f + r) by omega, pow30i (f + r)]
    have e : P % 1073741824 + 1073741824 * (P / 1073741824) = P := by omega
    generalize (2 : Int) ^ (30 * (f + r)) = Z at *
    have : P * Z = (P % 1073741824) * Z + P / 1073741824 * (1073741824 * Z) := by
      rw [← Int.mul_assoc, ← Int.add_mul, Int.mul_comm (P / 1073741824), e]
    omega
  · have h1 := h.near k
    rw [getD_set _ _ _ _ (by simp; omega), getD_set _ _ _ _ (by omega), getD_set _ _ _ _ (by omega)]
    have e1 := h.near (f + r)
    have e2 := h.near (f + r + 1)
    by_cases k1 : f + r + 1 = k
    · rw [if_pos k1, if_neg (by omega)]
      subst k1
      push_cast
      omega
    · rw [if_neg k1]
      by_cases k2 : f + r = k
      · rw [if_pos k2]
        subst k2
        push_cast
        omega
      · rw [if_neg k2]
        push_cast
        omega
  · rw [getD_set _ _ _ _ (by simp; omega), if_neg (by omega), getD_set _ _ _ _ (by omega), if_neg (by omega)]
    exact h.out k hk

end Go.Proofs.YtalhnaakbekboaaDoor

namespace Go.Proofs.YtalhnaakbekboaaDoor
open Go.ChangeShapes Go.WideShapes Go.ChangeAt Go.RowKit
set_option linter.unusedVariables false
set_option linter.unusedSimpArgs false

end Go.Proofs.YtalhnaakbekboaaDoor

namespace Go.Proofs.YtalhnaakbekboaaDoor
open Go.ChangeShapes Go.WideShapes Go.ChangeAt Go.RowKit
set_option linter.unusedVariables false
set_option linter.unusedSimpArgs false

theorem wrap64_mask (z : Int) : bits .and .i64 (wrap64 z) 1073741823 = z % 1073741824 := by
  rw [mask30]
  unfold wrap64
  omega
theorem div_shift (a : Int) (s t : Nat) (h : s ≤ t) : a / 2 ^ (t - s) = a * 2 ^ s / 2 ^ t := by
  have e : (2 : Int) ^ t = 2 ^ (t - s) * 2 ^ s := by rw [← Int.pow_add]; congr 1; omega
  rw [e, Int.mul_ediv_mul_of_pos_left _ _ (Int.pow_pos (by decide))]
theorem moved_sum (a : Int) (s : Nat) (hs : s < 30) (M0 M1 M2 : Int) (h0 : bits .and .i64 (wrap64 (a * 2 ^ s)) 1073741823 = M0) (h1 : bits .and .i64 (a / 2 ^ (30 - s)) 1073741823 = M1) (h2 : a / 2 ^ (60 - s) = M2) : ws M0 M1 M2 3 = a * 2 ^ s := by
  rw [wrap64_mask] at h0
  rw [mask30, div_shift a s 30 (by omega)] at h1
  rw [div_shift a s 60 (by omega)] at h2
  generalize a * 2 ^ s = Z at *
  show M0 + M1 * 1073741824 + M2 * 1152921504606846976 = Z
  rw [show (2 : Int) ^ 30 = 1073741824 from rfl] at h1
  rw [show (2 : Int) ^ 60 = 1152921504606846976 from rfl] at h2
  omega
theorem moved_bound (a : Int) (ha : 0 < a ∧ a < 9007199254740992) (s : Nat) (hs : s < 30) (M0 M1 M2 : Int) (h0 : bits .and .i64 (wrap64 (a * 2 ^ s)) 1073741823 = M0) (h1 : bits .and .i64 (a / 2 ^ (30 - s)) 1073741823 = M1) (h2 : a / 2 ^ (60 - s) = M2) : ∀ i, 0 ≤ mv M0 M1 M2 i ∧ mv M0 M1 M2 i < 1073741824 := by
  rw [wrap64_mask] at h0
  rw [mask30] at h1
  have e : (2 : Int) ^ (60 - s) = 2 ^ (29 - s) * 2147483648 := by
    rw [show (2147483648 : Int) = 2 ^ 31 from rfl, ← Int.pow_add]; congr 1; omega
  have hp : (0 : Int) < 2 ^ (29 - s) := Int.pow_pos (by decide)
  have h3 : a / 2 ^ (60 - s) ≤ a / 2147483648 := by
    rw [e, Int.mul_comm, ← Int.ediv_ediv_of_nonneg (by decide)]
    exact Int.ediv_le_self _ (Int.ediv_nonneg (by omega) (by decide))
  have h4 : 0 ≤ a / 2 ^ (60 - s) := Int.ediv_nonneg (by omega) (by rw [e]; omega)
  intro i
  match i with
  | 0 => show 0 ≤ M0 ∧ M0 < 1073741824; omega
  | 1 => show 0 ≤ M1 ∧ M1 < 1073741824; omega
  | i + 2 => show 0 ≤ M2 ∧ M2 < 1073741824; omega
theorem parts_sum (B d0 d1 : Int) (h0 : bits .and .i64 B 1073741823 = d0) (h1 : B / 1073741824 = d1) : dsm d0 d1 2 = B := by
  rw [mask30] at h0
  show d0 + d1 * 1073741824 = B
  omega
theorem parts_bound (B d0 d1 : Int) (hB : -9007199254740992 < B ∧ B < 9007199254740992) (h0 : bits .and .i64 B 1073741823 = d0) (h1 : B / 1073741824 = d1) : ∀ j, -1073741824 ≤ dv d0 d1 j ∧ dv d0 d1 j < 1073741824 := by
  rw [mask30] at h0
  intro j
  match j with
  | 0 => show -1073741824 ≤ d0 ∧ d0 < 1073741824; omega
  | j + 1 => show -1073741824 ≤ d1 ∧ d1 < 1073741824; omega
end Go.Proofs.YtalhnaakbekboaaDoor

namespace Go.Proofs.YtalhnaakbekboaaDoor
open Go.ChangeShapes Go.WideShapes Go.ChangeAt Go.RowKit
set_option linter.unusedVariables false
set_option linter.unusedSimpArgs false

structure Inv (C : List Int) (lo hi : Int) : Prop where
  lo0 : 0 ≤ lo ∧ lo ≤ 141
  hi0 : 0 ≤ hi ∧ hi ≤ 141
  zero : ∀ k : Nat, ((k : Int) < lo ∨ hi ≤ (k : Int)) → C.getD k 0 = 0
def pval (n x y : Int) : Int := sg (pneg x n != pneg y n) (pmag x n * pmag y n * 2 ^ (pexp x n + pexp y n + 2148).toNat)

theorem inv_step {C C' : List Int} {lo hi : Int} {f st : Nat} {V : Int} (h : Inv C lo hi) (hf : f + 5 ≤ 141) (hL : Ly C C' f st V) : Inv C' (min lo f) (max hi (f + 5)) := by
  have h1 := h.lo0
  have h2 := h.hi0
  refine ⟨by omega, by omega, fun k hk => ?_⟩
  rw [hL.out k (by omega)]
  exact h.zero k (by omega)

/- a finite float of the width, by its parts -/
structure FinP (n x : Int) : Prop where
  r1 : -9223372036854775808 ≤ x
  r2 : x ≤ 9223372036854775807
  fin : fin x n = true
  m : 0 ≤ pmag x n ∧ pmag x n < 9007199254740992
  e : -1074 ≤ pexp x n ∧ pexp x n ≤ 971

end Go.Proofs.YtalhnaakbekboaaDoor

namespace Go.Proofs.YtalhnaakbekboaaDoor
open Go.ChangeShapes Go.WideShapes Go.ChangeAt Go.RowKit
set_option linter.unusedVariables false
set_option linter.unusedSimpArgs false

end Go.Proofs.YtalhnaakbekboaaDoor
