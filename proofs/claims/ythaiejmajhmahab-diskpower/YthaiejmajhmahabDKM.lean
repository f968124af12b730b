/- Maps whose keys are strings and whose elements point at the first cell of a block (or nowhere): such an element is read as the block's number (-1: nowhere). -/
import Derived.Maps.StringElems
namespace Go.Proofs.Ythaiejmajhmahab
open Go.Maps Go.RowKit
set_option linter.unusedVariables false
set_option linter.unusedSectionVars false

/-- An element that points at a block, or nowhere. -/
def pv (q : Option Nat) : Value := .pointer (q.map fun f => ⟨f, 0, none⟩)
/-- What it is read as. -/
def pd {H : Type} : Option Nat → DataW H
  | none => .lit (.int .i64 (-1))
  | some f => .lit (.int .i64 f)
/-- How it is read. -/
def ptrElem {H : Type} : Value → Option (DataW H × List MemPlace)
  | .pointer none => some (pd none, [])
  | .pointer (some ⟨f, 0, none⟩) => some (pd (some f), [])
  | _ => none

theorem ptrElem_mk {H : Type} (q : Option Nat) : ptrElem (H := H) (pv q) = some (pd q, []) := by
  cases q <;> rfl
theorem ptrElem_inv {H : Type} {v : Value} {z : DataW H × List MemPlace} (h : ptrElem v = some z) : ∃ q, v = pv q ∧ z = (pd q, []) := by
  unfold ptrElem at h
  split at h
  · cases h; exact ⟨none, rfl, rfl⟩
  · rename_i f; cases h; exact ⟨some f, rfl, rfl⟩
  · cases h
theorem pd_inj {H : Type} {q r : Option Nat} (h : pd (H := H) q = pd r) : q = r := by
  cases q <;> cases r <;> simp [pd] at h <;> first | rfl | (exact congrArg some (by omega)) | omega

/-- What is read as a key of strings is that string. -/
theorem keyOf_string_inv {P : Program} {k : TypeId} (hk : P.underlying k = some .string) {key : Value} {kl : Lit} (h : keyOf P k key = some kl) : ∃ s : ByteArray, key = .string s ∧ kl = .string s.data.toList ∧ s.size ≤ maxLen := by
  cases key <;> simp [keyOf, hk, mapKey] at h
  exact ⟨_, rfl, h.2.symm, h.1⟩

section
variable {H : Type} {P : Program} (w : World) {ops : Array Oper} {rest : List Oper} {o : Oper} {a : Act} {Q : Exit → Act → World → Prop}

/-- 'f, ok := m[k]'. -/
theorem wpList_look_ptr_ok (hg : o.guard = none) (m x : Operand) (t : TypeId) (hop : o.op = Op.lookup t m x true)
    (k e : TypeId) (K : Keyed P k) (ht : P.underlying t = some (.map k e)) (hz : (zeroValue e).run P w = .ok (.pointer none) w) (b n : Nat) (D : DataW H)
    (hm : a.eval m = .map (some b)) (hown : w.ownsMap P k ptrElem b n D) (key : Value) (kl : Lit) (hx : a.eval x = key) (hkey : keyOf P k key = some kl)
    (hK : ∀ q : Option Nat, D.atKey kl (pd none) = pd q → wpList P ops Q rest (a.put o.dst (.tuple #[pv q, .bool (Maps.has D kl)])) w) :
    wpList P ops Q (o :: rest) a w :=
  wpList_lookup_own_ok w hg m x t hop k e K ht ptrElem hz (pd none) [] (ptrElem_mk none) b n D hm hown key kl hx hkey (fun v ps hv => by
    obtain ⟨q, rfl, hq⟩ := ptrElem_inv hv
    exact hK q (congrArg Prod.fst hq))

/-- 'm[k]', without 'ok'. -/
theorem wpList_look_ptr (hg : o.guard = none) (m x : Operand) (t : TypeId) (hop : o.op = Op.lookup t m x false)
    (k e : TypeId) (K : Keyed P k) (ht : P.underlying t = some (.map k e)) (hz : (zeroValue e).run P w = .ok (.pointer none) w) (b n : Nat) (D : DataW H)
    (hm : a.eval m = .map (some b)) (hown : w.ownsMap P k ptrElem b n D) (key : Value) (kl : Lit) (hx : a.eval x = key) (hkey : keyOf P k key = some kl)
    (hK : ∀ q : Option Nat, D.atKey kl (pd none) = pd q → wpList P ops Q rest (a.put o.dst (pv q)) w) :
    wpList P ops Q (o :: rest) a w := by
  refine wpList_plain hg fun K' hK' => ?_
  obtain ⟨v, ps, hrun, hv⟩ := hown.lookup K ht hz (ptrElem_mk none) hkey
  obtain ⟨q, rfl, hq⟩ := ptrElem_inv hv
  unfold Oper.wp
  simp [execOp, hop, hm, hx, hrun, Result.andThen]
  exact hK' _ _ (hK q (congrArg Prod.fst hq))

/-- The step of 'for k, f := range m'. -/
theorem wpList_next_sp (hg : o.guard = none) (it : Operand) (hop : o.op = Op.next it false) (k : TypeId) (K : Keyed P k) (hk : P.underlying k = some .string)
    (b r n : Nat) (D : DataW H) (left : Lit → Bool) (cnt : Nat) (hit : a.eval it = .pointer (some ⟨r, 0, none⟩)) (h : w.ranges P k ptrElem b r n D left cnt)
    (hDone : cnt = 0 → (∀ kl, left kl = false) → wpList P ops Q rest (a.put o.dst (.tuple #[.bool false])) w)
    (hMore : ∀ (s : ByteArray) (q : Option Nat) (w' : World) (cnt' : Nat), s.size ≤ maxLen → left (.string s.data.toList) = true → (∀ zd, D.atKey (.string s.data.toList) zd = pd q) → w'.ranges P k ptrElem b r n D (fun z => left z && !z.sameKey (.string s.data.toList)) cnt' → cnt' < cnt →
      w.grownBy w' (some r) → w'.heap.size = w.heap.size → (Instr.entry (.pointer (some ⟨r, 0, none⟩))).run P w' = .ok (.tuple #[.string s, pv q]) w' → wpList P ops Q rest (a.put o.dst (.tuple #[.bool true, .string s, pv q])) w') :
    wpList P ops Q (o :: rest) a w :=
  wpList_next_ranges w hg it hop k K ptrElem Value.string pv (fun key kl hkey => by obtain ⟨s, rfl, _⟩ := keyOf_string_inv hk hkey; exact ⟨s, rfl⟩) (fun v y hv => by obtain ⟨q, rfl, _⟩ := ptrElem_inv hv; exact ⟨q, rfl⟩)
    b r n D left cnt hit h hDone (fun s q kl y w' cnt' hkey hlk hv hat hrg hlt hgr hsz hen => by
      obtain ⟨s', es, rfl, hws⟩ := keyOf_string_inv hk hkey
      cases es
      obtain ⟨q', eq', rfl⟩ := ptrElem_inv hv
      have : q = q' := by cases q <;> cases q' <;> simp [pv] at eq' <;> simp [*]
      subst this
      exact hMore s q w' cnt' hws hlk hat hrg hlt hgr hsz hen)
end

end Go.Proofs.Ythaiejmajhmahab
