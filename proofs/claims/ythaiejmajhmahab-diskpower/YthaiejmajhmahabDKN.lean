/- Package disk: which names there are (isName), for every string. -/
import Derived.Test.YthaiejmajhmahabRows
import Derived.Test.YthaiejmajhmahabDKM
import Derived.WalkKit
import Derived.Laws.RangeString
import Derived.Laws.RangeAny
import Derived.LoopTactic
namespace Go.Proofs.Ythaiejmajhmahab
set_option linter.unusedVariables false
set_option linter.unusedSimpArgs false

/-- A letter that a name may have. -/
def chr (x : Int) : Prop := 97 ≤ x ∧ x ≤ 122 ∨ 48 ≤ x ∧ x ≤ 57 ∨ x = 45 ∨ x = 46 ∨ x = 95
instance (x : Int) : Decidable (chr x) := by unfold chr; infer_instance
/-- All letters up to a place are such. -/
def Chrs (s : ByteArray) (n : Nat) : Prop := ∀ i (h : i < s.size), i < n → chr ((s[i]'h).toNat : Int)
/-- A string that is a name. -/
def NmOk (s : ByteArray) : Prop := 1 ≤ s.size ∧ s.size ≤ 32 ∧ Chrs s s.size

/-- At a place: either the next letter may be in a name, and is one byte, or that byte may not. -/
theorem next_chr (s : ByteArray) (pos : Nat) (h : pos < s.size) :
    (chr ((Utf8.decode s pos).1 : Int) ∧ (Utf8.decode s pos).2 = 1 ∧ chr ((s[pos]'h).toNat : Int)) ∨ (¬ chr ((Utf8.decode s pos).1 : Int) ∧ ¬ chr ((s[pos]'h).toNat : Int)) := by
  by_cases ha : (s[pos]'h).toNat < 128
  · rw [decode_ascii s pos h ha]
    by_cases hc : chr ((s[pos]'h).toNat : Int)
    · exact .inl ⟨hc, rfl, hc⟩
    · exact .inr ⟨hc, hc⟩
  · have := (decode_high s pos h (by omega)).1
    refine .inr ⟨?_, ?_⟩ <;> (unfold chr; omega)

theorem Chrs.step {s : ByteArray} {pos : Nat} (H : Chrs s pos) (h : pos < s.size) (hc : chr ((s[pos]'h).toNat : Int)) : Chrs s (pos + 1) := by
  intro i hi hlt
  by_cases e : i = pos
  · subst e; exact hc
  · exact H i hi (by omega)

set_option maxHeartbeats 4000000 in
set_option maxRecDepth 1000000 in
theorem isName_any (s : ByteArray) (b : Bool) (hb : b = true ↔ NmOk s) (w : World) :
    Calls Try.prog 35 #[.string s] w fun e w' => e = .returned (.bool b) ∧ (w' = w ∨ ∃ pos, w' = w.iter s pos) := by
  go_enter Try.func35, Try.ntmps35
  go_wp2
  · go_ret
    refine ⟨?_, .inl rfl⟩
    cases b
    · rfl
    · have := hb.1 rfl; unfold NmOk at this; omega
  · go_loopw [4] (fun _ w' => ∃ pos, w' = w.iter s pos ∧ Chrs s pos) (fun _ w' => s.size - w'.iterPos w.heap.size)
    case atStart => exact ⟨0, rfl, fun i _ h => absurd h (by omega)⟩
    case round =>
      obtain ⟨pos, rfl, hc⟩ := hrel
      by_cases hp : pos < s.size
      · have hnx : ∀ ty, (Instr.next (.pointer (some ⟨w.heap.size, 0, none⟩)) true ty).run Try.prog (w.iter s pos) = _ := fun ty => run_next_any w s pos ty hp
        rcases next_chr s pos hp with ⟨h1, h2, h3⟩ | ⟨h1, h3⟩
        · rw [h2] at hnx
          generalize ((Utf8.decode s pos).1 : Int) = x at h1 hnx
          have h4 := h1
          unfold chr at h4
          go_wp2
          all_goals first
            | exact ⟨⟨_, rfl, hc.step hp h3⟩, by simp; omega⟩
            | (exfalso; omega)
        · have hbf : b = false := by
            cases b
            · rfl
            · exact absurd ((hb.1 rfl).2.2 pos hp hp) h3
          generalize ((Utf8.decode s pos).1 : Int) = x at h1 hnx
          generalize (Utf8.decode s pos).2 = wd at hnx
          unfold chr at h1
          go_wp2
          all_goals first
            | (exfalso; omega)
            | (go_ret; subst hbf; exact ⟨rfl, .inr ⟨_, rfl⟩⟩)
      · have hnx : ∀ ty, (Instr.next (.pointer (some ⟨w.heap.size, 0, none⟩)) true ty).run Try.prog (w.iter s pos) = _ := fun ty => run_next_end w s pos ty hp
        go_wp2
        go_ret
        refine ⟨?_, .inr ⟨_, rfl⟩⟩
        have : b = true := hb.2 ⟨by omega, by omega, fun i hi hl => hc i hi (by omega)⟩
        rw [this]; rfl
  · go_ret
    refine ⟨?_, .inl rfl⟩
    cases b
    · rfl
    · have := hb.1 rfl; unfold NmOk at this; omega

end Go.Proofs.Ythaiejmajhmahab
