/- Package disk: a work done to names, to bytes. -/
import Derived.Test.YthaiejmajhmahabDLF
namespace Go.Proofs.Ythaiejmajhmahab
open Go.ChangeShapes Go.WideShapes Go.ChangeAt Go.RowKit Go.Maps
set_option linter.unusedVariables false
set_option linter.unusedSimpArgs false

/-- A work as it is handed on. -/
abbrev wval (x : Wk) (v : Value) : Value := .agg #[.int .i64 x.kind, .string x.nm, .string x.to_, .int .i64 x.len, .pointer (some ⟨x.file, 0, none⟩), v]
def ofN (k : Int) : Bool := k == 3 || k == 4
set_option maxHeartbeats 1000000 in
theorem ofNames_raw (k : Int) (s t : ByteArray) (l : Int) (f : Nat) (ao : Option Addr) (n c : Nat) (w : World) :
    Calls Try.prog 26 #[.agg #[.int .i64 k, .string s, .string t, .int .i64 l, .pointer (some ⟨f, 0, none⟩), .slice ao n c]] w fun e w' => e = .returned (.bool (ofN k)) ∧ Kept w w' := by
  unfold ofN
  by_cases h : k = 3
  · subst h
    go_enter Try.func26, Try.ntmps26
    go_wp2
    go_ret
    exact ⟨rfl, (Kept.refl w).alloc _ _⟩
  · by_cases h4 : k = 4
    · subst h4
      go_enter Try.func26, Try.ntmps26
      go_wp2
      go_ret
      exact ⟨rfl, (Kept.refl w).alloc _ _⟩
    · go_enter Try.func26, Try.ntmps26
      go_wp2
      go_ret
      exact ⟨rfl, (Kept.refl w).alloc _ _⟩
theorem ofNames_any (x : Wk) (v : Value) (hv : ∃ ao n c, v = .slice ao n c) (w : World) : Calls Try.prog 26 #[wval x v] w fun e w' => e = .returned (.bool (ofN x.kind)) ∧ Kept w w' := by
  obtain ⟨ao, n, c, rfl⟩ := hv
  exact ofNames_raw _ _ _ _ _ ao n c w
/-- What a work does to names. -/
def nameN (x : Wk) (M : Nms) : Nms := if x.kind = 3 then giveN M x.file x.to_ else takeN M x.file x.nm
set_option maxHeartbeats 1000000 in
theorem name_any (x : Wk) (v : Value) (hv : ∃ ao n c, v = .slice ao n c) (b n : Nat) (M : Nms) (hs : x.nm.size ≤ 32) (ht : x.to_.size ≤ 32) (hn : n < 1000000000) (w : World) (hM : Mp w b n M) (hf : Cb w x.file) (hA : ∀ t g, M t = some g → Cb w g) :
    Calls Try.prog 36 #[wval x v, .map (some b)] w fun e w' => e = .returned (.tuple #[]) ∧ KX (fun i => i = b) w w' ∧ Mp w' b (n + 1) (nameN x M) := by
  obtain ⟨ao, l, c, rfl⟩ := hv
  obtain ⟨k, s, t, ln, f, bs⟩ := x
  have hb := hM.lt
  have H1 := hid fun (u : World) (k : Kept w u) => give_any b n f M t (by simp only at ht; unfold maxLen; omega) hn u (hM.on (k.below.block b hb)) (hf.kx (k.kx fun _ => False) id) fun t g h => (hA t g h).kx (k.kx fun _ => False) id
  have H2 := hid fun (u : World) (k : Kept w u) => take_any b n f M s (by simp only at hs; unfold maxLen; omega) u (hM.on (k.below.block b hb)) (hf.kx (k.kx fun _ => False) id) fun t g h => (hA t g h).kx (k.kx fun _ => False) id
  clear hs ht hn hM hf hA hb
  by_cases h : k = 3
  · subst h
    go_enter Try.func36, Try.ntmps36
    go_wp2_with (first | (go_at_call 41; refine (H1.out _ ((Kept.refl w).alloc _ _)).mono ?_; rintro e u1 ⟨rfl, k1, m1⟩))
    exact bodyPost_end (v := .tuple #[]) (by simp [results, Try.results36, go_sem]) rfl ⟨rfl, (((Kept.refl w).alloc _ _).kx fun i => i = b).trans k1, m1⟩
  · have e : nameN ⟨k, s, t, ln, f, bs⟩ M = takeN M f s := if_neg h
    rw [e]
    clear e
    go_enter Try.func36, Try.ntmps36
    go_wp2_with (first | (go_at_call 42; refine (H2.out _ ((Kept.refl w).alloc _ _)).mono ?_; rintro e u1 ⟨rfl, k1, m1⟩))
    exact bodyPost_end (v := .tuple #[]) (by simp [results, Try.results36, go_sem]) rfl ⟨rfl, (((Kept.refl w).alloc _ _).kx fun i => i = b).trans k1, m1.mono (Nat.le_succ n)⟩
end Go.Proofs.Ythaiejmajhmahab
