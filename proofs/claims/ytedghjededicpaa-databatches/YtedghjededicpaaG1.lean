/- The walks of mix, key, wordAt, Word, Next, Split of package rng, and of the document's own: for every draw. -/
import Derived.Test.YtedghjededicpaaRows
import Derived.Test.YtedghjededicpaaGM
import Derived.Test.YtedghjededicpaaCore
import Derived.Deep.RegionHeld
namespace Go.Proofs.Ytedghjededicpaa
open Go.ChangeShapes Go.WideShapes Go.ChangeAt Go.RowKit
set_option linter.unusedVariables false

def mixa (c : Int) (k : Int) (x : Int) : Int := IntKind.u64.wrap (bits .xor .u64 x (x / k) * c)
def mixb (x : Int) : Int := bits .xor .u64 x (x / 2147483648)
def mixz (x : Int) : Int := mixb (mixa 10723151780598845931 134217728 (mixa 13787848793156543929 1073741824 x))

theorem mix_any (z : Int) (w : World) : Calls Try.prog 98 #[.int .u64 z] w fun e w' => e = .returned (.int .u64 (mixz z)) ∧ w = w' := by
  go_enter Try.func98, Try.ntmps98
  go_wp2
  go_ret
  exact ⟨rfl, rfl⟩

theorem rmix_any (z : Int) (w : World) : Calls Try.prog 92 #[.int .u64 z] w fun e w' => e = .returned (.int .u64 (mixz z)) ∧ w = w' := by
  go_enter Try.func92, Try.ntmps92
  go_wp2
  go_ret
  exact ⟨rfl, rfl⟩

def keyz (s t : Int) : Int := mixz (bits .xor .u64 (IntKind.u64.wrap s) (mixz (IntKind.u64.wrap (IntKind.u64.wrap t + 7146057691288625177))))

/-- A draw's three cells. -/
def Dr (w : World) (b : Nat) (s t a : Int) : Prop := w.cell? ⟨b, 0, none⟩ = some (.int .i64 s) ∧ w.cell? ⟨b, 1, none⟩ = some (.int .i64 t) ∧ w.cell? ⟨b, 2, none⟩ = some (.int .i64 a)

theorem dr_new (w : World) (s t a : Int) (T : TypeId) : Dr (w.alloc (.cells #[.int .i64 s, .int .i64 t, .int .i64 a] T)) w.heap.size s t a := by
  refine ⟨?_, ?_, ?_⟩ <;> simp
theorem Dr.kept {w w' : World} {b : Nat} {s t a : Int} (h : Dr w b s t a) (k : Kept w w') : Dr w' b s t a :=
  ⟨(k.below.cell (World.block_lt_of_cell? _ _ h.1)).trans h.1, (k.below.cell (World.block_lt_of_cell? _ _ h.2.1)).trans h.2.1, (k.below.cell (World.block_lt_of_cell? _ _ h.2.2)).trans h.2.2⟩

set_option maxHeartbeats 1000000 in
theorem key_any (s t a : Int) (w : World) : Calls Try.prog 97 #[.agg #[.int .i64 s, .int .i64 t, .int .i64 a]] w fun e w' => e = .returned (.int .u64 (keyz s t)) ∧ Kept w w' := by
  have hK := (Kept.refl w).alloc #[.int .i64 s, .int .i64 t, .int .i64 a] 54
  obtain ⟨c0, c1, c2⟩ := dr_new w s t a 54
  go_enter Try.func97, Try.ntmps97
  go_wp2_with fail
  go_region_held (fun u => Kept w u ∧ u.cell? ⟨w.heap.size, 0, none⟩ = some (.int .i64 s) ∧ u.cell? ⟨w.heap.size, 1, none⟩ = some (.int .i64 t)) (first | exact ⟨hK.drew, c0, c1⟩ | assumption) (first | (go_at_call 98; refine (mix_any _ _).mono ?_; rintro e w1 ⟨rfl, rfl⟩))
  go_wp2
  go_ret
  exact ⟨rfl, hK.drew⟩

set_option maxHeartbeats 1000000 in
theorem rkey_any (s t a : Int) (w : World) : Calls Try.prog 93 #[.agg #[.int .i64 s, .int .i64 t, .int .i64 a]] w fun e w' => e = .returned (.int .u64 (keyz s t)) ∧ Kept w w' := by
  have hK := (Kept.refl w).alloc #[.int .i64 s, .int .i64 t, .int .i64 a] 54
  obtain ⟨c0, c1, c2⟩ := dr_new w s t a 54
  go_enter Try.func93, Try.ntmps93
  go_wp2_with fail
  go_region_held (fun u => Kept w u ∧ u.cell? ⟨w.heap.size, 0, none⟩ = some (.int .i64 s) ∧ u.cell? ⟨w.heap.size, 1, none⟩ = some (.int .i64 t)) (first | exact ⟨hK.drew, c0, c1⟩ | assumption) (first | (go_at_call 92; refine (rmix_any _ _).mono ?_; rintro e w1 ⟨rfl, rfl⟩))
  go_wp2
  go_ret
  exact ⟨rfl, hK.drew⟩

def watz (k a : Int) : Int := mixz (IntKind.u64.wrap (k + IntKind.u64.wrap (IntKind.u64.wrap (IntKind.u64.wrap a + 1) * 11400714819323198485)))

theorem wordAt_any (k a : Int) (w : World) : Calls Try.prog 96 #[.int .u64 k, .int .i64 a] w fun e w' => e = .returned (.int .u64 (watz k a)) ∧ w = w' := by
  go_enter Try.func96, Try.ntmps96
  go_wp2_with (first | (go_at_call 98; refine (mix_any _ _).mono ?_; rintro e w1 ⟨rfl, rfl⟩))
  go_ret
  exact ⟨rfl, rfl⟩

set_option maxHeartbeats 1000000 in
theorem word_any0 (s t a i : Int) (w : World) : Calls Try.prog 95 #[.agg #[.int .i64 s, .int .i64 t, .int .i64 a], .int .i64 i] w fun e w' => e = .returned (.int .i64 (IntKind.i64.wrap (watz (keyz s t) (IntKind.i64.wrap (a + i))))) ∧ Kept w w' := by
  have hK := (Kept.refl w).alloc #[.int .i64 s, .int .i64 t, .int .i64 a] 54
  have hD := dr_new w s t a 54
  have hS : ∀ u, Kept (w.alloc (.cells #[.int .i64 s, .int .i64 t, .int .i64 a] 54)) u → Kept w u ∧ Kept (w.alloc (.cells #[.int .i64 s, .int .i64 t, .int .i64 a] 54)) u ∧ u.cell? ⟨w.heap.size, 0, none⟩ = some (.int .i64 s) ∧ u.cell? ⟨w.heap.size, 1, none⟩ = some (.int .i64 t) ∧ u.cell? ⟨w.heap.size, 2, none⟩ = some (.int .i64 a) := fun u hu => ⟨hK.trans hu, hu, hD.kept hu⟩
  have HS : Hid (∀ u, Kept (w.alloc (.cells #[.int .i64 s, .int .i64 t, .int .i64 a] 54)) u → _) := hS
  have HK : Hid (Kept (w.alloc (.cells #[.int .i64 s, .int .i64 t, .int .i64 a] 54)) (w.alloc (.cells #[.int .i64 s, .int .i64 t, .int .i64 a] 54)).drew) := (Kept.refl _).drew
  clear hS hD hK
  go_enter Try.func95, Try.ntmps95
  go_wp2_with fail
  go_region_held (fun u => Kept w u ∧ Kept (w.alloc (.cells #[.int .i64 s, .int .i64 t, .int .i64 a] 54)) u ∧ u.cell? ⟨w.heap.size, 0, none⟩ = some (.int .i64 s) ∧ u.cell? ⟨w.heap.size, 1, none⟩ = some (.int .i64 t) ∧ u.cell? ⟨w.heap.size, 2, none⟩ = some (.int .i64 a)) (first | exact HS.out _ HK.out | assumption) (first | (go_at_call 97; refine (key_any _ _ _ _).mono ?_; rintro e w1 ⟨rfl, hk1⟩; have e0 := HS.out _ (Kept.trans (by assumption) hk1)) | (go_at_call 96; refine (wordAt_any _ _ _).mono ?_; rintro e w1 ⟨rfl, rfl⟩))
  go_wp2
  go_ret
  exact ⟨rfl, by first | exact e0.1 | (rename_i h; exact h.1)⟩

set_option maxHeartbeats 1000000 in
theorem rword_any0 (s t a i : Int) (w : World) : Calls Try.prog 84 #[.agg #[.int .i64 s, .int .i64 t, .int .i64 a], .int .i64 i] w fun e w' => e = .returned (.int .i64 (IntKind.i64.wrap (mixz (IntKind.u64.wrap (keyz s t + IntKind.u64.wrap (IntKind.u64.wrap (IntKind.u64.wrap (IntKind.u64.wrap a + IntKind.u64.wrap i) + 1) * 11400714819323198485)))))) ∧ Kept w w' := by
  have hK := (Kept.refl w).alloc #[.int .i64 s, .int .i64 t, .int .i64 a] 54
  have hD := dr_new w s t a 54
  have hS : ∀ u, Kept (w.alloc (.cells #[.int .i64 s, .int .i64 t, .int .i64 a] 54)) u → Kept w u ∧ Kept (w.alloc (.cells #[.int .i64 s, .int .i64 t, .int .i64 a] 54)) u ∧ u.cell? ⟨w.heap.size, 0, none⟩ = some (.int .i64 s) ∧ u.cell? ⟨w.heap.size, 1, none⟩ = some (.int .i64 t) ∧ u.cell? ⟨w.heap.size, 2, none⟩ = some (.int .i64 a) := fun u hu => ⟨hK.trans hu, hu, hD.kept hu⟩
  have HS : Hid (∀ u, Kept (w.alloc (.cells #[.int .i64 s, .int .i64 t, .int .i64 a] 54)) u → _) := hS
  have HK : Hid (Kept (w.alloc (.cells #[.int .i64 s, .int .i64 t, .int .i64 a] 54)) (w.alloc (.cells #[.int .i64 s, .int .i64 t, .int .i64 a] 54)).drew) := (Kept.refl _).drew
  clear hS hD hK
  go_enter Try.func84, Try.ntmps84
  go_wp2_with fail
  go_region_held (fun u => Kept w u ∧ Kept (w.alloc (.cells #[.int .i64 s, .int .i64 t, .int .i64 a] 54)) u ∧ u.cell? ⟨w.heap.size, 0, none⟩ = some (.int .i64 s) ∧ u.cell? ⟨w.heap.size, 1, none⟩ = some (.int .i64 t) ∧ u.cell? ⟨w.heap.size, 2, none⟩ = some (.int .i64 a)) (first | exact HS.out _ HK.out | assumption) (first | (go_at_call 93; refine (rkey_any _ _ _ _).mono ?_; rintro e w1 ⟨rfl, hk1⟩; have e0 := HS.out _ (Kept.trans (by assumption) hk1)) | (go_at_call 92; refine (rmix_any _ _).mono ?_; rintro e w1 ⟨rfl, rfl⟩))
  go_wp2
  go_ret
  exact ⟨rfl, by first | exact e0.1 | (rename_i h; exact h.1)⟩

/-- The word at a place, as an int. -/
def wz (s t a : Int) : Int := IntKind.i64.wrap (watz (keyz s t) a)

theorem watz_cong (k a b : Int) (h : a % 18446744073709551616 = b % 18446744073709551616) : watz k a = watz k b := by
  unfold watz
  simp only [IntKind.wrap_u64]
  rw [h]
theorem wz_cong (s t a b : Int) (h : a % 18446744073709551616 = b % 18446744073709551616) : wz s t a = wz s t b := by
  unfold wz; rw [watz_cong _ a b h]

theorem word_any (s t a i : Int) (w : World) : Calls Try.prog 95 #[.agg #[.int .i64 s, .int .i64 t, .int .i64 a], .int .i64 i] w fun e w' => e = .returned (.int .i64 (wz s t (a + i))) ∧ Kept w w' := by
  refine (word_any0 s t a i w).mono ?_
  rintro e w' ⟨rfl, hk⟩
  refine ⟨?_, hk⟩
  rw [wz_cong s t (a + i) (IntKind.i64.wrap (a + i)) (by rw [wrap_i64]; omega)]; rfl

theorem rword_any (s t a i : Int) (w : World) : Calls Try.prog 84 #[.agg #[.int .i64 s, .int .i64 t, .int .i64 a], .int .i64 i] w fun e w' => e = .returned (.int .i64 (wz s t (a + i))) ∧ Kept w w' := by
  refine (rword_any0 s t a i w).mono ?_
  rintro e w' ⟨rfl, hk⟩
  refine ⟨?_, hk⟩
  unfold wz watz
  have e : IntKind.u64.wrap (IntKind.u64.wrap (IntKind.u64.wrap a + IntKind.u64.wrap i) + 1) = IntKind.u64.wrap (IntKind.u64.wrap (a + i) + 1) := by
    simp only [IntKind.wrap_u64]; omega
  rw [e]

end Go.Proofs.Ytedghjededicpaa
