/- Next, Split: package rng's and the document's own. -/
import Derived.Test.YtedghjededicpaaG1
namespace Go.Proofs.Ytedghjededicpaa
open Go.ChangeShapes Go.WideShapes Go.ChangeAt Go.RowKit
set_option linter.unusedVariables false

/-- A draw's three cells, which may be written. -/
def Dw (w : World) (b : Nat) (s t a : Int) : Prop := Dr w b s t a ∧ ∀ o, w.frozen? ⟨b, o, none⟩ = false
theorem dw_new (w : World) (s t a : Int) (T : TypeId) : Dw (w.alloc (.cells #[.int .i64 s, .int .i64 t, .int .i64 a] T)) w.heap.size s t a := ⟨dr_new w s t a T, fun o => by simp [go_sem]⟩
theorem Dw.kept {w w' : World} {b : Nat} {s t a : Int} (h : Dw w b s t a) (k : Kept w w') : Dw w' b s t a := ⟨h.1.kept k, fun o => (k.frozen _).trans (h.2 o)⟩
theorem Dw.set {w : World} {b : Nat} {s t a : Int} (h : Dw w b s t a) (x : Int) : Dw (w.setCell ⟨b, 2, none⟩ (.int .i64 x)) b s t x :=
  ⟨⟨(World.cell?_setCell_other _ _ _ _ (by simp)).trans h.1.1, (World.cell?_setCell_other _ _ _ _ (by simp)).trans h.1.2.1, World.cell?_setCell_same _ _ _ h.1.2.2⟩, fun o => (World.frozen?_setCell _ _ _ _).trans (h.2 o)⟩
theorem Dw.far {w : World} {b : Nat} {s t a : Int} (h : Dw w b s t a) (p : Addr) (hp : p.block ≠ b) (v : Value) : Dw (w.setCell p v) b s t a :=
  ⟨⟨(World.cell?_setCell_far _ _ _ _ hp).trans h.1.1, (World.cell?_setCell_far _ _ _ _ hp).trans h.1.2.1, (World.cell?_setCell_far _ _ _ _ hp).trans h.1.2.2⟩, fun o => (World.frozen?_setCell _ _ _ _).trans (h.2 o)⟩
/-- A draw written into other cells. -/
def put3 (w : World) (c : Nat) (x y z : Value) : World := ((w.setCell ⟨c, 0, none⟩ x).setCell ⟨c, 1, none⟩ y).setCell ⟨c, 2, none⟩ z
theorem keep3 {w X : World} {b c : Nat} {s t a : Int} (hw : Kept w X) (hb : w.heap.size ≤ c) (hne : c ≠ b) (d : Dr X b s t a) (x y z : Value) :
    Kept w (put3 X c x y z) ∧ (put3 X c x y z).cell? ⟨b, 0, none⟩ = some (.int .i64 s) ∧ (put3 X c x y z).cell? ⟨b, 1, none⟩ = some (.int .i64 t) ∧ (put3 X c x y z).cell? ⟨b, 2, none⟩ = some (.int .i64 a) := by
  have e : ∀ o, (put3 X c x y z).cell? ⟨b, o, none⟩ = X.cell? ⟨b, o, none⟩ := fun o =>
    ((World.cell?_setCell_far _ _ _ _ hne).trans (World.cell?_setCell_far _ _ _ _ hne)).trans (World.cell?_setCell_far _ _ _ _ hne)
  exact ⟨((hw.setCell hb _).setCell hb _).setCell hb _, (e 0).trans d.1, (e 1).trans d.2.1, (e 2).trans d.2.2⟩
theorem keep3d {w X : World} {b c : Nat} {s t a : Int} (hw : Kept w X) (hb : w.heap.size ≤ c) (hne : c ≠ b) (d : Dr X b s t a) (x y z : Value) :
    Kept w (put3 X c x y z).drew ∧ (put3 X c x y z).drew.cell? ⟨b, 0, none⟩ = some (.int .i64 s) ∧ (put3 X c x y z).drew.cell? ⟨b, 1, none⟩ = some (.int .i64 t) ∧ (put3 X c x y z).drew.cell? ⟨b, 2, none⟩ = some (.int .i64 a) :=
  ⟨(keep3 hw hb hne d x y z).1.drew, (keep3 hw hb hne d x y z).2⟩

set_option maxHeartbeats 1000000 in
theorem gnext_any (s t a : Int) (w : World) : Calls Try.prog 91 #[.agg #[.int .i64 s, .int .i64 t, .int .i64 a]] w fun e w' => e = .returned (.tuple #[.int .i64 (wz s t a), .agg #[.int .i64 s, .int .i64 t, .int .i64 (wrap64 (a + 1))]]) ∧ Kept w w' := by
  have e1 : a + 0 = a := by omega
  have e2 : IntKind.i64.wrap (IntKind.u64.wrap (IntKind.u64.wrap a + 1)) = wrap64 (a + 1) := by
    rw [wrap_i64]; simp only [IntKind.wrap_u64]; unfold wrap64; omega
  go_enter Try.func91, Try.ntmps91
  go_wp2_with fail
  refine (word_any _ _ _ _ _).mono ?_
  rintro e w1 ⟨rfl, hk1⟩
  rw [e1]
  have hA := (Kept.refl w).alloc #[.int .i64 s, .int .i64 t, .int .i64 a] 54
  have hB := (Kept.refl (w.alloc (.cells #[.int .i64 s, .int .i64 t, .int .i64 a] 54))).alloc #[.int .i64 0, .int .i64 0, .int .i64 0] 54
  have hw1 := (hA.trans hB).trans hk1
  have hsz := hw1.below.size
  have d1 := ((dw_new w s t a 54).kept hB).kept hk1
  have d2 := (dw_new (w.alloc (.cells #[.int .i64 s, .int .i64 t, .int .i64 a] 54)) 0 0 0 54).kept hk1
  rw [show (w.alloc (.cells #[.int .i64 s, .int .i64 t, .int .i64 a] 54)).heap.size = w.heap.size + 1 by simp] at d2
  have d3 := d1.set (wrap64 (a + 1))
  have d4 := d2.far ⟨w.heap.size, 2, none⟩ (by simp) (.int .i64 (wrap64 (a + 1)))
  have hw2 := hw1.setCell (p := ⟨w.heap.size, 2, none⟩) (Nat.le_refl _) (.int .i64 (wrap64 (a + 1)))
  obtain ⟨⟨c0, c1, c2⟩, f1⟩ := d1
  clear hA hB hk1 d2
  go_upto_region 3 with fail
  obtain ⟨X, hX⟩ : ∃ X, X = w1.setCell ⟨w.heap.size, 2, none⟩ (.int .i64 (wrap64 (a + 1))) := ⟨_, rfl⟩
  rw [← hX] at d3 d4 hw2 ⊢
  clear hX c0 c1 c2 f1 hw1
  obtain ⟨⟨c0, c1, c2⟩, f1⟩ := d3
  obtain ⟨⟨c3, c4, c5⟩, f2⟩ := d4
  go_region_held (fun u => Kept w u ∧ u.cell? ⟨w.heap.size, 0, none⟩ = some (.int .i64 s) ∧ u.cell? ⟨w.heap.size, 1, none⟩ = some (.int .i64 t) ∧ u.cell? ⟨w.heap.size, 2, none⟩ = some (.int .i64 (wrap64 (a + 1)))) (first | exact ⟨hw2.drew, c0, c1, c2⟩ | assumption | exact keep3d hw2 (by simp) (by simp) ⟨c0, c1, c2⟩ _ _ _) (fail)
  go_wp2
  exact bodyPost_ret (v := .tuple #[.int .i64 (wz s t a), .agg #[.int .i64 s, .int .i64 t, .int .i64 (wrap64 (a + 1))]]) (by simp [results, Try.results91, go_sem, *]) rfl ⟨rfl, (keep3d hw2 (by simp) (by simp) ⟨c0, c1, c2⟩ _ _ _).1⟩

set_option maxHeartbeats 1000000 in
theorem grnext_any (s t a : Int) (w : World) : Calls Try.prog 71 #[.agg #[.int .i64 s, .int .i64 t, .int .i64 a]] w fun e w' => e = .returned (.tuple #[.int .i64 (wz s t a), .agg #[.int .i64 s, .int .i64 t, .int .i64 (wrap64 (a + 1))]]) ∧ Kept w w' := by
  have e1 : a + 0 = a := by omega
  have e2 : IntKind.i64.wrap (IntKind.u64.wrap (IntKind.u64.wrap a + 1)) = wrap64 (a + 1) := by
    rw [wrap_i64]; simp only [IntKind.wrap_u64]; unfold wrap64; omega
  go_enter Try.func71, Try.ntmps71
  go_wp2_with fail
  refine (rword_any _ _ _ _ _).mono ?_
  rintro e w1 ⟨rfl, hk1⟩
  rw [e1]
  have hA := (Kept.refl w).alloc #[.int .i64 s, .int .i64 t, .int .i64 a] 54
  have hB := (Kept.refl (w.alloc (.cells #[.int .i64 s, .int .i64 t, .int .i64 a] 54))).alloc #[.int .i64 0, .int .i64 0, .int .i64 0] 54
  have hw1 := (hA.trans hB).trans hk1
  have hsz := hw1.below.size
  have d1 := ((dw_new w s t a 54).kept hB).kept hk1
  have d2 := (dw_new (w.alloc (.cells #[.int .i64 s, .int .i64 t, .int .i64 a] 54)) 0 0 0 54).kept hk1
  rw [show (w.alloc (.cells #[.int .i64 s, .int .i64 t, .int .i64 a] 54)).heap.size = w.heap.size + 1 by simp] at d2
  have d3 := d1.set (wrap64 (a + 1))
  have d4 := d2.far ⟨w.heap.size, 2, none⟩ (by simp) (.int .i64 (wrap64 (a + 1)))
  have hw2 := hw1.setCell (p := ⟨w.heap.size, 2, none⟩) (Nat.le_refl _) (.int .i64 (wrap64 (a + 1)))
  obtain ⟨⟨c0, c1, c2⟩, f1⟩ := d1
  clear hA hB hk1 d2
  go_upto_region 3 with fail
  obtain ⟨X, hX⟩ : ∃ X, X = w1.setCell ⟨w.heap.size, 2, none⟩ (.int .i64 (wrap64 (a + 1))) := ⟨_, rfl⟩
  rw [← hX] at d3 d4 hw2 ⊢
  clear hX c0 c1 c2 f1 hw1
  obtain ⟨⟨c0, c1, c2⟩, f1⟩ := d3
  obtain ⟨⟨c3, c4, c5⟩, f2⟩ := d4
  go_region_held (fun u => Kept w u ∧ u.cell? ⟨w.heap.size, 0, none⟩ = some (.int .i64 s) ∧ u.cell? ⟨w.heap.size, 1, none⟩ = some (.int .i64 t) ∧ u.cell? ⟨w.heap.size, 2, none⟩ = some (.int .i64 (wrap64 (a + 1)))) (first | exact ⟨hw2.drew, c0, c1, c2⟩ | assumption | exact keep3d hw2 (by simp) (by simp) ⟨c0, c1, c2⟩ _ _ _) (fail)
  go_wp2
  exact bodyPost_ret (v := .tuple #[.int .i64 (wz s t a), .agg #[.int .i64 s, .int .i64 t, .int .i64 (wrap64 (a + 1))]]) (by simp [results, Try.results71, go_sem, *]) rfl ⟨rfl, (keep3d hw2 (by simp) (by simp) ⟨c0, c1, c2⟩ _ _ _).1⟩

def spz (s t k : Int) : Int := IntKind.i64.wrap (mixz (bits .xor .u64 (keyz s t) (mixz (IntKind.u64.wrap (IntKind.u64.wrap k + 15111065706836454659)))))
end Go.Proofs.Ytedghjededicpaa
