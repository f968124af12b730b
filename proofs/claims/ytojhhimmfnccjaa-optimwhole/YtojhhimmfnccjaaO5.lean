/- Package optim: the plain rule of one element, in floats of both widths. -/
import Derived.Test.YtojhhimmfnccjaaO4
import Derived.Laws.EntriesVeiled
namespace Go.Proofs.Ytojhhimmfnccjaa
open Go.ChangeShapes Go.WideShapes Go.ChangeAt Go.RowKit Ieee
set_option linter.unusedVariables false
set_option linter.unusedSimpArgs false

theorem stf (k : FloatKind) (a : Addr) (x : Nat) (m : Mode) (w : World) : (store a (.float k x) m).run Try.prog w = stored Try.prog w a (.float k x) m := run_store Try.prog w a _ m rfl
theorem mAbs_any (x r : Nat) (h : (bits .andNot .u64 (x : Int) 9223372036854775808).toNat = r) (w : World) : Calls Try.prog 72 #[.float .f64 x] w fun e w' => e = .returned (.float .f64 r) ∧ w = w' := by
  have h1 := call_bits64
  have h2 := call_frombits64
  go_enter Try.func72, Try.ntmps72
  go_wp2_with fail
  go_ret
  exact ⟨by rw [← h]; rfl, rfl⟩
theorem isInf_any (x r : Nat) (b : Bool) (KA : Hid (∀ u, Calls Try.prog 72 #[.float .f64 x] u fun e w' => e = .returned (.float .f64 r) ∧ u = w')) (ho : (FloatKind.f64.format.order r 9218868437227405311 == some .gt) = b) (w : World) : Calls Try.prog 56 #[.float .f64 x, .int .i64 0] w fun e w' => e = .returned (.bool b) ∧ w = w' := by
  go_enter Try.func56, Try.ntmps56
  go_wp2_with (first | (go_at_call 72; refine (KA.out _).mono ?_; rintro e u1 ⟨rfl, rfl⟩))
  go_ret
  exact ⟨rfl, rfl⟩
set_option maxHeartbeats 4000000 in
set_option maxRecDepth 100000 in
theorem num_64 (b y n : Int) (ok : Bool) (f B C : Nat) (w : World) (hB : w.cell? ⟨B, 10, none⟩ = some (.int .i64 n)) (hC : w.cell? ⟨C, 0, none⟩ = some (.func (.func 15) #[] #[]))
    (KS : Hid (∀ u, Calls Try.prog 21 #[.int .i64 b, .int .i64 n] u fun e w' => e = .returned (.tuple #[.int .i64 y, .bool ok]) ∧ Kept u w'))
    (KF : Hid (∀ u, Calls Try.prog 15 #[.int .i64 y] u fun e w' => e = .returned (.float .f64 f) ∧ u = w')) :
    Calls Try.prog 57 #[.int .i64 b, .pointer (some ⟨B, 0, none⟩), .pointer (some ⟨C, 0, none⟩)] w fun e w' => e = .returned (.float .f64 f) ∧ Kept w w' := by
  have hCl : C < w.heap.size := World.block_lt_of_cell? _ _ hC
  have HC : Hid (∀ u, Kept w u → u.cell? ⟨C, 0, none⟩ = some (.func (.func 15) #[] #[])) := fun u k => (k.below.cell (p := ⟨C, 0, none⟩) hCl).trans hC
  clear hC hCl
  go_enter Try.func57, Try.ntmps57
  go_wp2_with (first | (go_at_call 21; refine (KS.out _).mono ?_; rintro e u1 ⟨rfl, k1⟩; have c1 := HC.out _ k1) | (go_at_call 15; refine (KF.out _).mono ?_; rintro e u2 ⟨rfl, rfl⟩))
  go_ret
  exact ⟨rfl, k1⟩
theorem rule_64 (w : World) : Calls Try.prog 35 #[.int .i64 0] w fun e w' => e = .returned (.func (.func 58) #[] #[]) ∧ Kept w w' := by
  go_enter Try.func35, Try.ntmps35
  go_wp2_with fail
  go_ret
  exact ⟨rfl, (Kept.refl w).alloc _ _⟩
theorem grad_64 (fr fw fg : Nat) (w : World) : Calls Try.prog 36 #[.agg #[.float .f64 fr, .float .f64 0, .float .f64 0, .float .f64 0, .float .f64 0, .float .f64 0, .float .f64 0, .float .f64 0], .agg #[.float .f64 fw, .float .f64 fg, .float .f64 0, .float .f64 0]] w fun e w' => e = .returned (.float .f64 fg) ∧ Kept w w' := by
  have h0 : FloatKind.f64.format.order 0 0 = some .eq := by decide +kernel
  go_enter Try.func36, Try.ntmps36
  go_wp2_with fail
  go_ret
  exact ⟨rfl, ((Kept.refl w).alloc _ _).alloc _ _⟩
theorem plain_64 (fr fw fg p q : Nat) (hp : FloatKind.f64.format.mul fr fg = some p) (hq : FloatKind.f64.format.sub fw p = some q) (w : World) : Calls Try.prog 58 #[.agg #[.float .f64 fr, .float .f64 0, .float .f64 0, .float .f64 0, .float .f64 0, .float .f64 0, .float .f64 0, .float .f64 0], .agg #[.float .f64 fw, .float .f64 fg, .float .f64 0, .float .f64 0]] w fun e w' => e = .returned (.agg #[.float .f64 q, .float .f64 fg, .float .f64 0, .float .f64 0]) ∧ Kept w w' := by
  have HM : ∀ (u : World) (ty : TypeId), (binOp .mul ty (.float .f64 fr) (.float .f64 fg)).run Try.prog u = .ok (.float .f64 p) u := fun u ty => run_float_arith u .mul ty .f64 _ _ _ hp
  have HS : ∀ (u : World) (ty : TypeId), (binOp .sub ty (.float .f64 fw) (.float .f64 p)).run Try.prog u = .ok (.float .f64 q) u := fun u ty => run_float_arith u .sub ty .f64 _ _ _ hq
  clear hp hq
  have hSF := stf .f64
  go_enter Try.func58, Try.ntmps58
  go_wp2_with fail
  exact bodyPost_ret (v := .agg #[.float .f64 q, .float .f64 fg, .float .f64 0, .float .f64 0]) (by simp [results, Try.results58, go_sem]) rfl ⟨rfl, by repeat' first | exact Kept.refl _ | refine Kept.setCell ?_ ?_ _ | refine Kept.alloc ?_ _ _ | (simp; done) | (simp; omega)⟩
theorem ix_64 (i : Int) (h : i = 0 ∨ i = 1) (q : Nat) (w : World) : (Instr.index 102 (.agg #[.float .f64 0, .float .f64 0, .float .f64 q]) (.int .i64 i)).run Try.prog w = .ok (.float .f64 0) w := by
  rcases h with rfl | rfl <;> kernel_rfl
theorem ix2_64 (q : Nat) (w : World) : (Instr.index 102 (.agg #[.float .f64 0, .float .f64 0, .float .f64 q]) (.int .i64 2)).run Try.prog w = .ok (.float .f64 q) w := by kernel_rfl
set_option maxHeartbeats 4000000 in
set_option maxRecDepth 100000 in
theorem fault_64 (q fg : Nat) (hq : FloatKind.f64.format.order q q = some .eq) (w : World)
    (KI : Hid (∀ x u, (x = 0 ∨ x = q) → Calls Try.prog 56 #[.float .f64 x, .int .i64 0] u fun e w' => e = .returned (.bool false) ∧ u = w')) :
    Calls Try.prog 37 #[.agg #[.float .f64 q, .float .f64 fg, .float .f64 0, .float .f64 0]] w fun e w' => e = .returned (.int .i64 0) ∧ Kept w w' := by
  have h0 : FloatKind.f64.format.order 0 0 = some .eq := by decide +kernel
  have i0 := ix_64 0 (.inl rfl)
  have i1 := ix_64 1 (.inr rfl)
  have i2 := ix2_64
  go_enter Try.func37, Try.ntmps37
  go_wp2_with fail
  refine wp_loop_rounds 4 ?_
  iterate 3
    rw [rounds_succ]
    go_wp2_with (first | (go_at_call 56; refine (KI.out _ _ (by first | exact .inl rfl | exact .inr rfl)).mono ?_; rintro e u1 ⟨rfl, rfl⟩))
  rw [rounds_succ]
  go_wp2_with fail
  go_ret
  exact ⟨rfl, (Kept.refl w).alloc _ _⟩
set_option maxHeartbeats 4000000 in
set_option maxRecDepth 100000 in
theorem num_32 (b y n : Int) (ok : Bool) (f B C : Nat) (w : World) (hB : w.cell? ⟨B, 10, none⟩ = some (.int .i64 n)) (hC : w.cell? ⟨C, 0, none⟩ = some (.func (.func 13) #[] #[]))
    (KS : Hid (∀ u, Calls Try.prog 21 #[.int .i64 b, .int .i64 n] u fun e w' => e = .returned (.tuple #[.int .i64 y, .bool ok]) ∧ Kept u w'))
    (KF : Hid (∀ u, Calls Try.prog 13 #[.int .i64 y] u fun e w' => e = .returned (.float .f32 f) ∧ u = w')) :
    Calls Try.prog 49 #[.int .i64 b, .pointer (some ⟨B, 0, none⟩), .pointer (some ⟨C, 0, none⟩)] w fun e w' => e = .returned (.float .f32 f) ∧ Kept w w' := by
  have hCl : C < w.heap.size := World.block_lt_of_cell? _ _ hC
  have HC : Hid (∀ u, Kept w u → u.cell? ⟨C, 0, none⟩ = some (.func (.func 13) #[] #[])) := fun u k => (k.below.cell (p := ⟨C, 0, none⟩) hCl).trans hC
  clear hC hCl
  go_enter Try.func49, Try.ntmps49
  go_wp2_with (first | (go_at_call 21; refine (KS.out _).mono ?_; rintro e u1 ⟨rfl, k1⟩; have c1 := HC.out _ k1) | (go_at_call 13; refine (KF.out _).mono ?_; rintro e u2 ⟨rfl, rfl⟩))
  go_ret
  exact ⟨rfl, k1⟩
theorem rule_32 (w : World) : Calls Try.prog 29 #[.int .i64 0] w fun e w' => e = .returned (.func (.func 50) #[] #[]) ∧ Kept w w' := by
  go_enter Try.func29, Try.ntmps29
  go_wp2_with fail
  go_ret
  exact ⟨rfl, (Kept.refl w).alloc _ _⟩
theorem grad_32 (fr fw fg : Nat) (w : World) : Calls Try.prog 30 #[.agg #[.float .f32 fr, .float .f32 0, .float .f32 0, .float .f32 0, .float .f32 0, .float .f32 0, .float .f32 0, .float .f32 0], .agg #[.float .f32 fw, .float .f32 fg, .float .f32 0, .float .f32 0]] w fun e w' => e = .returned (.float .f32 fg) ∧ Kept w w' := by
  have h0 : FloatKind.f32.format.order 0 0 = some .eq := by decide +kernel
  go_enter Try.func30, Try.ntmps30
  go_wp2_with fail
  go_ret
  exact ⟨rfl, ((Kept.refl w).alloc _ _).alloc _ _⟩
theorem plain_32 (fr fw fg p q : Nat) (hp : FloatKind.f32.format.mul fr fg = some p) (hq : FloatKind.f32.format.sub fw p = some q) (w : World) : Calls Try.prog 50 #[.agg #[.float .f32 fr, .float .f32 0, .float .f32 0, .float .f32 0, .float .f32 0, .float .f32 0, .float .f32 0, .float .f32 0], .agg #[.float .f32 fw, .float .f32 fg, .float .f32 0, .float .f32 0]] w fun e w' => e = .returned (.agg #[.float .f32 q, .float .f32 fg, .float .f32 0, .float .f32 0]) ∧ Kept w w' := by
  have HM : ∀ (u : World) (ty : TypeId), (binOp .mul ty (.float .f32 fr) (.float .f32 fg)).run Try.prog u = .ok (.float .f32 p) u := fun u ty => run_float_arith u .mul ty .f32 _ _ _ hp
  have HS : ∀ (u : World) (ty : TypeId), (binOp .sub ty (.float .f32 fw) (.float .f32 p)).run Try.prog u = .ok (.float .f32 q) u := fun u ty => run_float_arith u .sub ty .f32 _ _ _ hq
  clear hp hq
  have hSF := stf .f32
  go_enter Try.func50, Try.ntmps50
  go_wp2_with fail
  exact bodyPost_ret (v := .agg #[.float .f32 q, .float .f32 fg, .float .f32 0, .float .f32 0]) (by simp [results, Try.results50, go_sem]) rfl ⟨rfl, by repeat' first | exact Kept.refl _ | refine Kept.setCell ?_ ?_ _ | refine Kept.alloc ?_ _ _ | (simp; done) | (simp; omega)⟩
theorem ix_32 (i : Int) (h : i = 0 ∨ i = 1) (q : Nat) (w : World) : (Instr.index 98 (.agg #[.float .f32 0, .float .f32 0, .float .f32 q]) (.int .i64 i)).run Try.prog w = .ok (.float .f32 0) w := by
  rcases h with rfl | rfl <;> kernel_rfl
theorem ix2_32 (q : Nat) (w : World) : (Instr.index 98 (.agg #[.float .f32 0, .float .f32 0, .float .f32 q]) (.int .i64 2)).run Try.prog w = .ok (.float .f32 q) w := by kernel_rfl
set_option maxHeartbeats 4000000 in
set_option maxRecDepth 100000 in
theorem fault_32 (q fg q2 : Nat) (hq : FloatKind.f32.format.order q q = some .eq) (hc0 : floatToFloatBits .f32 0 .f64 = some 0) (hc : floatToFloatBits .f32 q .f64 = some q2) (w : World)
    (KI : Hid (∀ x u, (x = 0 ∨ x = q2) → Calls Try.prog 56 #[.float .f64 x, .int .i64 0] u fun e w' => e = .returned (.bool false) ∧ u = w')) :
    Calls Try.prog 31 #[.agg #[.float .f32 q, .float .f32 fg, .float .f32 0, .float .f32 0]] w fun e w' => e = .returned (.int .i64 0) ∧ Kept w w' := by
  have h0 : FloatKind.f32.format.order 0 0 = some .eq := by decide +kernel
  have HC0 : ∀ u : World, (convert 39 41 (.float .f32 0)).run Try.prog u = .ok (.float .f64 0) u := fun u => run_convert_float_float u 39 41 .f32 .f64 0 0 (by kernel_rfl) (by kernel_rfl) hc0
  have HC1 : ∀ u : World, (convert 39 41 (.float .f32 q)).run Try.prog u = .ok (.float .f64 q2) u := fun u => run_convert_float_float u 39 41 .f32 .f64 q q2 (by kernel_rfl) (by kernel_rfl) hc
  clear hc0 hc
  have i0 := ix_32 0 (.inl rfl)
  have i1 := ix_32 1 (.inr rfl)
  have i2 := ix2_32
  go_enter Try.func31, Try.ntmps31
  go_wp2_with fail
  refine wp_loop_rounds 4 ?_
  iterate 3
    rw [rounds_succ]
    go_wp2_with (first | (go_at_call 56; refine (KI.out _ _ (by first | exact .inl rfl | exact .inr rfl)).mono ?_; rintro e u1 ⟨rfl, rfl⟩))
  rw [rounds_succ]
  go_wp2_with fail
  go_ret
  exact ⟨rfl, (Kept.refl w).alloc _ _⟩
end Go.Proofs.Ytojhhimmfnccjaa
