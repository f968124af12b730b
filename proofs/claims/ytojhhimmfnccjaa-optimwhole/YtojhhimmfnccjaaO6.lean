/- A variable that is made at any moment of a region; package optim: the pace of the plain rule. -/
import Derived.Test.YtojhhimmfnccjaaO5
import Derived.Test.YtojhhimmfnccjaaTJ
namespace Go.Proofs.Ytojhhimmfnccjaa
open Go.ChangeShapes Go.WideShapes Go.ChangeAt Go.RowKit Ieee
set_option linter.unusedVariables false
set_option linter.unusedSimpArgs false

theorem hid {p : Prop} (h : p) : Hid p := h
def StE (Y : World → Prop) : Prop := ∀ u u', Kept u u' → Y u → Y u'
/-- a variable, made at any moment -/
def VbB (X u : World) (vs : List Value) (x : Option Value) : Prop := ∀ v, x = some v → ∃ b, v = .pointer (some ⟨b, 0, none⟩) ∧ X.heap.size ≤ b ∧ Bk u b vs
structure JB (X : World) (vs : List Value) (Y : World → Prop) (x : Option Value) (u : World) : Prop where
  k : Kept X u
  v : Y u
  n : VbB X u vs x
theorem VbB.kept {X u u' : World} {vs : List Value} {x : Option Value} (h : VbB X u vs x) (k : Kept u u') : VbB X u' vs x := fun v hv => by
  obtain ⟨b, e, hb, hc⟩ := h v hv
  exact ⟨b, e, hb, hc.kept k⟩
theorem JB.next {X : World} {vs : List Value} {Y Y' : World → Prop} {x : Option Value} {u u' : World} (h : JB X vs Y x u) (k : Kept u u') (hv : Y' u') : JB X vs Y' x u' := ⟨h.k.trans k, hv, h.n.kept k⟩
theorem JB.start {X : World} {vs : List Value} {Y : World → Prop} {u : World} (k : Kept X u) (hv : Y u) : JB X vs Y none u := ⟨k, hv, (fun v hv => by cases hv)⟩
def Alw (T : TypeId) (vs : List Value) : Prop := ∀ (o : Oper), o.op = .alloc T → ∀ (a : Act) (w : World) (K : Act → World → Prop) (Q : Exit → Act → World → Prop), K (a.put o.dst (.pointer (some ⟨w.heap.size, 0, none⟩))) (w.alloc (.cells vs.toArray T)) → Oper.wp Try.prog o a w K Q
theorem jb_flt {T : TypeId} {vs : List Value} (hr : Alw T vs) {ops : Array Oper} {Q : Exit → Act → World → Prop} {S : World → Prop} {i1 : Nat} {d1 : Tmp} {o1 : Oper} {X : World} {Y : World → Prop} (sY : StE Y) (hS : ∀ u, Kept X u → S u)
    (h1 : ops[i1]? = some o1) (e1 : o1.op = .alloc T ∧ o1.dst = some d1 ∧ o1.guard = none) : Flt1 Try.prog ops Q S i1 d1 (JB X vs Y) := by
  refine ⟨fun x w h => hS w h.k, fun K a w hI h => ?_⟩
  refine wpOp_step h1 fun K' hK => ?_
  have hw : Region.wanted o1 (yielded ops a.tmps) = true := by unfold Region.wanted; rw [e1.2.2]
  rw [if_pos hw]
  refine hr o1 e1.1 _ _ _ _ (hK _ _ ?_)
  rw [e1.2.1]
  have k : Kept w (w.alloc (.cells vs.toArray T)) := (Kept.refl w).alloc _ _
  exact h _ _ ⟨hI.k.trans k, sY _ _ k hI.v, fun v hv => by cases hv; exact ⟨_, rfl, hI.k.below.size, Bk.new w vs _⟩⟩
theorem Bk.set {w : World} {b : Nat} {vs : List Value} (h : Bk w b vs) (i : Nat) (u : Value) : Bk (w.setCell ⟨b, i, none⟩ u) b (vs.set i u) := by
  refine ⟨fun j v e => ?_, fun o => (World.frozen?_setCell _ _ _ _).trans (h.fz o), by simpa using h.lt⟩
  rw [List.getElem?_set] at e
  by_cases hij : i = j
  · subst hij
    rw [if_pos rfl] at e
    by_cases hl : i < vs.length
    · rw [if_pos hl] at e
      cases e
      have hc := h.c i _ (List.getElem?_eq_getElem hl)
      simp [go_sem, hc]
    · rw [if_neg hl] at e
      cases e
  · rw [if_neg hij] at e
    have hc := h.c j v e
    simp [go_sem, hc, hij]
theorem Bk.far {w : World} {b : Nat} {vs : List Value} (h : Bk w b vs) {p : Addr} (hp : b ≠ p.block) (u : Value) : Bk (w.setCell p u) b vs := by
  refine ⟨fun i v e => ?_, fun o => (World.frozen?_setCell _ _ _ _).trans (h.fz o), by simpa using h.lt⟩
  have := h.c i v e
  have e2 := Below.heap_setCell w p u b hp
  simp only [World.cell?, e2] at this ⊢
  exact this
set_option maxRecDepth 100000 in
theorem alw_p64 : Alw 77 [.float .f64 0, .float .f64 0, .float .f64 0, .float .f64 0, .float .f64 0, .float .f64 0, .float .f64 0, .float .f64 0] := fun o ho a w K Q h => by
  unfold Oper.wp execOp
  rw [ho]
  have e : (Instr.alloc 77 true (.tuple #[])).run Try.prog w = .ok (.pointer (some ⟨w.heap.size, 0, none⟩)) (w.alloc (.cells ([.float .f64 0, .float .f64 0, .float .f64 0, .float .f64 0, .float .f64 0, .float .f64 0, .float .f64 0, .float .f64 0] : List Value).toArray 77)) := by go_simp
  simp only [go_sem, e, Oper.upon]
  exact h
set_option maxHeartbeats 4000000 in
set_option maxRecDepth 100000 in
theorem pace_64 (rb rq r c n : Int) (l : Nat) (s : Option Addr) (k : Nat) (s' : Option Addr) (k' : Nat) (fr : Nat) (w : World)
    (KS : Hid (∀ b y u, (b = 0 ∧ y = 0 ∨ b = rb ∧ y = rq) → Calls Try.prog 21 #[.int .i64 b, .int .i64 n] u fun e w' => e = .returned (.tuple #[.int .i64 y, .bool true]) ∧ Kept u w'))
    (KF : Hid (∀ y f u, (y = 0 ∧ f = 0 ∨ y = rq ∧ f = fr) → Calls Try.prog 15 #[.int .i64 y] u fun e w' => e = .returned (.float .f64 f) ∧ u = w')) :
    Calls Try.prog 34 #[.agg (svL rb r c n l s k s' k').toArray, .func (.func 15) #[] #[]] w fun e w' => e = .returned (.agg #[.float .f64 fr, .float .f64 0, .float .f64 0, .float .f64 0, .float .f64 0, .float .f64 0, .float .f64 0, .float .f64 0]) ∧ Kept w w' := by
  obtain ⟨X1, hX1⟩ : ∃ X, X = w.alloc (.cells (svL rb r c n l s k s' k').toArray 43) := ⟨_, rfl⟩
  obtain ⟨X2, hX2⟩ : ∃ X, X = X1.alloc (.cells #[.func (.func 15) #[] #[]] 48) := ⟨_, rfl⟩
  obtain ⟨X3, hX3⟩ : ∃ X, X = X2.alloc (.cells #[.float .f64 0, .float .f64 0, .float .f64 0, .float .f64 0, .float .f64 0, .float .f64 0, .float .f64 0, .float .f64 0] 77) := ⟨_, rfl⟩
  obtain ⟨X, hX⟩ : ∃ X, X = X3.alloc (.cells #[.int .i64 0, .int .i64 0, .int .i64 0, .int .i64 0, .int .i64 0, .int .i64 0, .int .i64 0] 32) := ⟨_, rfl⟩
  obtain ⟨B, hB⟩ : ∃ B, B = w.heap.size := ⟨_, rfl⟩
  obtain ⟨C, hC⟩ : ∃ B, B = X1.heap.size := ⟨_, rfl⟩
  obtain ⟨R, hR⟩ : ∃ B, B = X2.heap.size := ⟨_, rfl⟩
  obtain ⟨U, hU⟩ : ∃ B, B = X3.heap.size := ⟨_, rfl⟩
  have e1 : X1.heap.size = w.heap.size + 1 := by rw [hX1]; simp
  have e2 : X2.heap.size = w.heap.size + 1 + 1 := by rw [hX2, ← e1]; simp
  have e3 : X3.heap.size = w.heap.size + 1 + 1 + 1 := by rw [hX3, ← e2]; simp
  have kR : Kept X2 X := by rw [hX, hX3]; exact ((Kept.refl X2).alloc _ _).alloc _ _
  have kC : Kept X1 X := by refine Kept.trans ?_ kR; rw [hX2]; exact (Kept.refl X1).alloc _ _
  have hK : Kept w X := by refine Kept.trans ?_ kC; rw [hX1]; exact (Kept.refl w).alloc _ _
  have bB : Bk X B (svL rb r c n l s k s' k') := by refine Bk.kept (w := X1) ?_ kC; rw [hX1, hB]; exact Bk.new w _ _
  have bC : Bk X C [.func (.func 15) #[] #[]] := by refine Bk.kept (w := X2) ?_ kR; rw [hX2, hC]; exact Bk.new X1 [.func (.func 15) #[] #[]] _
  have bR : Bk X R [.float .f64 0, .float .f64 0, .float .f64 0, .float .f64 0, .float .f64 0, .float .f64 0, .float .f64 0, .float .f64 0] := by rw [hX, hR]; refine Bk.alloc ?_ _ _; rw [hX3]; exact Bk.new X2 [.float .f64 0, .float .f64 0, .float .f64 0, .float .f64 0, .float .f64 0, .float .f64 0, .float .f64 0, .float .f64 0] _
  have bU : Bk X U z7l := by rw [hX, hU]; exact Bk.new X3 z7l _
  have oR : Hid (w.heap.size ≤ R ∧ R < X.heap.size) := (show _ ∧ _ from ⟨by omega, bR.lt⟩)
  have KN : Hid (∀ b f u, (b = 0 ∧ f = 0 ∨ b = rb ∧ f = fr) → Kept X u → Calls Try.prog 57 #[.int .i64 b, .pointer (some ⟨B, 0, none⟩), .pointer (some ⟨C, 0, none⟩)] u fun e w' => e = .returned (.float .f64 f) ∧ Kept u w') := fun b f u h kk => by
    have c1 := (bB.kept kk).c 10 _ rfl
    have c2 := (bC.kept kk).c 0 _ rfl
    rcases h with ⟨rfl, rfl⟩ | ⟨rfl, rfl⟩
    · exact num_64 0 0 n true 0 B C u c1 c2 (fun u => KS.out 0 0 u (.inl ⟨rfl, rfl⟩)) (fun u => KF.out 0 0 u (.inl ⟨rfl, rfl⟩))
    · exact num_64 _ rq n true _ B C u c1 c2 (fun u => KS.out _ rq u (.inr ⟨rfl, rfl⟩)) (fun u => KF.out rq _ u (.inr ⟨rfl, rfl⟩))
  have hSF := stf .f64
  clear KS KF
  go_enter Try.func34, Try.ntmps34
  go_upto_region 2 with fail
  rw [← hX1, ← hX2, ← hX3, ← e2, ← e1, ← hB, ← hC, ← hR]
  have bB3 : Bk X3 B (svL rb r c n l s k s' k') := by refine Bk.kept (w := X1) ?_ (by rw [hX3, hX2]; exact ((Kept.refl X1).alloc _ _).alloc _ _); rw [hX1, hB]; exact Bk.new w _ _
  have z0 := bB3.c 0 _ rfl
  have z1 := bB3.c 1 _ rfl
  have z2 := bB3.c 2 _ rfl
  have z3 := bB3.c 3 _ rfl
  have z4 := bB3.c 4 _ rfl
  have z5 := bB3.c 5 _ rfl
  have z6 := bB3.c 6 _ rfl
  have hX' := hid hX
  have hU' := hid hU
  clear hX hX1 hX2 hX3 hB hC hR hU e1 e2 e3 bB3 kR kC
  go_upto_region 3 with fail
  rw [← hX'.out, ← hU'.out]
  clear hX' hU' z0 z1 z2 z3 z4 z5 z6
  have HS : Hid (∀ u, Kept X u → Kept X u ∧ u.cell? ⟨B, 7, none⟩ = some (.int .i64 rb) ∧ u.cell? ⟨U, 1, none⟩ = some (.int .i64 0) ∧ u.cell? ⟨U, 2, none⟩ = some (.int .i64 0) ∧ u.cell? ⟨U, 3, none⟩ = some (.int .i64 0) ∧ u.cell? ⟨U, 4, none⟩ = some (.int .i64 0) ∧ u.cell? ⟨U, 5, none⟩ = some (.int .i64 0)) := fun u q => ⟨q, (bB.kept q).c 7 _ rfl, (bU.kept q).c 1 _ rfl, (bU.kept q).c 2 _ rfl, (bU.kept q).c 3 _ rfl, (bU.kept q).c 4 _ rfl, (bU.kept q).c 5 _ rfl⟩
  refine wp_region_late [] (fun u => Kept X u ∧ u.cell? ⟨B, 7, none⟩ = some (.int .i64 rb) ∧ u.cell? ⟨U, 1, none⟩ = some (.int .i64 0) ∧ u.cell? ⟨U, 2, none⟩ = some (.int .i64 0) ∧ u.cell? ⟨U, 3, none⟩ = some (.int .i64 0) ∧ u.cell? ⟨U, 4, none⟩ = some (.int .i64 0) ∧ u.cell? ⟨U, 5, none⟩ = some (.int .i64 0)) (by kernel_rfl) (HS.out _ (Kept.refl X).drew) (fun hHeld => ?_)
  refine wpAnyD_take (i := 0) (v := ?_) rfl (by kernel_rfl) (by kernel_rfl) (by kernel_rfl) (by kernel_rfl) (fun _ _ _ h => h) (Or.inl ⟨by rfl, ?hya0⟩) hHeld ?_
  case hya0 => (intro w hSw; (try dsimp only at hSw); go_simp; try (with_reducible rfl))
  (try simp only [Act.put, List.getElem_toArray, List.getElem_cons_succ, List.getElem_cons_zero, List.setIfInBounds_toArray, List.set_cons_zero, List.set_cons_succ])
  refine wpAnyD_take (i := 1) (v := ?_) rfl (by kernel_rfl) (by kernel_rfl) (by kernel_rfl) (by kernel_rfl) (fun _ _ _ h => h) (Or.inl ⟨by rfl, ?hya1⟩) hHeld ?_
  case hya1 => (intro w hSw; (try dsimp only at hSw); go_simp; try (with_reducible rfl))
  (try simp only [Act.put, List.getElem_toArray, List.getElem_cons_succ, List.getElem_cons_zero, List.setIfInBounds_toArray, List.set_cons_zero, List.set_cons_succ])
  refine wpAnyD_take (i := 2) (v := ?_) rfl (by kernel_rfl) (by kernel_rfl) (by kernel_rfl) (by kernel_rfl) (fun _ _ _ h => h) (Or.inl ⟨by rfl, ?hya2⟩) hHeld ?_
  case hya2 => (intro w hSw; (try dsimp only at hSw); go_simp; try (with_reducible rfl))
  (try simp only [Act.put, List.getElem_toArray, List.getElem_cons_succ, List.getElem_cons_zero, List.setIfInBounds_toArray, List.set_cons_zero, List.set_cons_succ])
  refine wpAnyD_take (i := 4) (v := ?_) rfl (by kernel_rfl) (by kernel_rfl) (by kernel_rfl) (by kernel_rfl) (fun _ _ _ h => h) (Or.inl ⟨by rfl, ?hya4⟩) hHeld ?_
  case hya4 => (intro w hSw; (try dsimp only at hSw); go_simp; try (with_reducible rfl))
  (try simp only [Act.put, List.getElem_toArray, List.getElem_cons_succ, List.getElem_cons_zero, List.setIfInBounds_toArray, List.set_cons_zero, List.set_cons_succ])
  refine wpAnyD_take (i := 5) (v := ?_) rfl (by kernel_rfl) (by kernel_rfl) (by kernel_rfl) (by kernel_rfl) (fun _ _ _ h => h) (Or.inl ⟨by rfl, ?hya5⟩) hHeld ?_
  case hya5 => (intro w hSw; (try dsimp only at hSw); go_simp; try (with_reducible rfl))
  (try simp only [Act.put, List.getElem_toArray, List.getElem_cons_succ, List.getElem_cons_zero, List.setIfInBounds_toArray, List.set_cons_zero, List.set_cons_succ])
  refine wpAnyD_take (i := 6) (v := ?_) rfl (by kernel_rfl) (by kernel_rfl) (by kernel_rfl) (by kernel_rfl) (fun _ _ _ h => h) (Or.inl ⟨by rfl, ?hya6⟩) hHeld ?_
  case hya6 => (intro w hSw; (try dsimp only at hSw); go_simp; try (with_reducible rfl))
  (try simp only [Act.put, List.getElem_toArray, List.getElem_cons_succ, List.getElem_cons_zero, List.setIfInBounds_toArray, List.set_cons_zero, List.set_cons_succ])
  refine wpAnyD_take (i := 8) (v := ?_) rfl (by kernel_rfl) (by kernel_rfl) (by kernel_rfl) (by kernel_rfl) (fun _ _ _ h => h) (Or.inl ⟨by rfl, ?hya8⟩) hHeld ?_
  case hya8 => (intro w hSw; (try dsimp only at hSw); go_simp; try (with_reducible rfl))
  (try simp only [Act.put, List.getElem_toArray, List.getElem_cons_succ, List.getElem_cons_zero, List.setIfInBounds_toArray, List.set_cons_zero, List.set_cons_succ])
  refine wpAnyD_take (i := 9) (v := ?_) rfl (by kernel_rfl) (by kernel_rfl) (by kernel_rfl) (by kernel_rfl) (fun _ _ _ h => h) (Or.inl ⟨by rfl, ?hya9⟩) hHeld ?_
  case hya9 => (intro w hSw; (try dsimp only at hSw); go_simp; try (with_reducible rfl))
  (try simp only [Act.put, List.getElem_toArray, List.getElem_cons_succ, List.getElem_cons_zero, List.setIfInBounds_toArray, List.set_cons_zero, List.set_cons_succ])
  refine wpAnyD_take (i := 10) (v := ?_) rfl (by kernel_rfl) (by kernel_rfl) (by kernel_rfl) (by kernel_rfl) (fun _ _ _ h => h) (Or.inl ⟨by rfl, ?hya10⟩) hHeld ?_
  case hya10 => (intro w hSw; (try dsimp only at hSw); go_simp; try (with_reducible rfl))
  (try simp only [Act.put, List.getElem_toArray, List.getElem_cons_succ, List.getElem_cons_zero, List.setIfInBounds_toArray, List.set_cons_zero, List.set_cons_succ])
  refine wpAnyD_take (i := 12) (v := ?_) rfl (by kernel_rfl) (by kernel_rfl) (by kernel_rfl) (by kernel_rfl) (fun _ _ _ h => h) (Or.inl ⟨by rfl, ?hya12⟩) hHeld ?_
  case hya12 => (intro w hSw; (try dsimp only at hSw); go_simp; try (with_reducible rfl))
  (try simp only [Act.put, List.getElem_toArray, List.getElem_cons_succ, List.getElem_cons_zero, List.setIfInBounds_toArray, List.set_cons_zero, List.set_cons_succ])
  refine wpAnyD_take (i := 13) (v := ?_) rfl (by kernel_rfl) (by kernel_rfl) (by kernel_rfl) (by kernel_rfl) (fun _ _ _ h => h) (Or.inl ⟨by rfl, ?hya13⟩) hHeld ?_
  case hya13 => (intro w hSw; (try dsimp only at hSw); go_simp; try (with_reducible rfl))
  (try simp only [Act.put, List.getElem_toArray, List.getElem_cons_succ, List.getElem_cons_zero, List.setIfInBounds_toArray, List.set_cons_zero, List.set_cons_succ])
  refine wpAnyD_take (i := 14) (v := ?_) rfl (by kernel_rfl) (by kernel_rfl) (by kernel_rfl) (by kernel_rfl) (fun _ _ _ h => h) (Or.inl ⟨by rfl, ?hya14⟩) hHeld ?_
  case hya14 => (intro w hSw; (try dsimp only at hSw); go_simp; try (with_reducible rfl))
  (try simp only [Act.put, List.getElem_toArray, List.getElem_cons_succ, List.getElem_cons_zero, List.setIfInBounds_toArray, List.set_cons_zero, List.set_cons_succ])
  refine wpAnyD_take (i := 16) (v := ?_) rfl (by kernel_rfl) (by kernel_rfl) (by kernel_rfl) (by kernel_rfl) (fun _ _ _ h => h) (Or.inl ⟨by rfl, ?hya16⟩) hHeld ?_
  case hya16 => (intro w hSw; (try dsimp only at hSw); go_simp; try (with_reducible rfl))
  (try simp only [Act.put, List.getElem_toArray, List.getElem_cons_succ, List.getElem_cons_zero, List.setIfInBounds_toArray, List.set_cons_zero, List.set_cons_succ])
  refine wpAnyD_take (i := 17) (v := ?_) rfl (by kernel_rfl) (by kernel_rfl) (by kernel_rfl) (by kernel_rfl) (fun _ _ _ h => h) (Or.inl ⟨by rfl, ?hya17⟩) hHeld ?_
  case hya17 => (intro w hSw; (try dsimp only at hSw); go_simp; try (with_reducible rfl))
  (try simp only [Act.put, List.getElem_toArray, List.getElem_cons_succ, List.getElem_cons_zero, List.setIfInBounds_toArray, List.set_cons_zero, List.set_cons_succ])
  refine wpAnyD_take (i := 18) (v := ?_) rfl (by kernel_rfl) (by kernel_rfl) (by kernel_rfl) (by kernel_rfl) (fun _ _ _ h => h) (Or.inl ⟨by rfl, ?hya18⟩) hHeld ?_
  case hya18 => (intro w hSw; (try dsimp only at hSw); go_simp; try (with_reducible rfl))
  (try simp only [Act.put, List.getElem_toArray, List.getElem_cons_succ, List.getElem_cons_zero, List.setIfInBounds_toArray, List.set_cons_zero, List.set_cons_succ])
  refine wpAnyD_take (i := 20) (v := ?_) rfl (by kernel_rfl) (by kernel_rfl) (by kernel_rfl) (by kernel_rfl) (fun _ _ _ h => h) (Or.inl ⟨by rfl, ?hya20⟩) hHeld ?_
  case hya20 => (intro w hSw; (try dsimp only at hSw); go_simp; try (with_reducible rfl))
  (try simp only [Act.put, List.getElem_toArray, List.getElem_cons_succ, List.getElem_cons_zero, List.setIfInBounds_toArray, List.set_cons_zero, List.set_cons_succ])
  refine wpAnyD_take (i := 21) (v := ?_) rfl (by kernel_rfl) (by kernel_rfl) (by kernel_rfl) (by kernel_rfl) (fun _ _ _ h => h) (Or.inl ⟨by rfl, ?hya21⟩) hHeld ?_
  case hya21 => (intro w hSw; (try dsimp only at hSw); go_simp; try (with_reducible rfl))
  (try simp only [Act.put, List.getElem_toArray, List.getElem_cons_succ, List.getElem_cons_zero, List.setIfInBounds_toArray, List.set_cons_zero, List.set_cons_succ])
  refine wpAnyD_take (i := 22) (v := ?_) rfl (by kernel_rfl) (by kernel_rfl) (by kernel_rfl) (by kernel_rfl) (fun _ _ _ h => h) (Or.inl ⟨by rfl, ?hya22⟩) hHeld ?_
  case hya22 => (intro w hSw; (try dsimp only at hSw); go_simp; try (with_reducible rfl))
  (try simp only [Act.put, List.getElem_toArray, List.getElem_cons_succ, List.getElem_cons_zero, List.setIfInBounds_toArray, List.set_cons_zero, List.set_cons_succ])
  refine F1_in (i1 := 25) (d1 := 7) (I := JB X [.float .f64 0, .float .f64 0, .float .f64 0, .float .f64 0, .float .f64 0, .float .f64 0, .float .f64 0, .float .f64 0] (fun _ => True)) (JB.start hHeld.1 trivial) ?_
  refine F1_step (c := 3) (I' := fun v x u => v = .float .f64 fr ∧ JB X [.float .f64 0, .float .f64 0, .float .f64 0, .float .f64 0, .float .f64 0, .float .f64 0, .float .f64 0, .float .f64 0] (fun u => True) x u) rfl (by kernel_rfl) rfl rfl (jb_flt alw_p64 (fun _ _ _ h => h) (fun u k => HS.out u k) rfl ⟨rfl, rfl, rfl⟩) (fun v x w h => HS.out w h.2.k) (fun xF uF hJ K hK9 => ?_) (fun v2 => ?_)
  · rcases xF with _ | xF
    all_goals (
      (try simp only [fpt, Act.put, List.getElem_toArray, List.getElem_cons_succ, List.getElem_cons_zero, List.setIfInBounds_toArray, List.set_cons_zero, List.set_cons_succ])
      go_simp
      go_wp2_with fail
      refine (KN.out _ _ _ (.inr ⟨rfl, rfl⟩) hJ.k).mono ?_
      rintro e u1 ⟨rfl, k⟩
      exact hK9.out _ _ _ (by first | rfl | (simp only [fpt, Act.put, List.getElem_toArray, List.getElem_cons_succ, List.getElem_cons_zero, List.setIfInBounds_toArray, List.set_cons_zero, List.set_cons_succ])) ⟨rfl, hJ.next k trivial⟩
    )
  refine fun xG wG hG => ?_
  obtain ⟨rfl, hG⟩ := hG
  revert xG wG
  show F1 _ _ _ _ _ _ _ _ _ _ _ (JB X [.float .f64 0, .float .f64 0, .float .f64 0, .float .f64 0, .float .f64 0, .float .f64 0, .float .f64 0, .float .f64 0] (fun _ => True))
  (try simp only [Act.put, List.getElem_toArray, List.getElem_cons_succ, List.getElem_cons_zero, List.setIfInBounds_toArray, List.set_cons_zero, List.set_cons_succ])
  refine F1_step (c := 7) (I' := fun v x u => v = .float .f64 0 ∧ JB X [.float .f64 0, .float .f64 0, .float .f64 0, .float .f64 0, .float .f64 0, .float .f64 0, .float .f64 0, .float .f64 0] (fun u => True) x u) rfl (by kernel_rfl) rfl rfl (jb_flt alw_p64 (fun _ _ _ h => h) (fun u k => HS.out u k) rfl ⟨rfl, rfl, rfl⟩) (fun v x w h => HS.out w h.2.k) (fun xF uF hJ K hK9 => ?_) (fun v2 => ?_)
  · rcases xF with _ | xF
    all_goals (
      (try simp only [fpt, Act.put, List.getElem_toArray, List.getElem_cons_succ, List.getElem_cons_zero, List.setIfInBounds_toArray, List.set_cons_zero, List.set_cons_succ])
      go_simp
      go_wp2_with fail
      refine (KN.out _ _ _ (.inl ⟨rfl, rfl⟩) hJ.k).mono ?_
      rintro e u1 ⟨rfl, k⟩
      exact hK9.out _ _ _ (by first | rfl | (simp only [fpt, Act.put, List.getElem_toArray, List.getElem_cons_succ, List.getElem_cons_zero, List.setIfInBounds_toArray, List.set_cons_zero, List.set_cons_succ])) ⟨rfl, hJ.next k trivial⟩
    )
  refine fun xG wG hG => ?_
  obtain ⟨rfl, hG⟩ := hG
  revert xG wG
  show F1 _ _ _ _ _ _ _ _ _ _ _ (JB X [.float .f64 0, .float .f64 0, .float .f64 0, .float .f64 0, .float .f64 0, .float .f64 0, .float .f64 0, .float .f64 0] (fun _ => True))
  (try simp only [Act.put, List.getElem_toArray, List.getElem_cons_succ, List.getElem_cons_zero, List.setIfInBounds_toArray, List.set_cons_zero, List.set_cons_succ])
  refine F1_step (c := 11) (I' := fun v x u => v = .float .f64 0 ∧ JB X [.float .f64 0, .float .f64 0, .float .f64 0, .float .f64 0, .float .f64 0, .float .f64 0, .float .f64 0, .float .f64 0] (fun u => True) x u) rfl (by kernel_rfl) rfl rfl (jb_flt alw_p64 (fun _ _ _ h => h) (fun u k => HS.out u k) rfl ⟨rfl, rfl, rfl⟩) (fun v x w h => HS.out w h.2.k) (fun xF uF hJ K hK9 => ?_) (fun v2 => ?_)
  · rcases xF with _ | xF
    all_goals (
      (try simp only [fpt, Act.put, List.getElem_toArray, List.getElem_cons_succ, List.getElem_cons_zero, List.setIfInBounds_toArray, List.set_cons_zero, List.set_cons_succ])
      go_simp
      go_wp2_with fail
      refine (KN.out _ _ _ (.inl ⟨rfl, rfl⟩) hJ.k).mono ?_
      rintro e u1 ⟨rfl, k⟩
      exact hK9.out _ _ _ (by first | rfl | (simp only [fpt, Act.put, List.getElem_toArray, List.getElem_cons_succ, List.getElem_cons_zero, List.setIfInBounds_toArray, List.set_cons_zero, List.set_cons_succ])) ⟨rfl, hJ.next k trivial⟩
    )
  refine fun xG wG hG => ?_
  obtain ⟨rfl, hG⟩ := hG
  revert xG wG
  show F1 _ _ _ _ _ _ _ _ _ _ _ (JB X [.float .f64 0, .float .f64 0, .float .f64 0, .float .f64 0, .float .f64 0, .float .f64 0, .float .f64 0, .float .f64 0] (fun _ => True))
  (try simp only [Act.put, List.getElem_toArray, List.getElem_cons_succ, List.getElem_cons_zero, List.setIfInBounds_toArray, List.set_cons_zero, List.set_cons_succ])
  refine F1_step (c := 15) (I' := fun v x u => v = .float .f64 0 ∧ JB X [.float .f64 0, .float .f64 0, .float .f64 0, .float .f64 0, .float .f64 0, .float .f64 0, .float .f64 0, .float .f64 0] (fun u => True) x u) rfl (by kernel_rfl) rfl rfl (jb_flt alw_p64 (fun _ _ _ h => h) (fun u k => HS.out u k) rfl ⟨rfl, rfl, rfl⟩) (fun v x w h => HS.out w h.2.k) (fun xF uF hJ K hK9 => ?_) (fun v2 => ?_)
  · rcases xF with _ | xF
    all_goals (
      (try simp only [fpt, Act.put, List.getElem_toArray, List.getElem_cons_succ, List.getElem_cons_zero, List.setIfInBounds_toArray, List.set_cons_zero, List.set_cons_succ])
      go_simp
      go_wp2_with fail
      refine (KN.out _ _ _ (.inl ⟨rfl, rfl⟩) hJ.k).mono ?_
      rintro e u1 ⟨rfl, k⟩
      exact hK9.out _ _ _ (by first | rfl | (simp only [fpt, Act.put, List.getElem_toArray, List.getElem_cons_succ, List.getElem_cons_zero, List.setIfInBounds_toArray, List.set_cons_zero, List.set_cons_succ])) ⟨rfl, hJ.next k trivial⟩
    )
  refine fun xG wG hG => ?_
  obtain ⟨rfl, hG⟩ := hG
  revert xG wG
  show F1 _ _ _ _ _ _ _ _ _ _ _ (JB X [.float .f64 0, .float .f64 0, .float .f64 0, .float .f64 0, .float .f64 0, .float .f64 0, .float .f64 0, .float .f64 0] (fun _ => True))
  (try simp only [Act.put, List.getElem_toArray, List.getElem_cons_succ, List.getElem_cons_zero, List.setIfInBounds_toArray, List.set_cons_zero, List.set_cons_succ])
  refine F1_step (c := 19) (I' := fun v x u => v = .float .f64 0 ∧ JB X [.float .f64 0, .float .f64 0, .float .f64 0, .float .f64 0, .float .f64 0, .float .f64 0, .float .f64 0, .float .f64 0] (fun u => True) x u) rfl (by kernel_rfl) rfl rfl (jb_flt alw_p64 (fun _ _ _ h => h) (fun u k => HS.out u k) rfl ⟨rfl, rfl, rfl⟩) (fun v x w h => HS.out w h.2.k) (fun xF uF hJ K hK9 => ?_) (fun v2 => ?_)
  · rcases xF with _ | xF
    all_goals (
      (try simp only [fpt, Act.put, List.getElem_toArray, List.getElem_cons_succ, List.getElem_cons_zero, List.setIfInBounds_toArray, List.set_cons_zero, List.set_cons_succ])
      go_simp
      go_wp2_with fail
      refine (KN.out _ _ _ (.inl ⟨rfl, rfl⟩) hJ.k).mono ?_
      rintro e u1 ⟨rfl, k⟩
      exact hK9.out _ _ _ (by first | rfl | (simp only [fpt, Act.put, List.getElem_toArray, List.getElem_cons_succ, List.getElem_cons_zero, List.setIfInBounds_toArray, List.set_cons_zero, List.set_cons_succ])) ⟨rfl, hJ.next k trivial⟩
    )
  refine fun xG wG hG => ?_
  obtain ⟨rfl, hG⟩ := hG
  revert xG wG
  show F1 _ _ _ _ _ _ _ _ _ _ _ (JB X [.float .f64 0, .float .f64 0, .float .f64 0, .float .f64 0, .float .f64 0, .float .f64 0, .float .f64 0, .float .f64 0] (fun _ => True))
  (try simp only [Act.put, List.getElem_toArray, List.getElem_cons_succ, List.getElem_cons_zero, List.setIfInBounds_toArray, List.set_cons_zero, List.set_cons_succ])
  refine F1_step (c := 23) (I' := fun v x u => v = .float .f64 0 ∧ JB X [.float .f64 0, .float .f64 0, .float .f64 0, .float .f64 0, .float .f64 0, .float .f64 0, .float .f64 0, .float .f64 0] (fun u => True) x u) rfl (by kernel_rfl) rfl rfl (jb_flt alw_p64 (fun _ _ _ h => h) (fun u k => HS.out u k) rfl ⟨rfl, rfl, rfl⟩) (fun v x w h => HS.out w h.2.k) (fun xF uF hJ K hK9 => ?_) (fun v2 => ?_)
  · rcases xF with _ | xF
    all_goals (
      (try simp only [fpt, Act.put, List.getElem_toArray, List.getElem_cons_succ, List.getElem_cons_zero, List.setIfInBounds_toArray, List.set_cons_zero, List.set_cons_succ])
      go_simp
      go_wp2_with fail
      refine (KN.out _ _ _ (.inl ⟨rfl, rfl⟩) hJ.k).mono ?_
      rintro e u1 ⟨rfl, k⟩
      exact hK9.out _ _ _ (by first | rfl | (simp only [fpt, Act.put, List.getElem_toArray, List.getElem_cons_succ, List.getElem_cons_zero, List.setIfInBounds_toArray, List.set_cons_zero, List.set_cons_succ])) ⟨rfl, hJ.next k trivial⟩
    )
  refine fun xG wG hG => ?_
  obtain ⟨rfl, hG⟩ := hG
  revert xG wG
  show F1 _ _ _ _ _ _ _ _ _ _ _ (JB X [.float .f64 0, .float .f64 0, .float .f64 0, .float .f64 0, .float .f64 0, .float .f64 0, .float .f64 0, .float .f64 0] (fun _ => True))
  (try simp only [Act.put, List.getElem_toArray, List.getElem_cons_succ, List.getElem_cons_zero, List.setIfInBounds_toArray, List.set_cons_zero, List.set_cons_succ])
  refine F1_step (c := 24) (I' := fun v x u => v = .agg #[.float .f64 fr, .float .f64 0, .float .f64 0, .float .f64 0, .float .f64 0, .float .f64 0, .float .f64 0, .float .f64 0] ∧ JB X [.float .f64 0, .float .f64 0, .float .f64 0, .float .f64 0, .float .f64 0, .float .f64 0, .float .f64 0, .float .f64 0] (fun u => True) x u) rfl (by kernel_rfl) rfl rfl (jb_flt alw_p64 (fun _ _ _ h => h) (fun u k => HS.out u k) rfl ⟨rfl, rfl, rfl⟩) (fun v x w h => HS.out w h.2.k) (fun xF uF hJ K hK9 => ?_) (fun v2 => ?_)
  · rcases xF with _ | xF
    all_goals (
      (try simp only [fpt, Act.put, List.getElem_toArray, List.getElem_cons_succ, List.getElem_cons_zero, List.setIfInBounds_toArray, List.set_cons_zero, List.set_cons_succ])
      go_simp
      exact hK9.out _ _ _ (by first | rfl | (simp only [fpt, Act.put, List.getElem_toArray, List.getElem_cons_succ, List.getElem_cons_zero, List.setIfInBounds_toArray, List.set_cons_zero, List.set_cons_succ])) ⟨rfl, hJ⟩
    )
  refine fun xG wG hG => ?_
  obtain ⟨rfl, hG⟩ := hG
  revert xG wG
  show F1 _ _ _ _ _ _ _ _ _ _ _ (JB X [.float .f64 0, .float .f64 0, .float .f64 0, .float .f64 0, .float .f64 0, .float .f64 0, .float .f64 0, .float .f64 0] (fun _ => True))
  (try simp only [Act.put, List.getElem_toArray, List.getElem_cons_succ, List.getElem_cons_zero, List.setIfInBounds_toArray, List.set_cons_zero, List.set_cons_succ])
  refine F1_end (.inr (by kernel_rfl)) (jb_flt alw_p64 (fun _ _ k h => h) (fun u k => HS.out u k) rfl ⟨rfl, rfl, rfl⟩) (fun xF uF hJ => ?_)
  obtain ⟨b, rfl, ob, bb⟩ := hJ.n _ rfl
  have kU := hJ.k
  clear hJ
  (try simp only [Act.put, List.getElem_toArray, List.getElem_cons_succ, List.getElem_cons_zero, List.setIfInBounds_toArray, List.set_cons_zero, List.set_cons_succ])
  have e0 := bb.c 0 _ rfl
  have e1 := bb.c 1 _ rfl
  have e2 := bb.c 2 _ rfl
  have e3 := bb.c 3 _ rfl
  have e4 := bb.c 4 _ rfl
  have e5 := bb.c 5 _ rfl
  have e6 := bb.c 6 _ rfl
  have e7 := bb.c 7 _ rfl
  have ef := bb.fz
  obtain ⟨Y, hY⟩ : ∃ Y, Y = ((((((((uF.setCell ⟨b, 0, none⟩ (.float .f64 fr)).setCell ⟨b, 1, none⟩ (.float .f64 0)).setCell ⟨b, 2, none⟩ (.float .f64 0)).setCell ⟨b, 3, none⟩ (.float .f64 0)).setCell ⟨b, 4, none⟩ (.float .f64 0)).setCell ⟨b, 5, none⟩ (.float .f64 0)).setCell ⟨b, 6, none⟩ (.float .f64 0)).setCell ⟨b, 7, none⟩ (.float .f64 0)) := ⟨_, rfl⟩
  have kY : Kept X Y := by rw [hY]; exact ((((((((kU.setCell ob _).setCell ob _).setCell ob _).setCell ob _).setCell ob _).setCell ob _).setCell ob _).setCell ob _)
  have bY : Bk Y b [.float .f64 fr, .float .f64 0, .float .f64 0, .float .f64 0, .float .f64 0, .float .f64 0, .float .f64 0, .float .f64 0] := by rw [hY]; exact ((((((((bb.set 0 _).set 1 _).set 2 _).set 3 _).set 4 _).set 5 _).set 6 _).set 7 _)
  refine wpAnyD_step (i := 26) (by kernel_rfl) rfl (fun K hK9 => ?_)
  go_simp
  rw [← hY]
  refine hK9.out _ _ (HS.out _ kY) (fun hH2 => ?_)
  clear hK9 K
  (try simp only [Act.put, List.getElem_toArray, List.getElem_cons_succ, List.getElem_cons_zero, List.setIfInBounds_toArray, List.set_cons_zero, List.set_cons_succ])
  refine wpAnyD_done (by kernel_rfl) ?_ _
  (try simp only [Act.put, List.getElem_toArray, List.getElem_cons_succ, List.getElem_cons_zero, List.setIfInBounds_toArray, List.set_cons_zero, List.set_cons_succ])
  clear hY hHeld hH2 ef e0 e1 e2 e3 e4 e5 e6 e7
  have u0 := (bU.kept kY).c 0 _ rfl
  have e0 := bY.c 0 _ rfl
  have e1 := bY.c 1 _ rfl
  have e2 := bY.c 2 _ rfl
  have e3 := bY.c 3 _ rfl
  have e4 := bY.c 4 _ rfl
  have e5 := bY.c 5 _ rfl
  have e6 := bY.c 6 _ rfl
  have e7 := bY.c 7 _ rfl
  have bR2 := bR.kept kY
  have r0 := bR2.c 0 _ rfl
  have r1 := bR2.c 1 _ rfl
  have r2 := bR2.c 2 _ rfl
  have r3 := bR2.c 3 _ rfl
  have r4 := bR2.c 4 _ rfl
  have r5 := bR2.c 5 _ rfl
  have r6 := bR2.c 6 _ rfl
  have r7 := bR2.c 7 _ rfl
  have rf := bR2.fz
  clear bR2
  go_wp2_with fail
  exact bodyPost_ret (v := .agg #[.float .f64 fr, .float .f64 0, .float .f64 0, .float .f64 0, .float .f64 0, .float .f64 0, .float .f64 0, .float .f64 0]) (by simp [results, Try.results34, go_sem, r0, r1, r2, r3, r4, r5, r6, r7]) rfl ⟨rfl, (((((((((hK.trans kY).setCell oR.out.1 _).setCell oR.out.1 _).setCell oR.out.1 _).setCell oR.out.1 _).setCell oR.out.1 _).setCell oR.out.1 _).setCell oR.out.1 _).setCell oR.out.1 _)⟩
end Go.Proofs.Ytojhhimmfnccjaa
