/- Stretch of package tensor where it answers. -/
import Derived.Test.YtijmjnmimijfdabT31
import Derived.Test.YtijmjnmimijfdabT5
namespace Go.Proofs.Ytijmjnmimijfdab
open Go.ChangeShapes Go.WideShapes Go.ChangeAt Go.RowKit Go.Shelf
set_option linter.unusedVariables false
set_option linter.unusedSimpArgs false
attribute [local go_sem] Oper.semAt_some

/-- Blocks that are not listed lie as they lay. -/
structure GrB (S : List Nat) (w w' : World) : Prop where
  os : w'.os = w.os
  tape : w'.tape = w.tape
  output : w'.output = w.output
  size : w.heap.size ≤ w'.heap.size
  block : ∀ i, i < w.heap.size → i ∉ S → w'.heap[i]? = w.heap[i]?
theorem GrB.refl (S : List Nat) (w : World) : GrB S w w := ⟨rfl, rfl, rfl, Nat.le_refl _, fun _ _ _ => rfl⟩
theorem GrB.trans {S : List Nat} {a b c : World} (h : GrB S a b) (k : GrB S b c) : GrB S a c :=
  ⟨k.os.trans h.os, k.tape.trans h.tape, k.output.trans h.output, Nat.le_trans h.size k.size, fun i hi hn => (k.block i (Nat.lt_of_lt_of_le hi h.size) hn).trans (h.block i hi hn)⟩
theorem GrB.bl {S : List Nat} {a b c : World} (h : GrB S a b) (k : Bl b c) : GrB S a c :=
  ⟨k.below.os.trans h.os, k.below.tape.trans h.tape, k.below.output.trans h.output, Nat.le_trans h.size k.size, fun i hi hn => (k.below.block i (Nat.lt_of_lt_of_le hi h.size)).trans (h.block i hi hn)⟩
theorem GrB.grw {S : List Nat} {g : Nat} {a b c : World} (h : GrB S a b) (k : Grw g b c) (hg : g ∈ S ∨ a.heap.size ≤ g) : GrB S a c :=
  ⟨k.grown.os.trans h.os, k.grown.tape.trans h.tape, k.grown.output.trans h.output, Nat.le_trans h.size k.grown.size, fun i hi hn => (k.grown.block i (Nat.lt_of_lt_of_le hi h.size) (fun e => by
    have e2 : i = g := by simpa using e
    subst e2
    rcases hg with h1 | h1
    · exact hn h1
    · omega)).trans (h.block i hi hn)⟩
theorem GrB.setCell {S : List Nat} {a b : World} (h : GrB S a b) {p : Addr} (hp : p.block ∈ S ∨ a.heap.size ≤ p.block) (u : Value) : GrB S a (b.setCell p u) :=
  ⟨h.os, h.tape, h.output, by simpa using h.size, fun i hi hn => (Below.heap_setCell b p u i (fun e => by subst e; rcases hp with h1 | h1; exact hn h1; omega)).trans (h.block i hi hn)⟩
theorem GrB.abid {S : List Nat} {A W W' : World} {row : Option Nat} (h : GrB S A W) (hg : W.grownBy W' row) (hr : ∀ r, row = some r → A.heap.size ≤ r ∧ ∃ o : Obj, W.heap[r]? = some o ∧ o.isCells = false) : GrB S A W' :=
  ⟨hg.os.trans h.os, hg.tape.trans h.tape, hg.output.trans h.output, Nat.le_trans h.size hg.size, fun i hi hn => (hg.block i (Nat.lt_of_lt_of_le hi h.size) (fun e => by have := (hr i e.symm).1; omega)).trans (h.block i hi hn)⟩
theorem GrB.cell {S : List Nat} {a b : World} (h : GrB S a b) {B o : Nat} (hB : B < a.heap.size) (hn : B ∉ S) : b.cell? ⟨B, o, none⟩ = a.cell? ⟨B, o, none⟩ :=
  World.cell?_of_block (w := a) (a := ⟨B, o, none⟩) (h.block B hB hn)
theorem GrB.frozen {S : List Nat} {a b : World} (h : GrB S a b) {B o : Nat} (hB : B < a.heap.size) (hn : B ∉ S) : b.frozen? ⟨B, o, none⟩ = a.frozen? ⟨B, o, none⟩ :=
  World.frozen?_of_block (w := a) (a := ⟨B, o, none⟩) (h.block B hB hn)
theorem GrB.m4 {S : List Nat} {a b : World} (h : GrB S a b) {B : Nat} {r c n s : Value} (hM : M4 a B r c n s) (hn : B ∉ S) : M4 b B r c n s :=
  ⟨(h.cell hM.lt hn).trans hM.c0, (h.cell hM.lt hn).trans hM.c1, (h.cell hM.lt hn).trans hM.c2, (h.cell hM.lt hn).trans hM.c3⟩
theorem GrB.m3 {S : List Nat} {a b : World} (h : GrB S a b) {B : Nat} {r c n : Value} (hM : M3 a B r c n) (hn : B ∉ S) : M3 b B r c n :=
  ⟨(h.cell hM.lt hn).trans hM.c0, (h.cell hM.lt hn).trans hM.c1, (h.cell hM.lt hn).trans hM.c2⟩
theorem boxed_abid {W W' : World} {row : Option Nat} {B : Nat} {t : TypeId} {v : Value} (h : Boxed W B t v) (hg : W.grownBy W' row) {N : Nat} (hr : ∀ r, row = some r → N ≤ r ∧ ∃ o : Obj, W.heap[r]? = some o ∧ o.isCells = false) : Boxed W' B t v := abid_block hg hr h rfl

theorem wpListIn_append_run {F : Fence} {m : Nat} {P : Program} {w : World} {ops : Array Oper} {rest : List Oper} {o : Oper} {a : Act} {Q : Exit → Act → World → Prop} (hgd : o.guard = none) (s x : Operand) (t : TypeId)
    (ho : o.op = .call { callee := .builtin .append, args := #[s, x], argTypes := #[t, t] }) (v xv : Value) (hs : a.eval s = v) (hx : a.eval x = xv) (v' : Value) (w' : World)
    (hr : (Builtin.append_ #[t, t] o.type #[v, xv]).run P w = .ok v' w') (h : wpListIn F m P ops Q rest (a.put o.dst v') w') : wpListIn F m P ops Q (o :: rest) a w := by
  refine wpListIn_plain hgd fun K hK => ?_
  unfold Oper.wpIn
  refine ⟨?_, ?_⟩
  · simp [Oper.about, ho, resolve, Target.leads, Sem.run_pure]
  · rw [Oper.semAt_plain F _ _ (by rw [ho]; intro c hc'; cases hc')]
    simp [execOp, ho, resolve, invoke, builtin, hs, hx, hr, Result.andThen]
    exact hK _ _ h

theorem stf_rgl (M : List Int) (R C rs cs : Nat) (hR : 0 < R) (hC : 0 < C) (hrs : rs = R ∨ (R = 1 ∧ 0 < rs)) (hcs : cs = C ∨ (C = 1 ∧ 0 < cs)) (hML : M.length = R * C) (h : Rgl M) : Rgl (lst (rs * cs) (stf M R C cs)) := by
  intro i hi
  rw [lst_length] at hi
  rw [lst_get _ _ _ hi]
  have hc0 : 0 < cs := by omega
  have h1 : i / cs < rs := Nat.div_lt_of_lt_mul (by rw [Nat.mul_comm]; exact hi)
  have h2 := Nat.mod_lt i hc0
  unfold stf
  refine h _ ?_
  rw [hML]
  obtain ⟨x, hx⟩ : ∃ x, (if R = 1 then 0 else i / cs) = x := ⟨_, rfl⟩
  obtain ⟨y, hy⟩ : ∃ y, (if C = 1 then 0 else i % cs) = y := ⟨_, rfl⟩
  rw [hx, hy]
  have hxR : x < R := by
    rw [← hx]
    split <;> omega
  have hyC : y < C := by
    rw [← hy]
    split <;> omega
  calc x * C + y < x * C + C := by omega
    _ = (x + 1) * C := by rw [Nat.succ_mul]
    _ ≤ R * C := Nat.mul_le_mul_right _ hxR

theorem strE_ok {R C rs cs : Nat} (hC : 0 < C) (hrs : rs = R ∨ (R = 1 ∧ 0 < rs)) (hcs : cs = C ∨ (C = 1 ∧ 0 < cs)) (h : rs * cs ≤ 4096) : strE R C rs cs = 0 := by
  unfold strE
  rw [if_neg (fun k => k ⟨by unfold stq; omega, by unfold stq; omega⟩)]
  unfold ckR
  rw [if_neg]
  rw [Int.tdiv_eq_ediv_of_nonneg (by omega)]
  have h0 : (rs : Int) * (cs : Int) ≤ 4096 := by
    have : ((rs * cs : Nat) : Int) ≤ 4096 := by omega
    simpa using this
  have := (Int.le_ediv_iff_mul_le (show 0 < (cs : Int) by omega)).2 h0
  omega

set_option maxRecDepth 100000 in
set_option maxHeartbeats 4000000 in
theorem stretch_ok (R C rs cs : Nat) (n : Int) (hn : n = 64 ∨ n = 32) (hR : 0 < R) (hC : 0 < C) (hRC : R * C ≤ 4096) (hrs : rs = R ∨ (R = 1 ∧ 0 < rs)) (hcs : cs = C ∨ (C = 1 ∧ 0 < cs)) (hrc : rs * cs ≤ 4096) (M : List Int) (hML : M.length = R * C) (hRg : Rgl M) (hck : ckM R C n M = 0) (b off cap : Nat) (hcap : R * C ≤ cap) (w : World) (hb : b < w.heap.size) (hrd : Reads w b off M) (hSl : Sl w (.slice (some ⟨b, off, none⟩) M.length cap) M) :
    Calls Try.prog 24 #[.agg #[.int .i64 R, .int .i64 C, .int .i64 n, .slice (some ⟨b, off, none⟩) (R * C) cap], .int .i64 rs, .int .i64 cs] w fun e w' => ∃ g, e = .returned (.tuple #[.agg #[.int .i64 rs, .int .i64 cs, .int .i64 n, .slice (some ⟨g, 0, none⟩) (rs * cs) (rs * cs)], .int .i64 0]) ∧ w.heap.size ≤ g ∧ Own w' g (rs * cs) ((lst (rs * cs) (stf M R C cs)).map (cln · n)) ∧ Bl w w' := by
  obtain ⟨hmX, hCX, hrX, hfX, hKX, hXs⟩ := st3_facts w R C n cs (.slice (some ⟨b, off, none⟩) (R * C) cap)
  obtain ⟨X, hX⟩ : ∃ X, X = st3 w R C n cs (.slice (some ⟨b, off, none⟩) (R * C) cap) := ⟨_, rfl⟩
  rw [← hX] at hmX hCX hrX hfX hKX hXs
  have KC : Hid (Calls Try.prog 17 #[.agg #[.int .i64 R, .int .i64 C, .int .i64 n, .slice (some ⟨b, off, none⟩) (R * C) cap]] X fun e w' => e = .returned (.int .i64 0) ∧ Kept X w') := by
    have := check_any R C n (some ⟨b, off, none⟩) cap M X (hSl.kept hKX)
    rw [hck, hML] at this
    exact this
  have KA : Hid (∀ u, Kept X u → Calls Try.prog 31 #[.agg #[.int .i64 R, .int .i64 C, .int .i64 n, .slice (some ⟨b, off, none⟩) (R * C) cap]] u fun e w' => e = .returned (.agg #[.int .i64 R, .int .i64 C, .int .i64 n]) ∧ Kept X w' ∧ Kept u w') := fun u k => by
    refine (shapeOf_any _ _ _ _ u).mono ?_
    rintro e w' ⟨rfl, k'⟩
    exact ⟨rfl, k.trans k', k'⟩
  have KB : Hid (∀ u, Kept X u → Calls Try.prog 50 #[.agg #[.int .i64 R, .int .i64 C, .int .i64 n], .int .i64 rs, .int .i64 cs] u fun e w' => e = .returned (.tuple #[.agg #[.int .i64 rs, .int .i64 cs, .int .i64 n], .int .i64 0]) ∧ Kept X w' ∧ Kept u w') := fun u k => by
    have := stretched_any R C n rs cs (by omega) u
    rw [strE_ok hC hrs hcs hrc, if_pos rfl] at this
    refine this.mono ?_
    rintro e w' ⟨rfl, k'⟩
    exact ⟨rfl, k.trans k', k'⟩
  have KW : Hid (∀ u, Calls Try.prog 43 #[.agg #[.int .i64 rs, .int .i64 cs, .int .i64 n]] u fun e w' => ∃ g, e = .returned (.slice (some ⟨g, 0, none⟩) 0 (rs * cs)) ∧ u.heap.size ≤ g ∧ Own w' g (rs * cs) [] ∧ Kept u w') := fun u => bare_any rs cs n (rs * cs) (by simp) (by omega) u
  have KR : Hid (∀ u, Calls Try.prog 32 #[.agg #[.int .i64 R, .int .i64 C, .int .i64 n, .slice (some ⟨b, off, none⟩) (R * C) cap]] u fun e w' => e = .returned (.func (.func 61) #[] #[.pointer (some ⟨u.heap.size, 0, none⟩)]) ∧ w' = u.alloc (.cells #[.int .i64 R, .int .i64 C, .int .i64 n, .slice (some ⟨b, off, none⟩) (R * C) cap] 24)) := fun u => rowsOf_any _ _ _ _ u
  have HS : Hid (∀ u, Kept X u → Kept X u ∧ (u.cell? ⟨w.heap.size, 0, none⟩ = some (.int .i64 R) ∧ u.cell? ⟨w.heap.size, 1, none⟩ = some (.int .i64 C) ∧ u.cell? ⟨w.heap.size, 2, none⟩ = some (.int .i64 n) ∧ u.cell? ⟨w.heap.size, 3, none⟩ = some (.slice (some ⟨b, off, none⟩) (R * C) cap)) ∧ u.cell? ⟨w.heap.size + 1, 0, none⟩ = some (.int .i64 cs)) := fun u k => by
    obtain ⟨m0, m1, m2, m3⟩ := hmX.bl k.bl
    exact ⟨k, ⟨m0, m1, m2, m3⟩, (k.bl.cell (w.heap.size + 1) 0 (by omega)).trans hCX⟩
  obtain ⟨rc, hrc'⟩ : ∃ rc, R * C = rc := ⟨_, rfl⟩
  obtain ⟨rq, hrq'⟩ : ∃ rq, rs * cs = rq := ⟨_, rfl⟩
  have HRC : Hid (R * C = rc) := hrc'
  have HRQ : Hid (rs * cs = rq) := hrq'
  rw [hrc'] at hRC hML hcap hmX KC KA KR hX HS
  rw [hrq'] at hrc KW
  rw [hrc', hrq']
  clear hrc' hrq'
  unfold st3 at hX
  refine (callsIn_wide (n := 3)).1 ?_
  refine callsIn_of_wp_marks Try.func24 rfl trivial ?_ rfl
  rw [wpIn_wide]
  refine Code.wp_mono npPost_imp ?_
  simp only [Try.ntmps24, List.size_toArray, List.length_cons, List.length_nil, Nat.reduceAdd, Nat.reduceSub, Array.replicate_succ, Array.replicate_zero, List.push_toArray, List.append_toArray, List.nil_append, List.cons_append]
  go_upto_region 1 with fail
  rw [← hX]
  clear hX
  have hmX' := hmX
  obtain ⟨m0, m1, m2, m3⟩ := hmX'
  go_upto_region 4 with (first | (go_at_call 17; refine (KC.out).mono ?_; rintro e w1 ⟨rfl, k1⟩))
  clear m0 m1 m2 m3
  have kd := k1.drew
  have z1 := k1.below.size
  go_cut [9, 10] from 15 to 28 (fun t9 t10 wx => ∃ B, t9 = .pointer (some ⟨B, 0, none⟩) ∧ t10 = .int .i64 0 ∧ X.heap.size ≤ B ∧ M3 wx B (.int .i64 rs) (.int .i64 cs) (.int .i64 n) ∧ Kept X wx)
  case first =>
    go_region_held (fun u => Kept X u ∧ (u.cell? ⟨w.heap.size, 0, none⟩ = some (.int .i64 R) ∧ u.cell? ⟨w.heap.size, 1, none⟩ = some (.int .i64 C) ∧ u.cell? ⟨w.heap.size, 2, none⟩ = some (.int .i64 n) ∧ u.cell? ⟨w.heap.size, 3, none⟩ = some (.slice (some ⟨b, off, none⟩) rc cap)) ∧ u.cell? ⟨w.heap.size + 1, 0, none⟩ = some (.int .i64 cs)) (first | assumption | exact HS.out _ kd | exact HS.out _ (by assumption) | exact HS.out _ (by repeat' first | assumption | exact Kept.alloc (by assumption) _ _ | (refine Kept.setCell ?_ ?_ _) | (simp; omega))) (first | (go_at_call 31; refine (KA.out _ (by first | assumption | exact Kept.alloc (by assumption) _ _)).mono ?_; rintro e w3 ⟨rfl, k3, j3⟩; have z3 := k3.below.size; (first | (have qz := zb_newd j3; obtain ⟨⟨q30, q31, q32⟩, q3f⟩ := qz) | (have qz := zb_new j3; obtain ⟨⟨q30, q31, q32⟩, q3f⟩ := qz) | skip)) | (go_at_call 50; refine (KB.out _ (by first | assumption | exact Kept.alloc (by assumption) _ _)).mono ?_; rintro e w4 ⟨rfl, k4, j4⟩; have z4 := k4.below.size; first | (have qz := zb_new j4; obtain ⟨⟨q40, q41, q42⟩, q4f⟩ := qz) | (have qz := zb_on ⟨q30, q31, q32⟩ q3f j4; obtain ⟨⟨q40, q41, q42⟩, q4f⟩ := qz) | skip))
    all_goals go_wp2_with fail
    all_goals go_meet
    all_goals
      refine ⟨_, rfl, rfl, ?_, ?_, ?_⟩
      · omega
      · first | exact M3.put w4 _ _ _ _ ⟨q40, q41, q42⟩ _ _ _ | exact M3.new _ _ _ _ _
      · (repeat' first | assumption | exact Kept.alloc (by assumption) _ _ | (refine Kept.setCell ?_ ?_ _) | (simp; omega))
  case rest =>
    obtain ⟨B, rfl, rfl, hB, hM3, kc⟩ := hcut
    have hM3' := hM3
    obtain ⟨b0, b1, b2⟩ := hM3'
    clear kd z1 KA KB KC HS k1
    go_upto_region 8 with (first | (go_at_call 43; refine (KW.out _).mono ?_; rintro e w5 ⟨g1, rfl, hg1, hO5, k5⟩))
    obtain ⟨Y, hY⟩ : ∃ Y, Y = w5.alloc (.cells #[.slice (some ⟨g1, 0, none⟩) 0 rq] 22) := ⟨_, rfl⟩
    rw [← hY]
    have hKY : Kept w5 Y := by rw [hY]; exact (Kept.refl w5).alloc _ _
    have hYs : Y.heap.size = w5.heap.size + 1 := by rw [hY]; simp
    have hvY : Y.cell? ⟨w5.heap.size, 0, none⟩ = some (.slice (some ⟨g1, 0, none⟩) 0 rq) := by rw [hY]; simp [go_sem]
    have hvf : Y.frozen? ⟨w5.heap.size, 0, none⟩ = false := by rw [hY]; simp [go_sem]
    have hvB : Boxed Y w5.heap.size 22 (.slice (some ⟨g1, 0, none⟩) 0 rq) := by rw [hY]; exact Boxed.new _ _ _
    have hOY := hO5.kept hKY
    have g1lt := hO5.lt
    have kcY := kc.trans (k5.trans hKY)
    have hmY := hmX.bl kcY.bl
    have hsB := hM3.lt
    have hs5 := k5.below.size
    have hM3Y := hM3.bl (k5.trans hKY).bl
    clear hY b0 b1 b2 hO5
    have hmY' := hmY
    obtain ⟨m0, m1, m2, m3⟩ := hmY'
    go_wp2_with (first | (go_at_call 32; refine (KR.out _).mono ?_; rintro e w2 ⟨rfl, rfl⟩))
    have hbY := M4.new Y (.int .i64 R) (.int .i64 C) (.int .i64 n) (.slice (some ⟨b, off, none⟩) rc cap) 24
    rw [hYs] at hbY
    obtain ⟨Z, hZ⟩ : ∃ Z, Z = Y.alloc (.cells #[.int .i64 R, .int .i64 C, .int .i64 n, .slice (some ⟨b, off, none⟩) rc cap] 24) := ⟨_, rfl⟩
    rw [← hZ] at hbY ⊢
    have hZs : Z.heap.size = w5.heap.size + 2 := by rw [hZ]; simp; omega
    have hKYZ : Kept Y Z := by rw [hZ]; exact (Kept.refl Y).alloc _ _
    have hKXZ := kcY.trans hKYZ
    have hOZ := hOY.kept hKYZ
    have hvZ : Boxed Z w5.heap.size 22 (.slice (some ⟨g1, 0, none⟩) 0 rq) := (hKYZ.below.block w5.heap.size (by omega)).trans hvB
    have hmZ := hmX.bl hKXZ.bl
    have hCZ := (hKXZ.bl.cell (w.heap.size + 1) 0 (by omega)).trans hCX
    have hrZ := hrX.bl hKXZ.bl
    have hfZ : ∀ o, Z.frozen? ⟨w.heap.size + 2, o, none⟩ = false := fun o => (hKXZ.frozen _).trans (hfX o)
    have hM3Z := hM3Y.bl hKYZ.bl
    have hKwZ := hKX.trans hKXZ
    have hszX := kc.below.size
    have hrdZ : Hid (∀ u, GrB [g1, w5.heap.size] Z u → ∀ i, i < M.length → u.cell? ⟨b, off + i, none⟩ = some (.int .i64 (M.getD i 0))) := fun u hu i hi => (hu.cell (by omega) (by simp; omega)).trans ((hKwZ.bl.cell b (off + i) hb).trans (hrd i hi))
    have hqC : cs / C * C = cs := by
      rcases hcs with h | ⟨h, -⟩
      · rw [h, Nat.div_self hC, Nat.one_mul]
      · rw [h, Nat.div_one, Nat.mul_one]
    have hRle : R * cs ≤ rq := by
      rw [← HRQ.out]
      exact Nat.mul_le_mul_right _ (by omega)
    have hcsle : cs ≤ rq := Nat.le_trans (Nat.le_mul_of_pos_left cs hR) hRle
    have hCle : C ≤ cs := by omega
    clear hZ hOY hvY hvf hmY hM3Y hKYZ m0 m1 m2 m3 KR hYs hKY kcY hmX hCX hrX hfX hKXZ hM3 hvB
    have RS := rows_stops 2 (by decide) (w5.heap.size + 1) R C n b off cap hC (by rw [HRC.out]; omega) (by rw [HRC.out]; exact hcap) Z (by rw [HRC.out]; exact hbY)
    have HW5 : Hid (w5.heap.size = w5.heap.size) := rfl
    generalize hbw : w5.heap.size = bw at *
    clear hbw
    obtain ⟨q, hq⟩ : ∃ q, cs / C = q := ⟨_, rfl⟩
    have HQ : Hid (cs / C = q) := hq
    rw [hq] at hqC
    clear hq
    rw [← wpIn_wide (n := 3)]
    refine wpIn_rangeFunc_ownF rfl (by decide) (gf := 61) (lb := #[.pointer (some ⟨bw + 1, 0, none⟩)]) rfl trivial (enters_of Try.func61 (by kernel_rfl) rfl) RS (fun h k => k.trans h) (fun W l o o' hl _ _ _ => World.putObj_heap_other (by omega)) (Below.refl _ _) (fun _ => rfl)
      (fun pre W => Own W g1 rq (widL M C q pre) ∧ Boxed W bw 22 (.slice (some ⟨g1, 0, none⟩) (pre.length * cs) rq) ∧ GrB [g1, bw] Z W) (fun _ _ _ => False)
      (fun s A B row hs hg hr => ⟨hs.1.abid hg hr, boxed_abid hs.2.1 hg hr, hs.2.2.abid hg hr⟩) (fun _ _ _ _ _ hs _ _ => hs)
      ⟨by simpa [widL] using hOZ, by simpa using hvZ, GrB.refl _ _⟩
      (fun x => { tmps := #[.agg #[.int .i64 R, .int .i64 C, .int .i64 n, .slice (some ⟨b, off, none⟩) rc cap], .int .i64 rs, .int .i64 cs, .pointer (some ⟨w.heap.size, 0, none⟩), undef, .pointer (some ⟨w.heap.size + 1, 0, none⟩), .pointer (some ⟨w.heap.size + 1 + 1, 0, none⟩), .int .i64 0, .int .i64 0, .pointer (some ⟨B, 0, none⟩), .int .i64 0, .pointer (some ⟨bw, 0, none⟩), undef, .slice (some ⟨b, off + x.1 * C, none⟩) C C, undef, u15, u16, u17, u18, u19, u20, u21, u22, u23, u24, u25, u26, u27, u28, .int .i64 0, .bool false, undef, undef, .agg #[.int .i64 rs, .int .i64 cs, .int .i64 n], .slice (some ⟨g1, 0, none⟩) 0 rq, .agg #[.int .i64 R, .int .i64 C, .int .i64 n, .slice (some ⟨b, off, none⟩) rc cap], .func (.func 61) #[] #[.pointer (some ⟨bw + 1, 0, none⟩)], .int .i64 (x.1 : Int), .slice (some ⟨b, off + x.1 * C, none⟩) C C, undef, undef, undef, undef, undef, undef, undef, undef, undef, undef, undef, undef, undef, undef, undef, undef, undef, undef, undef, undef, undef, undef, undef, undef, undef], defers := [] }) ?assign ?body ?done ?stop
    case assign =>
      intro l x W K hK
      gi_wp2
      exact hK
    case body =>
      rintro l pre ⟨x, hx⟩ W ⟨hO, hBx, hG⟩ hlt
      dsimp only
      have HV : Hid (∀ u, GrB [g1, bw] W u → u.cell? ⟨w.heap.size + 1, 0, none⟩ = some (.int .i64 cs) ∧ u.cell? ⟨w.heap.size, 1, none⟩ = some (.int .i64 C)) := fun u hu => ⟨((hG.trans hu).cell (by omega) (by simp; omega)).trans hCZ, ((hG.trans hu).m4 hmZ (by simp; omega)).c1⟩
      obtain ⟨v0, v1⟩ := HV.out W (GrB.refl _ _)
      have HRD : Hid (∀ u, GrB [g1, bw] W u → Reads u b (off + x * C) (rowL M C x)) := fun u hu k hk => by
        rw [rowL_length] at hk
        have h1 : x * C + k < M.length := by
          rw [hML, ← HRC.out]
          calc x * C + k < x * C + C := by omega
            _ = (x + 1) * C := by rw [Nat.succ_mul]
            _ ≤ R * C := Nat.mul_le_mul_right _ hx
        have := hrdZ.out u (hG.trans hu) (x * C + k) h1
        rw [← Nat.add_assoc] at this
        rw [this]
        unfold rowL
        rw [lst_get _ _ _ hk]
      have hplen : (pre.length + 1) * cs ≤ R * cs := Nat.mul_le_mul_right _ hlt
      rw [Nat.succ_mul] at hplen
      have hwl := widL_length M C q pre
      rw [hqC] at hwl
      have HKC : Hid (∀ k, k < q → k * C + C ≤ cs) := fun k hk => by
        have := Nat.mul_le_mul_right C hk
        rw [Nat.succ_mul, hqC] at this
        exact this
      have hq0 : ¬ (C : Int) = 0 := by omega
      have hqd : Int.tdiv (cs : Int) (C : Int) = (q : Int) := by
        rw [Int.tdiv_eq_ediv_of_nonneg (by omega), ← HQ.out]
        simp
      have hqle : q ≤ cs := by
        rw [← HQ.out]
        exact Nat.div_le_self _ _
      have hqw : IntKind.i64.wrap (q : Int) = (q : Int) := by rw [wrap_i64]; omega
      have hO' : Own W g1 rq (widL M C q pre ++ rep 0 (rowL M C x)) := by rw [rep_zero, List.append_nil]; exact hO
      have hBx' : Boxed W bw 22 (.slice (some ⟨g1, 0, none⟩) (pre.length * cs + 0 * C) rq) := by rw [Nat.zero_mul, Nat.add_zero]; exact hBx
      clear hO hBx hmZ hrZ hfZ hvZ hOZ RS hrdZ hrd hSl hbY hM3Z hCZ
      gi_wp2
      gi_loopw [43] (fun iv wr => ∃ k : Nat, k ≤ q ∧ iv = .int .i64 k ∧ Own wr g1 rq (widL M C q pre ++ rep k (rowL M C x)) ∧ Boxed wr bw 22 (.slice (some ⟨g1, 0, none⟩) (pre.length * cs + k * C) rq) ∧ GrB [g1, bw] W wr ∧ KeepsOthers W wr) (fun iv _ => q - (intOf iv).toNat)
      case atStart => exact ⟨0, Nat.zero_le _, rfl, hO', hBx', GrB.refl _ _, KeepsOthers.refl _⟩
      case round =>
        clear v0 v1
        obtain ⟨k, hk, rfl, hOk, hBk, hGk, hKk⟩ := hrel
        by_cases hkl : k < q
        · have hC1 := HKC.out k hkl
          have hll : (widL M C q pre ++ rep k (rowL M C x)).length = pre.length * cs + k * C := by rw [List.length_append, hwl, rep_length, rowL_length]
          obtain ⟨hr, hO2, hG2⟩ := app_room wr g1 rq _ hOk (rowL M C x) b (off + x * C) C C (rowL_length M C x) (HRD.out _ hGk) (by rw [hll]; omega) (pre.length * cs + k * C) hll
          rw [List.append_assoc, ← rep_succ] at hO2
          have hKU := keeps_setCells ((rowL M C x).map (Value.int .i64)) wr g1 (pre.length * cs + k * C)
          obtain ⟨U, hU⟩ : ∃ U, wr.setCells g1 (pre.length * cs + k * C) ((rowL M C x).map (Value.int .i64)) = U := ⟨_, rfl⟩
          rw [hU] at hr hO2 hG2 hKU
          clear hU
          have HR9 : Hid (∀ ty, (Builtin.append_ #[22, 22] ty #[.slice (some ⟨g1, 0, none⟩) (pre.length * cs + k * C) rq, .slice (some ⟨b, off + x * C, none⟩) C C]).run Try.prog wr = .ok (.slice (some ⟨g1, 0, none⟩) (pre.length * cs + k * C + C) rq) U) := hr
          have hBU := hBk.kept hG2.grown (by simp; omega)
          have c0 := hBk.cell
          have c1 := hBU.cell
          have c2 := hBU.frozen
          have hBN := hBU.set (.slice (some ⟨g1, 0, none⟩) (pre.length * cs + k * C + C) rq)
          have hON := hO2.setOther (p := ⟨bw, 0, none⟩) (by simp; omega) (.slice (some ⟨g1, 0, none⟩) (pre.length * cs + k * C + C) rq)
          have hGN : GrB [g1, bw] W (U.setCell ⟨bw, 0, none⟩ (.slice (some ⟨g1, 0, none⟩) (pre.length * cs + k * C + C) rq)) := (hGk.grw hG2 (by simp)).setCell (by simp) _
          have hKN := (hKk.trans hKU).trans (KeepsOthers.setCell U ⟨bw, 0, none⟩ (.slice (some ⟨g1, 0, none⟩) (pre.length * cs + k * C + C) rq))
          have HBN : Hid _ := hBN
          have HON : Hid _ := hON
          have HGN : Hid _ := hGN
          have HKN : Hid _ := hKN
          have z0 : IntKind.i64.wrap ((k : Int) + 1) = (k : Int) + 1 := by rw [wrap_i64]; omega
          have HLE : Hid (pre.length * cs + (k + 1) * C = pre.length * cs + k * C + C) := by
            show pre.length * cs + (k + 1) * C = pre.length * cs + k * C + C
            rw [Nat.succ_mul, Nat.add_assoc]
          clear hBN hON hGN hKN hr hO2 hG2 hKU hBU hll hOk hBk hplen hwl
          generalize pre.length * cs + k * C = ln at *
          gi_wp2_with (first | (gi_at_builtin; refine wpListIn_append_run rfl _ _ _ rfl _ _ rfl rfl _ _ (HR9.out _) ?_))
          go_roundw
          case rel => exact ⟨k + 1, by omega, by go_num, HON.out, by rw [HLE.out]; exact HBN.out, HGN.out, HKN.out⟩
          case measure => simp [intOf]; omega
        · obtain rfl : k = q := by omega
          gi_wp2
          refine ⟨hKk, hGk.block (bw + 1) (by have := hG.size; omega) (by simp; omega), ?_, ?_, hG.trans hGk⟩
          · rw [widL_snoc]; exact hOk
          · rw [List.length_append, List.length_singleton, Nat.succ_mul, ← hqC]; rw [hqC]; rw [hqC] at hBk; exact hBk
    case done =>
      rintro D xs W hD rfl ⟨hO, hBx, hG⟩ hK
      have hlW := widL_length M C q (List.finRange R)
      rw [List.length_finRange, hqC] at hlW
      rw [List.length_finRange] at hBx
      have hall : rep (rs / R) (widL M C q (List.finRange R)) = lst rq (stf M R C cs) := by
        have := stretch_all M R C rs cs hR hC hrs hcs
        rw [HQ.out, HRQ.out] at this
        exact this
      have hRgT : Rgl (lst rq (stf M R C cs)) := by
        have := stf_rgl M R C rs cs hR hC hrs hcs (by rw [hML, HRC.out]) hRg
        rwa [HRQ.out] at this
      obtain ⟨p, hp⟩ : ∃ p, rs / R = p := ⟨_, rfl⟩
      have hpR : p * R = rs := by
        rw [← hp]
        rcases hrs with h | ⟨h, -⟩
        · rw [h, Nat.div_self hR, Nat.one_mul]
        · rw [h, Nat.div_one, Nat.mul_one]
      have hpq : p * (R * cs) = rq := by rw [← Nat.mul_assoc, hpR, HRQ.out]
      have hpd : Int.tdiv (rs : Int) (R : Int) = (p : Int) := by
        rw [Int.tdiv_eq_ediv_of_nonneg (by omega), ← hp]
        simp
      have hple : p ≤ rs := by
        rw [← hp]
        exact Nat.div_le_self _ _
      have hrsle : rs ≤ rq := by
        rw [← HRQ.out]
        exact Nat.le_mul_of_pos_right _ (by omega)
      have hpw : IntKind.i64.wrap (p : Int) = (p : Int) := by rw [wrap_i64]; omega
      have hR0 : ¬ (R : Int) = 0 := by omega
      obtain ⟨Wd, hWd⟩ : ∃ Wd, widL M C q (List.finRange R) = Wd := ⟨_, rfl⟩
      rw [hp] at hall
      rw [hWd] at hO hlW hall
      obtain ⟨L1, hL1⟩ : ∃ L1, R * cs = L1 := ⟨_, rfl⟩
      rw [hL1] at hBx hlW hpq hRle
      have HALL : Hid (rep p Wd = lst rq (stf M R C cs)) := hall
      have HRT : Hid (Rgl (rep p Wd)) := by rw [hall]; exact hRgT
      have HLT : Hid ((rep p Wd).length = rq) := by show (rep p Wd).length = rq; rw [rep_length, hlW, hpq]
      have hm3W := hG.m3 hM3Z (by simp; omega)
      have hm4W := hG.m4 hmZ (by simp; omega)
      have HPL : Hid (∀ k, k < p → k * L1 + L1 ≤ rq) := fun k hk => by
        have := Nat.mul_le_mul_right L1 hk
        rw [Nat.succ_mul, hpq] at this
        exact this
      have HKZ : Hid (Below w.heap.size w Z) := hKwZ.below
      have HZ : Hid (Z.heap.size = bw + 2 ∧ w.heap.size + 3 ≤ B ∧ B < g1 ∧ g1 < bw ∧ Z.heap.size ≤ D) := ⟨hZs, by omega, by omega, g1lt, hD⟩
      have HRES : Hid (∀ u, GrB [g1, bw] Z u → M4 u (w.heap.size + 2) (.int .i64 0) (.int .i64 0) (.int .i64 0) (.slice none 0 0) ∧ (∀ o, u.frozen? ⟨w.heap.size + 2, o, none⟩ = false)) := fun u hu => ⟨hu.m4 hrZ (by simp; omega), fun o => (hu.frozen (by omega) (by simp; omega)).trans (hfZ o)⟩
      have hm3W' := hm3W
      obtain ⟨b0, b1, b2⟩ := hm3W'
      clear hall hRgT hWd hL1 hp hpR hrd hSl hbY RS hrdZ hOZ hvZ hmZ hrZ hfZ hM3Z hCZ hKwZ hZs hRg hML hck
      go_upto_region 15 with (first | (go_at_call 43; refine (KW.out _).mono ?_; rintro e w6 ⟨g2, rfl, hg2, hO6, k6⟩))
      clear b0 b1 b2
      have hDW := (Array.getElem?_eq_some_iff.1 hK).1
      have hK6 : w6.heap[D]? = some (.deferred (some [])) := (k6.below.block D hDW).trans hK
      have hBx6 : Boxed w6 bw 22 (.slice (some ⟨g1, 0, none⟩) L1 rq) := (k6.below.block bw hBx.lt).trans hBx
      have hO16 := hO.kept k6
      have hm46 := hm4W.bl k6.bl
      have hm36 := hm3W.bl k6.bl
      have hG6 := hG.bl k6.bl
      have hz6 := HZ.out
      have hW6 := hG.size
      obtain ⟨m0, m1, m2, m3⟩ := hm46
      have hO6' : Own w6 g2 rq (rep 0 Wd) := by rw [rep_zero]; exact hO6
      go_wp2_with fail
      go_loopw [14, 55] (fun lv iv wr => ∃ k : Nat, k ≤ p ∧ iv = .int .i64 k ∧ lv = .slice (some ⟨g2, 0, none⟩) (k * L1) rq ∧ Own wr g2 rq (rep k Wd) ∧ Grw g2 w6 wr) (fun _ iv _ => p - (intOf iv).toNat)
      case atStart => exact ⟨0, Nat.zero_le _, rfl, by rw [Nat.zero_mul], hO6', Grw.refl _ _⟩
      case round =>
        clear m0 m1 m2 m3
        obtain ⟨k, hk, rfl, rfl, hOk, hGk⟩ := hrel
        by_cases hkl : k < p
        · have hC1 := HPL.out k hkl
          have hll : (rep k Wd).length = k * L1 := by rw [rep_length, hlW]
          obtain ⟨hr, hO2, hG2⟩ := app_room wr g2 rq _ hOk Wd g1 0 L1 rq hlW (hO16.grw hGk (by omega)).reads (by rw [hll]; omega) (k * L1) hll
          rw [← rep_succ] at hO2
          obtain ⟨U, hU⟩ : ∃ U, wr.setCells g2 (k * L1) (Wd.map (Value.int .i64)) = U := ⟨_, rfl⟩
          rw [hU] at hr hO2 hG2
          clear hU
          have HR9 : Hid (∀ ty, (Builtin.append_ #[22, 22] ty #[.slice (some ⟨g2, 0, none⟩) (k * L1) rq, .slice (some ⟨g1, 0, none⟩) L1 rq]).run Try.prog wr = .ok (.slice (some ⟨g2, 0, none⟩) (k * L1 + L1) rq) U) := hr
          have c0 : wr.cell? ⟨bw, 0, none⟩ = some (.slice (some ⟨g1, 0, none⟩) L1 rq) := (hGk.cellx bw 0 hBx6.lt (by omega)).trans hBx6.cell
          have HO2 : Hid (Own U g2 rq (rep (k + 1) Wd)) := hO2
          have HG2 : Hid (Grw g2 w6 U) := hGk.trans hG2
          have z0 : IntKind.i64.wrap ((k : Int) + 1) = (k : Int) + 1 := by rw [wrap_i64]; omega
          have HLE : Hid ((k + 1) * L1 = k * L1 + L1) := by
            show (k + 1) * L1 = k * L1 + L1
            rw [Nat.succ_mul]
          clear hr hO2 hG2 hll hOk hGk
          generalize k * L1 = ln at *
          go_wp2_with (first | (at_builtin; refine wpList_append_run rfl _ _ _ rfl _ _ rfl rfl _ _ (HR9.out _) ?_))
          go_roundw
          case rel => exact ⟨k + 1, by omega, by go_num, by rw [HLE.out], HO2.out, HG2.out⟩
          case measure => simp [intOf]; omega
        · obtain rfl : k = p := by omega
          have hG7 := hG6.grw hGk (.inr (by omega))
          have hm37 : M3 wr B (.int .i64 rs) (.int .i64 cs) (.int .i64 n) := ⟨(hGk.cellx B 0 hm36.lt (by omega)).trans hm36.c0, (hGk.cellx B 1 hm36.lt (by omega)).trans hm36.c1, (hGk.cellx B 2 hm36.lt (by omega)).trans hm36.c2⟩
          have hK7 : wr.heap[D]? = some (.deferred (some [])) := (hGk.grown.block D (Nat.lt_of_lt_of_le hDW k6.below.size) (by simp; omega)).trans hK6
          obtain ⟨T, hT⟩ : ∃ T, rep k Wd = T := ⟨_, rfl⟩
          rw [hpq] at *
          have HLT' := HLT.out
          have HRT' := HRT.out
          have HALL' := HALL.out
          rw [hT] at hOk HLT' HRT' HALL'
          have HT : Hid (T = lst rq (stf M R C cs)) := HALL'
          have A3 : Hid (Calls Try.prog 30 #[.agg #[.int .i64 rs, .int .i64 cs, .int .i64 n], .slice (some ⟨g2, 0, none⟩) rq rq] wr fun e w' => e = .returned (.agg #[.int .i64 rs, .int .i64 cs, .int .i64 n, .slice (some ⟨g2, 0, none⟩) rq rq]) ∧ (Hid (Own w' g2 rq (T.map (cln · n))) ∧ Hid (GrB [g1, bw] Z w')) ∧ M4 w' (w.heap.size + 2) (.int .i64 0) (.int .i64 0) (.int .i64 0) (.slice none 0 0) ∧ (∀ o, w'.frozen? ⟨w.heap.size + 2, o, none⟩ = false) ∧ w'.heap[D]? = some (.deferred (some []))) := by
            have := matrix_any rs cs n hn T HRT' (by omega) g2 rq wr hOk
            rw [HLT'] at this
            refine this.mono ?_
            rintro e w' ⟨rfl, h1, h2⟩
            have hGu := hG7.grw h2 (.inr (by omega))
            obtain ⟨r1, r2⟩ := HRES.out _ hGu
            refine ⟨rfl, ⟨h1, hGu⟩, r1, r2, ?_⟩
            exact (h2.grown.block D (Array.getElem?_eq_some_iff.1 hK7).1 (by simp; omega)).trans hK7
          have hg2z : w.heap.size ≤ g2 := by omega
          have hgne : g2 ≠ w.heap.size + 2 := by omega
          have hDne : D ≠ w.heap.size + 2 := by omega
          have hDg : D ≠ g2 := by omega
          obtain ⟨s0, s1, s2⟩ := hm37
          clear hOk hGk hG7 hG6 hO16 hO6 hO6' hBx6 hBx hO hm36 hm3W hm4W hG k6 hK hK6 hK7 HLT HRT HALL hT HPL KW HRES
          go_wp2_with (first | (go_at_call 30; refine (A3.out).mono ?_; rintro e w4 ⟨rfl, ⟨hO4, hG4⟩, r4, f4, hK4⟩; have hR' := res4 w4 _ _ _ _ _ r4 (.int .i64 rs) (.int .i64 cs) (.int .i64 n) (.slice (some ⟨g2, 0, none⟩) rq rq); obtain ⟨r0, r1, r2, r3⟩ := r4))
          have hK5 := (KeepsOthers.setCell ((((w4.setCell ⟨w.heap.size + 2, 0, none⟩ (.int .i64 rs)).setCell ⟨w.heap.size + 2, 1, none⟩ (.int .i64 cs)).setCell ⟨w.heap.size + 2, 2, none⟩ (.int .i64 n))) ⟨w.heap.size + 2, 3, none⟩ (.slice (some ⟨g2, 0, none⟩) rq rq)).same D _ ((KeepsOthers.setCell ((w4.setCell ⟨w.heap.size + 2, 0, none⟩ (.int .i64 rs)).setCell ⟨w.heap.size + 2, 1, none⟩ (.int .i64 cs)) ⟨w.heap.size + 2, 2, none⟩ (.int .i64 n)).same D _ ((KeepsOthers.setCell (w4.setCell ⟨w.heap.size + 2, 0, none⟩ (.int .i64 rs)) ⟨w.heap.size + 2, 1, none⟩ (.int .i64 cs)).same D _ ((KeepsOthers.setCell w4 ⟨w.heap.size + 2, 0, none⟩ (.int .i64 rs)).same D _ hK4 rfl) rfl) rfl) rfl
          obtain ⟨z1, z2, z3, z4, z5⟩ := HZ.out
          have hF := m4_put hR' (D := D) (.deferred none) (by omega)
          obtain ⟨p0, p1, p2, p3⟩ := hF
          have hO5 : Own (((((w4.setCell ⟨w.heap.size + 2, 0, none⟩ (.int .i64 rs)).setCell ⟨w.heap.size + 2, 1, none⟩ (.int .i64 cs)).setCell ⟨w.heap.size + 2, 2, none⟩ (.int .i64 n)).setCell ⟨w.heap.size + 2, 3, none⟩ (.slice (some ⟨g2, 0, none⟩) rq rq)).putObj D (.deferred none)) g2 rq (T.map (cln · n)) := by
            have h1 := (((hO4.out.setOther (p := ⟨w.heap.size + 2, 0, none⟩) hgne (.int .i64 rs)).setOther (p := ⟨w.heap.size + 2, 1, none⟩) hgne (.int .i64 cs)).setOther (p := ⟨w.heap.size + 2, 2, none⟩) hgne (.int .i64 n)).setOther (p := ⟨w.heap.size + 2, 3, none⟩) hgne (.slice (some ⟨g2, 0, none⟩) rq rq)
            obtain ⟨cur, hc, rest⟩ := h1
            exact ⟨cur, (World.putObj_heap_other (Ne.symm hDg)).trans hc, rest⟩
          have hB5 : Bl w (((((w4.setCell ⟨w.heap.size + 2, 0, none⟩ (.int .i64 rs)).setCell ⟨w.heap.size + 2, 1, none⟩ (.int .i64 cs)).setCell ⟨w.heap.size + 2, 2, none⟩ (.int .i64 n)).setCell ⟨w.heap.size + 2, 3, none⟩ (.slice (some ⟨g2, 0, none⟩) rq rq)).putObj D (.deferred none)) := by
            have hG5 := hG4.out
            have h1 : Bl w w4 := ⟨⟨hG5.os.trans HKZ.out.os, hG5.tape.trans HKZ.out.tape, hG5.output.trans HKZ.out.output, Nat.le_trans HKZ.out.size hG5.size, fun i hi => (hG5.block i (by omega) (by simp; omega)).trans (HKZ.out.block i hi)⟩⟩
            have h2 := (((h1.setCell (p := ⟨w.heap.size + 2, 0, none⟩) (by simp) (.int .i64 rs)).setCell (p := ⟨w.heap.size + 2, 1, none⟩) (by simp) (.int .i64 cs)).setCell (p := ⟨w.heap.size + 2, 2, none⟩) (by simp) (.int .i64 n)).setCell (p := ⟨w.heap.size + 2, 3, none⟩) (by simp) (.slice (some ⟨g2, 0, none⟩) rq rq)
            exact ⟨h2.below.trans (belowK_b (w := w) (Nat.le_refl _) _ D _ _ (by omega) hK5 rfl rfl)⟩
          refine ⟨by simp, .inl ⟨_, _, rfl, run_takeDeferred hK5, ?_⟩⟩
          exact ⟨.tuple #[.agg #[.int .i64 rs, .int .i64 cs, .int .i64 n, .slice (some ⟨g2, 0, none⟩) rq rq], .int .i64 0], by simp [results, Try.f24, go_sem, p0, p1, p2, p3], g2, rfl, hg2z, by rw [← HT.out]; exact hO5, hB5⟩
    case stop =>
      rintro D c pre W _ _ h _
      exact h.elim
end Go.Proofs.Ytijmjnmimijfdab
