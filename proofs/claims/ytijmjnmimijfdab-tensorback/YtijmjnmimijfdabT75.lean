/- The calls of TensorBack, and that each chain of them brings the elements back. -/
import Derived.Test.YtijmjnmimijfdabT74
import Derived.Test.YtijmjnmimijfdabT6
import Derived.Test.YtijmjnmimijfdabT43
import Derived.Test.YtijmjnmimijfdabT32
namespace Go.Proofs.Ytijmjnmimijfdab
open Go.ChangeShapes Go.WideShapes Go.ChangeAt Go.RowKit
set_option linter.unusedVariables false
set_option linter.unusedSimpArgs false

/-- A list of elements, where it lies. -/
structure Mi (W : World) (M : List Int) (b off cap : Nat) : Prop where
  lt : b < W.heap.size
  rd : Reads W b off M
  sl : Sl W (.slice (some ⟨b, off, none⟩) M.length cap) M
  cp : M.length ≤ cap
theorem Mi.bl {W u : World} {M : List Int} {b off cap : Nat} (h : Mi W M b off cap) (k : Bl W u) : Mi u M b off cap := ⟨Nat.lt_of_lt_of_le h.lt k.size, h.rd.bl h.lt k, h.sl.bl k, h.cp⟩
theorem mi_own {u : World} {M : List Int} {g cap : Nat} (ho : Own u g cap M) : Mi u M g 0 cap := by
  have hg := ho.lt
  have h1 := ho.slTake M.length (Nat.le_refl _)
  have h2 := ho.reads
  rw [List.take_length] at h1
  obtain ⟨cur, -, x, -⟩ := ho
  exact ⟨hg, h2, h1, x⟩

/-- A list whose elements are told as those of M are is M, told. -/
theorem back_list {n : Int} {M T X : List Int} (hn : n = 64 ∨ n = 32) (hX : T = X.map (cln · n)) (hT : T.length = M.length) (h : ∀ i, i < M.length → cln (M.getD i 0) n = cln (T.getD i 0) n) : T = M.map (cln · n) := by
  have e1 := lst_self T
  have e2 := lst_self (M.map (cln · n))
  rw [List.length_map] at e2
  rw [hT] at e1
  refine e1.symm.trans ((lst_ext _ _ _ fun i hi => ?_).trans e2)
  show T.getD i 0 = (M.map (cln · n)).getD i 0
  rw [map_getD _ _ _ hi, h i hi]
  have hi' : i < X.length := by rw [← hT, hX, List.length_map] at hi; exact hi
  rw [hX, map_getD _ _ _ hi', cln_idem _ _ hn]

/-- The elements told are in form too, in any form of as many. -/
theorem Mf.told {R C : Nat} {n : Int} {M : List Int} (h : Mf R C n M) (r c : Nat) (hr : 0 < r) (hc : 0 < c) (he : r * c = R * C) : Mf r c n (M.map (cln · n)) := by
  have := h.pick r c (r * c) hr hc (by rw [he]; exact h.hRC) rfl (fun j => M.getD j 0) (fun j => j) (fun j hj => ⟨rfl, by rw [← he]; exact hj⟩)
  have e : lst (r * c) (fun j => M.getD j 0) = M := by rw [he, ← h.hML]; exact lst_self M
  rw [e] at this
  exact this
theorem Mf.swap {R C : Nat} {n : Int} {M : List Int} (h : Mf R C n M) : Mf C R n ((lst (R * C) (trf M R C)).map (cln · n)) := h.pick C R (R * C) h.hC h.hR (by rw [Nat.mul_comm]; exact h.hRC) (Nat.mul_comm _ _) _ (fun j => (j % R) * C + j / R) (fun j hj => ⟨rfl, row_lt (j % R) R C (j / R) (Nat.mod_lt _ h.hR) (Nat.div_lt_of_lt_mul hj)⟩)
theorem new8 (w : World) (a0 a1 a2 a3 a4 a5 a6 a7 : Value) (t : TypeId) : M4 (w.alloc (.cells #[a0, a1, a2, a3, a4, a5, a6, a7] t)) w.heap.size a0 a1 a2 a3 ∧ (w.alloc (.cells #[a0, a1, a2, a3, a4, a5, a6, a7] t)).cell? ⟨w.heap.size, 4, none⟩ = some a4 ∧ (w.alloc (.cells #[a0, a1, a2, a3, a4, a5, a6, a7] t)).cell? ⟨w.heap.size, 5, none⟩ = some a5 ∧ (w.alloc (.cells #[a0, a1, a2, a3, a4, a5, a6, a7] t)).cell? ⟨w.heap.size, 6, none⟩ = some a6 ∧ (w.alloc (.cells #[a0, a1, a2, a3, a4, a5, a6, a7] t)).cell? ⟨w.heap.size, 7, none⟩ = some a7 ∧ w.heap.size < (w.alloc (.cells #[a0, a1, a2, a3, a4, a5, a6, a7] t)).heap.size :=
  ⟨⟨by simp [go_sem], by simp [go_sem], by simp [go_sem], by simp [go_sem]⟩, by simp [go_sem], by simp [go_sem], by simp [go_sem], by simp [go_sem], by simp [go_sem]⟩
theorem z0 : ((0 : Nat) : Int) = 0 := rfl
theorem z2 : ((2 : Nat) : Int) = 2 := rfl
theorem z3 : ((3 : Nat) : Int) = 3 := rfl

theorem tb_t1 (R C rc : Nat) (n : Int) (M : List Int) (h : Mf R C n M) (hrc : R * C = rc) (bb off cap : Nat) (u : World) (hi : Mi u M bb off cap) : Calls Try.prog 18 #[.agg #[.int .i64 R, .int .i64 C, .int .i64 n, .slice (some ⟨bb, off, none⟩) rc cap]] u fun e w' => ∃ g, e = .returned (.tuple #[.agg #[.int .i64 C, .int .i64 R, .int .i64 n, .slice (some ⟨g, 0, none⟩) rc rc], .int .i64 0]) ∧ Own w' g rc ((lst rc (trf M R C)).map (cln · n)) ∧ Bl u w' := by
  subst hrc
  exact (turn_ok R C n h.hn h.hR h.hC h.hRC M h.hML h.hRg h.ck bb off cap (by have := hi.cp; rw [h.hML] at this; exact this) u hi.lt hi.rd hi.sl).mono fun e w' ⟨g, he, _, ho, hb⟩ => ⟨g, he, ho, hb⟩

theorem tb_t2 (R C rc : Nat) (n : Int) (M : List Int) (h : Mf R C n M) (hrc : R * C = rc) (g1 : Nat) (u : World) (hi : Mi u ((lst rc (trf M R C)).map (cln · n)) g1 0 rc) : Calls Try.prog 18 #[.agg #[.int .i64 C, .int .i64 R, .int .i64 n, .slice (some ⟨g1, 0, none⟩) rc rc]] u fun e w' => ∃ g, e = .returned (.tuple #[.agg #[.int .i64 R, .int .i64 C, .int .i64 n, .slice (some ⟨g, 0, none⟩) rc rc], .int .i64 0]) ∧ Own w' g rc (M.map (cln · n)) ∧ Bl u w' := by
  subst hrc
  have F := h.swap
  have t := turn_ok C R n F.hn F.hR F.hC F.hRC _ F.hML F.hRg F.ck g1 0 (R * C) (by rw [Nat.mul_comm]; exact Nat.le_refl _) u hi.lt hi.rd hi.sl
  have e := back_list (M := M) (T := (lst (C * R) (trf ((lst (R * C) (trf M R C)).map (cln · n)) C R)).map (cln · n)) h.hn rfl (by rw [List.length_map, lst_length, h.hML, Nat.mul_comm]) (fun i hi => back_turn R C n h.hn h.hR h.hC M h.hML i (by rw [← h.hML]; exact hi))
  rw [e, show C * R = R * C from Nat.mul_comm _ _] at t
  exact t.mono fun e w' ⟨g, he, _, ho, hb⟩ => ⟨g, he, ho, hb⟩

theorem tb_f1 (R C rc : Nat) (n : Int) (M : List Int) (h : Mf R C n M) (hrc : R * C = rc) (bb off cap : Nat) (u : World) (hi : Mi u M bb off cap) : Calls Try.prog 19 #[.agg #[.int .i64 R, .int .i64 C, .int .i64 n, .slice (some ⟨bb, off, none⟩) rc cap], .int .i64 1, .int .i64 rc] u fun e w' => ∃ g, e = .returned (.tuple #[.agg #[.int .i64 1, .int .i64 rc, .int .i64 n, .slice (some ⟨g, 0, none⟩) rc rc], .int .i64 0]) ∧ Own w' g rc (M.map (cln · n)) ∧ Bl u w' := by
  subst hrc
  exact (form_ok R C 1 (R * C) n h.hn (by omega) (Nat.mul_pos h.hR h.hC) h.hRC (by omega) M h.hML h.hRg h.ck bb off cap (by have := hi.cp; rw [h.hML] at this; exact this) u hi.lt hi.rd hi.sl).mono fun e w' ⟨g, he, _, ho, hb⟩ => ⟨g, he, ho, hb.bl⟩

theorem tb_f2 (R C rc : Nat) (n : Int) (M : List Int) (h : Mf R C n M) (hrc : R * C = rc) (g1 : Nat) (u : World) (hi : Mi u (M.map (cln · n)) g1 0 rc) : Calls Try.prog 19 #[.agg #[.int .i64 1, .int .i64 rc, .int .i64 n, .slice (some ⟨g1, 0, none⟩) rc rc], .int .i64 R, .int .i64 C] u fun e w' => ∃ g, e = .returned (.tuple #[.agg #[.int .i64 R, .int .i64 C, .int .i64 n, .slice (some ⟨g, 0, none⟩) rc rc], .int .i64 0]) ∧ Own w' g rc (M.map (cln · n)) ∧ Bl u w' := by
  subst hrc
  have F := h.told 1 (R * C) (by omega) (Nat.mul_pos h.hR h.hC) (by omega)
  have t := form_ok 1 (R * C) R C n h.hn h.hR h.hC F.hRC (by omega) _ F.hML F.hRg F.ck g1 0 (R * C) (by omega) u hi.lt hi.rd hi.sl
  rw [List.map_map, show ((cln · n) ∘ (cln · n)) = (cln · n) from funext fun x => cln_idem x n h.hn, Nat.one_mul] at t
  exact t.mono fun e w' ⟨g, he, _, ho, hb⟩ => ⟨g, he, ho, hb.bl⟩

theorem tb_s (R C rc : Nat) (n : Int) (M : List Int) (h : Mf R C n M) (hrc : R * C = rc) (bb off cap : Nat) (g1 : Nat) (u : World) (hi : Mi u M bb off cap) (hj : Mi u (M.map (cln · n)) g1 0 rc) : Calls Try.prog 9 #[.agg #[.int .i64 R, .int .i64 C, .int .i64 n, .slice (some ⟨bb, off, none⟩) rc cap], .agg #[.int .i64 R, .int .i64 C, .int .i64 n, .slice (some ⟨g1, 0, none⟩) rc rc]] u fun e w' => e = .returned (.bool true) ∧ Bl u w' := by
  subst hrc
  have F := h.told R C h.hR h.hC rfl
  exact same_ok R C n h.hn h.hR h.hC h.hRC M _ h.hML F.hML h.hRg F.hRg (fun i hi => by rw [map_getD _ _ _ (by rw [h.hML]; exact hi), cln_idem _ _ h.hn]) h.ck F.ck bb off cap g1 0 (R * C) (by have := hi.cp; rw [h.hML] at this; exact this) (Nat.le_refl _) u hi.lt hj.lt hi.rd hj.rd hi.sl hj.sl

theorem tb_c1 (R C rc : Nat) (n : Int) (M : List Int) (h : Mf R C n M) (hrc : R * C = rc) (k d z0 z1 : Nat) (hkd : k + d = C) (hk : 0 < k) (hd : 0 < d) (hz0 : R * k = z0) (hz1 : R * d = z1) (bb off cap : Nat) (u : World) (hi : Mi u M bb off cap) : Calls Try.prog 20 #[.agg #[.int .i64 R, .int .i64 C, .int .i64 n, .slice (some ⟨bb, off, none⟩) rc cap], .int .i64 0, .int .i64 k] u fun e w' => ∃ g, e = .returned (.tuple #[.agg #[.int .i64 R, .int .i64 k, .int .i64 n, .slice (some ⟨g, 0, none⟩) z0 z0], .int .i64 0]) ∧ Own w' g z0 ((lst z0 (ctf M C 0 0 k)).map (cln · n)) ∧ Bl u w' := by
  subst hrc hz0 hz1
  have t := cutCols_ok R C 0 k n h.hn h.hR hk (by omega) h.hRC M h.hML h.hRg h.ck bb off cap (by have := hi.cp; rw [h.hML] at this; exact this) u hi.lt hi.rd hi.sl
  rw [Nat.sub_zero, z0] at t
  exact t.mono fun e w' ⟨g, he, _, ho, hb⟩ => ⟨g, he, ho, hb⟩

theorem tb_c2 (R C rc : Nat) (n : Int) (M : List Int) (h : Mf R C n M) (hrc : R * C = rc) (k d z0 z1 : Nat) (hkd : k + d = C) (hk : 0 < k) (hd : 0 < d) (hz0 : R * k = z0) (hz1 : R * d = z1) (bb off cap : Nat) (u : World) (hi : Mi u M bb off cap) : Calls Try.prog 20 #[.agg #[.int .i64 R, .int .i64 C, .int .i64 n, .slice (some ⟨bb, off, none⟩) rc cap], .int .i64 k, .int .i64 C] u fun e w' => ∃ g, e = .returned (.tuple #[.agg #[.int .i64 R, .int .i64 d, .int .i64 n, .slice (some ⟨g, 0, none⟩) z1 z1], .int .i64 0]) ∧ Own w' g z1 ((lst z1 (ctf M C 0 k d)).map (cln · n)) ∧ Bl u w' := by
  subst hrc hz0 hz1
  have t := cutCols_ok R C k C n h.hn h.hR (by omega) (Nat.le_refl _) h.hRC M h.hML h.hRg h.ck bb off cap (by have := hi.cp; rw [h.hML] at this; exact this) u hi.lt hi.rd hi.sl
  rw [show C - k = d by omega] at t
  exact t.mono fun e w' ⟨g, he, _, ho, hb⟩ => ⟨g, he, ho, hb⟩

set_option maxHeartbeats 1000000 in
theorem tb_c3 (R C rc : Nat) (n : Int) (M : List Int) (h : Mf R C n M) (hrc : R * C = rc) (k d z0 z1 : Nat) (hkd : k + d = C) (hk : 0 < k) (hd : 0 < d) (hz0 : R * k = z0) (hz1 : R * d = z1) (B ga gb : Nat) (u : World) (hB : B < u.heap.size) (c0 : u.cell? ⟨B, 0, none⟩ = some (.int .i64 R)) (c1 : u.cell? ⟨B, 1, none⟩ = some (.int .i64 k)) (c2 : u.cell? ⟨B, 2, none⟩ = some (.int .i64 n)) (c3 : u.cell? ⟨B, 3, none⟩ = some (.slice (some ⟨ga, 0, none⟩) z0 z0)) (c4 : u.cell? ⟨B, 4, none⟩ = some (.int .i64 R)) (c5 : u.cell? ⟨B, 5, none⟩ = some (.int .i64 d)) (c6 : u.cell? ⟨B, 6, none⟩ = some (.int .i64 n)) (c7 : u.cell? ⟨B, 7, none⟩ = some (.slice (some ⟨gb, 0, none⟩) z1 z1)) (oa : Own u ga z0 ((lst z0 (ctf M C 0 0 k)).map (cln · n))) (ob : Own u gb z1 ((lst z1 (ctf M C 0 k d)).map (cln · n))) : Calls Try.prog 21 #[.slice (some ⟨B, 0, none⟩) 2 2] u fun e w' => ∃ g, e = .returned (.tuple #[.agg #[.int .i64 R, .int .i64 C, .int .i64 n, .slice (some ⟨g, 0, none⟩) rc rc], .int .i64 0]) ∧ Own w' g rc (M.map (cln · n)) ∧ Bl u w' := by
  have hR4 : R ≤ 4096 := Nat.le_trans (Nat.le_mul_of_pos_right R h.hC) h.hRC
  have hC4 : C ≤ 4096 := Nat.le_trans (Nat.le_mul_of_pos_left C h.hR) h.hRC
  have hRk : R * k ≤ 4096 := Nat.le_trans (Nat.mul_le_mul_left R (by omega)) h.hRC
  have hRd : R * d ≤ 4096 := Nat.le_trans (Nat.mul_le_mul_left R (by omega)) h.hRC
  have FA : Mf R k n ((lst z0 (ctf M C 0 0 k)).map (cln · n)) := h.pick R k z0 h.hR hk hRk hz0.symm _ (fun j => (0 + j / k) * C + (0 + j % k)) (fun j hj => ⟨rfl, by rw [Nat.zero_add, Nat.zero_add]; exact row_lt (j / k) R C (j % k) (Nat.div_lt_of_lt_mul (by rw [Nat.mul_comm, hz0]; exact hj)) (Nat.lt_of_lt_of_le (Nat.mod_lt _ hk) (by omega))⟩)
  have FB : Mf R d n ((lst z1 (ctf M C 0 k d)).map (cln · n)) := h.pick R d z1 h.hR hd hRd hz1.symm _ (fun j => (0 + j / d) * C + (k + j % d)) (fun j hj => ⟨rfl, by rw [Nat.zero_add]; exact row_lt (j / d) R C (k + j % d) (Nat.div_lt_of_lt_mul (by rw [Nat.mul_comm, hz1]; exact hj)) (by have := Nat.mod_lt j hd; omega)⟩)
  obtain ⟨LA, hLA⟩ : ∃ L, L = (lst z0 (ctf M C 0 0 k)).map (cln · n) := ⟨_, rfl⟩
  obtain ⟨LB, hLB⟩ : ∃ L, L = (lst z1 (ctf M C 0 k d)).map (cln · n) := ⟨_, rfl⟩
  rw [← hLA] at oa FA
  rw [← hLB] at ob FB
  have la : LA.length = z0 := by rw [FA.hML, hz0]
  have lb : LB.length = z1 := by rw [FB.hML, hz1]
  have hLm : Lm u B 0 2 (fun i => if i = 0 then (R : Int) else R) (fun i => if i = 0 then (k : Int) else d) (fun _ => n) (fun i => if i = 0 then some ⟨ga, 0, none⟩ else some ⟨gb, 0, none⟩) (fun i => if i = 0 then z0 else z1) (fun i => if i = 0 then LA else LB) := by
    refine ⟨hB, fun i hi => ?_, fun i hi => ?_⟩
    · rcases (show i = 0 ∨ i = 1 by omega) with rfl | rfl
      · exact ⟨c0, c1, c2, by rw [if_pos rfl, if_pos rfl, if_pos rfl, la]; exact c3⟩
      · exact ⟨c4, c5, c6, by rw [if_neg (by omega), if_neg (by omega), if_neg (by omega), lb]; exact c7⟩
    · rcases (show i = 0 ∨ i = 1 by omega) with rfl | rfl
      · exact (mi_own oa).sl
      · exact (mi_own ob).sl
  obtain ⟨D, hD0, hD1, hDi⟩ : ∃ D : Nat → Nat, D 0 = k ∧ D 1 = d ∧ ∀ i, (D i : Int) = if i = 0 then (k : Int) else d := ⟨fun i => if i = 0 then k else d, rfl, rfl, fun i => by dsimp only; split <;> rfl⟩
  obtain ⟨L, hL, hL0, hL1⟩ : ∃ L : Nat → List Int, L = (fun i => if i = 0 then LA else LB) ∧ L 0 = LA ∧ L 1 = LB := ⟨_, rfl, rfl, rfl⟩
  rw [← hL] at hLm
  have hLm' := hLm.congr (r' := fun _ => (R : Int)) (c' := fun i => (D i : Int)) (n' := fun _ => n) (fun i _ => by split <;> rfl) (fun i _ => (hDi i).symm) (fun _ _ => rfl)
  have hs : sm (fun i => (D i : Int)) 2 = (C : Int) := by show 0 + (D 0 : Int) + (D 1 : Int) = C; rw [hD0, hD1]; omega
  have hrow : ∀ r, r < R → (rwA D L 2 r).length = C := fun r _ => by
    show (catL (rwL D L r) 2).length = C
    rw [cat_two, List.length_append, rwL_length, rwL_length, hD0, hD1, hkd]
  have hlen := catL_lenC (rwA D L 2) C R hrow
  have t := glueCols_ok B 0 2 2 R (by omega) (by omega) hR4 n D _ _ L (fun i hi => by rcases (show i = 0 ∨ i = 1 by omega) with rfl | rfl; (rw [hD0]; exact ⟨hk, by omega, hRk⟩); (rw [hD1]; exact ⟨hd, by omega, hRd⟩)) u hLm' (fun i hi => by rcases (show i = 0 ∨ i = 1 by omega) with rfl | rfl; (rw [hD0, hL0]; exact FA.ck); (rw [hD1, hL1]; exact FB.ck)) (Or.inr (Or.inr ⟨fun _ _ => rfl, fun _ _ => rfl, by
      rw [hs]
      have := ckS_mk h.hn h.hR h.hC h.hRC
      unfold ckS at this
      rw [if_neg (fun q => q h.hn)] at this
      split at this
      · omega
      · exact this.symm, fun _ => ⟨rfl, rfl, rfl⟩, fun q => absurd rfl q⟩)) (fun i hi => by rcases (show i = 0 ∨ i = 1 by omega) with rfl | rfl; (rw [hD0, hL0]; exact FA.hML); (rw [hD1, hL1]; exact FB.hML)) h.hR (fun i hi => by rcases (show i = 0 ∨ i = 1 by omega) with rfl | rfl; (rw [hL0]; exact FA.hRg); (rw [hL1]; exact FB.hRg)) h.hn (by rw [hs, hlen]; simp) (by rw [hlen]; exact h.hRC)
  have e := back_list (M := M) (T := (catL (rwA D L 2) R).map (cln · n)) h.hn rfl (by rw [List.length_map, hlen, h.hML]) (fun i hi => back_cols R C k n h.hn hk (by omega) M h.hML D hD0 (by rw [hD1]; omega) L (by rw [hL0, hLA, Nat.sub_zero, hz0]) (by rw [hL1, hLB, show C - k = d by omega, hz1]) i (by rw [← h.hML]; exact hi))
  rw [e, hs, hlen, hrc] at t
  exact t.mono fun e w' ⟨g, he, _, ho, hb⟩ => ⟨g, he, ho, hb.bl⟩

theorem tb_r1 (R C rc : Nat) (n : Int) (M : List Int) (h : Mf R C n M) (hrc : R * C = rc) (k d z0 z1 : Nat) (hkd : k + d = R) (hk : 0 < k) (hd : 0 < d) (hz0 : k * C = z0) (hz1 : d * C = z1) (bb off cap : Nat) (u : World) (hi : Mi u M bb off cap) : Calls Try.prog 22 #[.agg #[.int .i64 R, .int .i64 C, .int .i64 n, .slice (some ⟨bb, off, none⟩) rc cap], .int .i64 0, .int .i64 k] u fun e w' => ∃ g, e = .returned (.tuple #[.agg #[.int .i64 k, .int .i64 C, .int .i64 n, .slice (some ⟨g, 0, none⟩) z0 z0], .int .i64 0]) ∧ Own w' g z0 ((lst z0 (ctf M C 0 0 C)).map (cln · n)) ∧ Bl u w' := by
  subst hrc hz0 hz1
  have t := cutRows_ok R C 0 k n h.hn h.hC hk (by omega) h.hRC M h.hML h.hRg h.ck bb off cap (by have := hi.cp; rw [h.hML] at this; exact this) u hi.lt hi.rd hi.sl
  rw [Nat.sub_zero, z0] at t
  exact t.mono fun e w' ⟨g, he, _, ho, hb⟩ => ⟨g, he, ho, hb.bl⟩

theorem tb_r2 (R C rc : Nat) (n : Int) (M : List Int) (h : Mf R C n M) (hrc : R * C = rc) (k d z0 z1 : Nat) (hkd : k + d = R) (hk : 0 < k) (hd : 0 < d) (hz0 : k * C = z0) (hz1 : d * C = z1) (bb off cap : Nat) (u : World) (hi : Mi u M bb off cap) : Calls Try.prog 22 #[.agg #[.int .i64 R, .int .i64 C, .int .i64 n, .slice (some ⟨bb, off, none⟩) rc cap], .int .i64 k, .int .i64 R] u fun e w' => ∃ g, e = .returned (.tuple #[.agg #[.int .i64 d, .int .i64 C, .int .i64 n, .slice (some ⟨g, 0, none⟩) z1 z1], .int .i64 0]) ∧ Own w' g z1 ((lst z1 (ctf M C k 0 C)).map (cln · n)) ∧ Bl u w' := by
  subst hrc hz0 hz1
  have t := cutRows_ok R C k R n h.hn h.hC (by omega) (Nat.le_refl _) h.hRC M h.hML h.hRg h.ck bb off cap (by have := hi.cp; rw [h.hML] at this; exact this) u hi.lt hi.rd hi.sl
  rw [show R - k = d by omega] at t
  exact t.mono fun e w' ⟨g, he, _, ho, hb⟩ => ⟨g, he, ho, hb.bl⟩

set_option maxHeartbeats 1000000 in
theorem tb_r3 (R C rc : Nat) (n : Int) (M : List Int) (h : Mf R C n M) (hrc : R * C = rc) (k d z0 z1 : Nat) (hkd : k + d = R) (hk : 0 < k) (hd : 0 < d) (hz0 : k * C = z0) (hz1 : d * C = z1) (B ga gb : Nat) (u : World) (hB : B < u.heap.size) (c0 : u.cell? ⟨B, 0, none⟩ = some (.int .i64 k)) (c1 : u.cell? ⟨B, 1, none⟩ = some (.int .i64 C)) (c2 : u.cell? ⟨B, 2, none⟩ = some (.int .i64 n)) (c3 : u.cell? ⟨B, 3, none⟩ = some (.slice (some ⟨ga, 0, none⟩) z0 z0)) (c4 : u.cell? ⟨B, 4, none⟩ = some (.int .i64 d)) (c5 : u.cell? ⟨B, 5, none⟩ = some (.int .i64 C)) (c6 : u.cell? ⟨B, 6, none⟩ = some (.int .i64 n)) (c7 : u.cell? ⟨B, 7, none⟩ = some (.slice (some ⟨gb, 0, none⟩) z1 z1)) (oa : Own u ga z0 ((lst z0 (ctf M C 0 0 C)).map (cln · n))) (ob : Own u gb z1 ((lst z1 (ctf M C k 0 C)).map (cln · n))) : Calls Try.prog 23 #[.slice (some ⟨B, 0, none⟩) 2 2] u fun e w' => ∃ g, e = .returned (.tuple #[.agg #[.int .i64 R, .int .i64 C, .int .i64 n, .slice (some ⟨g, 0, none⟩) rc rc], .int .i64 0]) ∧ Own w' g rc (M.map (cln · n)) ∧ Bl u w' := by
  have hR4 : R ≤ 4096 := Nat.le_trans (Nat.le_mul_of_pos_right R h.hC) h.hRC
  have hC4 : C ≤ 4096 := Nat.le_trans (Nat.le_mul_of_pos_left C h.hR) h.hRC
  have hkC : k * C ≤ 4096 := Nat.le_trans (Nat.mul_le_mul_right C (by omega)) h.hRC
  have hdC : d * C ≤ 4096 := Nat.le_trans (Nat.mul_le_mul_right C (by omega)) h.hRC
  have FA : Mf k C n ((lst z0 (ctf M C 0 0 C)).map (cln · n)) := h.pick k C z0 hk h.hC hkC hz0.symm _ (fun j => (0 + j / C) * C + (0 + j % C)) (fun j hj => ⟨rfl, by rw [Nat.zero_add, Nat.zero_add]; exact row_lt (j / C) R C (j % C) (Nat.lt_of_lt_of_le (Nat.div_lt_of_lt_mul (by rw [Nat.mul_comm, hz0]; exact hj)) (by omega)) (Nat.mod_lt _ h.hC)⟩)
  have FB : Mf d C n ((lst z1 (ctf M C k 0 C)).map (cln · n)) := h.pick d C z1 hd h.hC hdC hz1.symm _ (fun j => (k + j / C) * C + (0 + j % C)) (fun j hj => ⟨rfl, by rw [Nat.zero_add]; exact row_lt (k + j / C) R C (j % C) (by have := Nat.div_lt_of_lt_mul (show j < C * d by rw [Nat.mul_comm, hz1]; exact hj); omega) (Nat.mod_lt _ h.hC)⟩)
  obtain ⟨LA, hLA⟩ : ∃ L, L = (lst z0 (ctf M C 0 0 C)).map (cln · n) := ⟨_, rfl⟩
  obtain ⟨LB, hLB⟩ : ∃ L, L = (lst z1 (ctf M C k 0 C)).map (cln · n) := ⟨_, rfl⟩
  rw [← hLA] at oa FA
  rw [← hLB] at ob FB
  have la : LA.length = z0 := by rw [FA.hML, hz0]
  have lb : LB.length = z1 := by rw [FB.hML, hz1]
  have hLm : Lm u B 0 2 (fun i => if i = 0 then (k : Int) else d) (fun i => if i = 0 then (C : Int) else C) (fun _ => n) (fun i => if i = 0 then some ⟨ga, 0, none⟩ else some ⟨gb, 0, none⟩) (fun i => if i = 0 then z0 else z1) (fun i => if i = 0 then LA else LB) := by
    refine ⟨hB, fun i hi => ?_, fun i hi => ?_⟩
    · rcases (show i = 0 ∨ i = 1 by omega) with rfl | rfl
      · exact ⟨c0, c1, c2, by rw [if_pos rfl, if_pos rfl, if_pos rfl, la]; exact c3⟩
      · exact ⟨c4, c5, c6, by rw [if_neg (by omega), if_neg (by omega), if_neg (by omega), lb]; exact c7⟩
    · rcases (show i = 0 ∨ i = 1 by omega) with rfl | rfl
      · exact (mi_own oa).sl
      · exact (mi_own ob).sl
  have hLm1 := hLm.congr (r' := fun i => if i = 0 then (k : Int) else d) (c' := fun _ => (C : Int)) (n' := fun _ => n) (fun _ _ => rfl) (fun i _ => by split <;> rfl) (fun _ _ => rfl)
  obtain ⟨r, hr, hr0, hr1⟩ : ∃ r : Nat → Int, r = (fun i => if i = 0 then (k : Int) else d) ∧ r 0 = k ∧ r 1 = d := ⟨_, rfl, rfl, rfl⟩
  obtain ⟨L, hL, hL0, hL1⟩ : ∃ L : Nat → List Int, L = (fun i => if i = 0 then LA else LB) ∧ L 0 = LA ∧ L 1 = LB := ⟨_, rfl, rfl, rfl⟩
  rw [← hL, ← hr] at hLm1
  have hs : sm r 2 = (R : Int) := by show 0 + r 0 + r 1 = R; rw [hr0, hr1]; omega
  have hlen : (catL L 2).length = R * C := by rw [cat_two, List.length_append, hL0, hL1, la, lb, ← hz0, ← hz1, ← Nat.add_mul, hkd]
  have t := glueRows_ok B 0 2 2 (by omega) (by omega) r (fun _ => (C : Int)) (fun _ => n) _ _ L (fun i hi => by rcases (show i = 0 ∨ i = 1 by omega) with rfl | rfl; (rw [hr0]; omega); (rw [hr1]; omega)) u hLm1 (fun i hi => by rcases (show i = 0 ∨ i = 1 by omega) with rfl | rfl; (rw [hr0, hL0]; exact FA.ck); (rw [hr1, hL1]; exact FB.ck)) (Or.inr (Or.inr ⟨fun _ _ => rfl, fun _ _ => rfl, by
      rw [hs]
      have := ckS_mk h.hn h.hC h.hR (by rw [Nat.mul_comm]; exact h.hRC)
      unfold ckS at this
      rw [if_neg (fun q => q h.hn)] at this
      split at this
      · omega
      · exact this.symm, fun _ => ⟨rfl, rfl, rfl⟩, fun q => absurd rfl q⟩)) (fun i hi => by rcases (show i = 0 ∨ i = 1 by omega) with rfl | rfl; (rw [hL0]; intro q; rw [q] at la; simp at la; have := Nat.mul_pos hk h.hC; omega); (rw [hL1]; intro q; rw [q] at lb; simp at lb; have := Nat.mul_pos hd h.hC; omega)) (fun i hi => by rcases (show i = 0 ∨ i = 1 by omega) with rfl | rfl; (rw [hL0]; exact FA.hRg); (rw [hL1]; exact FB.hRg)) h.hn (by rw [hs, hlen]; simp) (by rw [hlen]; exact h.hRC)
  have e := back_list (M := M) (T := (catL L 2).map (cln · n)) h.hn rfl (by rw [List.length_map, hlen, h.hML]) (fun i hi => back_rows R C k n h.hn h.hC (by omega) M h.hML L (by rw [hL0, hLA, Nat.sub_zero, hz0]) (by rw [hL1, hLB, show R - k = d by omega, hz1]) i (by rw [← h.hML]; exact hi))
  rw [hs, hlen, hrc] at t
  rw [e] at t
  exact t.mono fun e w' ⟨g, he, _, ho, hb⟩ => ⟨g, he, ho, hb.bl⟩

theorem tb_x1 (R C rc : Nat) (n : Int) (M : List Int) (h : Mf R C n M) (hrc : R * C = rc) (z3 : Nat) (hR1 : R = 1) (h3 : 3 * C = z3) (h4 : z3 ≤ 4096) (bb off cap : Nat) (u : World) (hi : Mi u M bb off cap) : Calls Try.prog 24 #[.agg #[.int .i64 R, .int .i64 C, .int .i64 n, .slice (some ⟨bb, off, none⟩) rc cap], .int .i64 3, .int .i64 C] u fun e w' => ∃ g, e = .returned (.tuple #[.agg #[.int .i64 3, .int .i64 C, .int .i64 n, .slice (some ⟨g, 0, none⟩) z3 z3], .int .i64 0]) ∧ Own w' g z3 ((lst z3 (stf M R C C)).map (cln · n)) ∧ Bl u w' := by
  subst hrc h3
  have t := stretch_ok R C 3 C n h.hn h.hR h.hC h.hRC (Or.inr ⟨hR1, by omega⟩) (Or.inl rfl) h4 M h.hML h.hRg h.ck bb off cap (by have := hi.cp; rw [h.hML] at this; exact this) u hi.lt hi.rd hi.sl
  rw [z3] at t
  exact t.mono fun e w' ⟨g, he, _, ho, hb⟩ => ⟨g, he, ho, hb⟩

theorem tb_x2 (R C rc : Nat) (n : Int) (M : List Int) (h : Mf R C n M) (hrc : R * C = rc) (z3 : Nat) (hR1 : R = 1) (h3 : 3 * C = z3) (h4 : z3 ≤ 4096) (g1 : Nat) (u : World) (hi : Mi u ((lst z3 (stf M R C C)).map (cln · n)) g1 0 z3) : Calls Try.prog 22 #[.agg #[.int .i64 3, .int .i64 C, .int .i64 n, .slice (some ⟨g1, 0, none⟩) z3 z3], .int .i64 2, .int .i64 3] u fun e w' => ∃ g, e = .returned (.tuple #[.agg #[.int .i64 R, .int .i64 C, .int .i64 n, .slice (some ⟨g, 0, none⟩) rc rc], .int .i64 0]) ∧ Own w' g rc (M.map (cln · n)) ∧ Bl u w' := by
  subst hR1 h3
  have hC1 : 1 * C = C := Nat.one_mul C
  have F : Mf 3 C n ((lst (3 * C) (stf M 1 C C)).map (cln · n)) := h.pick 3 C (3 * C) (by omega) h.hC h4 rfl _ (fun j => (if 1 = 1 then 0 else j / C) * C + (if C = 1 then 0 else j % C)) (fun j hj => ⟨rfl, by
    rw [if_pos rfl, Nat.zero_mul, Nat.zero_add, hC1]
    split
    · exact h.hC
    · exact Nat.mod_lt _ h.hC⟩)
  have t := cutRows_ok 3 C 2 3 n h.hn h.hC (by omega) (by omega) h4 _ F.hML F.hRg F.ck g1 0 (3 * C) (Nat.le_refl _) u hi.lt hi.rd hi.sl
  have e := back_list (M := M) (T := (lst ((3 - 2) * C) (ctf ((lst (3 * C) (stf M 1 C C)).map (cln · n)) C 2 0 C)).map (cln · n)) h.hn rfl (by rw [List.length_map, lst_length, h.hML]) (fun i hi => back_stretch C n h.hn h.hC M (by rw [h.hML, hC1]) i (by rw [← hC1, ← h.hML]; exact hi))
  rw [e, show (3 - 2) * C = rc by omega, z2, z3] at t
  exact t.mono fun e w' ⟨g, he, _, ho, hb⟩ => ⟨g, he, ho, hb.bl⟩

theorem tb_v1 (R C rc : Nat) (n : Int) (M : List Int) (h : Mf R C n M) (hrc : R * C = rc) (h32 : n = 32) (bb off cap : Nat) (u : World) (hi : Mi u M bb off cap) : Calls Try.prog 8 #[.agg #[.int .i64 R, .int .i64 C, .int .i64 n, .slice (some ⟨bb, off, none⟩) rc cap], .int .i64 64] u fun e w' => ∃ g, e = .returned (.tuple #[.agg #[.int .i64 R, .int .i64 C, .int .i64 64, .slice (some ⟨g, 0, none⟩) rc rc], .int .i64 0]) ∧ Own w' g rc ((lst M.length (fun j => cvw (M.getD j 0))).map (cln · 64)) ∧ Bl u w' := by
  subst h32
  have t := tconvert_ok R C 32 64 (Or.inl rfl) M (by have := h.hRC; rw [← h.hML] at this; omega) (fun i => cvw (M.getD i 0)) (fun i _ v => convert_3264 _ v) (fun i hi => by rw [lst_length] at hi; rw [lst_get _ _ _ hi]; exact cvw_rng _) h.ck bb off cap u hi.lt hi.rd hi.sl
  rw [show M.length = rc by rw [h.hML, hrc]] at t ⊢
  exact t.mono fun e w' ⟨g, he, _, ho, hb⟩ => ⟨g, he, ho, hb.bl⟩

theorem tb_v2 (R C rc : Nat) (n : Int) (M : List Int) (h : Mf R C n M) (hrc : R * C = rc) (h32 : n = 32) (g1 : Nat) (u : World) (hi : Mi u ((lst M.length (fun j => cvw (M.getD j 0))).map (cln · 64)) g1 0 rc) : Calls Try.prog 8 #[.agg #[.int .i64 R, .int .i64 C, .int .i64 64, .slice (some ⟨g1, 0, none⟩) rc rc], .int .i64 32] u fun e w' => ∃ g, e = .returned (.tuple #[.agg #[.int .i64 R, .int .i64 C, .int .i64 32, .slice (some ⟨g, 0, none⟩) rc rc], .int .i64 0]) ∧ Own w' g rc (M.map (cln · n)) ∧ Bl u w' := by
  subst h32
  have hw : ((lst M.length (fun j => cvw (M.getD j 0))).map (cln · 64)).length = M.length := by rw [List.length_map, lst_length]
  have t := tconvert_ok R C 64 32 (Or.inr rfl) ((lst M.length (fun j => cvw (M.getD j 0))).map (cln · 64)) (by rw [hw]; have := h.hRC; rw [← h.hML] at this; omega) (fun i => cln (M.getD i 0) 32) (fun i hi v => by rw [hw] at hi; rw [wide_at M i hi]; exact convert_6432 _ v) (fun i hi => by rw [lst_length, hw] at hi; rw [lst_get _ _ _ (by rw [hw]; exact hi)]; exact cln_rng _ _ (h.hRg i hi).1 (h.hRg i hi).2) (ckM_mk (ckS_mk (Or.inl rfl) h.hR h.hC h.hRC) (by rw [hw, h.hML]; simp) (fun i hi => by unfold val; simp)) g1 0 rc u hi.lt hi.rd hi.sl
  rw [hw] at t
  have e := back_list (M := M) (T := (lst M.length (fun j => cln (M.getD j 0) 32)).map (cln · 32)) h.hn rfl (by rw [List.length_map, lst_length]) (fun i hi => back_wide M i hi)
  rw [e, show M.length = rc by rw [h.hML, hrc]] at t
  exact t.mono fun e w' ⟨g, he, _, ho, hb⟩ => ⟨g, he, ho, hb.bl⟩
end Go.Proofs.Ytijmjnmimijfdab
