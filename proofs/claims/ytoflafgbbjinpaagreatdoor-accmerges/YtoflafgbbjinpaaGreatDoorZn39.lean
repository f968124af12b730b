/- The document's own Minus, Times and Order of any two numbers. What exact's Add, Sub, Mul and Cmp tell is what the document's own Plus, Minus, Times and Order tell. exact's Add, Sub, Mul and Cmp where a number is none. What is kept of answers, one after another; the laws' own 'is'. exact's Add, Sub, Mul and Cmp of whatever is handed in, beside the document's own answers. The walk of the laws' own 'twos'. The walk of the statement on sums, differences, products and the order of any two. What is none of what is kept stays: blocks of another type. exact's Int below 0; the document's own Whole and Make, Finite and Exact; exact's Make and Int of whatever is handed in; the walk of the laws' own 'made'. Round and Mean of any sum: what the program answers, and that the document says so. -/
import Derived.Test.YtoflafgbbjinpaaGreatDoorZn38
import Derived.Test.YtoflafgbbjinpaaGreatDoorZn25
import Derived.Test.YtoflafgbbjinpaaGreatDoorZn30
import Derived.Deep.Cut
import Derived.Test.YtoflafgbbjinpaaGreatDoorZn37
import Derived.Test.YtoflafgbbjinpaaGreatDoorZn26
import Derived.Test.YtoflafgbbjinpaaGreatDoorZn36
import Derived.Test.YtoflafgbbjinpaaGreatDoorZn22
import Derived.Test.YtoflafgbbjinpaaGreatDoorZn24
import Derived.Test.YtoflafgbbjinpaaGreatDoorZn35
namespace Go.Proofs.YtoflafgbbjinpaaGreatDoor
open Go.ChangeShapes Go.WideShapes Go.ChangeAt Go.RowKit
set_option linter.unusedVariables false
set_option linter.unusedSimpArgs false
set_option maxHeartbeats 16000000
set_option maxRecDepth 100000
def trn (b : Nm) : Nm := ⟨if b.mag.length = 0 then b.neg else !b.neg, b.mag, b.exp⟩
theorem vld_cn (a : Nm) (h : vld a = true) : Cn a.mag ∧ a.mag.length ≤ 2000 ∧ -1048576 ≤ a.exp ∧ a.exp ≤ 1048576 := by
 obtain ⟨n, L, x⟩ := a
 by_cases e : L = []
 ·subst e
  obtain ⟨-, rfl⟩ := vld_nil _ _ h
  exact ⟨⟨Dg.nil, fun h => absurd rfl h⟩, by simp, by dsimp only; omega, by dsimp only; omega⟩
 ·obtain ⟨p1, p2, p3, p4, p5, p6⟩ := vld_some n L x e h
  exact ⟨⟨p2, fun _ => p3⟩, p1, p5, p6⟩
/-- A sum that reaches too far has no valid Num. -/
theorem far_none (n1 n2 : Bool) (L1 L2 : List Int) (x1 x2 : Int) (h1 : L1 ≠ []) (h2 : L2 ≠ []) (hv1 : vld ⟨n1, L1, x1⟩ = true) (hv2 : vld ⟨n2, L2, x2⟩ = true) (hlt : x1 < x2) (hfar : 60001 < x2 + (bl (nv L2) : Int) - x1) (neg : Bool) (T : Int) (hT : T = sg n1 ((nv L1 : Nat) : Int) + sg n2 ((nv L2 * 2 ^ (x2 - x1).toNat : Nat) : Int)) : frm neg T.natAbs x1 = none := by
 obtain ⟨p1, p2, p3, p4, p5, p6⟩ := vld_some n1 L1 x1 h1 hv1
 obtain ⟨r1, r2, r3, r4, r5, r6⟩ := vld_some n2 L2 x2 h2 hv2
 have o1 := nv_odd L1 p2 p4
 have v2 := nv_pos_of n2 L2 x2 h2 hv2
 obtain ⟨k, hk⟩ : ∃ k, (x2 - x1).toNat = k := ⟨_, rfl⟩
 rw [hk] at hT
 have hk1 : 0 < k := by omega
 obtain ⟨N, hN⟩ : ∃ N : Nat, N = 60000 := ⟨_, rfl⟩
 have lt1 : nv L1 < 2 ^ N := Nat.lt_of_lt_of_le (nv_lt L1 p2) (Nat.pow_le_pow_right (by decide) (by omega))
 have hb := bl_mul (nv L2) k (by omega)
 have hge : 2 ^ (N + 1) ≤ nv L2 * 2 ^ k := by
  have := (bl_pos (nv L2 * 2 ^ k) (by have := Nat.mul_pos v2 (Nat.two_pow_pos k); omega)).1
  refine Nat.le_trans (Nat.pow_le_pow_right (by decide) ?_) this
  rw [hb]
  omega
 have hev : nv L2 * 2 ^ k % 2 = 0 := by
  obtain ⟨j, rfl⟩ : ∃ j, k = j + 1 := ⟨k - 1, by omega⟩
  rw [Nat.pow_succ, ← Nat.mul_assoc]
  omega
 generalize nv L2 * 2 ^ k = Y at *
 rw [Nat.pow_succ] at hge
 have habs : 2 ^ N ≤ T.natAbs := by
  rw [hT]
  cases n1 <;> cases n2 <;> simp only [sg, Bool.false_eq_true, if_false, if_true] <;> omega
 have hodd : T.natAbs % 2 = 1 := by
  rw [hT]
  cases n1 <;> cases n2 <;> simp only [sg, Bool.false_eq_true, if_false, if_true] <;> omega
 have hz := tzn_odd _ hodd
 have hbl := le_bl _ _ habs
 unfold frm
 rw [if_neg (by omega), hz, if_neg]
 rintro ⟨g1, -, -⟩
 omega
theorem add_ans (a b : Nm) (ha : vld a = true) (hb : vld b = true) : addZ a b = if vld (pls a b) = true then some (pls a b) else none := by
 obtain ⟨n1, L1, x1⟩ := a
 obtain ⟨n2, L2, x2⟩ := b
 unfold addZ pls
 dsimp only
 by_cases e1 : L1 = []
 ·rw [if_pos e1, if_pos e1, if_pos hb]
  by_cases e2 : L2 = []
  ·subst e2
   obtain ⟨rfl, rfl⟩ := vld_nil _ _ hb
   rw [if_pos rfl]
  ·rw [if_neg e2]
 ·rw [if_neg e1, if_neg e1]
  by_cases e2 : L2 = []
  ·rw [if_pos e2, if_pos e2, if_pos ha]
  ·rw [if_neg e2, if_neg e2, ← frm_nrm]
   unfold addN
   dsimp only
   by_cases hr : max (tp ⟨n1, L1, x1⟩) (tp ⟨n2, L2, x2⟩) - min x1 x2 ≤ 60001
   ·rw [if_pos hr]
   ·rw [if_neg hr]
    have q1 := vld_cn _ ha
    have q2 := vld_cn _ hb
    have b1 : bl (nv L1) ≤ 60000 := Nat.le_trans (bl_le _ _ (nv_lt L1 q1.1.1)) (by have := q1.2.1; dsimp only at this; omega)
    have b2 : bl (nv L2) ≤ 60000 := Nat.le_trans (bl_le _ _ (nv_lt L2 q2.1.1)) (by have := q2.2.1; dsimp only at this; omega)
    unfold tp at hr
    dsimp only at hr
    rcases Int.lt_trichotomy x1 x2 with h | h | h
    ·have hm : min x1 x2 = x1 := by omega
     rw [hm] at hr ⊢
     refine (far_none n1 n2 L1 L2 x1 x2 e1 e2 ha hb h (by omega) _ _ ?_).symm
     rw [tot_nat n1 n2 L1 L2 x1 x2 x1 0 (x2 - x1).toNat (by omega) rfl, Nat.pow_zero, Nat.mul_one]
    ·exfalso
     omega
    ·have hm : min x1 x2 = x2 := by omega
     rw [hm] at hr ⊢
     refine (far_none n2 n1 L2 L1 x2 x1 e2 e1 hb ha h (by omega) _ _ ?_).symm
     rw [tot_nat n1 n2 L1 L2 x1 x2 x2 (x1 - x2).toNat 0 rfl (by omega), Nat.pow_zero, Nat.mul_one, Int.add_comm]
/-! ### The calls -/
theorem add_bad (w : World) (n1 : Bool) (L1 : List Int) (x1 : Int) (hR1 : Rg L1) (hl1 : L1.length < 60000000) (a1 : Option Addr) (c1 : Nat) (n2 : Bool) (L2 : List Int) (x2 : Int) (hR2 : Rg L2) (hl2 : L2.length < 60000000) (a2 : Option Addr) (c2 : Nat)  (h1 : Sl w (.slice a1 L1.length c1) L1) (h2 : Sl w (.slice a2 L2.length c2) L2) (hbad : (vld ⟨n1, L1, x1⟩ && vld ⟨n2, L2, x2⟩) = false) : Calls Tryz.prog 18 #[.agg #[.bool n1, .slice a1 L1.length c1, .int .i64 x1], .agg #[.bool n2, .slice a2 L2.length c2, .int .i64 x2]] w fun e w' => e = .returned (.tuple #[zeroNum, .int .i64 7]) ∧ Kept w w' := by
 have hW := addW_kept w #[.bool n1, .slice a1 L1.length c1, .int .i64 x1] #[.bool n2, .slice a2 L2.length c2, .int .i64 x2] (pairC n1 (.slice a1 L1.length c1) x1 n2 (.slice a2 L2.length c2) x2)
 have KV : Hid (∀ w', Kept (addW w #[.bool n1, .slice a1 L1.length c1, .int .i64 x1] #[.bool n2, .slice a2 L2.length c2, .int .i64 x2] (pairC n1 (.slice a1 L1.length c1) x1 n2 (.slice a2 L2.length c2) x2)) w' → Calls Tryz.prog 109 #[.slice (some ⟨w.heap.size + 3, 0, none⟩) 2 2] w' fun e w'' => e = .returned (.bool false) ∧ Kept w' w'') := fun u k => by
  have hb : w.heap.size + 3 < (addW w #[.bool n1, .slice a1 L1.length c1, .int .i64 x1] #[.bool n2, .slice a2 L2.length c2, .int .i64 x2] (pairC n1 (.slice a1 L1.length c1) x1 n2 (.slice a2 L2.length c2) x2)).heap.size := by simp
  have := allValid_2 u (w.heap.size + 3) 2 n1 n2 a1 a2 L1.length c1 L2.length c2 x1 x2 (vld ⟨n1, L1, x1⟩) (vld ⟨n2, L2, x2⟩) (Nat.lt_of_lt_of_le hb k.below.size) ((k.below.cell (p := ⟨w.heap.size + 3, 0, none⟩) hb).trans (by simp [go_sem])) ((k.below.cell (p := ⟨w.heap.size + 3, 1, none⟩) hb).trans (by simp [go_sem])) ((k.below.cell (p := ⟨w.heap.size + 3, 2, none⟩) hb).trans (by simp [go_sem])) ((k.below.cell (p := ⟨w.heap.size + 3, 3, none⟩) hb).trans (by simp [go_sem])) ((k.below.cell (p := ⟨w.heap.size + 3, 4, none⟩) hb).trans (by simp [go_sem])) ((k.below.cell (p := ⟨w.heap.size + 3, 5, none⟩) hb).trans (by simp [go_sem])) (fun v kv => ?_) (fun v kv => ?_)
  ·rw [hbad] at this
   exact this
  ·exact xvalid_any ⟨n1, L1, x1⟩ hR1 (by dsimp only; omega) (.agg #[.bool n1, .slice a1 L1.length c1, .int .i64 x1]) v ⟨_, rfl, ((h1.kept hW).kept k).kept kv⟩
  ·exact xvalid_any ⟨n2, L2, x2⟩ hR2 (by dsimp only; omega) (.agg #[.bool n2, .slice a2 L2.length c2, .int .i64 x2]) v ⟨_, rfl, ((h2.kept hW).kept k).kept kv⟩
 have KT : Hid (Calls Tryz.prog 62 #[.func (.func 65) #[] #[.pointer (some ⟨w.heap.size, 0, none⟩), .pointer (some ⟨w.heap.size + 1, 0, none⟩)], .slice (some ⟨w.heap.size + 3, 0, none⟩) 2 2] (addW w #[.bool n1, .slice a1 L1.length c1, .int .i64 x1] #[.bool n2, .slice a2 L2.length c2, .int .i64 x2] (pairC n1 (.slice a1 L1.length c1) x1 n2 (.slice a2 L2.length c2) x2)) fun e w' => e = .returned (.tuple #[zeroNum, .int .i64 7]) ∧ Kept (addW w #[.bool n1, .slice a1 L1.length c1, .int .i64 x1] #[.bool n2, .slice a2 L2.length c2, .int .i64 x2] (pairC n1 (.slice a1 L1.length c1) x1 n2 (.slice a2 L2.length c2) x2)) w') := told_bad _ _ _ KV
 have hmf : ∀ (fn : Fn) (first cap : Array Value) (w : World), (Instr.makeFunc fn first cap).run Tryz.prog w = .ok (.func fn first cap) w := fun _ _ _ _ => rfl
 clear h1 h2 KV hbad hR1 hR2 hl1 hl2
 generalize L1.length = l1 at *
 generalize L2.length = l2 at *
 go_enter Tryz.func18, Tryz.ntmps18
 go_wp2_with (first | (go_at_call 62; refine KT.out.mono ?_; rintro e w1 ⟨rfl, hk1⟩; obtain ⟨f0, f1, f2, f3⟩ := res_cells (w.heap.size + 2) (by simp <;> omega) hk1 (by simp [go_sem]) (by simp [go_sem]) (by simp [go_sem]) (fun o => by simp [go_sem])))
 refine bodyPost_ret (v := .tuple #[zeroNum, .int .i64 7]) (by simp [results, Tryz.results18, go_sem, f0, f1, f2]) rfl ⟨rfl, res_kept (w.heap.size + 2) (by omega) hW hk1 _ _ _⟩
def Frn (w0 x : World) (kb : Nat) (vL vW : Value) (E : List Ent) (D : List Nat) (N : Nat) (u : World) : Prop := ∃ vL' vW' E', KeepAt w0 u kb vL' vW' E' ∧ E'.length ≤ N ∧ GrwS (kb :: (blk vL ++ blk vW)) x u ∧ (∀ b ∈ blks kb vL' vW' E', b ∈ blks kb vL vW E ∨ b ∈ D ∨ x.heap.size ≤ b) ∧ ∀ b ∈ kb :: (blk vL' ++ blk vW'), b ∈ kb :: (blk vL ++ blk vW) ∨ x.heap.size ≤ b
theorem Frn.start {w0 x : World} {kb : Nat} {vL vW : Value} {E : List Ent} (h : KeepAt w0 x kb vL vW E) : Frn w0 x kb vL vW E [] E.length x :=
 ⟨vL, vW, E, h, Nat.le_refl _, GrwS.refl _ _, fun b hb => .inl hb, fun b hb => .inl hb⟩
theorem Frn.on {w0 x u u' : World} {kb : Nat} {vL vW : Value} {E : List Ent} {D : List Nat} {N : Nat} (h : Frn w0 x kb vL vW E D N u) (k : Kept u u') : Frn w0 x kb vL vW E D N u' := by
 obtain ⟨vL', vW', E', h1, h0, h2, h3, h4⟩ := h
 exact ⟨vL', vW', E', h1.keptOn k, h0, h2.trans (k.toS _), h3, h4⟩
theorem Frn.kept {w0 x u : World} {kb : Nat} {vL vW : Value} {E : List Ent} {D : List Nat} {N : Nat} (h : Frn w0 x kb vL vW E D N u) : Kept w0 u := by
 obtain ⟨vL', vW', E', h1, -⟩ := h
 exact h1.kept
theorem Frn.grw {w0 x u : World} {kb : Nat} {vL vW : Value} {E : List Ent} {D : List Nat} {N : Nat} (h : Frn w0 x kb vL vW E D N u) : GrwS (kb :: (blk vL ++ blk vW)) x u := by
 obtain ⟨vL', vW', E', h1, h0, h2, -⟩ := h
 exact h2
theorem head_blks {kb : Nat} {vL vW : Value} {E : List Ent} {b : Nat} (h : b ∈ kb :: (blk vL ++ blk vW)) : b ∈ blks kb vL vW E := by
 unfold blks
 rcases List.mem_cons.1 h with rfl | h
 ·simp
 ·exact List.mem_cons.2 (.inr (List.mem_append.2 (.inl h)))
theorem RLp.grwS {P : Nat → Prop} {S : List Nat} {w w' : World} {v : Value} {M : List Int} (h : RLp P w v M) (k : GrwS S w w') (hP : ∀ b, P b → b ∉ S) : RLp P w' v M := by
 obtain ⟨ao, c, rfl, hc, ⟨ao', c', e, h1, h2, hr⟩, hp⟩ := h
 cases e
 refine ⟨ao, c, rfl, hc, ⟨ao, c, rfl, h1, h2, fun hne => ?_⟩, hp⟩
 obtain ⟨b, off, rfl, hb, hr⟩ := hr hne
 refine ⟨b, off, rfl, Nat.lt_of_lt_of_le hb k.size, fun i hi => ?_⟩
 exact (World.cell?_of_block (a := ⟨b, off + i, none⟩) (k.block b hb (hP b (hp b off hne rfl)))).trans (hr i hi)
theorem RLp.sl {P : Nat → Prop} {w : World} {v : Value} {M : List Int} (h : RLp P w v M) : Sl w v M := by
 obtain ⟨ao, c, rfl, -, hs, -⟩ := h
 exact hs
/-- Three cells that stay as long as their block is none of those that are turned. -/
def Tri (X : World) (p : Nat) (v0 v1 v2 : Value) : Prop := p < X.heap.size ∧ ∀ S u, p ∉ S → GrwS S X u → (u.cell? ⟨p, 0, none⟩ = some v0 ∧ u.cell? ⟨p, 1, none⟩ = some v1) ∧ u.cell? ⟨p, 2, none⟩ = some v2
theorem Tri.now {X : World} {p : Nat} {v0 v1 v2 : Value} (h : Tri X p v0 v1 v2) : (X.cell? ⟨p, 0, none⟩ = some v0 ∧ X.cell? ⟨p, 1, none⟩ = some v1) ∧ X.cell? ⟨p, 2, none⟩ = some v2 := h.2 [] X (by simp) (GrwS.refl _ _)
theorem Tri.grw {S : List Nat} {X X' : World} {p : Nat} {v0 v1 v2 : Value} (h : Tri X p v0 v1 v2) (k : GrwS S X X') (hp : p ∉ S) : Tri X' p v0 v1 v2 :=
 ⟨Nat.lt_of_lt_of_le h.1 k.size, fun S' u hp' k' => h.2 (S ++ S') u (fun hm => (List.mem_append.1 hm).elim hp hp') ((k.mono (fun i hi => List.mem_append.2 (.inl hi))).trans (k'.mono (fun i hi => List.mem_append.2 (.inr hi))))⟩
theorem Tri.kept {X X' : World} {p : Nat} {v0 v1 v2 : Value} (h : Tri X p v0 v1 v2) (k : Kept X X') : Tri X' p v0 v1 v2 := h.grw (k.toS []) (by simp)
theorem Tri.new (X : World) (v0 v1 v2 : Value) (t : TypeId) : Tri (X.alloc (.cells #[v0, v1, v2] t)) X.heap.size v0 v1 v2 :=
 ⟨by simp, fun S u hp k => by
  have hb := k.block X.heap.size (by simp) hp
  refine ⟨⟨?_, ?_⟩, ?_⟩
  ·rw [World.cell?_of_block (a := ⟨X.heap.size, 0, none⟩) hb]; simp [go_sem]
  ·rw [World.cell?_of_block (a := ⟨X.heap.size, 1, none⟩) hb]; simp [go_sem]
  ·rw [World.cell?_of_block (a := ⟨X.heap.size, 2, none⟩) hb]; simp [go_sem]⟩
theorem add_all (a b : Nm) (ra : Rg a.mag) (rb : Rg b.mag) (la : a.mag.length < 60000000) (lb : b.mag.length < 60000000) : ∃ (rp : Nm) (pe : Int), (∀ (u : World) (a1 a2 : Option Addr) (c1 c2 : Nat), Tab u → Sl u (.slice a1 a.mag.length c1) a.mag → Sl u (.slice a2 b.mag.length c2) b.mag → Calls Tryz.prog 18 #[.agg #[.bool a.neg, .slice a1 a.mag.length c1, .int .i64 a.exp], .agg #[.bool b.neg, .slice a2 b.mag.length c2, .int .i64 b.exp]] u fun e w' => ∃ v, e = .returned (.tuple #[v, .int .i64 pe]) ∧ New u w' v rp ∧ Kept u w') ∧ ((vld a && vld b) = false → rp = ⟨false, [], 0⟩ ∧ pe = 7) ∧ ((vld a && vld b) = true → if vld (pls a b) = true then rp = pls a b ∧ pe = 0 else rp = ⟨false, [], 0⟩ ∧ pe = 2) := by
 cases hok : (vld a && vld b) with
 | false =>
  refine ⟨⟨false, [], 0⟩, 7, fun u a1 a2 c1 c2 hT h1 h2 => ?_, fun _ => ⟨rfl, rfl⟩, fun h => (by cases h)⟩
  refine (add_bad u a.neg a.mag a.exp ra la a1 c1 b.neg b.mag b.exp rb lb a2 c2 h1 h2 hok).mono ?_
  rintro e w' ⟨rfl, k⟩
  exact ⟨_, rfl, new_zero _ _, k⟩
 | true =>
  obtain ⟨va, vb⟩ := Bool.and_eq_true_iff.1 hok
  have hans := add_ans a b va vb
  by_cases hv : vld (pls a b) = true
  ·rw [if_pos hv] at hans
   refine ⟨_, 0, fun u a1 a2 c1 c2 hT h1 h2 => addz_ok u hT a.neg a.mag a.exp va a1 c1 b.neg b.mag b.exp vb a2 c2 h1 h2 _ hans, fun h => (by cases h), fun _ => ?_⟩
   rw [if_pos hv]
   exact ⟨rfl, rfl⟩
  ·rw [if_neg hv] at hans
   refine ⟨⟨false, [], 0⟩, 2, fun u a1 a2 c1 c2 hT h1 h2 => ?_, fun h => (by cases h), fun _ => ?_⟩
   ·refine (addz_no u hT a.neg a.mag a.exp va a1 c1 b.neg b.mag b.exp vb a2 c2 h1 h2 hans).mono ?_
    rintro e w' ⟨rfl, k⟩
    exact ⟨_, rfl, new_zero _ _, k⟩
   ·rw [if_neg hv]
    exact ⟨rfl, rfl⟩
theorem new_rw2 {w0 w : World} {v : Value} {r : Nm} (h : New w0 w v r) : ∃ pa pc, v = .agg #[.bool r.neg, .slice pa r.mag.length pc, .int .i64 r.exp] ∧ Rw w (.slice pa r.mag.length pc) 3 (ints r.mag) ∧ (∀ b ∈ blk (.slice pa r.mag.length pc), w0.heap.size ≤ b) ∧ (r.mag = [] → pa = none ∧ pc = 0) := by
 rcases h with ⟨rfl, rfl⟩ | ⟨g, cap, rfl, hg, ho, hne⟩
 ·exact ⟨none, 0, rfl, .inl ⟨rfl, rfl⟩, fun b hb => (by cases hb), fun _ => ⟨rfl, rfl⟩⟩
 ·refine ⟨_, _, rfl, .inr ⟨g, cap, by rw [List.length_map], own_v.1 ho⟩, fun b hb => ?_, fun h => absurd h hne⟩
  obtain rfl : b = g := by simpa [blk] using hb
  exact hg
theorem digs_div_len (v k : Nat) : (digs (v / 2 ^ k)).length ≤ (digs v).length := digs_mono _ _ (Nat.div_le_self _ _)
theorem pls_ok (a b : Nm) (ha : vld a = true) (hb : vld b = true) : Rg (pls a b).mag ∧ (pls a b).mag.length < 10000000 := by
 have qa := vld_cn a ha
 have qb := vld_cn b hb
 unfold pls
 split
 ·exact ⟨qb.1.1.rg, by have := qb.2.1; omega⟩
 ·split
  ·exact ⟨qa.1.1.rg, by have := qa.2.1; omega⟩
  ·have hr := nrm_rg (decide (tot a b (min a.exp b.exp) < 0)) (tot a b (min a.exp b.exp)).natAbs (min a.exp b.exp)
   refine ⟨hr.1, ?_⟩
   rw [hr.2]
   refine Nat.lt_of_le_of_lt (digs_div_len _ _) ?_
   obtain ⟨N, hN⟩ : ∃ N : Nat, N = 80000 := ⟨_, rfl⟩
   have h1 := nv_bl_mul a.mag (a.exp - min a.exp b.exp).toNat
   have h2 := nv_bl_mul b.mag (b.exp - min a.exp b.exp).toNat
   have b1 : bl (nv a.mag) ≤ 60000 := Nat.le_trans (bl_le _ _ (nv_lt a.mag qa.1.1)) (by omega)
   have b2 : bl (nv b.mag) ≤ 60000 := Nat.le_trans (bl_le _ _ (nv_lt b.mag qb.1.1)) (by omega)
   have p1 := pow_le_int (bl (nv a.mag) + (a.exp - min a.exp b.exp).toNat) (30 * N) (by omega)
   have p2 := pow_le_int (bl (nv b.mag) + (b.exp - min a.exp b.exp).toNat) (30 * N) (by omega)
   have s1 := sg_abs a.neg _ _ h1.1 h1.2
   have s2 := sg_abs b.neg _ _ h2.1 h2.2
   have hlt : (tot a b (min a.exp b.exp)).natAbs < 2 ^ (30 * (N + 1)) := by
    have e : ((2 ^ (30 * N) : Nat) : Int) = (2 : Int) ^ (30 * N) := by rw [Int.natCast_pow]; rfl
    have e2 : 2 ^ (30 * (N + 1)) = 2 ^ (30 * N) * 1073741824 := pow30m N
    unfold tot
    omega
   have := digs_length_le _ _ hlt
   omega
theorem keep_none2 (w u : World) (kb : Nat) (k : Kept w u) (hk : w.heap.size ≤ kb) (hc : u.heap[kb]? = some (.cells #[.slice none 0 0, .slice none 0 0] 30 (0, 0))) : KeepAt w u kb (.slice none 0 0) (.slice none 0 0) [] :=
 ⟨k, hc, .inl ⟨rfl, rfl⟩, .inl ⟨rfl, rfl⟩, fun x hx => (by cases hx), by simp [blks, blk], fun b hb => by
  obtain rfl : b = kb := by simpa [blks, blk] using hb
  exact hk⟩
/-! ### Make: what both tell -/
theorem sl_none (w : World) : Sl w (.slice none 0 0) [] := ⟨none, 0, rfl, Nat.le_refl _, by simp [maxLen], fun h => absurd rfl h⟩
theorem lookA (n : Int) (a : Nm) (ra : Rg a.mag) (la : a.mag.length < 60000000) (p m z : Bool) (ao : Option Addr) (c : Nat) (u : World) (h : Sl u (.slice ao a.mag.length c) a.mag) (f : Int) (hf : f = FE n 0 (vld a)) : Calls Tryz.prog 67 #[.int .i64 n, accV a.neg (.slice ao a.mag.length c) a.exp p m z, .slice none 0 0] u fun e w' => e = .returned (.int .i64 f) ∧ Kept u w' := by
 have := look_any n a.neg a.mag a.exp ra (by omega) ao c p m z [] (by simp) u h (.slice none 0 0) (sl_none u)
 rw [lk_fe] at this
 rw [hf]
 exact this
end Go.Proofs.YtoflafgbbjinpaaGreatDoor
