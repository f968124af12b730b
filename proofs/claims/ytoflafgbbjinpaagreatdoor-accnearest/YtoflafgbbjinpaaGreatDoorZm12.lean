/- Rows of the call's own whose cells may be of any type; append to them. The laws' own Num: some digits' low bits, an exponent brought to within a bound. Plain: the digits of a number, one by one: what the document's own NatAdd, NatSub, NatShl, NatShr, NatLow make. The walks of the document's own trim and NatLow. acc's begin. Regions that draw their order and whose last operations write a cell that earlier ones load: S is asked behind all operations but the late ones; a load may be taken first under S if every late one waits for it. A sum that is being made lies in one block; its cells. -/
import Derived.Test.YtoflafgbbjinpaaGreatDoorZm08
import Derived.Deep.AppendSrc
import Derived.Deep.Upon
import Derived.Test.YtoflafgbbjinpaaGreatDoorZm11
import Derived.Deep.Cut
import Derived.Deep.MidRow
import Derived.Test.YtoflafgbbjinpaaGreatDoorZm02
import Derived.Deep.RegionHeld
import Derived.Test.YtoflafgbbjinpaaGreatDoorZm04
import Derived.Test.YtoflafgbbjinpaaGreatDoorZm09
namespace Go.Proofs.YtoflafgbbjinpaaGreatDoor
open Go.ChangeShapes Go.WideShapes Go.ChangeAt Go.RowKit
set_option linter.unusedVariables false
set_option linter.unusedSimpArgs false
set_option maxHeartbeats 16000000
set_option maxRecDepth 100000
def OwnV (w : World) (g cap : Nat) (e : TypeId) (V : List Value) : Prop := ∃ cur, w.heap[g]? = some (.cells cur e (0, 0)) ∧ V.length ≤ cap ∧ cap ≤ maxLen ∧ cur.size = cap ∧ cur.toList.take V.length = V
theorem own_v {w : World} {g cap : Nat} {L : List Int} : Own w g cap L ↔ OwnV w g cap 3 (L.map (Value.int .i64)) := by
 unfold Own OwnV
 simp only [List.length_map]
theorem OwnV.lt {w : World} {g cap : Nat} {e : TypeId} {V : List Value} (h : OwnV w g cap e V) : g < w.heap.size := by
 obtain ⟨cur, hg, -⟩ := h
 exact lt_of_block hg
theorem OwnV.kept {w w' : World} {g cap : Nat} {e : TypeId} {V : List Value} (h : OwnV w g cap e V) (k : Kept w w') : OwnV w' g cap e V := by
 have hl := h.lt
 obtain ⟨cur, hg, r⟩ := h
 exact ⟨cur, (k.below.block g hl).trans hg, r⟩
theorem OwnV.grw {w w' : World} {g g' cap : Nat} {e : TypeId} {V : List Value} (h : OwnV w g cap e V) (k : Grw g' w w') (hne : g ≠ g') : OwnV w' g cap e V := by
 have hl := h.lt
 obtain ⟨cur, hg, r⟩ := h
 exact ⟨cur, (k.grown.block g hl (by simpa using hne)).trans hg, r⟩
theorem OwnV.setOther {w : World} {g cap : Nat} {e : TypeId} {V : List Value} (h : OwnV w g cap e V) {p : Addr} (hp : g ≠ p.block) (u : Value) : OwnV (w.setCell p u) g cap e V := by
 obtain ⟨cur, hg, r⟩ := h
 exact ⟨cur, (Below.heap_setCell w p u g hp).trans hg, r⟩
theorem OwnV.cell {w : World} {g cap : Nat} {e : TypeId} {V : List Value} (h : OwnV w g cap e V) (i : Nat) (x : Value) (hi : V[i]? = some x) : w.cell? ⟨g, i, none⟩ = some x := by
 obtain ⟨cur, hg, h1, h2, h3, h4⟩ := h
 rw [cell_of_row w g i cur e (0, 0) hg]
 rw [← h4, List.getElem?_take] at hi
 split at hi
 ·simpa using hi
 ·cases hi
theorem OwnV.some {w : World} {g cap : Nat} {e : TypeId} {V : List Value} (h : OwnV w g cap e V) (i : Nat) (hi : i < cap) : (w.cell? ⟨g, i, none⟩).isSome = true := by
 obtain ⟨cur, hg, h1, h2, h3, h4⟩ := h
 rw [cell_of_row w g i cur e (0, 0) hg]
 simp
 omega
theorem OwnV.free {w : World} {g cap : Nat} {e : TypeId} {V : List Value} (h : OwnV w g cap e V) (i : Nat) : w.frozen? ⟨g, i, none⟩ = false := by
 obtain ⟨cur, hg, -⟩ := h
 exact frozen_of_row w g i cur e hg
theorem OwnV.set {w : World} {g cap : Nat} {e : TypeId} {V : List Value} (h : OwnV w g cap e V) (i : Nat) (x : Value) : OwnV (w.setCell ⟨g, i, none⟩ x) g cap e (V.set i x) := by
 obtain ⟨cur, hg, h1, h2, h3, h4⟩ := h
 refine ⟨cur.setIfInBounds i x, heap_setCell_same w g i cur e _ hg, by simpa using h1, h2, by simpa using h3, ?_⟩
 rw [Array.toList_setIfInBounds, List.length_set, List.take_set, h4]
theorem OwnV.push {w : World} {g cap : Nat} {e : TypeId} {V : List Value} (h : OwnV w g cap e V) (hi : V.length < cap) (x : Value) : OwnV (w.setCell ⟨g, V.length, none⟩ x) g cap e (V ++ [x]) := by
 obtain ⟨cur, hg, h1, h2, h3, h4⟩ := h
 refine ⟨cur.setIfInBounds V.length x, heap_setCell_same w g V.length cur e _ hg, by simp; omega, h2, by simpa using h3, ?_⟩
 rw [Array.toList_setIfInBounds, List.length_append, List.length_singleton, List.take_set, List.take_add_one, h4]
 have : (cur.toList)[V.length]? = Option.some (cur.toList[V.length]'(by simp; omega)) := List.getElem?_eq_getElem _
 rw [this, List.set_append_right _ _ (by omega), Nat.sub_self]
 rfl
theorem OwnV.pushes {g cap : Nat} {e : TypeId} (news : List Value) : ∀ {w : World} {V : List Value} (h : OwnV w g cap e V) (hi : V.length + news.length ≤ cap), OwnV (w.setCells g V.length news) g cap e (V ++ news) := by
 induction news with
 | nil => intro w V h hi; simpa [World.setCells] using h
 | cons x r ih =>
  intro w V h hi
  simp only [List.length_cons] at hi
  have h2 := h.push (by omega) x
  have := ih h2 (by simp; omega)
  rw [List.length_append, List.length_singleton] at this
  rw [World.setCells]
  simpa using this
theorem Grw.setCells {g : Nat} {a : World} (news : List Value) : ∀ {b : World} (h : Grw g a b) (o : Nat), Grw g a (b.setCells g o news) := by
 induction news with
 | nil => intro b h o; exact h
 | cons x r ih => intro b h o; exact ih (h.setCell o x) (o + 1)
theorem ownV_new (w : World) (e : TypeId) (z : Value) (hz : z.cells.size = 1) (V : List Value) (cap : Nat) (h1 : V.length ≤ cap) (h2 : cap ≤ maxLen) : OwnV (w.alloc (.cells (V.toArray ++ Builtin.zeroCells z.cells (cap - V.length)) e)) w.heap.size cap e V := by
 refine ⟨_, heap_alloc_new w _, h1, h2, ?_, ?_⟩
 ·simp [size_zeroCells, hz]; omega
 ·simp
/-- A row of one's own, or none yet. -/
def Rw (w : World) (v : Value) (e : TypeId) (V : List Value) : Prop := (V = [] ∧ v = .slice none 0 0) ∨ ∃ g cap, v = .slice (some ⟨g, 0, none⟩) V.length cap ∧ OwnV w g cap e V
/-- Append: in place, or to a new row. -/
theorem app_gen (t e : TypeId) (ht : Tryz.prog.underlying t = some (.slice e)) (z : Value) (by8 : Nat) (hinf : (Tryz.prog.info? e).map (fun i => (i.zero, i.size, i.bytes)) = some (some z, 1, by8)) (hz : z.cells.size = 1) (hby : by8 ≤ 24)
  (w : World) (v : Value) (olds news : List Value) (hv : Rw w v e olds) (ad : Addr) (m c : Nat) (hl : news.length = m) (hnews : ∀ j u, news[j]? = some u → w.cell? (ad.add j) = some u) (h1 : ∀ u ∈ news, u.oneCell' = true) (hm : 0 < m) (hsz : olds.length + m < 100000000) :
  ∃ g cap w', (∀ ty, (Builtin.append_ #[t, t] ty #[v, .slice (some ad) m c]).run Tryz.prog w = .ok (.slice (some ⟨g, 0, none⟩) (olds.length + m) cap) w') ∧ OwnV w' g cap e (olds ++ news) ∧ ((g = w.heap.size ∧ Kept w w') ∨ (v = .slice (some ⟨g, 0, none⟩) olds.length cap ∧ Grw g w w')) := by
 obtain ⟨i, hi, hz2, hs, hb⟩ := info_parts hinf
 have hS : Src Tryz.prog i.size t (.slice (some ad) m c) m news w := Src.ofSlice w ht ad m c news (by rw [hs]; omega) hnews h1
 rcases hv with ⟨rfl, rfl⟩ | ⟨g, cap, rfl, hO⟩
 ·obtain ⟨C, hC⟩ : ∃ C, grownCap w (0 + m) 0 e = C := ⟨_, rfl⟩
  have hC1 : 0 + m ≤ C := by rw [← hC]; exact grownCap_ge _ _ _ _
  have hC2 : C ≤ maxLen := by rw [← hC]; exact grownCap_le_maxLen _ _ _ _ (by simp [maxLen] at *; omega)
  have hO := ownV_new w.drew e z hz news C (by omega) hC2
  have hK : Kept w (w.drew.alloc (.cells (news.toArray ++ Builtin.zeroCells z.cells (C - news.length)) e)) := (Kept.refl w).drew.alloc _ _
  refine ⟨w.heap.size, C, _, fun ty => ?_, by simpa using hO, .inl ⟨rfl, hK⟩⟩
  have := run_append_grow_src w t t ty e i z ht hi hz2 none 0 0 [] (by simpa using run_firstCells_none (P := Tryz.prog) w.drew i.size 0 0 0) (.slice (some ad) m c) m news hS (by omega) (by omega) (growslice_fits (by omega) (by rw [hb]; simp only [List.length_nil] at hsz; exact Nat.le_trans (Nat.mul_le_mul_left _ hby) (by omega)))
  rw [hC] at this
  rw [this]
  simp [hl]
 ·by_cases hr : olds.length + m ≤ cap
  ·refine ⟨g, cap, w.setCells g olds.length news, fun ty => ?_, hO.pushes news (by omega), .inr ⟨rfl, (Grw.refl g w).setCells news _⟩⟩
   have := run_append_room_src w t t ty e i ht hi g 0 olds.length cap (.slice (some ad) m c) m news hS hr (fun j hj => hO.some _ (by rw [hs]; omega)) (fun j hj => hO.free _)
   rw [this, hs]
   simp
  ·obtain ⟨C, hC⟩ : ∃ C, grownCap w (olds.length + m) cap e = C := ⟨_, rfl⟩
   have hC1 : olds.length + m ≤ C := by rw [← hC]; exact grownCap_ge _ _ _ _
   have hC2 : C ≤ maxLen := by rw [← hC]; exact grownCap_le_maxLen _ _ _ _ (by simp [maxLen]; omega)
   have hO2 := ownV_new w.drew e z hz (olds ++ news) C (by rw [List.length_append]; omega) hC2
   have hK : Kept w (w.drew.alloc (.cells ((olds ++ news).toArray ++ Builtin.zeroCells z.cells (C - (olds ++ news).length)) e)) := (Kept.refl w).drew.alloc _ _
   refine ⟨w.heap.size, C, _, fun ty => ?_, by simpa using hO2, .inl ⟨rfl, hK⟩⟩
   have hcl : cap < olds.length + m := by omega
   have := run_append_grow_src w t t ty e i z ht hi hz2 (some ⟨g, 0, none⟩) olds.length cap olds (run_firstCells_some (P := Tryz.prog) w.drew i.size olds.length ⟨g, 0, none⟩ olds.length cap olds (by rw [hs]; omega) (fun j u hu => by rw [Addr.add_lit, Nat.zero_add]; exact hO.cell j u hu)) (.slice (some ad) m c) m news hS hcl (by omega) (growslice_fits hcl (by rw [hb]; exact Nat.le_trans (Nat.mul_le_mul_left _ hby) (by omega)))
   rw [hC] at this
   rw [this]
   simp [hl]
def MR (H : Nat) (w : World) (v : Value) (M : List Int) : Prop := (M = [] ∧ v = .slice none 0 0) ∨ ∃ g cap, v = .slice (some ⟨g, 0, none⟩) M.length cap ∧ H ≤ g ∧ Own w g cap M
theorem MR.kept {H : Nat} {w w' : World} {v : Value} {M : List Int} (h : MR H w v M) (k : Kept w w') : MR H w' v M := by
 rcases h with h | ⟨g, cap, e, hg, ho⟩
 ·exact .inl h
 ·exact .inr ⟨g, cap, e, hg, ho.kept k⟩
theorem MR.sl {H : Nat} {w : World} {v : Value} {M : List Int} (h : MR H w v M) : ∃ ao c, v = .slice ao M.length c ∧ (ao = none → c = 0) ∧ Sl w (.slice ao M.length c) M := by
 rcases h with ⟨rfl, rfl⟩ | ⟨g, cap, rfl, hg, ho⟩
 ·exact ⟨none, 0, rfl, fun _ => rfl, none, 0, rfl, Nat.le_refl _, by simp [maxLen], fun h => absurd rfl h⟩
 ·exact ⟨_, _, rfl, fun h => by simp at h, ho.sl⟩
theorem app_step (H : Nat) (wr : World) (lv : Value) (M : List Int) (hM : MR H wr lv M) (d : Int) (hH : H ≤ wr.heap.size) (hlen : M.length < 10000000) : ∃ v' w', (∀ ty, (Builtin.append_ #[22, 22] ty #[lv, .slice (some ⟨wr.heap.size, 0, none⟩) 1 1]).run Tryz.prog (wr.alloc (.cells #[.int .i64 d] 3)) = .ok v' w') ∧ MR H w' v' (M ++ [d]) ∧ (∀ W : World, W.heap.size ≤ H → Kept W wr → Kept W w') := by
 have hK : Kept wr (wr.alloc (.cells #[.int .i64 d] 3)) := (Kept.refl _).alloc _ _
 have hR : Rw (wr.alloc (.cells #[.int .i64 d] 3)) lv 3 (M.map (Value.int .i64)) := by
  rcases hM with ⟨rfl, rfl⟩ | ⟨g, cap, rfl, hg, ho⟩
  ·exact .inl ⟨rfl, rfl⟩
  ·exact .inr ⟨g, cap, by rw [List.length_map], own_v.1 (ho.kept hK)⟩
 obtain ⟨g, cap, w', hr, ho, hk⟩ := app_gen 22 3 li_under (.int .i64 0) 8 int_info (by rfl) (by decide) (wr.alloc (.cells #[.int .i64 d] 3)) lv (M.map (Value.int .i64)) [.int .i64 d] hR ⟨wr.heap.size, 0, none⟩ 1 1 rfl (fun j u hj => by
  rcases j with _ | j
  ·cases hj
   simp [go_sem]
  ·simp at hj) (fun u hu => by rw [List.mem_singleton.1 hu]; rfl) (by decide) (by rw [List.length_map]; omega)
 rw [List.length_map] at hr
 have hO : Own w' g cap (M ++ [d]) := own_v.2 (by rw [List.map_append]; exact ho)
 refine ⟨_, w', hr, .inr ⟨g, cap, by rw [List.length_append]; rfl, ?_, hO⟩, ?_⟩
 ·rcases hk with ⟨e, -⟩ | ⟨e, -⟩
  ·rw [e]; simp; omega
  ·rcases hM with ⟨-, rfl⟩ | ⟨g0, cap0, rfl, hg, -⟩
   ·simp at e
   ·have e' : g0 = g := by simp at e; exact e.1
    omega
 ·intro W hW k
  rcases hk with ⟨e, kk⟩ | ⟨e, gg⟩
  ·exact (k.trans hK).trans kk
  ·refine (k.trans hK).grw ?_ gg
   rcases hM with ⟨-, rfl⟩ | ⟨g0, cap0, rfl, hg, -⟩
   ·simp at e
   ·have e' : g0 = g := by simp at e; exact e.1
    omega
def dl (V : Nat) : Nat → List Int
 | 0 => []
 | c + 1 => dl V c ++ [((V / 2 ^ (30 * c) % 1073741824 : Nat) : Int)]
/-- A list that can be read. -/
def RL (w : World) (v : Value) (M : List Int) : Prop := ∃ ao c, v = .slice ao M.length c ∧ (ao = none → c = 0) ∧ Sl w (.slice ao M.length c) M
theorem RL.kept {w w' : World} {v : Value} {M : List Int} (h : RL w v M) (k : Kept w w') : RL w' v M := by
 obtain ⟨ao, c, e, hc, hs⟩ := h
 exact ⟨ao, c, e, hc, hs.kept k⟩
theorem RL.nil (w : World) : RL w (.slice none 0 0) [] := ⟨none, 0, rfl, fun _ => rfl, none, 0, rfl, Nat.le_refl _, by simp [maxLen], fun h => absurd rfl h⟩
/-- A list that can be read, with what is known of where it lies. -/
def RLp (P : Nat → Prop) (w : World) (v : Value) (M : List Int) : Prop := ∃ ao c, v = .slice ao M.length c ∧ (ao = none → c = 0) ∧ Sl w (.slice ao M.length c) M ∧ ∀ b off, M ≠ [] → ao = some ⟨b, off, none⟩ → P b
theorem RLp.kept {P : Nat → Prop} {w w' : World} {v : Value} {M : List Int} (h : RLp P w v M) (k : Kept w w') : RLp P w' v M := by
 obtain ⟨ao, c, e, hc, hs, hp⟩ := h
 exact ⟨ao, c, e, hc, hs.kept k, hp⟩
theorem RLp.nil (P : Nat → Prop) (w : World) : RLp P w (.slice none 0 0) [] := ⟨none, 0, rfl, fun _ => rfl, ⟨none, 0, rfl, Nat.le_refl _, by simp [maxLen], fun h => absurd rfl h⟩, fun b off h => absurd rfl h⟩
abbrev Fresh (n : Nat) : Nat → Prop := fun b => n ≤ b
theorem RL.at {w : World} {v : Value} {M : List Int} (h : RL w v M) : ∃ ao c, v = .slice ao M.length c ∧ (ao = none → c = 0) ∧ ∀ u, Kept w u → RL u v M ∧ ∀ i, i < M.length → ∃ b off, ao = some ⟨b, off, none⟩ ∧ u.cell? ⟨b, off + i, none⟩ = some (.int .i64 (M.getD i 0)) := by
 obtain ⟨ao, c, rfl, hc, hs⟩ := h
 refine ⟨ao, c, rfl, hc, fun u k => ⟨⟨ao, c, rfl, hc, hs.kept k⟩, fun i hi => ?_⟩⟩
 obtain ⟨ao', cap, e, h1, h2, hr⟩ := hs.kept k
 cases e
 have hne : M ≠ [] := by intro e; subst e; simp at hi
 obtain ⟨b, off, rfl, hb, hr⟩ := hr hne
 exact ⟨b, off, rfl, hr i hi⟩
/- what a sum that is being made is, cell by cell: what it tells, its width, its columns, from where to where -/
def mkC (ac : List Value) (n : Int) (C : List Int) (lo hi : Int) : List Value := ac ++ (.int .i64 n :: (C.map (Value.int .i64) ++ [.int .i64 lo, .int .i64 hi]))
abbrev acc0 : List Value := [.bool false, .slice none 0 0, .int .i64 0, .bool false, .bool false, .bool false]
def C0 : List Int := List.replicate 141 0
theorem mk_zero (n : Int) : ((Tryz.zeroCells100.setIfInBounds 6 (.int .i64 n)).setIfInBounds 148 (.int .i64 141)).toList = mkC acc0 n C0 141 0 := by kernel_rfl
theorem mk_size (ac : List Value) (n : Int) (C : List Int) (lo hi : Int) (h : ac.length = 6) (hC : C.length = 141) : (mkC ac n C lo hi).length = 150 := by
 simp [mkC, h, hC]
theorem mk_one (ac : List Value) (n : Int) (C : List Int) (lo hi : Int) (h : ∀ v ∈ ac, v.oneCell' = true) : ∀ v ∈ mkC ac n C lo hi, v.oneCell' = true := by
 intro v hv
 simp only [mkC, List.mem_append, List.mem_cons, List.mem_map, List.not_mem_nil, or_false] at hv
 rcases hv with hv | rfl | ⟨d, -, rfl⟩ | rfl | rfl
 ·exact h v hv
 all_goals rfl
theorem there_new (w : World) (C : Array Value) (t : TypeId) : (w.alloc (.cells C t)).there w.heap.size 0 C.size := by
 intro j hj
 refine ⟨?_, by simp [go_sem]⟩
 simp [go_sem, hj]
theorem begin_any (n : Int) (w : World) : Calls Tryz.prog 68 #[.int .i64 n] w fun e w' => e = .returned (.agg (mkC acc0 n C0 141 0).toArray) ∧ Kept w w' := by
 have hz : Tryz.zeroCells100.size = 150 := by rfl
 have hin : (Tryz.prog.info? 100).map (·.size) = some 150 := by kernel_rfl
 obtain ⟨V, hV⟩ : ∃ V, V = (Tryz.zeroCells100.toList.set 6 (.int .i64 n)).set 148 (.int .i64 141) := ⟨_, rfl⟩
 have hVl : V = mkC acc0 n C0 141 0 := by
  rw [hV, ← mk_zero n]
  simp
 have hVs : V.length = 150 := by rw [hVl]; exact mk_size _ _ _ _ _ rfl rfl
 have h1 : ∀ v ∈ V, v.oneCell' = true := by rw [hVl]; exact mk_one acc0 _ _ _ _ (by decide)
 have ht : (w.alloc (.cells Tryz.zeroCells100 100)).there w.heap.size 0 V.length := by rw [hVs, ← hz]; exact there_new w _ _
 have hst := run_storeCells_cells (P := Tryz.prog) w.heap.size 0 V 0 (w.alloc (.cells Tryz.zeroCells100 100)) (fun j hj => by simpa using (ht j hj).1) (fun j hj => by simp) h1
 have hld := run_loadVar_mid (P := Tryz.prog) ((w.alloc (.cells Tryz.zeroCells100 100)).setCells w.heap.size 0 V) w.heap.size 0 100 V _ (World.rangeAt_setCells_same _ _ _ _ ht) Tryz.underlying100 rfl (by rw [hVs]; exact hin)
 have hk : Kept w ((w.alloc (.cells Tryz.zeroCells100 100)).setCells w.heap.size 0 V) := ((Kept.refl w).alloc _ _).grw (Nat.le_refl _) (Grw.setCells V (Grw.refl _ _) 0)
 rw [hV] at hst
 simp only [Nat.add_zero] at hst
 clear hin ht h1 hVs
 go_enter Tryz.func68, Tryz.ntmps68
 go_wp2
 rw [← hV]
 exact bodyPost_ret (v := .agg V.toArray) (by simp [results, Tryz.results68, asAddr, hld]) rfl ⟨by rw [hVl], hk⟩
end Go.Proofs.YtoflafgbbjinpaaGreatDoor
namespace Go.Proofs.YtoflafgbbjinpaaGreatDoor
open Go
set_option linter.unusedVariables false
set_option linter.unusedSimpArgs false
set_option maxHeartbeats 16000000
set_option maxRecDepth 100000
section
variable {P : Program} {ops : Array Oper} {Q : Exit → Act → World → Prop} {md : Region.Mode} {S : World → Prop} {D : List Nat}
/-- Those that wait for i, or for one of these. -/
def waits (md : Region.Mode) (i : Nat) (E : List Nat) (o : Oper) : Bool := o.after.any fun e => Region.binds md e && (e.on == i || E.contains e.on)
def lateOf (md : Region.Mode) (ops : Array Oper) (i : Nat) : List Nat := (List.range ops.size).foldl (fun E j => match ops[j]? with
 | some o => if waits md i E o then j :: E else E
 | none => E) []
def lateB (md : Region.Mode) (ops : Array Oper) (listed : Array Bool) (D : List Nat) (i : Nat) (E : List Nat) : Bool :=
 D.all (fun j => E.contains j) && E.all fun j => (listed.getD j true == false) && (j != i) && (match ops[j]? with
  | some o => waits md i E o
  | none => true)
def LateP (md : Region.Mode) (ops : Array Oper) (listed : Array Bool) (i : Nat) (E : List Nat) : Prop :=
 ∀ j ∈ E, listed.getD j true = false ∧ j ≠ i ∧ ∀ o, ops[j]? = some o → ∃ e ∈ o.after, Region.binds md e = true ∧ (e.on = i ∨ e.on ∈ E)
theorem lateB_spec {listed : Array Bool} {i : Nat} {E : List Nat} (h : lateB md ops listed D i E = true) : (∀ j ∈ D, j ∈ E) ∧ LateP md ops listed i E := by
 unfold lateB at h
 rw [Bool.and_eq_true, List.all_eq_true, List.all_eq_true] at h
 refine ⟨fun j hj => by simpa using h.1 j hj, fun j hj => ?_⟩
 have h1 := h.2 j hj
 rw [Bool.and_eq_true, Bool.and_eq_true] at h1
 refine ⟨by simpa using h1.1.1, by simpa using h1.1.2, fun o ho => ?_⟩
 have h2 := h1.2
 rw [ho] at h2
 unfold waits at h2
 obtain ⟨e, he, hb⟩ := Array.any_eq_true'.1 h2
 simp only [Bool.and_eq_true, Bool.or_eq_true, beq_iff_eq, List.contains_iff_mem] at hb
 exact ⟨e, he, hb.1, hb.2⟩
theorem getD_ff {listed : Array Bool} {k : Nat} (h0 : listed.getD k true = false) (h1 : listed.getD k false = true) : False := by
 rcases Nat.lt_or_ge k listed.size with h' | h'
 ·simp [h'] at h0 h1; rw [h0] at h1; cases h1
 ·simp [Array.getElem?_eq_none h'] at h1
theorem late_not_ready {listed : Array Bool} {i j : Nat} {E : List Nat} (hL : LateP md ops listed i E) (hi : i ∈ Region.ready md ops listed) (hj : j ∈ Region.ready md ops listed) : j ∉ E := by
 intro hE
 obtain ⟨-, -, h3⟩ := hL j hE
 obtain ⟨-, o, ho, hall⟩ := mem_ready.1 hj
 obtain ⟨e, he, hb, hw⟩ := h3 o ho
 have h1 := hall e he hb
 rcases hw with hw | hw
 ·rw [hw] at h1
  exact getD_ff (mem_ready.1 hi).1 h1
 ·exact getD_ff (hL _ hw).1 h1
end
end Go.Proofs.YtoflafgbbjinpaaGreatDoor
namespace Go.Proofs.YtoflafgbbjinpaaGreatDoor
open Go.ChangeShapes Go.WideShapes Go.ChangeAt Go.RowKit
set_option linter.unusedVariables false
set_option linter.unusedSimpArgs false
set_option maxHeartbeats 16000000
set_option maxRecDepth 100000
structure MkAt (w : World) (b : Nat) (ac : List Value) (n : Int) (C : List Int) (lo hi : Int) : Prop where
 blk : w.heap[b]? = some (.cells (mkC ac n C lo hi).toArray 100 (0, 0))
 a6 : ac.length = 6
 c141 : C.length = 141
theorem MkAt.cell {w : World} {b : Nat} {ac : List Value} {n : Int} {C : List Int} {lo hi : Int} (h : MkAt w b ac n C lo hi) (i : Nat) : w.cell? ⟨b, i, none⟩ = (mkC ac n C lo hi)[i]? := by
 simp [World.cell?, h.blk]
theorem MkAt.width {w : World} {b : Nat} {ac : List Value} {n : Int} {C : List Int} {lo hi : Int} (h : MkAt w b ac n C lo hi) : w.cell? ⟨b, 6, none⟩ = some (.int .i64 n) := by
 rw [h.cell, mkC, List.getElem?_append_right (by rw [h.a6]; omega), h.a6]
 rfl
theorem MkAt.col {w : World} {b : Nat} {ac : List Value} {n : Int} {C : List Int} {lo hi : Int} (h : MkAt w b ac n C lo hi) (k : Nat) (hk : k < 141) : w.cell? ⟨b, 7 + k, none⟩ = some (.int .i64 (C.getD k 0)) := by
 have hc := h.c141
 rw [h.cell, mkC, List.getElem?_append_right (by rw [h.a6]; omega), h.a6, show 7 + k - 6 = k + 1 by omega, List.getElem?_cons_succ, List.getElem?_append_left (by simp; omega)]
 simp [List.getElem?_map, List.getElem?_eq_getElem (show k < C.length by omega), List.getD_eq_getElem?_getD]
theorem MkAt.low {w : World} {b : Nat} {ac : List Value} {n : Int} {C : List Int} {lo hi : Int} (h : MkAt w b ac n C lo hi) : w.cell? ⟨b, 148, none⟩ = some (.int .i64 lo) := by
 rw [h.cell, mkC, List.getElem?_append_right (by rw [h.a6]; omega), h.a6, show 148 - 6 = 141 + 1 by omega, List.getElem?_cons_succ, List.getElem?_append_right (by simp [h.c141])]
 simp [h.c141]
theorem MkAt.high {w : World} {b : Nat} {ac : List Value} {n : Int} {C : List Int} {lo hi : Int} (h : MkAt w b ac n C lo hi) : w.cell? ⟨b, 149, none⟩ = some (.int .i64 hi) := by
 rw [h.cell, mkC, List.getElem?_append_right (by rw [h.a6]; omega), h.a6, show 149 - 6 = 142 + 1 by omega, List.getElem?_cons_succ, List.getElem?_append_right (by simp [h.c141])]
 simp [h.c141]
theorem MkAt.kept {w w' : World} {b : Nat} {ac : List Value} {n : Int} {C : List Int} {lo hi : Int} (h : MkAt w b ac n C lo hi) (k : Kept w w') : MkAt w' b ac n C lo hi := by
 have hb : b < w.heap.size := by
  apply Decidable.byContradiction
  intro g
  have := h.blk
  rw [Array.getElem?_eq_none (by omega)] at this
  cases this
 exact ⟨(k.below.block b hb).trans h.blk, h.a6, h.c141⟩
theorem set_cell_block (w : World) (b i : Nat) (cs : Array Value) (t : TypeId) (v : Value) (h : w.heap[b]? = some (.cells cs t (0, 0))) : (w.setCell ⟨b, i, none⟩ v).heap[b]? = some (.cells (cs.setIfInBounds i v) t (0, 0)) := by
 have hb : b < w.heap.size := by
  apply Decidable.byContradiction
  intro g
  rw [Array.getElem?_eq_none (by omega)] at h
  cases h
 have h' : w.heap[b] = .cells cs t (0, 0) := by
  have e := Array.getElem?_eq_getElem hb
  rw [h] at e
  injection e with e
  exact e.symm
 simp [World.setCell, hb, Array.getElem_modify, h']
theorem MkAt.setCol {w : World} {b : Nat} {ac : List Value} {n : Int} {C : List Int} {lo hi : Int} (h : MkAt w b ac n C lo hi) (k : Nat) (hk : k < 141) (v : Int) : MkAt (w.setCell ⟨b, 7 + k, none⟩ (.int .i64 v)) b ac n (C.set k v) lo hi := by
 have hc := h.c141
 refine ⟨?_, h.a6, by simp [hc]⟩
 rw [set_cell_block w b _ _ _ _ h.blk]
 congr 2
 rw [List.setIfInBounds_toArray]
 congr 1
 rw [mkC, mkC, List.set_append_right _ _ (by rw [h.a6]; omega), h.a6, show 7 + k - 6 = k + 1 by omega, List.set_cons_succ, List.set_append_left _ _ (by simp; omega), List.map_set]
theorem MkAt.setLow {w : World} {b : Nat} {ac : List Value} {n : Int} {C : List Int} {lo hi : Int} (h : MkAt w b ac n C lo hi) (v : Int) : MkAt (w.setCell ⟨b, 148, none⟩ (.int .i64 v)) b ac n C v hi := by
 have hc := h.c141
 refine ⟨?_, h.a6, hc⟩
 rw [set_cell_block w b _ _ _ _ h.blk]
 congr 2
 rw [List.setIfInBounds_toArray]
 congr 1
 rw [mkC, mkC, List.set_append_right _ _ (by rw [h.a6]; omega), h.a6, show 148 - 6 = 141 + 1 by omega, List.set_cons_succ, List.set_append_right _ _ (by simp [hc])]
 simp [hc]
theorem MkAt.setHigh {w : World} {b : Nat} {ac : List Value} {n : Int} {C : List Int} {lo hi : Int} (h : MkAt w b ac n C lo hi) (v : Int) : MkAt (w.setCell ⟨b, 149, none⟩ (.int .i64 v)) b ac n C lo v := by
 have hc := h.c141
 refine ⟨?_, h.a6, hc⟩
 rw [set_cell_block w b _ _ _ _ h.blk]
 congr 2
 rw [List.setIfInBounds_toArray]
 congr 1
 rw [mkC, mkC, List.set_append_right _ _ (by rw [h.a6]; omega), h.a6, show 149 - 6 = 142 + 1 by omega, List.set_cons_succ, List.set_append_right _ _ (by simp [hc])]
 simp [hc]
theorem MkAt.new (w : World) (ac : List Value) (n : Int) (C : List Int) (lo hi : Int) (h6 : ac.length = 6) (hC : C.length = 141) : MkAt (w.alloc (.cells (mkC ac n C lo hi).toArray 100)) w.heap.size ac n C lo hi := ⟨heap_alloc_new w _, h6, hC⟩
end Go.Proofs.YtoflafgbbjinpaaGreatDoor
