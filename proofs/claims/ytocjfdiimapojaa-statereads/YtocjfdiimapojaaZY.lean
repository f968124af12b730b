/- Lists that are grown by zero elements: in place, or a new row; the list itself stays. -/
import Derived.Test.YtocjfdiimapojaaVG
namespace Go.Proofs.Ytocjfdiimapojaa
open Go.ChangeShapes Go.WideShapes Go.ChangeAt Go.RowKit
set_option linter.unusedVariables false
set_option linter.unusedSimpArgs false

theorem int3y : Try.prog.underlying 3 = some (.int .i64) := by kernel_rfl
theorem zeroCells_mem (zs : Array Value) (n : Nat) (hz : 0 < zs.size) (u : Value) (hu : u ∈ (Builtin.zeroCells zs n).toList) : u ∈ zs.toList := by
  simp only [Builtin.zeroCells, Array.toList_map, List.mem_map, Array.toList_range, List.mem_range] at hu
  obtain ⟨i, hi, rfl⟩ := hu
  have h : i % zs.size < zs.size := Nat.mod_lt _ hz
  rw [getElem!_pos zs _ h]
  exact Array.getElem_mem_toList h
theorem zeroCells_add (zs : Array Value) (n m : Nat) : (Builtin.zeroCells zs n) ++ (Builtin.zeroCells zs m) = Builtin.zeroCells zs (n + m) := by
  rcases Nat.eq_zero_or_pos zs.size with h0 | hp
  · simp [Builtin.zeroCells, h0]
  · apply Array.ext
    · simp [size_zeroCells, Nat.add_mul]
    · intro i h1 h2
      simp only [size_zeroCells, Array.size_append] at h1 h2
      by_cases hi : i < n * zs.size
      · rw [Array.getElem_append_left (by rw [size_zeroCells]; exact hi)]
        simp [Builtin.zeroCells]
      · rw [Array.getElem_append_right (by rw [size_zeroCells]; omega)]
        simp only [Builtin.zeroCells, Array.getElem_map, Array.getElem_range, size_zeroCells]
        have e : (i - n * zs.size) % zs.size = i % zs.size := by
          conv => rhs; rw [show i = (i - n * zs.size) + zs.size * n by rw [Nat.mul_comm zs.size n]; omega]
          rw [Nat.add_mul_mod_self_left]
        have e2 : (Array.map (fun i => zs[i % zs.size]!) (Array.range (n * zs.size))).size = n * zs.size := by simp
        rw [show (i - (Array.map (fun i => zs[i % zs.size]!) (Array.range (n * zs.size))).size) = i - n * zs.size by rw [e2]]
        rw [e]
section
variable (t e : TypeId) (ht : Try.prog.underlying t = some (.slice e)) (z : Value) (sz by8 : Nat) (hinf : (Try.prog.info? e).map (fun i => (i.zero, i.size, i.bytes)) = some (some z, sz, by8)) (hz : z.cells.size = sz) (hz0 : 0 < sz) (hby : by8 ≤ 64) (h1 : ∀ u ∈ z.cells.toList, u.oneCell' = true)
include ht hinf hz hz0 hby h1
theorem zrun_room (w : World) (ty : TypeId) (b sLen sCap n : Nat) (hn : 0 < n) (hs : n < 1000000) (hroom : sLen + n ≤ sCap) (hc : ∀ j, j < n * sz → (w.cell? ⟨b, sLen * sz + j, none⟩).isSome = true) (hf : ∀ j, j < n * sz → w.frozen? ⟨b, sLen * sz + j, none⟩ = false) :
    (Builtin.append_ #[t, 3] ty #[.slice (some ⟨b, 0, none⟩) sLen sCap, .int .i64 (n : Int)]).run Try.prog w = .ok (.slice (some ⟨b, 0, none⟩) (sLen + n) sCap) (w.setCells b (sLen * sz) (Builtin.zeroCells z.cells n).toList) := by
  obtain ⟨i, hi, hzz, hsz, hb⟩ := info_parts hinf
  have hw1 : IntKind.i64.wrap (n : Int) = (n : Int) := by rw [wrap_i64]; omega
  have e0 : ¬ ((n : Int) < 0) := by omega
  have e1 : ¬ (281474976710656 < (n : Int) * (by8 : Int)) := by
    have h2 : (n : Int) * (by8 : Int) ≤ 1000000 * 64 := Int.mul_le_mul (by omega) (by omega) (by omega) (by omega)
    omega
  have e2 : n ≠ 0 := by omega
  have e3 : sz ≠ 0 := by omega
  have e4 : n * sz ≠ 0 := Nat.mul_ne_zero e2 e3
  have hst := run_storeCells_cells (P := Try.prog) b (sLen * sz) (Builtin.zeroCells z.cells n).toList 0 w (by simpa [size_zeroCells, hz] using hc) (by simpa [size_zeroCells, hz] using hf) (fun u hu => h1 u (zeroCells_mem _ _ (by omega) u hu))
  simp only [Nat.add_zero] at hst
  simp [Builtin.append_, run_underlying ht, run_underlying int3y, sizeOf, typeInfo, hi, hsz, hb, hzz, asInt, asIntOf, hw1, e0, e1, e2, e3, e4, zeroValue, hroom, Addr.add_lit, hst]
omit hz h1 in
theorem zrun_grow (w : World) (ty : TypeId) (base : Option Addr) (sLen sCap n : Nat) (olds : List Value) (hold : (Builtin.firstCells sz sLen (.slice base sLen sCap)).run Try.prog w.drew = .ok olds.toArray w.drew) (hn : 0 < n) (hs : sLen + n < 100000000) (hs2 : n < 1000000) (hg : sCap < sLen + n) :
    (Builtin.append_ #[t, 3] ty #[.slice base sLen sCap, .int .i64 (n : Int)]).run Try.prog w = .ok (.slice (some ⟨w.heap.size, 0, none⟩) (sLen + n) (grownCap w (sLen + n) sCap e)) (w.drew.alloc (.cells ((olds ++ (Builtin.zeroCells z.cells n).toList).toArray ++ Builtin.zeroCells z.cells (grownCap w (sLen + n) sCap e - (sLen + n))) e)) := by
  obtain ⟨i, hi, hzz, hsz, hb⟩ := info_parts hinf
  have hw1 : IntKind.i64.wrap (n : Int) = (n : Int) := by rw [wrap_i64]; omega
  have e0 : ¬ ((n : Int) < 0) := by omega
  have e1 : ¬ (281474976710656 < (n : Int) * (by8 : Int)) := by
    have h2 : (n : Int) * (by8 : Int) ≤ 1000000 * 64 := Int.mul_le_mul (by omega) (by omega) (by omega) (by omega)
    omega
  have e2 : n ≠ 0 := by omega
  have e3 : sz ≠ 0 := by omega
  have e4 : n * sz ≠ 0 := Nat.mul_ne_zero e2 e3
  have hn' : ¬ (sLen + n ≤ sCap) := by omega
  have h63 : ¬ (9223372036854775807 < ((sLen : Int) + (n : Int))) := by omega
  have hgf : Builtin.nextslicecap (sLen + n) sCap * by8 ≤ 281474976710656 := growslice_fits hg (Nat.le_trans (Nat.mul_le_mul_left _ hby) (by omega))
  have h48 : ¬ (281474976710656 < Builtin.nextslicecap (sLen + n) sCap * by8) := by omega
  simp [Builtin.append_, run_underlying ht, run_underlying int3y, sizeOf, typeInfo, hi, hsz, hb, hzz, asInt, asIntOf, hw1, e0, e1, e2, e3, e4, zeroValue, hn', h63, h48, Question.forced, hold, newRow, grownCap]
  refine congrArg (fun c => World.alloc _ (Obj.cells c e)) ?_
  apply Array.ext'
  simp
/-- Grown by n zero elements: in place, or a new row. -/
theorem zgrow (w : World) (lv : Value) (k : Nat) (V : List Value) (hM : MS sz e 0 w lv k V) (n : Nat) (hn : 0 < n) (hn2 : n < 1000000) (hk : k < 1000000) :
    ∃ g cap w', (∀ ty, (Builtin.append_ #[t, 3] ty #[lv, .int .i64 (n : Int)]).run Try.prog w = .ok (.slice (some ⟨g, 0, none⟩) (k + n) cap) w') ∧ OwnS w' g cap sz e (V ++ (Builtin.zeroCells z.cells n).toList) ∧ ((g = w.heap.size ∧ Kept w w') ∨ (lv = .slice (some ⟨g, 0, none⟩) k cap ∧ Grw g w w')) := by
  have hzl : (Builtin.zeroCells z.cells n).toList.length = n * sz := by simp [size_zeroCells, hz]
  have hVl := hM.len
  obtain ⟨i, hi, hzz, hsz, hb⟩ := info_parts hinf
  have key : ∀ (base : Option Addr) (sCap : Nat), lv = .slice base k sCap → sCap < k + n → (Builtin.firstCells sz k (.slice base k sCap)).run Try.prog w.drew = .ok V.toArray w.drew → ∃ g cap w', (∀ ty, (Builtin.append_ #[t, 3] ty #[lv, .int .i64 (n : Int)]).run Try.prog w = .ok (.slice (some ⟨g, 0, none⟩) (k + n) cap) w') ∧ OwnS w' g cap sz e (V ++ (Builtin.zeroCells z.cells n).toList) ∧ ((g = w.heap.size ∧ Kept w w') ∨ (lv = .slice (some ⟨g, 0, none⟩) k cap ∧ Grw g w w')) := fun base sCap e1 hc hf => by
    subst e1
    obtain ⟨C, hC⟩ : ∃ C, grownCap w (k + n) sCap e = C := ⟨_, rfl⟩
    have hC1 : k + n ≤ C := by rw [← hC]; exact grownCap_ge _ _ _ _
    have hC2 : C ≤ maxLen := by rw [← hC]; exact grownCap_le_maxLen _ _ _ _ (by simp [maxLen]; omega)
    have hN := ownS_new w.drew e z sz hz (V ++ (Builtin.zeroCells z.cells n).toList) (k + n) C (by rw [List.length_append, hVl, hzl, Nat.add_mul]) hC1 hC2
    have hKN : Kept w (w.drew.alloc (.cells ((V ++ (Builtin.zeroCells z.cells n).toList).toArray ++ Builtin.zeroCells z.cells (C - (k + n))) e)) := (Kept.refl w).drew.alloc _ _
    refine ⟨w.heap.size, C, _, fun ty => ?_, by simpa using hN, .inl ⟨rfl, hKN⟩⟩
    have := zrun_grow t e ht z sz by8 hinf hz0 hby w ty base k sCap n V hf hn (by omega) hn2 hc
    rw [hC] at this
    rw [this]
  rcases hM with ⟨rfl, rfl, rfl⟩ | ⟨g, cap, rfl, -, -, hkc, hO⟩
  · exact key none 0 rfl (by omega) (by simpa using run_firstCells_none (P := Try.prog) w.drew sz 0 0 0)
  · by_cases hr : k + n ≤ cap
    · have hroom : V.length + (Builtin.zeroCells z.cells n).toList.length ≤ cap * sz := by
        rw [hVl, hzl, ← Nat.add_mul]
        exact Nat.mul_le_mul_right _ hr
      have hG := (Grw.refl g w).setCells (Builtin.zeroCells z.cells n).toList V.length
      refine ⟨g, cap, w.setCells g V.length (Builtin.zeroCells z.cells n).toList, fun ty => ?_, hO.pushes _ hroom, .inr ⟨rfl, hG⟩⟩
      rw [hVl]
      exact zrun_room t e ht z sz by8 hinf hz hz0 hby h1 w ty g k cap n hn hn2 hr (fun j hj => hO.some _ (by rw [hVl, hzl] at hroom; omega)) (fun j hj => hO.free _)
    · exact key _ cap rfl (by omega) (run_firstCells_some (P := Try.prog) w.drew sz k ⟨g, 0, none⟩ k cap V hVl (fun j u hu => by rw [Addr.add_lit, Nat.zero_add]; exact hO.cell j u hu))
/-- .. and one of the new cells is written: the list itself stays. -/
theorem zmark (w : World) (lv : Value) (k : Nat) (V : List Value) (hM : MS sz e 0 w lv k V) (n : Nat) (hn : 0 < n) (hn2 : n < 1000000) (hk : k < 1000000) :
    ∃ g cap w', (∀ ty, (Builtin.append_ #[t, 3] ty #[lv, .int .i64 (n : Int)]).run Try.prog w = .ok (.slice (some ⟨g, 0, none⟩) (k + n) cap) w') ∧ KX (fun b => ∃ n c, lv = .slice (some ⟨b, 0, none⟩) n c) w w' ∧ MS sz e 0 w' lv k V ∧ g < w'.heap.size ∧ (g < w.heap.size → ∃ n c, lv = .slice (some ⟨g, 0, none⟩) n c) ∧ (∀ j, j < (k + n) * sz → ∃ x, w'.cell? ⟨g, j, none⟩ = some x) ∧ (∀ j, w'.frozen? ⟨g, j, none⟩ = false) ∧
      ∀ wx, KX (fun b => b = g) w' wx → (∀ cur, w'.heap[g]? = some (.cells cur e (0, 0)) → ∃ j x, k * sz ≤ j ∧ wx.heap[g]? = some (.cells (cur.setIfInBounds j x) e (0, 0))) → KX (fun b => ∃ n c, lv = .slice (some ⟨b, 0, none⟩) n c) w wx ∧ MS sz e 0 wx lv k V := by
  have hVl := hM.len
  obtain ⟨g, cap, w', hr, hO, hk2⟩ := zgrow t e ht z sz by8 hinf hz hz0 hby h1 w lv k V hM n hn hn2 hk
  have hzl : (Builtin.zeroCells z.cells n).toList.length = n * sz := by simp [size_zeroCells, hz]
  have hcap : (k + n) * sz ≤ cap * sz := by
    obtain ⟨cur, -, h2, -⟩ := hO
    rw [List.length_append, hVl, hzl, ← Nat.add_mul] at h2
    exact h2
  have hkc : k ≤ cap := by
    have := Nat.le_of_mul_le_mul_right hcap hz0
    omega
  have hkx : KX (fun b => ∃ n c, lv = .slice (some ⟨b, 0, none⟩) n c) w w' := by
    rcases hk2 with ⟨-, kk⟩ | ⟨e1, kk⟩
    · exact kk.kx _
    · exact kk.kx.mono fun b hb => by subst hb; exact ⟨_, _, e1⟩
  have hpre : ∀ wx, OwnS wx g cap sz e V → lv = .slice (some ⟨g, 0, none⟩) k cap → MS sz e 0 wx lv k V := fun wx ho e1 => .inr ⟨g, cap, e1, Nat.zero_le _, hVl, hkc, ho⟩
  have htake : ∀ {wx : World} {N : List Value}, OwnS wx g cap sz e (V ++ N) → OwnS wx g cap sz e V := fun {wx N} ⟨cur, a1, a2, a3, a4, a5⟩ => ⟨cur, a1, by rw [List.length_append] at a2; omega, a3, a4, by
    have := congrArg (List.take V.length) a5
    rw [List.take_take, List.length_append, Nat.min_eq_left (by omega), List.take_left] at this
    exact this⟩
  refine ⟨g, cap, w', hr, hkx, ?_, hO.lt, fun hg => ?_, fun j hj => Option.isSome_iff_exists.1 (hO.some j (by omega)), fun j => hO.free j, fun wx kx hw => ⟨?_, ?_⟩⟩
  · rcases hk2 with ⟨-, kk⟩ | ⟨e1, kk⟩
    · exact hM.kept kk
    · exact hpre _ (htake hO) e1
  · rcases hk2 with ⟨e1, -⟩ | ⟨e1, -⟩
    · omega
    · exact ⟨_, _, e1⟩
  · rcases hk2 with ⟨e1, kk⟩ | ⟨e1, kk⟩
    · exact ⟨kx.os.trans hkx.os, kx.tape.trans hkx.tape, kx.output.trans hkx.output, Nat.le_trans hkx.size kx.size, fun i hi hx => (kx.block i (Nat.lt_of_lt_of_le hi hkx.size) (by omega)).trans (hkx.block i hi hx), fun a => (kx.frozen a).trans (hkx.frozen a)⟩
    · exact hkx.trans (kx.mono fun b hb => by subst hb; exact ⟨_, _, e1⟩)
  · rcases hk2 with ⟨e1, kk⟩ | ⟨e1, kk⟩
    · rcases hM with h | ⟨b, c, a1, a2, a3, a4, a5⟩
      · exact .inl h
      · have hb := a5.lt
        exact .inr ⟨b, c, a1, a2, a3, a4, (a5.kept kk).on (kx.block b (Nat.lt_of_lt_of_le hb kk.below.size) (by omega))⟩
    · refine hpre _ ?_ e1
      obtain ⟨cur, a1, a2, a3, a4, a5⟩ := htake hO
      obtain ⟨j, x, hj, hw2⟩ := hw cur a1
      refine ⟨_, hw2, a2, a3, by simpa using a4, ?_⟩
      rw [Array.toList_setIfInBounds, List.take_set_of_le (by omega)]
      exact a5
end
end Go.Proofs.Ytocjfdiimapojaa
