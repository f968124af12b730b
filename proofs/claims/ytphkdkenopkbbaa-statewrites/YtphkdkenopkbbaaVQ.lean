/- Package state: a writer puts a number. -/
import Derived.Test.YtphkdkenopkbbaaVM
namespace Go.Proofs.Ytphkdkenopkbbaa
open Go.ChangeShapes Go.WideShapes Go.ChangeAt Go.RowKit
set_option linter.unusedVariables false
set_option linter.unusedSimpArgs false

/-- The lowest k bytes of a number. -/
def le : Nat → Int → List Int
  | 0, _ => []
  | k + 1, n => le k n ++ [n / 2 ^ (8 * k) % 256]
theorem le_len (k : Nat) (n : Int) : (le k n).length = k := by
  induction k with
  | zero => rfl
  | succ k ih => simp [le, ih]
theorem lb_under : Try.prog.underlying 35 = some (.slice 5) := by kernel_rfl
theorem lb_info : (Try.prog.info? 5).map (fun i => (i.zero, i.size, i.bytes)) = some (some (.int .u8 0), 1, 1) := by kernel_rfl
/-- A writer in its variable: what it has put, and its room. -/
structure WV (u : World) (Wb g C : Nat) (V : List Int) : Prop where
  c : u.cell? ⟨Wb, 0, none⟩ = some (.slice (some ⟨g, 0, none⟩) V.length C)
  fz : u.frozen? ⟨Wb, 0, none⟩ = false
  o : OwnV u g C 5 (V.map (Value.int .u8))
  ne : Wb ≠ g
theorem WV.lt {u : World} {Wb g C : Nat} {V : List Int} (h : WV u Wb g C V) : Wb < u.heap.size := World.block_lt_of_cell? _ _ h.c
theorem WV.kept {u u' : World} {Wb g C : Nat} {V : List Int} (h : WV u Wb g C V) (k : Kept u u') : WV u' Wb g C V :=
  ⟨(k.below.cell (p := ⟨Wb, 0, none⟩) h.lt).trans h.c, (k.frozen _).trans h.fz, h.o.kept k, h.ne⟩
/-- One byte more: where there is room. -/
theorem w_put {u : World} {Wb g C : Nat} {V : List Int} (h : WV u Wb g C V) (hr : V.length < C) (x : Int) (hC : C ≤ 100000000) :
    ∃ w', (∀ ty, (Builtin.append_ #[35, 35] ty #[.slice (some ⟨g, 0, none⟩) V.length C, .slice (some ⟨u.heap.size, 0, none⟩) 1 1]).run Try.prog (u.alloc (.cells #[.int .u8 x] 5)) = .ok (.slice (some ⟨g, 0, none⟩) (V.length + 1) C) w') ∧ KX (fun b => b = g) u w' ∧ WV (w'.setCell ⟨Wb, 0, none⟩ (.slice (some ⟨g, 0, none⟩) (V.length + 1) C)) Wb g C (V ++ [x]) ∧ w'.cell? ⟨Wb, 0, none⟩ = some (.slice (some ⟨g, 0, none⟩) V.length C) ∧ w'.frozen? ⟨Wb, 0, none⟩ = false := by
  obtain ⟨i, hi, hz2, hs, hb⟩ := info_parts lb_info
  have hK : Kept u (u.alloc (.cells #[.int .u8 x] 5)) := (Kept.refl _).alloc _ _
  obtain ⟨w, hw⟩ : ∃ w, w = u.alloc (.cells #[.int .u8 x] 5) := ⟨_, rfl⟩
  have hcell : ∀ j y, ([Value.int .u8 x] : List Value)[j]? = some y → w.cell? ((⟨u.heap.size, 0, none⟩ : Addr).add j) = some y := fun j y hj => by
    rw [hw, Addr.add_lit, Nat.zero_add]
    rw [cell_of_row (u.alloc (.cells #[.int .u8 x] 5)) u.heap.size j #[.int .u8 x] 5 (0, 0) (heap_alloc_new u _)]
    simpa using hj
  have hS : Src Try.prog i.size 35 (.slice (some ⟨u.heap.size, 0, none⟩) 1 1) 1 [Value.int .u8 x] w := Src.ofSlice w lb_under ⟨u.heap.size, 0, none⟩ 1 1 [Value.int .u8 x] (by rw [hs]; simp) hcell (fun y hy => by
    rw [List.mem_singleton] at hy
    rw [hy]; rfl)
  rw [← hw] at hK ⊢
  have hO := h.o.kept hK
  have hl : (V.map (Value.int .u8)).length = V.length := List.length_map ..
  have hG := (Grw.refl g w).setCells [Value.int .u8 x] V.length
  have hO2 : OwnV (w.setCells g V.length [Value.int .u8 x]) g C 5 ((V ++ [x]).map (Value.int .u8)) := by
    have := hO.pushes [Value.int .u8 x] (by rw [hl]; simp; omega)
    rw [hl] at this
    rw [List.map_append]
    exact this
  have hc : (w.setCells g V.length [Value.int .u8 x]).cell? ⟨Wb, 0, none⟩ = some (.slice (some ⟨g, 0, none⟩) V.length C) := by
    have hb := hG.kx.block Wb (Nat.lt_of_lt_of_le h.lt hK.below.size) h.ne
    exact (World.cell?_of_block hb).trans ((h.kept hK).c)
  have hf : (w.setCells g V.length [Value.int .u8 x]).frozen? ⟨Wb, 0, none⟩ = false := (hG.frozen _).trans ((h.kept hK).fz)
  refine ⟨w.setCells g V.length [Value.int .u8 x], fun ty => ?_, (hK.kx _).trans hG.kx, ⟨?_, (World.frozen?_setCell _ _ _ _).trans hf, hO2.setOther (by show g ≠ Wb; exact fun e => h.ne e.symm) _, h.ne⟩, hc, hf⟩
  · have := run_append_room_src w 35 35 ty 5 i lb_under hi g 0 V.length C (.slice (some ⟨u.heap.size, 0, none⟩) 1 1) 1 [Value.int .u8 x] hS (by omega) (fun j hj => hO.some _ (by simp at hj; rw [hs]; omega)) (fun j hj => hO.free _)
    rw [this, hs]
    simp
  · rw [World.cell?_setCell_same _ _ _ (by rw [hc])]
    simp

set_option maxHeartbeats 4000000 in
set_option maxRecDepth 100000 in
theorem wnumber_any (k : Nat) (ki n : Int) (hki : (k : Int) = ki) (hk : k ≤ 8) (Wb g C : Nat) (hC : C ≤ 100000000) (V : List Int) (hr : V.length + k ≤ C) (w : World) (hW : WV w Wb g C V) :
    Calls Try.prog 48 #[.pointer (some ⟨Wb, 0, none⟩), .int .i64 n, .int .i64 ki] w fun e w' => e = .returned (.tuple #[]) ∧ KX (fun b => b = Wb ∨ b = g) w w' ∧ WV w' Wb g C (V ++ le k n) := by
  subst hki
  have HK := hid (show k ≤ 8 ∧ V.length + k ≤ C from ⟨hk, hr⟩)
  have HW := hid hW
  clear hk hr hW
  go_enter Try.func48, Try.ntmps48
  go_wp2_with fail
  go_loopw [8] (fun iv wr => ∃ i : Nat, i ≤ k ∧ iv = .int .i64 (i : Int) ∧ KX (fun b => b = Wb ∨ b = g) w wr ∧ WV wr Wb g C (V ++ le i n)) (fun iv _ => k - (intOf iv).toNat)
  case atStart => exact ⟨0, Nat.zero_le _, rfl, (Kept.refl w).kx _, by simpa [le] using HW.out⟩
  case round =>
    obtain ⟨i, hi, rfl, kx, wv⟩ := hrel
    by_cases hik : i < k
    · have hbd2 : (i : Int) < (k : Int) := by omega
      have z2 : IntKind.i64.wrap ((i : Int) + 1) = (i : Int) + 1 := by have := HK.out; rw [wrap_i64]; omega
      obtain ⟨s8, hs8⟩ : ∃ s8 : Int, s8 = 8 * (i : Int) := ⟨_, rfl⟩
      have z3 : IntKind.i64.wrap (8 * (i : Int)) = s8 := by have := HK.out; rw [wrap_i64]; omega
      obtain ⟨y, hy⟩ : ∃ y : Int, n / 2 ^ (8 * i) = y := ⟨_, rfl⟩
      have z4 : Op.shift .shr .i64 n .i64 s8 = pure (.int .i64 y) := by
        have := HK.out
        rw [shift_shr_any .i64 .i64 n s8 (by omega), hs8, show (8 * (i : Int)).toNat = 8 * i by omega, Nat.min_eq_left (by show 8 * i ≤ 64; omega), hy]
      obtain ⟨x, hx⟩ : ∃ x : Int, y % 256 = x := ⟨_, rfl⟩
      have z5 : IntKind.u8.wrap y = x := by rw [IntKind.wrap_u8]; exact hx
      have hle : (V ++ le (i + 1) n) = (V ++ le i n) ++ [x] := by rw [← hx, ← hy, List.append_assoc]; rfl
      have hll : (V ++ le i n).length = V.length + i := by rw [List.length_append, le_len]
      have wvd := wv.kept (Kept.refl wr).drew
      obtain ⟨w6, hrun, k6, wv6, c6, f6⟩ := w_put wvd (by rw [hll]; have := HK.out; omega) x hC
      have hkx := hid (kx.trans ((((Kept.refl wr).drew.kx _).trans (k6.mono fun b hb => .inr hb))))
      have hwv6 := hid wv6
      have c0 := wv.c
      have f0 := wv.fz
      have hcd := hid wvd.c
      have hne := wv.ne
      have HLE := hid hle
      obtain ⟨Ln, hLn⟩ : ∃ Ln, (V ++ le i n).length = Ln := ⟨_, rfl⟩
      rw [hLn] at hrun c6 c0
      have HLn := hid hLn
      have HR := hid hrun
      have hik2 := hid hik
      have hi2 := hid hi
      have hws : w6.setCell ⟨Wb, 0, none⟩ (.slice (some ⟨g, 0, none⟩) (Ln + 1) C) = w6.setCell ⟨Wb, 0, none⟩ (.slice (some ⟨g, 0, none⟩) (Ln + 1) C) := rfl
      clear hle hll wvd k6 wv6 kx wv hs8 hy hx hLn hrun hws hik hi
      go_wp2_with fail
      refine wp_region_late [12, 13, 14] (fun u => u.cell? ⟨Wb, 0, none⟩ = some (.slice (some ⟨g, 0, none⟩) Ln C)) (by kernel_rfl) (show wr.drew.cell? _ = _ from c0) (fun hHeld => ?_)
      refine wpAnyD_take (i := 0) (v := ?_) rfl (by kernel_rfl) (by kernel_rfl) (by kernel_rfl) (by kernel_rfl) (fun _ _ _ h => h) (Or.inl ⟨by rfl, ?hya0⟩) hHeld ?_
      case hya0 => (intro w hSw; (try dsimp only at hSw); go_simp; try (with_reducible rfl))
      (try simp only [Act.put, List.getElem_toArray, List.getElem_cons_succ, List.getElem_cons_zero, List.setIfInBounds_toArray, List.set_cons_zero, List.set_cons_succ])
      refine wpAnyD_take (i := 1) (v := ?_) rfl (by kernel_rfl) (by kernel_rfl) (by kernel_rfl) (by kernel_rfl) (fun _ _ _ h => h) (Or.inl ⟨by rfl, ?hya1⟩) hHeld ?_
      case hya1 => (intro w hSw; (try dsimp only at hSw); go_simp; try (with_reducible rfl))
      (try simp only [Act.put, List.getElem_toArray, List.getElem_cons_succ, List.getElem_cons_zero, List.setIfInBounds_toArray, List.set_cons_zero, List.set_cons_succ])
      refine wpAnyD_take (i := 2) (v := ?_) rfl (by kernel_rfl) (by kernel_rfl) (by kernel_rfl) (by kernel_rfl) (fun _ _ _ h => h) (Or.inl ⟨by rfl, ?hya2⟩) hHeld ?_
      case hya2 => (intro w hSw; (try dsimp only at hSw); go_simp; try (with_reducible rfl))
      (try simp only [Act.put, List.getElem_toArray, List.getElem_cons_succ, List.getElem_cons_zero, List.setIfInBounds_toArray, List.set_cons_zero, List.set_cons_succ])
      refine wpAnyD_take (i := 3) (v := ?_) rfl (by kernel_rfl) (by kernel_rfl) (by kernel_rfl) (by kernel_rfl) (fun _ _ _ h => h) (Or.inl ⟨by rfl, ?hya3⟩) hHeld ?_
      case hya3 => (intro w hSw; (try dsimp only at hSw); go_simp; try (with_reducible rfl))
      (try simp only [Act.put, List.getElem_toArray, List.getElem_cons_succ, List.getElem_cons_zero, List.setIfInBounds_toArray, List.set_cons_zero, List.set_cons_succ])
      refine wpAnyD_take (i := 4) (v := ?_) rfl (by kernel_rfl) (by kernel_rfl) (by kernel_rfl) (by kernel_rfl) (fun _ _ _ h => h) (Or.inl ⟨by rfl, ?hya4⟩) hHeld ?_
      case hya4 => (intro w hSw; (try dsimp only at hSw); go_simp; try (with_reducible rfl))
      (try simp only [Act.put, List.getElem_toArray, List.getElem_cons_succ, List.getElem_cons_zero, List.setIfInBounds_toArray, List.set_cons_zero, List.set_cons_succ])
      refine wpAnyD_take (i := 5) (v := ?_) rfl (by kernel_rfl) (by kernel_rfl) (by kernel_rfl) (by kernel_rfl) (fun _ _ _ h => h) (Or.inl ⟨by rfl, ?hya5⟩) hHeld ?_
      case hya5 => (intro w hSw; (try dsimp only at hSw); go_simp; try (with_reducible rfl))
      (try simp only [Act.put, List.getElem_toArray, List.getElem_cons_succ, List.getElem_cons_zero, List.setIfInBounds_toArray, List.set_cons_zero, List.set_cons_succ])
      refine wpAnyD_take (i := 6) (v := ?_) rfl (by kernel_rfl) (by kernel_rfl) (by kernel_rfl) (by kernel_rfl) (fun _ _ _ h => h) (Or.inl ⟨by rfl, ?hya6⟩) hHeld ?_
      case hya6 => (intro w hSw; (try dsimp only at hSw); go_simp; try (with_reducible rfl))
      (try simp only [Act.put, List.getElem_toArray, List.getElem_cons_succ, List.getElem_cons_zero, List.setIfInBounds_toArray, List.set_cons_zero, List.set_cons_succ])
      refine wpAnyD_take (i := 7) (v := ?_) rfl (by kernel_rfl) (by kernel_rfl) (by kernel_rfl) (by kernel_rfl) (fun _ _ _ h => h) (Or.inl ⟨by rfl, ?hya7⟩) hHeld ?_
      case hya7 => (intro w hSw; (try dsimp only at hSw); go_simp; try (with_reducible rfl))
      (try simp only [Act.put, List.getElem_toArray, List.getElem_cons_succ, List.getElem_cons_zero, List.setIfInBounds_toArray, List.set_cons_zero, List.set_cons_succ])
      refine wpAnyD_take (i := 8) (v := ?_) rfl (by kernel_rfl) (by kernel_rfl) (by kernel_rfl) (by kernel_rfl) (fun _ _ _ h => h) (Or.inl ⟨by rfl, ?hya8⟩) hHeld ?_
      case hya8 => (intro w hSw; (try dsimp only at hSw); go_simp; try (with_reducible rfl))
      (try simp only [Act.put, List.getElem_toArray, List.getElem_cons_succ, List.getElem_cons_zero, List.setIfInBounds_toArray, List.set_cons_zero, List.set_cons_succ])
      refine wpAnyD_take (i := 9) (v := ?_) rfl (by kernel_rfl) (by kernel_rfl) (by kernel_rfl) (by kernel_rfl) (fun _ _ _ h => h) (Or.inl ⟨by rfl, ?hya9⟩) hHeld ?_
      case hya9 => (intro w hSw; (try dsimp only at hSw); go_simp; try (with_reducible rfl))
      (try simp only [Act.put, List.getElem_toArray, List.getElem_cons_succ, List.getElem_cons_zero, List.setIfInBounds_toArray, List.set_cons_zero, List.set_cons_succ])
      refine wpAnyD_step (i := 10) (by kernel_rfl) rfl (fun K hK9 => ?_)
      go_simp
      refine hK9.out _ _ (show (World.alloc _ _).cell? _ = _ from (World.cell?_alloc_some _ _ _ (by show (wr.drew.cell? _).isSome = true; rw [show wr.drew.cell? ⟨Wb, 0, none⟩ = _ from c0]; rfl)).trans c0) (fun hHeld3 => ?_)
      clear hK9 K
      (try simp only [Act.put, List.getElem_toArray, List.getElem_cons_succ, List.getElem_cons_zero, List.setIfInBounds_toArray, List.set_cons_zero, List.set_cons_succ])
      refine wpAnyD_step (i := 11) (by kernel_rfl) rfl (fun K hK9 => ?_)
      rw [if_pos (by rfl)]
      refine oper_append_run _ _ _ rfl _ _ rfl rfl _ _ (HR.out _) ?_
      refine hK9.out _ _ (c6) (fun hHeld4 => ?_)
      clear hK9 K
      (try simp only [Act.put, List.getElem_toArray, List.getElem_cons_succ, List.getElem_cons_zero, List.setIfInBounds_toArray, List.set_cons_zero, List.set_cons_succ])
      refine wpAnyD_late (i := 12) (by kernel_rfl) rfl rfl (fun K hK9 => ?_)
      go_simp
      refine hK9.out _ _ ?_
      clear hK9 K
      (try simp only [Act.put, List.getElem_toArray, List.getElem_cons_succ, List.getElem_cons_zero, List.setIfInBounds_toArray, List.set_cons_zero, List.set_cons_succ])
      refine wpAnyD_late (i := 13) (by kernel_rfl) rfl rfl (fun K hK9 => ?_)
      go_simp
      refine hK9.out _ _ ?_
      clear hK9 K
      (try simp only [Act.put, List.getElem_toArray, List.getElem_cons_succ, List.getElem_cons_zero, List.setIfInBounds_toArray, List.set_cons_zero, List.set_cons_succ])
      refine wpAnyD_late (i := 14) (by kernel_rfl) rfl rfl (fun K hK9 => ?_)
      go_simp
      refine hK9.out _ _ ?_
      clear hK9 K
      (try simp only [Act.put, List.getElem_toArray, List.getElem_cons_succ, List.getElem_cons_zero, List.setIfInBounds_toArray, List.set_cons_zero, List.set_cons_succ])
      refine wpAnyD_done (by kernel_rfl) ?_ _
      (try simp only [Act.put, List.getElem_toArray, List.getElem_cons_succ, List.getElem_cons_zero, List.setIfInBounds_toArray, List.set_cons_zero, List.set_cons_succ])
      go_wp2_with fail
      go_roundw
      case rel =>
        have e9 := HLn.out
        subst e9
        exact ⟨i + 1, by have := hik2.out; omega, by go_num, hkx.out.trans (((Grw.refl Wb w6).setCell 0 _).kx.mono fun b hb => .inl hb), by rw [HLE.out]; exact hwv6.out⟩
      case measure => have := hik2.out; simp [intOf]; omega
    · obtain rfl : i = k := by omega
      have hge : ¬ ((i : Int) < (i : Int)) := by omega
      go_wp2_with fail
      go_end0
      exact ⟨rfl, kx, wv⟩
end Go.Proofs.Ytphkdkenopkbbaa
