/- Words as numbers from 0 to 2^64 - 1. evenWord and Below: package rng's and the document's own: one number of words is passed over. -/
import Derived.Test.YtedghjededicpaaG2
namespace Go.Proofs.Ytedghjededicpaa
open Go.ChangeShapes Go.WideShapes Go.ChangeAt Go.RowKit
set_option linter.unusedVariables false

theorem mixz_nat (z : Nat) (h : z < 18446744073709551616) : mixz (z : Int) = (mixn z : Nat) := by
  have e1 := mixStep_u64 z 1073741824 13787848793156543929 h
  have e2 := mixStep_u64 ((z ^^^ z / 1073741824) * 13787848793156543929 % 18446744073709551616) 134217728 10723151780598845931 (Nat.mod_lt _ (by decide))
  have e3 := xorShift_u64 (((z ^^^ z / 1073741824) * 13787848793156543929 % 18446744073709551616 ^^^ (z ^^^ z / 1073741824) * 13787848793156543929 % 18446744073709551616 / 134217728) * 10723151780598845931 % 18446744073709551616) 2147483648 (Nat.mod_lt _ (by decide))
  have f1 : mixa 13787848793156543929 1073741824 (z : Int) = (((z ^^^ z / 1073741824) * 13787848793156543929 % 18446744073709551616 : Nat) : Int) := e1
  unfold mixz
  rw [f1]
  have f2 : mixa 10723151780598845931 134217728 (((z ^^^ z / 1073741824) * 13787848793156543929 % 18446744073709551616 : Nat) : Int) = _ := e2
  rw [f2]
  have f3 := e3
  unfold mixb
  rw [show (2147483648 : Int) = ((2147483648 : Nat) : Int) from rfl, f3]
  rfl

theorem uw (x : Int) : IntKind.u64.wrap x = (un x : Int) := by rw [IntKind.wrap_u64, un_cast]
theorem uw_nat (x : Nat) (h : x < 18446744073709551616) : IntKind.u64.wrap (x : Int) = (x : Int) := by rw [IntKind.wrap_u64]; omega

theorem keyz_nat (s t : Int) : keyz s t = (keyn s t : Nat) := by
  unfold keyz keyn
  rw [uw s, uw t, show (un t : Int) + 7146057691288625177 = ((un t + 7146057691288625177 : Nat) : Int) by omega, IntKind.wrap_u64,
    show ((un t + 7146057691288625177 : Nat) : Int) % 18446744073709551616 = (((un t + 7146057691288625177) % 18446744073709551616 : Nat) : Int) by omega,
    mixz_nat _ (Nat.mod_lt _ (by decide)), bits_xor_u64_nat _ _ (un_lt s) (mixn_lt _), mixz_nat _ (xor_lt64 (un_lt s) (mixn_lt _))]

theorem spz_nat (s t k : Int) : spz s t k = IntKind.i64.wrap (spl s t k : Nat) := by
  unfold spz spl
  rw [keyz_nat, uw k, show (un k : Int) + 15111065706836454659 = ((un k + 15111065706836454659 : Nat) : Int) by omega, IntKind.wrap_u64,
    show ((un k + 15111065706836454659 : Nat) : Int) % 18446744073709551616 = (((un k + 15111065706836454659) % 18446744073709551616 : Nat) : Int) by omega,
    mixz_nat _ (Nat.mod_lt _ (by decide)), bits_xor_u64_nat _ _ (keyn_lt s t) (mixn_lt _), mixz_nat _ (xor_lt64 (keyn_lt s t) (mixn_lt _))]

theorem mulmod (x c : Nat) : IntKind.u64.wrap ((x : Int) * (c : Int)) = ((x * c % 18446744073709551616 : Nat) : Int) := by
  rw [IntKind.wrap_u64]; simp

theorem uwn (x : Nat) : IntKind.u64.wrap (x : Int) = ((x % 18446744073709551616 : Nat) : Int) := by rw [IntKind.wrap_u64]; omega
theorem watz_nat (s t a : Int) : watz (keyz s t) a = (wn s t a : Nat) := by
  unfold watz wn
  rw [keyz_nat, uw a, show (un a : Int) + 1 = ((un a + 1 : Nat) : Int) by omega, uwn (un a + 1)]
  rw [show (11400714819323198485 : Int) = ((11400714819323198485 : Nat) : Int) from rfl, mulmod]
  rw [← Int.natCast_add, uwn]
  exact mixz_nat _ (Nat.mod_lt _ (by decide))

theorem wz_nat (s t a : Int) : wz s t a = wrap64 (wn s t a : Nat) := by unfold wz; rw [watz_nat, wrap_i64]; unfold wrap64; rfl
theorem u_wz (s t a : Int) : IntKind.u64.wrap (wz s t a) = (wn s t a : Nat) := by
  rw [wz_nat, IntKind.wrap_u64]
  have := wn_lt s t a
  unfold wrap64
  omega

theorem Dw.put {w : World} {b : Nat} {x y z : Int} (h : Dw w b x y z) (s t a : Int) : Dw (put3 w b (.int .i64 s) (.int .i64 t) (.int .i64 a)) b s t a := by
  have h0 : (w.setCell ⟨b, 0, none⟩ (.int .i64 s)).cell? ⟨b, 0, none⟩ = some (.int .i64 s) := World.cell?_setCell_same _ _ _ h.1.1
  have h1 : (w.setCell ⟨b, 0, none⟩ (.int .i64 s)).cell? ⟨b, 1, none⟩ = some (.int .i64 y) := (World.cell?_setCell_other _ _ _ _ (by simp)).trans h.1.2.1
  have h2 : ((w.setCell ⟨b, 0, none⟩ (.int .i64 s)).setCell ⟨b, 1, none⟩ (.int .i64 t)).cell? ⟨b, 2, none⟩ = some (.int .i64 z) := (World.cell?_setCell_other _ _ _ _ (by simp)).trans ((World.cell?_setCell_other _ _ _ _ (by simp)).trans h.1.2.2)
  refine ⟨⟨?_, ?_, World.cell?_setCell_same _ _ _ h2⟩, fun o => ?_⟩
  · exact (World.cell?_setCell_other _ _ _ _ (by simp)).trans ((World.cell?_setCell_other _ _ _ _ (by simp)).trans h0)
  · exact (World.cell?_setCell_other _ _ _ _ (by simp)).trans (World.cell?_setCell_same _ _ _ h1)
  · unfold put3
    rw [World.frozen?_setCell, World.frozen?_setCell, World.frozen?_setCell]
    exact h.2 o
theorem Dw.far3 {w : World} {b : Nat} {s t a : Int} (h : Dw w b s t a) (c : Nat) (hc : c ≠ b) (x y z : Value) : Dw (put3 w c x y z) b s t a :=
  ((h.far ⟨c, 0, none⟩ hc x).far ⟨c, 1, none⟩ hc y).far ⟨c, 2, none⟩ hc z
theorem Kept.put3 {w X : World} (h : Kept w X) (c : Nat) (hc : w.heap.size ≤ c) (x y z : Value) : Kept w (put3 X c x y z) := ((h.setCell hc _).setCell hc _).setCell hc _
theorem Dr.lt {w : World} {b : Nat} {s t a : Int} (h : Dr w b s t a) : b < w.heap.size := World.block_lt_of_cell? _ _ h.1
def placeOf (w : World) (b : Nat) : Int := match w.cell? ⟨b, 2, none⟩ with
  | some (.int _ a) => a
  | _ => 0
theorem placeOf_dr {w : World} {b : Nat} {s t a : Int} (h : Dr w b s t a) : placeOf w b = a := by unfold placeOf; rw [h.2.2]

theorem rest_eq (n : Nat) (hn : 0 < n) (hn2 : n < 9223372036854775808) : (IntKind.u64.wrap (-(n : Int))).tmod n = ((18446744073709551616 % n : Nat) : Int) := by
  have e : IntKind.u64.wrap (-(n : Int)) = ((18446744073709551616 - n : Nat) : Int) := by rw [IntKind.wrap_u64]; omega
  rw [e, Nat.mod_eq_sub_mod (by omega : n ≤ 18446744073709551616), Int.tmod_eq_emod_of_nonneg (Int.natCast_nonneg _), Int.natCast_emod]
theorem last_eq (n : Nat) (hn : 0 < n) (hn2 : n < 9223372036854775808) : IntKind.u64.wrap (18446744073709551615 - ((18446744073709551616 % n : Nat) : Int)) = ((lim n : Nat) : Int) - 1 := by
  have h2 := Nat.mod_lt 18446744073709551616 hn
  unfold lim
  rw [IntKind.wrap_u64]
  generalize 18446744073709551616 % n = r at *
  omega
theorem lim_int (n : Nat) (h : 0 < n) : ((lim n : Nat) : Int) = 18446744073709551616 - (18446744073709551616 % n : Nat) := by
  have := Nat.mod_lt 18446744073709551616 h
  have := Nat.mod_le 18446744073709551616 n
  unfold lim; omega

set_option maxHeartbeats 2000000 in
theorem even_any (s t a : Int) (n j : Nat) (hn : 0 < n) (hn2 : n < 9223372036854775808) (hj : Over s t a (lim n) j) (w : World) : Calls Try.prog 83 #[.agg #[.int .i64 s, .int .i64 t, .int .i64 a], .int .u64 n] w fun e w' => e = .returned (.tuple #[.int .u64 (wn s t (a + j)), .agg #[.int .i64 s, .int .i64 t, .int .i64 (wrap64 (a + j + 1))]]) ∧ Kept w w' := by
  have hA := (Kept.refl w).alloc #[.int .i64 s, .int .i64 t, .int .i64 a] 54
  have hB := (Kept.refl (w.alloc (.cells #[.int .i64 s, .int .i64 t, .int .i64 a] 54))).alloc #[.int .i64 0, .int .i64 0, .int .i64 0] 54
  have d1 := (dw_new w s t a 54).kept hB
  have d2 := (dw_new (w.alloc (.cells #[.int .i64 s, .int .i64 t, .int .i64 a] 54)) 0 0 0 54)
  rw [show (w.alloc (.cells #[.int .i64 s, .int .i64 t, .int .i64 a] 54)).heap.size = w.heap.size + 1 by simp] at d2
  have hW0 := hA.trans hB
  clear hA hB
  have e1 := rest_eq n hn hn2
  have e2 := last_eq n hn hn2
  have hlp := lim_pos n hn hn2
  have hle := lim_le n
  have hjn : j < 9223372036854775808 := by
    have := over_few s t a (lim n) j (by omega) hle hj
    omega
  obtain ⟨R, hR⟩ : ∃ R : Int, R = ((18446744073709551616 % n : Nat) : Int) := ⟨_, rfl⟩
  obtain ⟨L, hL⟩ : ∃ L : Int, L = ((lim n : Nat) : Int) - 1 := ⟨_, rfl⟩
  rw [← hR] at e1 e2
  rw [← hL] at e2
  clear hR
  have HL : Hid (L = ((lim n : Nat) : Int) - 1) := hL
  clear hL
  have HJ : Hid (Over s t a (lim n) j) := hj
  clear hj
  go_enter Try.func83, Try.ntmps83
  go_upto_region 1 with fail
  obtain ⟨X, hX⟩ : ∃ X, X = (w.alloc (.cells #[.int .i64 s, .int .i64 t, .int .i64 a] 54)).alloc (.cells #[.int .i64 0, .int .i64 0, .int .i64 0] 54) := ⟨_, rfl⟩
  rw [← hX] at d1 d2 hW0 ⊢
  clear hX
  go_wp2_with fail
  go_loopw [8] (fun v wr => ∃ (i : Nat) (at' : Int), i ≤ j ∧ Dw wr w.heap.size s t at' ∧ (∃ x y z, Dw wr (w.heap.size + 1) x y z) ∧ at' % 18446744073709551616 = (a + i) % 18446744073709551616 ∧ Kept w wr) (fun v wr => ((a + j - placeOf wr w.heap.size) % 18446744073709551616).toNat)
  case atStart => exact ⟨0, a, Nat.zero_le _, d1, ⟨0, 0, 0, d2⟩, by simp, hW0⟩
  case round =>
    obtain ⟨i, at', hij, hd, ⟨x, y, z, hr⟩, hm, hKr⟩ := hrel
    have HPL : Hid (placeOf wr w.heap.size = at') := placeOf_dr hd.1
    obtain ⟨⟨c0, c1, c2⟩, f1⟩ := hd
    go_wp2_with fail
    refine (gnext_any s t at' _).mono ?_
    rintro e w1 ⟨rfl, hk1⟩
    go_upto_region 4 with fail
    have hd1 : Dw w1 w.heap.size s t at' := Dw.kept ⟨⟨c0, c1, c2⟩, f1⟩ hk1
    have hlt := hr.1.lt
    have hsz := hk1.below.size
    have kY := (hKr.trans hk1).alloc #[.int .i64 s, .int .i64 t, .int .i64 (wrap64 (at' + 1))] 54
    have kA := (Kept.refl w1).alloc #[.int .i64 s, .int .i64 t, .int .i64 (wrap64 (at' + 1))] 54
    have yc := dw_new w1 s t (wrap64 (at' + 1)) 54
    have yd := hd1.kept kA
    have yr := (hr.kept hk1).kept kA
    obtain ⟨C, hC⟩ : ∃ C, C = w1.heap.size := ⟨_, rfl⟩
    obtain ⟨Y, hY⟩ : ∃ Y, Y = w1.alloc (.cells #[.int .i64 s, .int .i64 t, .int .i64 (wrap64 (at' + 1))] 54) := ⟨_, rfl⟩
    rw [← hC] at yc hsz ⊢
    rw [← hY] at yc yd yr kY ⊢
    have hCb : C ≠ w.heap.size := by omega
    have hCr : C ≠ w.heap.size + 1 := by omega
    have hCw : w.heap.size ≤ C := by omega
    clear hY hC kA hd1 hr hk1 c0 c1 c2 f1 hKr
    obtain ⟨p', hp'⟩ : ∃ p', p' = wrap64 (at' + 1) := ⟨_, rfl⟩
    rw [← hp'] at yc ⊢
    have hp2 : p' % 18446744073709551616 = (a + i + 1) % 18446744073709551616 := by rw [hp']; unfold wrap64; omega
    have HP : Hid (p' = wrap64 (at' + 1)) := hp'
    clear hp'
    have u1 : IntKind.u64.wrap (wz s t at') = (wn s t (a + i) : Nat) := by rw [u_wz, wn_cong s t at' (a + i) hm]
    obtain ⟨V, hV⟩ : ∃ V : Nat, V = wn s t (a + i) := ⟨_, rfl⟩
    rw [← hV] at u1
    have hl := HL.out
    by_cases hi : i = j
    · subst hi
      have hv : (V : Int) ≤ L := by have := HJ.out.2; omega
      have hvn : ¬ L < (V : Int) := by omega
      have hres : p' = wrap64 (a + i + 1) := by rw [HP.out]; unfold wrap64; omega
      have HV : Hid (V = wn s t (a + i) ∧ p' = wrap64 (a + i + 1)) := ⟨hV, hres⟩
      clear hl hV hp2 hm hres
      go_upto_region 5 with fail
      obtain ⟨⟨c0, c1, c2⟩, f1⟩ := yc
      obtain ⟨⟨c3, c4, c5⟩, f2⟩ := yr
      go_region_held (fun u => Kept w u ∧ u.cell? ⟨C, 0, none⟩ = some (.int .i64 s) ∧ u.cell? ⟨C, 1, none⟩ = some (.int .i64 t) ∧ u.cell? ⟨C, 2, none⟩ = some (.int .i64 p')) (first | exact ⟨kY.drew, c0, c1, c2⟩ | assumption | exact keep3d kY (by simp) (Ne.symm hCr) ⟨c0, c1, c2⟩ _ _ _) (fail)
      go_wp2
      exact bodyPost_ret (v := .tuple #[.int .u64 V, .agg #[.int .i64 s, .int .i64 t, .int .i64 p']]) (by simp [results, Try.results83, go_sem, *]) rfl ⟨by rw [← HV.out.1, ← HV.out.2], (keep3d kY (by simp) (Ne.symm hCr) ⟨c0, c1, c2⟩ _ _ _).1⟩
    · have hij2 : i < j := by omega
      have hv : ¬ (V : Int) ≤ L := by have := HJ.out.1 i hij2; omega
      have hvn : L < (V : Int) := by omega
      clear hl hV
      go_upto_region 6 with fail
      have YD := yd
      have YR := yr
      have HD : Hid (Dw Y w.heap.size s t at' ∧ Dw Y (w.heap.size + 1) x y z) := ⟨YD, YR⟩
      clear YD YR yr
      obtain ⟨⟨c0, c1, c2⟩, f1⟩ := yc
      obtain ⟨⟨c3, c4, c5⟩, f2⟩ := yd
      go_wp2_with fail
      go_roundw
      case rel => exact ⟨i + 1, p', by omega, (HD.out.1.put s t p'), ⟨x, y, z, HD.out.2.far3 _ (by simp) _ _ _⟩, by rw [hp2]; simp [Int.add_assoc], kY.put3 _ (Nat.le_refl _) _ _ _⟩
      case measure =>
        have q1 : placeOf (put3 Y w.heap.size (.int .i64 s) (.int .i64 t) (.int .i64 p')) w.heap.size = p' := placeOf_dr (HD.out.1.put s t p').1
        unfold put3 at q1
        rw [q1, HPL.out]
        omega

end Go.Proofs.Ytedghjededicpaa
