/- ExactAll. -/
import Derived.Test.YtbffekcjdcihpaaGreatDoorK14
import Derived.Test.YtbffekcjdcihpaaGreatDoorY6
import Derived.Test.YtbffekcjdcihpaaGreatDoorC17
import Derived.Test.YtbffekcjdcihpaaGreatDoorQA
namespace Go.Proofs.YtbffekcjdcihpaaGreatDoor
open Go.ChangeShapes Go.WideShapes Go.ChangeAt Go.RowKit
set_option linter.unusedVariables false
set_option linter.unusedSimpArgs false
set_option maxHeartbeats 16000000
set_option maxRecDepth 100000
def A10 (w : World) (b o : Nat) (z0 z1 z2 z3 : Int) (A B : Nm) (p1 p2 : Option Addr) (d1 d2 : Nat) : Prop := w.cell? ⟨b, o, none⟩ = some (.int .i64 z0) ∧ w.cell? ⟨b, o + 1, none⟩ = some (.int .i64 z1) ∧ w.cell? ⟨b, o + 2, none⟩ = some (.int .i64 z2) ∧ w.cell? ⟨b, o + 3, none⟩ = some (.int .i64 z3) ∧ w.cell? ⟨b, o + 4, none⟩ = some (.bool A.neg) ∧ w.cell? ⟨b, o + 5, none⟩ = some (.slice p1 A.mag.length d1) ∧ w.cell? ⟨b, o + 6, none⟩ = some (.int .i64 A.exp) ∧ w.cell? ⟨b, o + 7, none⟩ = some (.bool B.neg) ∧ w.cell? ⟨b, o + 8, none⟩ = some (.slice p2 B.mag.length d2) ∧ w.cell? ⟨b, o + 9, none⟩ = some (.int .i64 B.exp)
theorem A10.block {w w' : World} {b o : Nat} {z0 z1 z2 z3 : Int} {A B : Nm} {p1 p2 : Option Addr} {d1 d2 : Nat} (h : A10 w b o z0 z1 z2 z3 A B p1 p2 d1 d2) (e : w'.heap[b]? = w.heap[b]?) : A10 w' b o z0 z1 z2 z3 A B p1 p2 d1 d2 :=
 ⟨(World.cell?_of_block (a := ⟨b, o, none⟩) e).trans h.1, (World.cell?_of_block (a := ⟨b, o + 1, none⟩) e).trans h.2.1, (World.cell?_of_block (a := ⟨b, o + 2, none⟩) e).trans h.2.2.1, (World.cell?_of_block (a := ⟨b, o + 3, none⟩) e).trans h.2.2.2.1, (World.cell?_of_block (a := ⟨b, o + 4, none⟩) e).trans h.2.2.2.2.1, (World.cell?_of_block (a := ⟨b, o + 5, none⟩) e).trans h.2.2.2.2.2.1, (World.cell?_of_block (a := ⟨b, o + 6, none⟩) e).trans h.2.2.2.2.2.2.1, (World.cell?_of_block (a := ⟨b, o + 7, none⟩) e).trans h.2.2.2.2.2.2.2.1, (World.cell?_of_block (a := ⟨b, o + 8, none⟩) e).trans h.2.2.2.2.2.2.2.2.1, (World.cell?_of_block (a := ⟨b, o + 9, none⟩) e).trans h.2.2.2.2.2.2.2.2.2⟩
theorem a10_new (w : World) (z0 z1 z2 z3 : Int) (A B : Nm) (p1 p2 : Option Addr) (d1 d2 : Nat) : A10 (w.alloc (.cells #[.int .i64 z0, .int .i64 z1, .int .i64 z2, .int .i64 z3, .bool A.neg, .slice p1 A.mag.length d1, .int .i64 A.exp, .bool B.neg, .slice p2 B.mag.length d2, .int .i64 B.exp] 31)) w.heap.size 0 z0 z1 z2 z3 A B p1 p2 d1 d2 := by
 refine ⟨?_, ?_, ?_, ?_, ?_, ?_, ?_, ?_, ?_, ?_⟩ <;> simp [go_sem]
theorem exactAll_true (w : World) (hT : Tab w) (ar : Option Addr) (len cap : Nat) (hA : ∀ i, i < len → ∃ b off, ar = some ⟨b, off, none⟩ ∧ ∃ (z0 z1 z2 z3 : Int) (A B : Nm) (p1 p2 : Option Addr) (d1 d2 : Nat), A10 w b (off + i * 10) z0 z1 z2 z3 A B p1 p2 d1 d2 ∧ (-9223372036854775808 ≤ z1 ∧ z1 ≤ 9223372036854775807) ∧ (-9223372036854775808 ≤ A.exp ∧ A.exp ≤ 9223372036854775807) ∧ (p1 = none → d1 = 0) ∧ (p2 = none → d2 = 0) ∧ Rg A.mag ∧ Rg B.mag ∧ Sl w (.slice p1 A.mag.length d1) A.mag ∧ Sl w (.slice p2 B.mag.length d2) B.mag) : Calls Tryz.prog 3 #[.slice ar len cap] w fun e w' => e = .returned (.bool true) ∧ Kept w w' := by
 have HA : Hid (∀ i, i < len → ∃ b off, ar = some ⟨b, off, none⟩ ∧ ∃ (z0 z1 z2 z3 : Int) (A B : Nm) (p1 p2 : Option Addr) (d1 d2 : Nat), A10 w b (off + i * 10) z0 z1 z2 z3 A B p1 p2 d1 d2 ∧ (-9223372036854775808 ≤ z1 ∧ z1 ≤ 9223372036854775807) ∧ (-9223372036854775808 ≤ A.exp ∧ A.exp ≤ 9223372036854775807) ∧ (p1 = none → d1 = 0) ∧ (p2 = none → d2 = 0) ∧ Rg A.mag ∧ Rg B.mag ∧ Sl w (.slice p1 A.mag.length d1) A.mag ∧ Sl w (.slice p2 B.mag.length d2) B.mag) := hA
 have HT : Hid (Tab w) := hT
 have KAL : Hid (∀ u, Kept w u → Calls Tryz.prog 9 #[] u fun e w' => e = .returned (.bool true) ∧ Kept u w') := fun u k => alive_any u (hT.kept k)
 have KAP : Hid (∀ u vL vW E, KeepAt w u w.heap.size vL vW E → E.length ≤ 300 → Calls Tryz.prog 10 #[.pointer (some ⟨w.heap.size, 0, none⟩)] u fun e w' => e = .returned (.bool true) ∧ Kept w w') := fun u vL vW E h hE => apart_true w u _ vL vW E h hE
 clear hA hT
 have kn : KeepAt w (w.alloc (.cells #[.slice none 0 0, .slice none 0 0] 26)) w.heap.size (.slice none 0 0) (.slice none 0 0) [] := keep_none2 w _ _ ((Kept.refl w).alloc _ _) (Nat.le_refl _) (heap_alloc_new w _)
 go_enter Tryz.func3, Tryz.ntmps3
 go_upto_region 2 with fail
 obtain ⟨X, hX⟩ : ∃ X, X = w.alloc (.cells #[.slice none 0 0, .slice none 0 0] 26) := ⟨_, rfl⟩
 rw [← hX] at kn ⊢
 clear hX
 have H0 : Hid (KeepAt w X w.heap.size (.slice none 0 0) (.slice none 0 0) []) := kn
 clear kn
 go_wp2_with fail
 go_loopw [4] (fun iv wr => ∃ (i : Nat) (vL vW : Value) (E : List Ent), i ≤ len ∧ i ≤ 20 ∧ iv = .int .i64 i ∧ KeepAt w wr w.heap.size vL vW E ∧ E.length ≤ 6 * i) (fun iv _ => 20 - (intOf iv).toNat)
 case atStart => exact ⟨0, _, _, [], Nat.zero_le _, Nat.zero_le _, rfl, H0.out, by simp⟩
 case round =>
  clear H0
  obtain ⟨i, vL, vW, E, hil, hi20, rfl, hK, hE⟩ := hrel
  have HK : Hid (KeepAt w wr w.heap.size vL vW E ∧ E.length ≤ 6 * i) := ⟨hK, hE⟩
  clear hK hE
  by_cases hl : i < len
  ·by_cases h20 : i < 20
   ·obtain ⟨b, off, rfl, z0, z1, z2, z3, A, B, p1, p2, d1, d2, hask, hz1, hxe, hc1, hc2, rA, rB, sA, sB⟩ := HA.out i hl
    have ha := hask.block (HK.out.1.kept.below.block b (World.block_lt_of_cell? _ _ hask.1))
    have g1 : (i : Int) < (len : Int) := by omega
    have g2 : (i : Int) < 20 := by omega
    have z1w : IntKind.i64.wrap ((i : Int) + 1) = (i : Int) + 1 := by rw [wrap_i64]; omega
    have KFR : Hid (∀ u, Kept w u → ∃ fb : Bool, (fb = false → A.mag.length ≤ 2100 ∧ B.mag.length ≤ 2100) ∧ Calls Tryz.prog 4 #[.agg #[.bool A.neg, .slice p1 A.mag.length d1, .int .i64 A.exp], .agg #[.bool B.neg, .slice p2 B.mag.length d2, .int .i64 B.exp]] u fun e w' => e = .returned (.bool fb) ∧ Kept u w') := fun u k => far_any u A.neg B.neg p1 p2 A.mag.length d1 B.mag.length d2 A.exp B.exp (vld A) (vld B) (fun hl t kt => rvalid2_any A rA (by omega) _ t ⟨_, rfl, (sA.kept k).kept kt⟩) (fun hl t kt => rvalid2_any B rB (by omega) _ t ⟨_, rfl, (sB.kept k).kept kt⟩)
    have KM : Hid (A.mag.length ≤ 30 → ∀ u vA vB F, KeepAt w u w.heap.size vA vB F → F.length + 3 ≤ 300 → Calls Tryz.prog 5 #[.pointer (some ⟨w.heap.size, 0, none⟩), .bool A.neg, .slice p1 A.mag.length d1, .int .i64 A.exp, .int .i64 z1, .int .i64 z2] u fun e w' => e = .returned (.bool true) ∧ (∃ vA' vB' F', KeepAt w w' w.heap.size vA' vB' F' ∧ F'.length ≤ F.length + 3) ∧ TS u w') := fun hl u vA vB F k hF => made_true w u HT.out w.heap.size vA vB F k hF A.neg A.mag rA (by omega) p1 d1 hc1 sA A.exp z1 z2 hxe.1 hxe.2 hz1.1 hz1.2
    have KO : Hid (A.mag.length ≤ 30 → ∀ u vA vB F, KeepAt w u w.heap.size vA vB F → F.length + 3 ≤ 300 → Calls Tryz.prog 6 #[.pointer (some ⟨w.heap.size, 0, none⟩), .agg #[.bool A.neg, .slice p1 A.mag.length d1, .int .i64 A.exp], .int .i64 z1] u fun e w' => e = .returned (.bool true) ∧ (∃ vA' vB' F', KeepAt w w' w.heap.size vA' vB' F' ∧ F'.length ≤ F.length + 3) ∧ TS u w') := fun hl u vA vB F k hF => by
     refine (ones_true w u HT.out w.heap.size vA vB F k (by omega) A.neg A.mag A.exp z1 hz1 rA (by omega) p1 d1 (fun t kt => sA.kept kt)).mono ?_
     rintro e w' ⟨rfl, ⟨v1, v2, F', h1, h2⟩, h3⟩
     exact ⟨rfl, ⟨v1, v2, F', h1, by omega⟩, h3⟩
    have KW : Hid (A.mag.length ≤ 30 → B.mag.length ≤ 30 → ∀ u vA vB F, KeepAt w u w.heap.size vA vB F → F.length + 3 ≤ 300 → Calls Tryz.prog 7 #[.pointer (some ⟨w.heap.size, 0, none⟩), .agg #[.bool A.neg, .slice p1 A.mag.length d1, .int .i64 A.exp], .agg #[.bool B.neg, .slice p2 B.mag.length d2, .int .i64 B.exp]] u fun e w' => e = .returned (.bool true) ∧ (∃ vA' vB' F', KeepAt w w' w.heap.size vA' vB' F' ∧ F'.length ≤ F.length + 3) ∧ TS u w') := fun hl hl2 u vA vB F k hF => by
     refine (twos_true w u HT.out w.heap.size vA vB F k hF A B rA rB (by omega) (by omega) p1 p2 d1 d2 hc1 hc2 sA sB).mono ?_
     rintro e w' ⟨rfl, v1, v2, F', h1, h2, h3⟩
     exact ⟨rfl, ⟨v1, v2, F', h1, h2⟩, k.ts h3⟩
    have KRd : Hid (A.mag.length ≤ 30 → B.mag.length ≤ 30 → ∀ u, Kept w u → Calls Tryz.prog 8 #[.agg #[.bool A.neg, .slice p1 A.mag.length d1, .int .i64 A.exp], .agg #[.bool B.neg, .slice p2 B.mag.length d2, .int .i64 B.exp], .int .i64 z2, .int .i64 z3] u fun e w' => e = .returned (.bool true) ∧ Kept u w') := fun hl hl2 u k => rounds_true z2 z3 A B rA rB (by omega) (by omega) p1 p2 d1 d2 hc1 hc2 u (HT.out.kept k) (sA.kept k) (sB.kept k)
    have nY := a10_new wr z0 z1 z2 z3 A B p1 p2 d1 d2
    have bY := heap_alloc_new wr (.cells #[.int .i64 z0, .int .i64 z1, .int .i64 z2, .int .i64 z3, .bool A.neg, .slice p1 A.mag.length d1, .int .i64 A.exp, .bool B.neg, .slice p2 B.mag.length d2, .int .i64 B.exp] 31)
    have kY := HK.out.1.keptOn ((Kept.refl wr).alloc #[.int .i64 z0, .int .i64 z1, .int .i64 z2, .int .i64 z3, .bool A.neg, .slice p1 A.mag.length d1, .int .i64 A.exp, .bool B.neg, .slice p2 B.mag.length d2, .int .i64 B.exp] 31)
    clear rA rB sA sB hc1 hc2 hxe hz1
    obtain ⟨c0, c1, c2, c3, c4, c5, c6, c7, c8, c9⟩ := ha
    go_upto_region 6 with fail
    obtain ⟨C, hC⟩ : ∃ C, C = wr.heap.size := ⟨_, rfl⟩
    obtain ⟨Y, hY⟩ : ∃ Y, Y = wr.alloc (.cells #[.int .i64 z0, .int .i64 z1, .int .i64 z2, .int .i64 z3, .bool A.neg, .slice p1 A.mag.length d1, .int .i64 A.exp, .bool B.neg, .slice p2 B.mag.length d2, .int .i64 B.exp] 31) := ⟨_, rfl⟩
    rw [← hC] at nY bY ⊢
    rw [← hY] at nY bY kY ⊢
    clear hY hC c0 c1 c2 c3 c4 c5 c6 c7 c8 c9 hask
    have HY : Hid (KeepAt w Y w.heap.size vL vW E) := kY
    have HC : Hid (∀ u, TS Y u → A10 u C 0 z0 z1 z2 z3 A B p1 p2 d1 d2) := fun u k => nY.block ((k C _ _ bY).trans bY.symm)
    clear kY nY bY
    obtain ⟨c0, c1, c2, c3, c4, c5, c6, c7, c8, c9⟩ := HC.out _ (TS.refl Y)
    simp only [Nat.zero_add] at c0 c1 c2 c3 c4 c5 c6 c7 c8 c9
    by_cases hla : A.mag.length ≤ 30
    ·have e1 : decide (30 < A.mag.length) = false := decide_eq_false (by omega)
     have e2 : decide ((30 : Int) < (A.mag.length : Int)) = false := decide_eq_false (by omega)
     by_cases hlb : B.mag.length ≤ 30
     ·have e3 : decide (30 < B.mag.length) = false := decide_eq_false (by omega)
      have e4 : decide ((30 : Int) < (B.mag.length : Int)) = false := decide_eq_false (by omega)
      obtain ⟨fb, -, KF⟩ := KFR.out _ HY.out.kept
      have HF : Hid (Calls Tryz.prog 4 #[.agg #[.bool A.neg, .slice p1 A.mag.length d1, .int .i64 A.exp], .agg #[.bool B.neg, .slice p2 B.mag.length d2, .int .i64 B.exp]] Y fun e w' => e = .returned (.bool fb) ∧ Kept Y w') := KF
      clear KF KFR
      go_wp2_with fail
      refine HF.out.mono ?_
      rintro e u2 ⟨rfl, ku⟩
      clear HF c0 c1 c2 c3 c4 c5 c6 c7 c8 c9
      have HU : Hid (KeepAt w u2 w.heap.size vL vW E ∧ TS Y u2) := ⟨HY.out.keptOn ku, ku.ts⟩
      clear ku
      cases fb with
      | true =>
       go_wp2_with fail
       go_roundw
       case rel => exact ⟨i + 1, vL, vW, E, by omega, by omega, by go_num, HU.out.1, by have := HK.out.2; omega⟩
       case measure => simp [intOf]; omega
      | false =>
       go_wp2_with fail
       go_loopw [6] (fun tv wr => ∃ (j : Nat) (vA vB : Value) (F : List Ent), j ≤ 2 ∧ tv = .int .i64 j ∧ KeepAt w wr w.heap.size vA vB F ∧ F.length ≤ E.length + 3 * j ∧ TS Y wr) (fun tv _ => 2 - (intOf tv).toNat)
       case atStart => exact ⟨0, vL, vW, E, Nat.zero_le _, rfl, HU.out.1, by omega, HU.out.2⟩
       case round =>
        clear HU e1 e2 e3 e4
        obtain ⟨j, vA, vB, F, hj2, rfl, hKj, hFj, hTj⟩ := hrel
        have HR : Hid (KeepAt w wr w.heap.size vA vB F ∧ F.length ≤ E.length + 3 * j ∧ TS Y wr) := ⟨hKj, hFj, hTj⟩
        clear hKj hFj hTj
        by_cases hj : j < 2
        ·have g3 : (j : Int) < 2 := by omega
         have z2w : IntKind.i64.wrap ((j : Int) + 1) = (j : Int) + 1 := by rw [wrap_i64]; omega
         obtain ⟨c0, c1, c2, c3, c4, c5, c6, c7, c8, c9⟩ := HC.out _ HR.out.2.2
         simp only [Nat.zero_add] at c0 c1 c2 c3 c4 c5 c6 c7 c8 c9
         by_cases hz0 : z0 = 0
         ·subst hz0
          go_wp2_with fail
          refine (KM.out hla _ _ _ _ HR.out.1 (by have := HR.out.2.1; have := HK.out.2; omega)).mono ?_
          rintro e w2 ⟨rfl, ⟨vA2, vB2, F2, k2, hF2⟩, ts2⟩
          have HF2 : Hid (KeepAt w w2 w.heap.size vA2 vB2 F2 ∧ F2.length ≤ F.length + 3 ∧ TS Y w2) := ⟨k2, hF2, HR.out.2.2.trans ts2⟩
          clear k2 hF2 ts2
          clear c0 c1 c2 c3 c4 c5 c6 c7 c8 c9
          go_wp2_with fail
          go_roundw
          case rel => exact ⟨j + 1, vA2, vB2, F2, by omega, by go_num, HF2.out.1, by have := HF2.out.2.1; have := HR.out.2.1; omega, HF2.out.2.2⟩
          case measure => simp [intOf]; omega
         ·have y0 : (z0 == 0) = false := by simpa using hz0
          by_cases hz1' : z0 = 1
          ·subst hz1'
           go_wp2_with fail
           refine (KO.out hla _ _ _ _ HR.out.1 (by have := HR.out.2.1; have := HK.out.2; omega)).mono ?_
           rintro e w2 ⟨rfl, ⟨vA2, vB2, F2, k2, hF2⟩, ts2⟩
           have HF2 : Hid (KeepAt w w2 w.heap.size vA2 vB2 F2 ∧ F2.length ≤ F.length + 3 ∧ TS Y w2) := ⟨k2, hF2, HR.out.2.2.trans ts2⟩
           clear k2 hF2 ts2
           clear c0 c1 c2 c3 c4 c5 c6 c7 c8 c9
           go_wp2_with fail
           go_roundw
           case rel => exact ⟨j + 1, vA2, vB2, F2, by omega, by go_num, HF2.out.1, by have := HF2.out.2.1; have := HR.out.2.1; omega, HF2.out.2.2⟩
           case measure => simp [intOf]; omega
          ·have y1 : (z0 == 1) = false := by simpa using hz1'
           by_cases hz2 : z0 = 2
           ·subst hz2
            go_wp2_with fail
            refine (KW.out hla hlb _ _ _ _ HR.out.1 (by have := HR.out.2.1; have := HK.out.2; omega)).mono ?_
            rintro e w2 ⟨rfl, ⟨vA2, vB2, F2, k2, hF2⟩, ts2⟩
            have HF2 : Hid (KeepAt w w2 w.heap.size vA2 vB2 F2 ∧ F2.length ≤ F.length + 3 ∧ TS Y w2) := ⟨k2, hF2, HR.out.2.2.trans ts2⟩
            clear k2 hF2 ts2
            clear c0 c1 c2 c3 c4 c5 c6 c7 c8 c9
            go_wp2_with fail
            go_roundw
            case rel => exact ⟨j + 1, vA2, vB2, F2, by omega, by go_num, HF2.out.1, by have := HF2.out.2.1; have := HR.out.2.1; omega, HF2.out.2.2⟩
            case measure => simp [intOf]; omega
           ·have y2 : (z0 == 2) = false := by simpa using hz2
            by_cases hz3 : z0 = 3
            ·subst hz3
             go_wp2_with fail
             refine (KRd.out hla hlb _ HR.out.1.kept).mono ?_
             rintro e w2 ⟨rfl, k2⟩
             have HF2 : Hid (KeepAt w w2 w.heap.size vA vB F ∧ TS Y w2) := ⟨HR.out.1.keptOn k2, HR.out.2.2.trans k2.ts⟩
             clear k2
             clear c0 c1 c2 c3 c4 c5 c6 c7 c8 c9
             go_wp2_with fail
             go_roundw
             case rel => exact ⟨j + 1, vA, vB, F, by omega, by go_num, HF2.out.1, by have := HR.out.2.1; omega, HF2.out.2⟩
             case measure => simp [intOf]; omega
            ·have y3 : (z0 == 3) = false := by simpa using hz3
             go_wp2_with fail
             go_roundw
             case rel => exact ⟨j + 1, vA, vB, F, by omega, by go_num, HR.out.1, by have := HR.out.2.1; omega, HR.out.2.2⟩
             case measure => simp [intOf]; omega
        ·have g3 : ¬ (j : Int) < 2 := by omega
         go_wp2_with fail
         go_roundw
         case rel => exact ⟨i + 1, vA, vB, F, by omega, by omega, by go_num, HR.out.1, by have := HR.out.2.1; have := HK.out.2; omega⟩
         case measure => simp [intOf]; omega
     ·have e3 : decide (30 < B.mag.length) = true := decide_eq_true (by omega)
      have e4 : decide ((30 : Int) < (B.mag.length : Int)) = true := decide_eq_true (by omega)
      go_wp2_with fail
      go_roundw
      case rel => exact ⟨i + 1, vL, vW, E, by omega, by omega, by go_num, HY.out, by have := HK.out.2; omega⟩
      case measure => simp [intOf]; omega
    ·have e1 : decide (30 < A.mag.length) = true := decide_eq_true (by omega)
     have e2 : decide ((30 : Int) < (A.mag.length : Int)) = true := decide_eq_true (by omega)
     go_wp2_with fail
     go_roundw
     case rel => exact ⟨i + 1, vL, vW, E, by omega, by omega, by go_num, HY.out, by have := HK.out.2; omega⟩
     case measure => simp [intOf]; omega
   ·have g1 : (i : Int) < (len : Int) := by omega
    have g2 : ¬ (i : Int) < 20 := by omega
    have hE2 : E.length ≤ 300 := by have := HK.out.2; omega
    go_wp2_with fail
    refine (KAL.out _ HK.out.1.kept).mono ?_
    rintro e w2 ⟨rfl, hk2⟩
    go_wp2_with fail
    refine (KAP.out w2 vL vW E (HK.out.1.keptOn hk2) hE2).mono ?_
    rintro e w3 ⟨rfl, hb⟩
    go_wp2
    go_ret
    exact ⟨rfl, hb⟩
  ·have g1 : ¬ (i : Int) < (len : Int) := by omega
   have g3 : ¬ i < len := hl
   have hE2 : E.length ≤ 300 := by have := HK.out.2; omega
   go_wp2_with fail
   refine (KAL.out _ HK.out.1.kept).mono ?_
   rintro e w2 ⟨rfl, hk2⟩
   go_wp2_with fail
   refine (KAP.out w2 vL vW E (HK.out.1.keptOn hk2) hE2).mono ?_
   rintro e w3 ⟨rfl, hb⟩
   go_wp2
   go_ret
   exact ⟨rfl, hb⟩
end Go.Proofs.YtbffekcjdcihpaaGreatDoor
