/- The laws' book of lists: Apart, where lists of ints alone are kept. -/
import Derived.Test.YtedghjededicpaaBK2
import Derived.Test.YtedghjededicpaaBK1
namespace Go.Proofs.Ytedghjededicpaa
open Go.ChangeShapes Go.WideShapes Go.ChangeAt Go.RowKit
set_option linter.unusedVariables false
set_option linter.unusedSimpArgs false

/-- the other kinds are empty -/
structure Ne7 (u : World) (B : Nat) : Prop where
  c2 : u.cell? ⟨B, 2, none⟩ = some (.slice none 0 0)
  c4 : u.cell? ⟨B, 4, none⟩ = some (.slice none 0 0)
  c6 : u.cell? ⟨B, 6, none⟩ = some (.slice none 0 0)
  c8 : u.cell? ⟨B, 8, none⟩ = some (.slice none 0 0)
  c10 : u.cell? ⟨B, 10, none⟩ = some (.slice none 0 0)
  c12 : u.cell? ⟨B, 12, none⟩ = some (.slice none 0 0)
  c14 : u.cell? ⟨B, 14, none⟩ = some (.slice none 0 0)
theorem Ne7.kept {u u' : World} {B : Nat} (h : Ne7 u B) (k : Kept u u') : Ne7 u' B :=
  ⟨(k.below.cell (p := ⟨B, 2, none⟩) (World.block_lt_of_cell? _ _ h.c2)).trans h.c2, (k.below.cell (p := ⟨B, 4, none⟩) (World.block_lt_of_cell? _ _ h.c4)).trans h.c4, (k.below.cell (p := ⟨B, 6, none⟩) (World.block_lt_of_cell? _ _ h.c6)).trans h.c6, (k.below.cell (p := ⟨B, 8, none⟩) (World.block_lt_of_cell? _ _ h.c8)).trans h.c8, (k.below.cell (p := ⟨B, 10, none⟩) (World.block_lt_of_cell? _ _ h.c10)).trans h.c10, (k.below.cell (p := ⟨B, 12, none⟩) (World.block_lt_of_cell? _ _ h.c12)).trans h.c12, (k.below.cell (p := ⟨B, 14, none⟩) (World.block_lt_of_cell? _ _ h.c14)).trans h.c14⟩
set_option maxHeartbeats 8000000 in
set_option maxRecDepth 100000 in
theorem apart_walk (B : Nat) (vI : Value) (J : World → Prop) (J2 : Value → World → Prop) (w : World) (hN : Ne7 w B) (jN : Hid (∀ u, J u → Ne7 u B)) (j2N : Hid (∀ v u, J2 v u → Ne7 u B ∧ u.cell? ⟨B, 0, none⟩ = some vI)) (j2K : Hid (∀ v u u', J2 v u → Kept u u' → J2 v u'))
    (KS : Hid (Calls Try.prog 18 #[.pointer (some ⟨B, 0, none⟩)] w fun e w' => e = .returned (.bool true) ∧ Kept w w'))
    (KP : Hid (∀ u, Kept w u → Calls Try.prog 26 #[.pointer (some ⟨B, 0, none⟩)] u fun e w' => e = .returned (.tuple #[]) ∧ J w'))
    (KG : Hid (∀ u, J u → Calls Try.prog 34 #[.pointer (some ⟨B, 0, none⟩)] u fun e w' => ∃ v, e = .returned v ∧ J2 v w'))
    (KM : Hid (∀ v u x, J2 v u → (x = vI ∨ x = v) → Calls Try.prog 42 #[x] u fun e w' => e = .returned (.bool true) ∧ Kept u w')) :
    Calls Try.prog 13 #[.pointer (some ⟨B, 0, none⟩)] w fun e w' => e = .returned (.bool true) ∧ ∃ v, J2 v w' := by
  go_enter Try.func13, Try.ntmps13
  go_upto_region 3 with (first | (go_at_call 18; refine (KS.out).mono ?_; rintro e u1 ⟨rfl, k1⟩; have n1 := hN.kept k1) | (go_at_call 19; refine (stillPairs_no B _ (by first | exact n1.c2)).mono ?_; rintro e x0 ⟨rfl, rfl⟩) | (go_at_call 20; refine (stillBools_no B _ (by first | exact n1.c4)).mono ?_; rintro e x1 ⟨rfl, rfl⟩) | (go_at_call 21; refine (stillTraces_no B _ (by first | exact n1.c6)).mono ?_; rintro e x2 ⟨rfl, rfl⟩) | (go_at_call 22; refine (stillMats_no B _ (by first | exact n1.c8)).mono ?_; rintro e x3 ⟨rfl, rfl⟩) | (go_at_call 23; refine (stillNodes_no B _ (by first | exact n1.c10)).mono ?_; rintro e x4 ⟨rfl, rfl⟩) | (go_at_call 24; refine (stillAccs_no B _ (by first | exact n1.c12)).mono ?_; rintro e x5 ⟨rfl, rfl⟩) | (go_at_call 25; refine (stillMails_no B _ (by first | exact n1.c14)).mono ?_; rintro e x6 ⟨rfl, rfl⟩))
  go_upto_region 11 with (first | (go_at_call 26; refine (KP.out _ k1).mono ?_; rintro e u2 ⟨rfl, j2⟩; have n2 := jN.out _ j2) | (go_at_call 27; refine (putPairs_no B _ n2.c2).mono ?_; rintro e x0 ⟨rfl, rfl⟩) | (go_at_call 28; refine (putBools_no B _ n2.c4).mono ?_; rintro e x1 ⟨rfl, rfl⟩) | (go_at_call 29; refine (putTraces_no B _ n2.c6).mono ?_; rintro e x2 ⟨rfl, rfl⟩) | (go_at_call 30; refine (putMats_no B _ n2.c8).mono ?_; rintro e x3 ⟨rfl, rfl⟩) | (go_at_call 31; refine (putNodes_no B _ n2.c10).mono ?_; rintro e x4 ⟨rfl, rfl⟩) | (go_at_call 32; refine (putAccs_no B _ n2.c12).mono ?_; rintro e x5 ⟨rfl, rfl⟩) | (go_at_call 33; refine (putMails_no B _ n2.c14).mono ?_; rintro e x6 ⟨rfl, rfl⟩))
  go_upto_region 19 with (first | (go_at_call 34; refine (KG.out _ j2).mono ?_; rintro e u3 ⟨v, rfl, j3⟩; have n3 := (j2N.out _ _ j3).1) | (go_at_call 35; refine (growPairs_no B _ n3.c2).mono ?_; rintro e x0 ⟨rfl, rfl⟩) | (go_at_call 36; refine (growBools_no B _ n3.c4).mono ?_; rintro e x1 ⟨rfl, rfl⟩) | (go_at_call 37; refine (growTraces_no B _ n3.c6).mono ?_; rintro e x2 ⟨rfl, rfl⟩) | (go_at_call 38; refine (growMats_no B _ n3.c8).mono ?_; rintro e x3 ⟨rfl, rfl⟩) | (go_at_call 39; refine (growNodes_no B _ n3.c10).mono ?_; rintro e x4 ⟨rfl, rfl⟩) | (go_at_call 40; refine (growAccs_no B _ n3.c12).mono ?_; rintro e x5 ⟨rfl, rfl⟩) | (go_at_call 41; refine (growMails_no B _ n3.c14).mono ?_; rintro e x6 ⟨rfl, rfl⟩))
  have c0 := (j2N.out _ _ j3).2
  obtain ⟨vlo, vlo2, hvl⟩ : ∃ a b, a = v ∧ b = vI := ⟨v, vI, rfl, rfl⟩
  clear hvl vlo vlo2
  go_wp2_with (first | (go_at_call 42; refine (KM.out v _ _ j3 (.inl rfl)).mono ?_; rintro e u4 ⟨rfl, k4⟩; have j4 := j2K.out _ _ _ j3 k4; clear j3 n3 c0; have n4 := (j2N.out _ _ j4).1) | (go_at_call 42; refine (KM.out v _ _ j4 (.inr rfl)).mono ?_; rintro e u5 ⟨rfl, k5⟩; have j5 := j2K.out _ _ _ j4 k5; clear j4 n4; have n5 := (j2N.out _ _ j5).1; obtain ⟨q2, q4, q6, q8, q10, q12, q14⟩ := n5) | (go_at_call 43; refine (markedPairs_no _).mono ?_; rintro e x0 ⟨rfl, rfl⟩) | (go_at_call 44; refine (markedBools_no _).mono ?_; rintro e x1 ⟨rfl, rfl⟩) | (go_at_call 45; refine (markedTraces_no _).mono ?_; rintro e x2 ⟨rfl, rfl⟩) | (go_at_call 46; refine (markedMats_no _).mono ?_; rintro e x3 ⟨rfl, rfl⟩) | (go_at_call 47; refine (markedNodes_no _).mono ?_; rintro e x4 ⟨rfl, rfl⟩) | (go_at_call 48; refine (markedAccs_no _).mono ?_; rintro e x5 ⟨rfl, rfl⟩) | (go_at_call 49; refine (markedMails_no _).mono ?_; rintro e x6 ⟨rfl, rfl⟩))
  go_ret
  exact ⟨rfl, v, j5⟩
end Go.Proofs.Ytedghjededicpaa
