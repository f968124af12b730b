/- The laws' book: Apart, where one list of pairs is kept; DataShards. -/
import Derived.Test.YthjcofdcbinliaaDP4
import Derived.Test.YthjcofdcbinliaaBK2
namespace Go.Proofs.Ythjcofdcbinliaa
open Go.ChangeShapes Go.WideShapes Go.ChangeAt Go.RowKit
set_option linter.unusedVariables false
set_option linter.unusedSimpArgs false

set_option maxHeartbeats 8000000 in
set_option maxRecDepth 100000 in
theorem apart_pairs (B : Nat) (vP vW : Value) (J : World → Prop) (J2 : Value → World → Prop) (w : World) (hN : Bp w B vP vW) (jN : Hid (∀ u, J u → Bp u B vP vW)) (j2N : Hid (∀ v u, J2 v u → Bp u B vP vW)) (j2K : Hid (∀ v u u', J2 v u → Kept u u' → J2 v u'))
    (KS : Hid (Calls Try.prog 44 #[.pointer (some ⟨B, 0, none⟩)] w fun e w' => e = .returned (.bool true) ∧ Kept w w'))
    (KP : Hid (∀ u, Kept w u → Calls Try.prog 52 #[.pointer (some ⟨B, 0, none⟩)] u fun e w' => e = .returned (.tuple #[]) ∧ J w'))
    (KG : Hid (∀ u, J u → Calls Try.prog 60 #[.pointer (some ⟨B, 0, none⟩)] u fun e w' => ∃ v, e = .returned v ∧ J2 v w'))
    (KM : Hid (∀ v u x, J2 v u → (x = vP ∨ x = v) → Calls Try.prog 68 #[x] u fun e w' => e = .returned (.bool true) ∧ Kept u w')) :
    Calls Try.prog 20 #[.pointer (some ⟨B, 0, none⟩)] w fun e w' => e = .returned (.bool true) ∧ ∃ v, J2 v w' := by
  go_enter Try.func20, Try.ntmps20
  go_upto_region 3 with (first | (go_at_call 44; refine (KS.out).mono ?_; rintro e u1 ⟨rfl, k1⟩; have n1 := hN.kept k1) | (go_at_call 43; refine (stillInts_no B _ hN.c0).mono ?_; rintro e x0 ⟨rfl, rfl⟩) | (go_at_call 45; refine (stillBools_no B _ n1.c4).mono ?_; rintro e x1 ⟨rfl, rfl⟩) | (go_at_call 46; refine (stillTraces_no B _ n1.c6).mono ?_; rintro e x2 ⟨rfl, rfl⟩) | (go_at_call 47; refine (stillMats_no B _ n1.c8).mono ?_; rintro e x3 ⟨rfl, rfl⟩) | (go_at_call 48; refine (stillNodes_no B _ n1.c10).mono ?_; rintro e x4 ⟨rfl, rfl⟩) | (go_at_call 49; refine (stillAccs_no B _ n1.c12).mono ?_; rintro e x5 ⟨rfl, rfl⟩) | (go_at_call 50; refine (stillMails_no B _ n1.c14).mono ?_; rintro e x6 ⟨rfl, rfl⟩))
  go_upto_region 11 with (first | (go_at_call 52; refine (KP.out _ k1).mono ?_; rintro e u2 ⟨rfl, j2⟩; have n2 := jN.out _ j2) | (go_at_call 51; refine (putInts_no B _ n1.c0).mono ?_; rintro e x0 ⟨rfl, rfl⟩) | (go_at_call 53; refine (putBools_no B _ n2.c4).mono ?_; rintro e x1 ⟨rfl, rfl⟩) | (go_at_call 54; refine (putTraces_no B _ n2.c6).mono ?_; rintro e x2 ⟨rfl, rfl⟩) | (go_at_call 55; refine (putMats_no B _ n2.c8).mono ?_; rintro e x3 ⟨rfl, rfl⟩) | (go_at_call 56; refine (putNodes_no B _ n2.c10).mono ?_; rintro e x4 ⟨rfl, rfl⟩) | (go_at_call 57; refine (putAccs_no B _ n2.c12).mono ?_; rintro e x5 ⟨rfl, rfl⟩) | (go_at_call 58; refine (putMails_no B _ n2.c14).mono ?_; rintro e x6 ⟨rfl, rfl⟩))
  go_upto_region 19 with (first | (go_at_call 60; refine (KG.out _ j2).mono ?_; rintro e u3 ⟨v, rfl, j3⟩; have n3 := j2N.out _ _ j3) | (go_at_call 59; refine (growInts_no B _ n2.c0).mono ?_; rintro e x0 ⟨rfl, rfl⟩) | (go_at_call 61; refine (growBools_no B _ n3.c4).mono ?_; rintro e x1 ⟨rfl, rfl⟩) | (go_at_call 62; refine (growTraces_no B _ n3.c6).mono ?_; rintro e x2 ⟨rfl, rfl⟩) | (go_at_call 63; refine (growMats_no B _ n3.c8).mono ?_; rintro e x3 ⟨rfl, rfl⟩) | (go_at_call 64; refine (growNodes_no B _ n3.c10).mono ?_; rintro e x4 ⟨rfl, rfl⟩) | (go_at_call 65; refine (growAccs_no B _ n3.c12).mono ?_; rintro e x5 ⟨rfl, rfl⟩) | (go_at_call 66; refine (growMails_no B _ n3.c14).mono ?_; rintro e x6 ⟨rfl, rfl⟩))
  have c0 := n3.c0
  have c2 := n3.c2
  go_wp2_with (first | (go_at_call 67; refine (markedInts_no _).mono ?_; rintro e x0 ⟨rfl, rfl⟩) | (go_at_call 68; refine (KM.out v _ _ j3 (.inl rfl)).mono ?_; rintro e u4 ⟨rfl, k4⟩; have j4 := j2K.out _ _ _ j3 k4; clear j3 n3 c0 c2) | (go_at_call 68; refine (KM.out v _ _ j4 (.inr rfl)).mono ?_; rintro e u5 ⟨rfl, k5⟩; have j5 := j2K.out _ _ _ j4 k5; clear j4; have n5 := j2N.out _ _ j5; obtain ⟨q0, q2, q3, q4, q6, q8, q10, q12, q14⟩ := n5) | (go_at_call 69; refine (markedBools_no _).mono ?_; rintro e x1 ⟨rfl, rfl⟩) | (go_at_call 70; refine (markedTraces_no _).mono ?_; rintro e x1 ⟨rfl, rfl⟩) | (go_at_call 71; refine (markedMats_no _).mono ?_; rintro e x1 ⟨rfl, rfl⟩) | (go_at_call 72; refine (markedNodes_no _).mono ?_; rintro e x1 ⟨rfl, rfl⟩) | (go_at_call 73; refine (markedAccs_no _).mono ?_; rintro e x1 ⟨rfl, rfl⟩) | (go_at_call 74; refine (markedMails_no _).mono ?_; rintro e x1 ⟨rfl, rfl⟩))
  go_ret
  exact ⟨rfl, v, j5⟩
end Go.Proofs.Ythjcofdcbinliaa
