/- The laws' book of lists: kinds of which none is kept. The laws' book of lists: Apart,where lists of ints alone are kept. -/
import Derived.Test.YtnafaclfdoefcaaGreatDoorWh28
import Derived.Test.YtnafaclfdoefcaaGreatDoorWh29
namespace Go.Proofs.YtnafaclfdoefcaaGreatDoor
open Go.ChangeShapes Go.WideShapes Go.ChangeAt Go.RowKit
set_option linter.unusedVariables false
set_option linter.unusedSimpArgs false
set_option maxHeartbeats 16000000
set_option maxRecDepth 100000
theorem stillPairs_no (B : Nat) (w : World) (h : w.cell? ⟨B,2,none⟩ = some (.slice none 0 0)) : Calls Tryz.prog 49 #[.pointer (some ⟨B,0,none⟩)] w fun e w' => e = .returned (.bool true) ∧ w = w':=by
 go_enter Tryz.func49,Tryz.ntmps49
 go_wp2_with fail
 refine wp_loop_rounds 1 ?_
 rw [rounds_succ]
 go_wp2_with fail
 go_ret
 exact ⟨rfl,rfl⟩
theorem putPairs_no (B : Nat) (w : World) (h : w.cell? ⟨B,2,none⟩ = some (.slice none 0 0)) : Calls Tryz.prog 57 #[.pointer (some ⟨B,0,none⟩)] w fun e w' => e = .returned (.tuple #[]) ∧ w = w':=by
 go_enter Tryz.func57,Tryz.ntmps57
 go_wp2_with fail
 refine wp_loop_rounds 1 ?_
 rw [rounds_succ]
 go_wp2_with fail
 exact bodyPost_end (v:=.tuple #[]) (by simp [results,Tryz.results57,go_sem]) rfl ⟨rfl,rfl⟩
theorem growPairs_no (B : Nat) (w : World) (h : w.cell? ⟨B,2,none⟩ = some (.slice none 0 0)) : Calls Tryz.prog 65 #[.pointer (some ⟨B,0,none⟩)] w fun e w' => e = .returned (.slice none 0 0) ∧ w = w':=by
 go_enter Tryz.func65,Tryz.ntmps65
 go_wp2_with fail
 refine wp_loop_rounds 1 ?_
 rw [rounds_succ]
 go_wp2_with fail
 go_ret
 exact ⟨rfl,rfl⟩
theorem markedPairs_no (w : World) : Calls Tryz.prog 73 #[.slice none 0 0] w fun e w' => e = .returned (.bool true) ∧ w = w':=by
 go_enter Tryz.func73,Tryz.ntmps73
 go_wp2_with fail
 refine wp_loop_rounds 1 ?_
 rw [rounds_succ]
 go_wp2_with fail
 go_ret
 exact ⟨rfl,rfl⟩
theorem stillBools_no (B : Nat) (w : World) (h : w.cell? ⟨B,4,none⟩ = some (.slice none 0 0)) : Calls Tryz.prog 50 #[.pointer (some ⟨B,0,none⟩)] w fun e w' => e = .returned (.bool true) ∧ w = w':=by
 go_enter Tryz.func50,Tryz.ntmps50
 go_wp2_with fail
 refine wp_loop_rounds 1 ?_
 rw [rounds_succ]
 go_wp2_with fail
 go_ret
 exact ⟨rfl,rfl⟩
theorem putBools_no (B : Nat) (w : World) (h : w.cell? ⟨B,4,none⟩ = some (.slice none 0 0)) : Calls Tryz.prog 58 #[.pointer (some ⟨B,0,none⟩)] w fun e w' => e = .returned (.tuple #[]) ∧ w = w':=by
 go_enter Tryz.func58,Tryz.ntmps58
 go_wp2_with fail
 refine wp_loop_rounds 1 ?_
 rw [rounds_succ]
 go_wp2_with fail
 exact bodyPost_end (v:=.tuple #[]) (by simp [results,Tryz.results58,go_sem]) rfl ⟨rfl,rfl⟩
theorem growBools_no (B : Nat) (w : World) (h : w.cell? ⟨B,4,none⟩ = some (.slice none 0 0)) : Calls Tryz.prog 66 #[.pointer (some ⟨B,0,none⟩)] w fun e w' => e = .returned (.slice none 0 0) ∧ w = w':=by
 go_enter Tryz.func66,Tryz.ntmps66
 go_wp2_with fail
 refine wp_loop_rounds 1 ?_
 rw [rounds_succ]
 go_wp2_with fail
 go_ret
 exact ⟨rfl,rfl⟩
theorem markedBools_no (w : World) : Calls Tryz.prog 74 #[.slice none 0 0] w fun e w' => e = .returned (.bool true) ∧ w = w':=by
 go_enter Tryz.func74,Tryz.ntmps74
 go_wp2_with fail
 refine wp_loop_rounds 1 ?_
 rw [rounds_succ]
 go_wp2_with fail
 go_ret
 exact ⟨rfl,rfl⟩
theorem stillTraces_no (B : Nat) (w : World) (h : w.cell? ⟨B,6,none⟩ = some (.slice none 0 0)) : Calls Tryz.prog 51 #[.pointer (some ⟨B,0,none⟩)] w fun e w' => e = .returned (.bool true) ∧ w = w':=by
 go_enter Tryz.func51,Tryz.ntmps51
 go_wp2_with fail
 refine wp_loop_rounds 1 ?_
 rw [rounds_succ]
 go_wp2_with fail
 go_ret
 exact ⟨rfl,rfl⟩
theorem putTraces_no (B : Nat) (w : World) (h : w.cell? ⟨B,6,none⟩ = some (.slice none 0 0)) : Calls Tryz.prog 59 #[.pointer (some ⟨B,0,none⟩)] w fun e w' => e = .returned (.tuple #[]) ∧ w = w':=by
 go_enter Tryz.func59,Tryz.ntmps59
 go_wp2_with fail
 refine wp_loop_rounds 1 ?_
 rw [rounds_succ]
 go_wp2_with fail
 exact bodyPost_end (v:=.tuple #[]) (by simp [results,Tryz.results59,go_sem]) rfl ⟨rfl,rfl⟩
theorem growTraces_no (B : Nat) (w : World) (h : w.cell? ⟨B,6,none⟩ = some (.slice none 0 0)) : Calls Tryz.prog 67 #[.pointer (some ⟨B,0,none⟩)] w fun e w' => e = .returned (.slice none 0 0) ∧ w = w':=by
 go_enter Tryz.func67,Tryz.ntmps67
 go_wp2_with fail
 refine wp_loop_rounds 1 ?_
 rw [rounds_succ]
 go_wp2_with fail
 go_ret
 exact ⟨rfl,rfl⟩
theorem markedTraces_no (w : World) : Calls Tryz.prog 75 #[.slice none 0 0] w fun e w' => e = .returned (.bool true) ∧ w = w':=by
 go_enter Tryz.func75,Tryz.ntmps75
 go_wp2_with fail
 refine wp_loop_rounds 1 ?_
 rw [rounds_succ]
 go_wp2_with fail
 go_ret
 exact ⟨rfl,rfl⟩
theorem stillMats_no (B : Nat) (w : World) (h : w.cell? ⟨B,8,none⟩ = some (.slice none 0 0)) : Calls Tryz.prog 52 #[.pointer (some ⟨B,0,none⟩)] w fun e w' => e = .returned (.bool true) ∧ w = w':=by
 go_enter Tryz.func52,Tryz.ntmps52
 go_wp2_with fail
 refine wp_loop_rounds 1 ?_
 rw [rounds_succ]
 go_wp2_with fail
 go_ret
 exact ⟨rfl,rfl⟩
theorem putMats_no (B : Nat) (w : World) (h : w.cell? ⟨B,8,none⟩ = some (.slice none 0 0)) : Calls Tryz.prog 60 #[.pointer (some ⟨B,0,none⟩)] w fun e w' => e = .returned (.tuple #[]) ∧ w = w':=by
 go_enter Tryz.func60,Tryz.ntmps60
 go_wp2_with fail
 refine wp_loop_rounds 1 ?_
 rw [rounds_succ]
 go_wp2_with fail
 exact bodyPost_end (v:=.tuple #[]) (by simp [results,Tryz.results60,go_sem]) rfl ⟨rfl,rfl⟩
theorem growMats_no (B : Nat) (w : World) (h : w.cell? ⟨B,8,none⟩ = some (.slice none 0 0)) : Calls Tryz.prog 68 #[.pointer (some ⟨B,0,none⟩)] w fun e w' => e = .returned (.slice none 0 0) ∧ w = w':=by
 go_enter Tryz.func68,Tryz.ntmps68
 go_wp2_with fail
 refine wp_loop_rounds 1 ?_
 rw [rounds_succ]
 go_wp2_with fail
 go_ret
 exact ⟨rfl,rfl⟩
theorem markedMats_no (w : World) : Calls Tryz.prog 76 #[.slice none 0 0] w fun e w' => e = .returned (.bool true) ∧ w = w':=by
 go_enter Tryz.func76,Tryz.ntmps76
 go_wp2_with fail
 refine wp_loop_rounds 1 ?_
 rw [rounds_succ]
 go_wp2_with fail
 go_ret
 exact ⟨rfl,rfl⟩
theorem stillNodes_no (B : Nat) (w : World) (h : w.cell? ⟨B,10,none⟩ = some (.slice none 0 0)) : Calls Tryz.prog 53 #[.pointer (some ⟨B,0,none⟩)] w fun e w' => e = .returned (.bool true) ∧ w = w':=by
 go_enter Tryz.func53,Tryz.ntmps53
 go_wp2_with fail
 refine wp_loop_rounds 1 ?_
 rw [rounds_succ]
 go_wp2_with fail
 go_ret
 exact ⟨rfl,rfl⟩
theorem putNodes_no (B : Nat) (w : World) (h : w.cell? ⟨B,10,none⟩ = some (.slice none 0 0)) : Calls Tryz.prog 61 #[.pointer (some ⟨B,0,none⟩)] w fun e w' => e = .returned (.tuple #[]) ∧ w = w':=by
 go_enter Tryz.func61,Tryz.ntmps61
 go_wp2_with fail
 refine wp_loop_rounds 1 ?_
 rw [rounds_succ]
 go_wp2_with fail
 exact bodyPost_end (v:=.tuple #[]) (by simp [results,Tryz.results61,go_sem]) rfl ⟨rfl,rfl⟩
theorem growNodes_no (B : Nat) (w : World) (h : w.cell? ⟨B,10,none⟩ = some (.slice none 0 0)) : Calls Tryz.prog 69 #[.pointer (some ⟨B,0,none⟩)] w fun e w' => e = .returned (.slice none 0 0) ∧ w = w':=by
 go_enter Tryz.func69,Tryz.ntmps69
 go_wp2_with fail
 refine wp_loop_rounds 1 ?_
 rw [rounds_succ]
 go_wp2_with fail
 go_ret
 exact ⟨rfl,rfl⟩
theorem markedNodes_no (w : World) : Calls Tryz.prog 77 #[.slice none 0 0] w fun e w' => e = .returned (.bool true) ∧ w = w':=by
 go_enter Tryz.func77,Tryz.ntmps77
 go_wp2_with fail
 refine wp_loop_rounds 1 ?_
 rw [rounds_succ]
 go_wp2_with fail
 go_ret
 exact ⟨rfl,rfl⟩
theorem stillAccs_no (B : Nat) (w : World) (h : w.cell? ⟨B,12,none⟩ = some (.slice none 0 0)) : Calls Tryz.prog 54 #[.pointer (some ⟨B,0,none⟩)] w fun e w' => e = .returned (.bool true) ∧ w = w':=by
 go_enter Tryz.func54,Tryz.ntmps54
 go_wp2_with fail
 refine wp_loop_rounds 1 ?_
 rw [rounds_succ]
 go_wp2_with fail
 go_ret
 exact ⟨rfl,rfl⟩
theorem putAccs_no (B : Nat) (w : World) (h : w.cell? ⟨B,12,none⟩ = some (.slice none 0 0)) : Calls Tryz.prog 62 #[.pointer (some ⟨B,0,none⟩)] w fun e w' => e = .returned (.tuple #[]) ∧ w = w':=by
 go_enter Tryz.func62,Tryz.ntmps62
 go_wp2_with fail
 refine wp_loop_rounds 1 ?_
 rw [rounds_succ]
 go_wp2_with fail
 exact bodyPost_end (v:=.tuple #[]) (by simp [results,Tryz.results62,go_sem]) rfl ⟨rfl,rfl⟩
theorem growAccs_no (B : Nat) (w : World) (h : w.cell? ⟨B,12,none⟩ = some (.slice none 0 0)) : Calls Tryz.prog 70 #[.pointer (some ⟨B,0,none⟩)] w fun e w' => e = .returned (.slice none 0 0) ∧ w = w':=by
 go_enter Tryz.func70,Tryz.ntmps70
 go_wp2_with fail
 refine wp_loop_rounds 1 ?_
 rw [rounds_succ]
 go_wp2_with fail
 go_ret
 exact ⟨rfl,rfl⟩
theorem markedAccs_no (w : World) : Calls Tryz.prog 78 #[.slice none 0 0] w fun e w' => e = .returned (.bool true) ∧ w = w':=by
 go_enter Tryz.func78,Tryz.ntmps78
 go_wp2_with fail
 refine wp_loop_rounds 1 ?_
 rw [rounds_succ]
 go_wp2_with fail
 go_ret
 exact ⟨rfl,rfl⟩
theorem stillMails_no (B : Nat) (w : World) (h : w.cell? ⟨B,14,none⟩ = some (.slice none 0 0)) : Calls Tryz.prog 55 #[.pointer (some ⟨B,0,none⟩)] w fun e w' => e = .returned (.bool true) ∧ w = w':=by
 go_enter Tryz.func55,Tryz.ntmps55
 go_wp2_with fail
 refine wp_loop_rounds 1 ?_
 rw [rounds_succ]
 go_wp2_with fail
 go_ret
 exact ⟨rfl,rfl⟩
theorem putMails_no (B : Nat) (w : World) (h : w.cell? ⟨B,14,none⟩ = some (.slice none 0 0)) : Calls Tryz.prog 63 #[.pointer (some ⟨B,0,none⟩)] w fun e w' => e = .returned (.tuple #[]) ∧ w = w':=by
 go_enter Tryz.func63,Tryz.ntmps63
 go_wp2_with fail
 refine wp_loop_rounds 1 ?_
 rw [rounds_succ]
 go_wp2_with fail
 exact bodyPost_end (v:=.tuple #[]) (by simp [results,Tryz.results63,go_sem]) rfl ⟨rfl,rfl⟩
theorem growMails_no (B : Nat) (w : World) (h : w.cell? ⟨B,14,none⟩ = some (.slice none 0 0)) : Calls Tryz.prog 71 #[.pointer (some ⟨B,0,none⟩)] w fun e w' => e = .returned (.slice none 0 0) ∧ w = w':=by
 go_enter Tryz.func71,Tryz.ntmps71
 go_wp2_with fail
 refine wp_loop_rounds 1 ?_
 rw [rounds_succ]
 go_wp2_with fail
 go_ret
 exact ⟨rfl,rfl⟩
theorem markedMails_no (w : World) : Calls Tryz.prog 79 #[.slice none 0 0] w fun e w' => e = .returned (.bool true) ∧ w = w':=by
 go_enter Tryz.func79,Tryz.ntmps79
 go_wp2_with fail
 refine wp_loop_rounds 1 ?_
 rw [rounds_succ]
 go_wp2_with fail
 go_ret
 exact ⟨rfl,rfl⟩
/-- the other kinds are empty -/
structure Ne7 (u : World) (B : Nat) : Prop where
 c2 : u.cell? ⟨B,2,none⟩ = some (.slice none 0 0)
 c4 : u.cell? ⟨B,4,none⟩ = some (.slice none 0 0)
 c6 : u.cell? ⟨B,6,none⟩ = some (.slice none 0 0)
 c8 : u.cell? ⟨B,8,none⟩ = some (.slice none 0 0)
 c10 : u.cell? ⟨B,10,none⟩ = some (.slice none 0 0)
 c12 : u.cell? ⟨B,12,none⟩ = some (.slice none 0 0)
 c14 : u.cell? ⟨B,14,none⟩ = some (.slice none 0 0)
theorem Ne7.kept {u u' : World} {B : Nat} (h : Ne7 u B) (k : Kept u u') : Ne7 u' B :=
 ⟨(k.below.cell (p:=⟨B,2,none⟩) (World.block_lt_of_cell? _ _ h.c2)).trans h.c2,(k.below.cell (p:=⟨B,4,none⟩) (World.block_lt_of_cell? _ _ h.c4)).trans h.c4,(k.below.cell (p:=⟨B,6,none⟩) (World.block_lt_of_cell? _ _ h.c6)).trans h.c6,(k.below.cell (p:=⟨B,8,none⟩) (World.block_lt_of_cell? _ _ h.c8)).trans h.c8,(k.below.cell (p:=⟨B,10,none⟩) (World.block_lt_of_cell? _ _ h.c10)).trans h.c10,(k.below.cell (p:=⟨B,12,none⟩) (World.block_lt_of_cell? _ _ h.c12)).trans h.c12,(k.below.cell (p:=⟨B,14,none⟩) (World.block_lt_of_cell? _ _ h.c14)).trans h.c14⟩
theorem apart_walk (B : Nat) (vI : Value) (J : World → Prop) (J2 : Value → World → Prop) (w : World) (hN : Ne7 w B) (jN : Hid (∀ u,J u → Ne7 u B)) (j2N : Hid (∀ v u,J2 v u → Ne7 u B ∧ u.cell? ⟨B,0,none⟩ = some vI)) (j2K : Hid (∀ v u u',J2 v u → Kept u u' → J2 v u'))
  (KS : Hid (Calls Tryz.prog 48 #[.pointer (some ⟨B,0,none⟩)] w fun e w' => e = .returned (.bool true) ∧ Kept w w'))
  (KP : Hid (∀ u,Kept w u → Calls Tryz.prog 56 #[.pointer (some ⟨B,0,none⟩)] u fun e w' => e = .returned (.tuple #[]) ∧ J w'))
  (KG : Hid (∀ u,J u → Calls Tryz.prog 64 #[.pointer (some ⟨B,0,none⟩)] u fun e w' => ∃ v,e = .returned v ∧ J2 v w'))
  (KM : Hid (∀ v u x,J2 v u → (x = vI ∨ x = v) → Calls Tryz.prog 72 #[x] u fun e w' => e = .returned (.bool true) ∧ Kept u w')) :
  Calls Tryz.prog 18 #[.pointer (some ⟨B,0,none⟩)] w fun e w' => e = .returned (.bool true) ∧ ∃ v,J2 v w':=by
 go_enter Tryz.func18,Tryz.ntmps18
 go_upto_region 3 with (first | (go_at_call 48; refine (KS.out).mono ?_; rintro e u1 ⟨rfl,k1⟩; have n1:=hN.kept k1) | (go_at_call 49; refine (stillPairs_no B _ (by first | exact n1.c2)).mono ?_; rintro e x0 ⟨rfl,rfl⟩) | (go_at_call 50; refine (stillBools_no B _ (by first | exact n1.c4)).mono ?_; rintro e x1 ⟨rfl,rfl⟩) | (go_at_call 51; refine (stillTraces_no B _ (by first | exact n1.c6)).mono ?_; rintro e x2 ⟨rfl,rfl⟩) | (go_at_call 52; refine (stillMats_no B _ (by first | exact n1.c8)).mono ?_; rintro e x3 ⟨rfl,rfl⟩) | (go_at_call 53; refine (stillNodes_no B _ (by first | exact n1.c10)).mono ?_; rintro e x4 ⟨rfl,rfl⟩) | (go_at_call 54; refine (stillAccs_no B _ (by first | exact n1.c12)).mono ?_; rintro e x5 ⟨rfl,rfl⟩) | (go_at_call 55; refine (stillMails_no B _ (by first | exact n1.c14)).mono ?_; rintro e x6 ⟨rfl,rfl⟩))
 go_upto_region 11 with (first | (go_at_call 56; refine (KP.out _ k1).mono ?_; rintro e u2 ⟨rfl,j2⟩; have n2:=jN.out _ j2) | (go_at_call 57; refine (putPairs_no B _ n2.c2).mono ?_; rintro e x0 ⟨rfl,rfl⟩) | (go_at_call 58; refine (putBools_no B _ n2.c4).mono ?_; rintro e x1 ⟨rfl,rfl⟩) | (go_at_call 59; refine (putTraces_no B _ n2.c6).mono ?_; rintro e x2 ⟨rfl,rfl⟩) | (go_at_call 60; refine (putMats_no B _ n2.c8).mono ?_; rintro e x3 ⟨rfl,rfl⟩) | (go_at_call 61; refine (putNodes_no B _ n2.c10).mono ?_; rintro e x4 ⟨rfl,rfl⟩) | (go_at_call 62; refine (putAccs_no B _ n2.c12).mono ?_; rintro e x5 ⟨rfl,rfl⟩) | (go_at_call 63; refine (putMails_no B _ n2.c14).mono ?_; rintro e x6 ⟨rfl,rfl⟩))
 go_upto_region 19 with (first | (go_at_call 64; refine (KG.out _ j2).mono ?_; rintro e u3 ⟨v,rfl,j3⟩; have n3:=(j2N.out _ _ j3).1) | (go_at_call 65; refine (growPairs_no B _ n3.c2).mono ?_; rintro e x0 ⟨rfl,rfl⟩) | (go_at_call 66; refine (growBools_no B _ n3.c4).mono ?_; rintro e x1 ⟨rfl,rfl⟩) | (go_at_call 67; refine (growTraces_no B _ n3.c6).mono ?_; rintro e x2 ⟨rfl,rfl⟩) | (go_at_call 68; refine (growMats_no B _ n3.c8).mono ?_; rintro e x3 ⟨rfl,rfl⟩) | (go_at_call 69; refine (growNodes_no B _ n3.c10).mono ?_; rintro e x4 ⟨rfl,rfl⟩) | (go_at_call 70; refine (growAccs_no B _ n3.c12).mono ?_; rintro e x5 ⟨rfl,rfl⟩) | (go_at_call 71; refine (growMails_no B _ n3.c14).mono ?_; rintro e x6 ⟨rfl,rfl⟩))
 have c0:=(j2N.out _ _ j3).2
 obtain ⟨vlo,vlo2,hvl⟩ : ∃ a b,a = v ∧ b = vI:=⟨v,vI,rfl,rfl⟩
 clear hvl vlo vlo2
 go_wp2_with (first | (go_at_call 72; refine (KM.out v _ _ j3 (.inl rfl)).mono ?_; rintro e u4 ⟨rfl,k4⟩; have j4:=j2K.out _ _ _ j3 k4; clear j3 n3 c0; have n4:=(j2N.out _ _ j4).1) | (go_at_call 72; refine (KM.out v _ _ j4 (.inr rfl)).mono ?_; rintro e u5 ⟨rfl,k5⟩; have j5:=j2K.out _ _ _ j4 k5; clear j4 n4; have n5:=(j2N.out _ _ j5).1; obtain ⟨q2,q4,q6,q8,q10,q12,q14⟩:=n5) | (go_at_call 73; refine (markedPairs_no _).mono ?_; rintro e x0 ⟨rfl,rfl⟩) | (go_at_call 74; refine (markedBools_no _).mono ?_; rintro e x1 ⟨rfl,rfl⟩) | (go_at_call 75; refine (markedTraces_no _).mono ?_; rintro e x2 ⟨rfl,rfl⟩) | (go_at_call 76; refine (markedMats_no _).mono ?_; rintro e x3 ⟨rfl,rfl⟩) | (go_at_call 77; refine (markedNodes_no _).mono ?_; rintro e x4 ⟨rfl,rfl⟩) | (go_at_call 78; refine (markedAccs_no _).mono ?_; rintro e x5 ⟨rfl,rfl⟩) | (go_at_call 79; refine (markedMails_no _).mono ?_; rintro e x6 ⟨rfl,rfl⟩))
 go_ret
 exact ⟨rfl,v,j5⟩
end Go.Proofs.YtnafaclfdoefcaaGreatDoor
