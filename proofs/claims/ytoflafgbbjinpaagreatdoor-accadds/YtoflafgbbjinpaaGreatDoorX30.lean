/- The walks of the document's own NatBits and NatBit. The document's own Join and joined of a number that a width has. What the document's own Cut asks,by values: the bits kept,the bit behind them,the rest,and when it is too great. The walk of the document's own Cut: width 64. The walk of the document's own Cut: width 32. The document's own Told,and Cut of nought; an exact number rounded: To. A cut of a quotient by its floor and its rest; two cuts of one value are one. The document's quotient and root,and the program's: cuts of one value. The walk of the document's own NatRoot. The walk of the document's own NatDiv. The document's own quot and Quot. The document's own root and Root. Where roundingOf refuses: a width,a way,a number that is none; Round,Quot,Root with it. What exact's Round,Quot and Root answer in all cases. The laws' told; the document's First,Round,QuotOdd,Root,by its kinds. The program's and the document's Round,Quot,Root are one. What Round,Quot and Root answer,and that the document says so,in all cases. acc's Round and Mean of any sum,and that the document says so. The walks of the document's own Class and Parts. The walks of the laws' own Lent,LentNum,Back. -/
import Derived.Test.YtoflafgbbjinpaaGreatDoorX29
import Derived.Test.YtoflafgbbjinpaaGreatDoorX28
import Derived.Test.YtoflafgbbjinpaaGreatDoorX17
import Derived.Deep.CutBlock
import Derived.Test.YtoflafgbbjinpaaGreatDoorX25
import Derived.Test.YtoflafgbbjinpaaGreatDoorX27
import Derived.Deep.CutRange
import Derived.Test.YtoflafgbbjinpaaGreatDoorX19
import Derived.Test.YtoflafgbbjinpaaGreatDoorX20
import Derived.Test.YtoflafgbbjinpaaGreatDoorX21
import Derived.Test.YtoflafgbbjinpaaGreatDoorX10
namespace Go.Proofs.YtoflafgbbjinpaaGreatDoor
open Go.ChangeShapes Go.WideShapes Go.ChangeAt Go.RowKit
set_option linter.unusedVariables false
set_option linter.unusedSimpArgs false
set_option maxHeartbeats 16000000
set_option maxRecDepth 100000
/-- A block of nine cells. -/
structure K9 (u : World) (B : Nat) (a0 a1 a2 a3 a4 a5 a6 a7 a8 : Value) : Prop where
 lt : B < u.heap.size
 c0 : u.cell? ⟨B,0,none⟩ = some a0
 c1 : u.cell? ⟨B,1,none⟩ = some a1
 c2 : u.cell? ⟨B,2,none⟩ = some a2
 c3 : u.cell? ⟨B,3,none⟩ = some a3
 c4 : u.cell? ⟨B,4,none⟩ = some a4
 c5 : u.cell? ⟨B,5,none⟩ = some a5
 c6 : u.cell? ⟨B,6,none⟩ = some a6
 c7 : u.cell? ⟨B,7,none⟩ = some a7
 c8 : u.cell? ⟨B,8,none⟩ = some a8
theorem K9.kept {u u' : World} {B : Nat} {a0 a1 a2 a3 a4 a5 a6 a7 a8 : Value} (h : K9 u B a0 a1 a2 a3 a4 a5 a6 a7 a8) (k : Kept u u') : K9 u' B a0 a1 a2 a3 a4 a5 a6 a7 a8 :=
 ⟨Nat.lt_of_lt_of_le h.lt k.below.size,(k.below.cell (p:=⟨B,0,none⟩) h.lt).trans h.c0,(k.below.cell (p:=⟨B,1,none⟩) h.lt).trans h.c1,(k.below.cell (p:=⟨B,2,none⟩) h.lt).trans h.c2,(k.below.cell (p:=⟨B,3,none⟩) h.lt).trans h.c3,(k.below.cell (p:=⟨B,4,none⟩) h.lt).trans h.c4,(k.below.cell (p:=⟨B,5,none⟩) h.lt).trans h.c5,(k.below.cell (p:=⟨B,6,none⟩) h.lt).trans h.c6,(k.below.cell (p:=⟨B,7,none⟩) h.lt).trans h.c7,(k.below.cell (p:=⟨B,8,none⟩) h.lt).trans h.c8⟩
theorem K9.new (w : World) (a0 a1 a2 a3 a4 a5 a6 a7 a8 : Value) (t : TypeId) : K9 (w.alloc (.cells #[a0,a1,a2,a3,a4,a5,a6,a7,a8] t)) w.heap.size a0 a1 a2 a3 a4 a5 a6 a7 a8 :=
 ⟨by simp [go_sem],by simp [go_sem],by simp [go_sem],by simp [go_sem],by simp [go_sem],by simp [go_sem],by simp [go_sem],by simp [go_sem],by simp [go_sem],by simp [go_sem]⟩
/-- Two cuts of one value by one measure tell the same. -/
theorem cutz_same {c D V k Q H F k' Q' H' F' : Nat} {od hf rt od' hf' rt' : Bool} (h : Cutz c D V k Q H F od hf rt) (h' : Cutz c D V k' Q' H' F' od' hf' rt') (hm : ∀ r s,r < s → rv c r < rv c s) (way : Int) (hw : way = 0 ∨ way = 1 ∨ way = 2) (ng : Bool) (inf : Nat) : mgz way ng inf F od hf rt = mgz way ng inf F' od' hf' rt' ∧ odz way ng inf F od hf rt = odz way ng inf F' od' hf' rt':=by
 have hF : F = F':=by
  obtain ⟨a1,a2⟩:=h.floor
  obtain ⟨b1,b2⟩:=h'.floor
  have mono : ∀ r s,r ≤ s → rv c r * D ≤ rv c s * D:=fun r s g => by
   rcases Nat.lt_or_eq_of_le g with g | g
   ·exact Nat.mul_le_mul_right D (Nat.le_of_lt (hm r s g))
   ·rw [g]; exact Nat.le_refl _
  rcases Nat.lt_trichotomy F F' with g | g | g
  ·have:=mono (F + 1) F' g; omega
  ·exact g
  ·have:=mono (F' + 1) F g; omega
 subst hF
 have e1:=h.cut.trans h'.cut.symm
 have e2:=h.near.trans h'.near.symm
 have ea : awz way ng od hf rt = awz way ng od' hf' rt':=by
  unfold awz
  rw [e1,e2]
 unfold mgz odz
 rw [ea,e1]
 exact ⟨rfl,rfl⟩
/- what the document's Cut tells of q at e,with or without more,is a cut of V,where q is V's part by E and more its rest -/
/- the document's quotient,cut -/
/- a root's cut: of twice the root at a fine place,and one more where it is not whole there -/
theorem RLp.grw {H g : Nat} {w w' : World} {v : Value} {M : List Int} (h : RLp (Fresh H) w v M) (k : Grw g w w') (hg : g < H) : RLp (Fresh H) w' v M:=by
 obtain ⟨ao,c,e,hn,⟨ao',cap',e',h1,h2,hrd⟩,hP⟩:=h
 cases e'
 refine ⟨ao,c,e,hn,⟨ao,c,rfl,h1,h2,fun hne => ?_⟩,hP⟩
 obtain ⟨b,off,rfl,hb,rd⟩:=hrd hne
 have hbg : b ≠ g:=by
  have h5 : H ≤ b:=hP b off hne rfl
  omega
 have blk:=k.grown.block b hb (by simpa using hbg)
 refine ⟨b,off,rfl,Nat.lt_of_lt_of_le hb k.grown.size,fun i hi => ?_⟩
 have:=rd i hi
 simp only [World.cell?] at this ⊢
 rw [blk]
 exact this
def FE (n way : Int) (ok : Bool) : Int:=if n = 64 ∨ n = 32 then (if way < 0 ∨ 2 < way then 1 else if ok = true then 0 else 7) else 3
/- Round -/
/- Quot,where it is refused,by 0,and of 0 -/
/- Root,where it is refused,of what is below 0,and of 0 -/
/- the program's root: its lead,of the fine root -/
def RE (n way : Int) (a : Nm) : Int:=if FE n way (vld a) = 0 ∧ a.neg = true then 9 else FE n way (vld a)
theorem lk_fe (n : Int) (v : Bool) : lkE n v [] = FE n 0 v:=by
 unfold lkE FE
 by_cases hn : n = 64 ∨ n = 32
 ·rcases hn with rfl | rfl <;> cases v <;> rfl
 ·rw [if_neg hn,if_pos (by simp [val]; omega)]
theorem rclass_any (b n : Int) (hb1 : -9223372036854775808 ≤ b) (hb2 : b ≤ 9223372036854775807) (w : World) : Calls Tryz.prog 91 #[.int .i64 b, .int .i64 n] w fun e w' => e = .returned (.int .i64 (cls b n)) ∧ Kept w w' := by
  by_cases h64 : n = 64
  · subst h64
    go_enter Tryz.func91, Tryz.ntmps91
    go_wp2_with (first | (go_at_call 134; refine (of_64 _).mono ?_; rintro e w1 ⟨rfl, hk1⟩) | (go_at_call 135; refine (cut_64 _ hb1 hb2 _).mono ?_; rintro e w2 ⟨rfl, hk2⟩; have hcl := laid_cell hk2))
    all_goals
      go_ret
      refine ⟨ret_int ?_, (hk1.alloc _ _).trans hk2⟩
      rw [cls_64_eq]
      (repeat' split) <;> omega
  · by_cases h32 : n = 32
    · subst h32
      go_enter Tryz.func91, Tryz.ntmps91
      go_wp2_with (first | (go_at_call 134; refine (of_32 _).mono ?_; rintro e w1 ⟨rfl, hk1⟩) | (go_at_call 135; refine (cut_32 _ _).mono ?_; rintro e w2 ⟨rfl, hk2⟩; have hcl := laid_cell hk2))
      all_goals
        go_ret
        refine ⟨ret_int ?_, (hk1.alloc _ _).trans hk2⟩
        rw [cls_32_eq]
        first
          | (have hf : thr b = false := by simpa using ‹¬thr b = true›
             rw [if_pos (Or.inl hf)])
          | (have ht : thr b = true := by assumption
             simp only [ht, Bool.true_eq_false, false_or]
             (repeat' split) <;> omega)
    · have e1 : (n == 32) = false := by simpa using h32
      have e2 : (n == 64) = false := by simpa using h64
      have hv : Hid (cls b n = 0) := by show cls b n = 0; simp [cls, h64, h32]
      clear h64 h32
      go_enter Tryz.func91, Tryz.ntmps91
      go_wp2_with (first | (go_at_call 134; refine (of_0 _ e1 e2 _).mono ?_; rintro e w1 ⟨rfl, hk1⟩))
      go_ret
      exact ⟨ret_int hv.out.symm, (hk1.alloc _ _)⟩
theorem rparts_no (b n : Int) (hb1 : -9223372036854775808 ≤ b) (hb2 : b ≤ 9223372036854775807) (hn : n = 64 ∨ n = 32) (hc : 3 ≤ cls b n) (w : World) : Calls Tryz.prog 142 #[.int .i64 b,.int .i64 n] w fun e w' => e = .returned (.tuple #[.bool false,.int .i64 0,.int .i64 0,.bool false]) ∧ Kept w w':=by
 rcases hn with rfl | rfl
 ·go_enter Tryz.func142,Tryz.ntmps142
  go_wp2_with (first | (go_at_call 134; refine (of_64 _).mono ?_; rintro e w1 ⟨rfl,hk1⟩) | (go_at_call 91; refine (rclass_any _ _ hb1 hb2 _).mono ?_; rintro e w2 ⟨rfl,hk2⟩))
  exact bodyPost_ret (v:=.tuple #[.bool false,.int .i64 0,.int .i64 0,.bool false]) (by simp [results,Tryz.results142,go_sem]) rfl ⟨rfl,(hk1.alloc _ _).trans hk2⟩
 ·go_enter Tryz.func142,Tryz.ntmps142
  go_wp2_with (first | (go_at_call 134; refine (of_32 _).mono ?_; rintro e w1 ⟨rfl,hk1⟩) | (go_at_call 91; refine (rclass_any _ _ hb1 hb2 _).mono ?_; rintro e w2 ⟨rfl,hk2⟩))
  exact bodyPost_ret (v:=.tuple #[.bool false,.int .i64 0,.int .i64 0,.bool false]) (by simp [results,Tryz.results142,go_sem]) rfl ⟨rfl,(hk1.alloc _ _).trans hk2⟩
theorem rparts_none (b n : Int) (h1 : (n == 32) = false) (h2 : (n == 64) = false) (w : World) : Calls Tryz.prog 142 #[.int .i64 b,.int .i64 n] w fun e w' => e = .returned (.tuple #[.bool false,.int .i64 0,.int .i64 0,.bool false]) ∧ Kept w w':=by
 go_enter Tryz.func142,Tryz.ntmps142
 go_wp2_with (first | (go_at_call 134; refine (of_0 _ h1 h2 _).mono ?_; rintro e w1 ⟨rfl,hk1⟩))
 exact bodyPost_ret (v:=.tuple #[.bool false,.int .i64 0,.int .i64 0,.bool false]) (by simp [results,Tryz.results142,go_sem]) rfl ⟨rfl,(hk1.alloc _ _)⟩
theorem rparts_64_sub (b : Int) (hb1 : -9223372036854775808 ≤ b) (hb2 : b ≤ 9223372036854775807) (hc : cls b 64 < 3) (hl : (fld64 b == 0) = true) (w : World) : Calls Tryz.prog 142 #[.int .i64 b,.int .i64 64] w fun e w' => e = .returned (.tuple #[.bool (sgn b 64),.int .i64 (frc64 b),.int .i64 (-1074),.bool true]) ∧ Kept w w':=by
 go_enter Tryz.func142,Tryz.ntmps142
 go_wp2_with (first | (go_at_call 134; refine (of_64 _).mono ?_; rintro e w1 ⟨rfl,hk1⟩) | (go_at_call 91; refine (rclass_any _ _ hb1 hb2 _).mono ?_; rintro e w2 ⟨rfl,hk2⟩; have hcl:=laid_cell hk2) | (go_at_call 135; refine (cut_64 _ hb1 hb2 _).mono ?_; rintro e w3 ⟨rfl,hk3⟩; have hcl3:=laid_cell (hk2.trans hk3)))
 go_quiet (fail)
 go_wp2
 exact bodyPost_ret (v:=.tuple #[.bool (sgn b 64),.int .i64 (frc64 b),.int .i64 (-1074),.bool true]) (by simp [results,Tryz.results142,go_sem]) rfl ⟨rfl,(((hk1.alloc _ _).trans hk2).trans hk3).drewN _⟩
theorem rparts_64_nor (b : Int) (hb1 : -9223372036854775808 ≤ b) (hb2 : b ≤ 9223372036854775807) (hf1 : 0 ≤ fld64 b) (hf2 : fld64 b ≤ 4096) (ht1 : 0 ≤ frc64 b) (ht2 : frc64 b ≤ 4503599627370496) (hc : cls b 64 < 3) (hl : (fld64 b == 0) = false) (w : World) : Calls Tryz.prog 142 #[.int .i64 b,.int .i64 64] w fun e w' => e = .returned (.tuple #[.bool (sgn b 64),.int .i64 (4503599627370496 + frc64 b),.int .i64 (fld64 b + -1074 - 1),.bool true]) ∧ Kept w w':=by
 go_enter Tryz.func142,Tryz.ntmps142
 go_wp2_with (first | (go_at_call 134; refine (of_64 _).mono ?_; rintro e w1 ⟨rfl,hk1⟩) | (go_at_call 91; refine (rclass_any _ _ hb1 hb2 _).mono ?_; rintro e w2 ⟨rfl,hk2⟩; have hcl:=laid_cell hk2) | (go_at_call 135; refine (cut_64 _ hb1 hb2 _).mono ?_; rintro e w3 ⟨rfl,hk3⟩; have hcl3:=laid_cell (hk2.trans hk3)))
 go_quiet (fail)
 go_wp2
 exact bodyPost_ret (v:=.tuple #[.bool (sgn b 64),.int .i64 (4503599627370496 + frc64 b),.int .i64 (fld64 b + -1074 - 1),.bool true]) (by simp [results,Tryz.results142,go_sem]) rfl ⟨rfl,(((hk1.alloc _ _).trans hk2).trans hk3).drewN _⟩
theorem rparts_32_sub (b : Int) (hb1 : -9223372036854775808 ≤ b) (hb2 : b ≤ 9223372036854775807) (hc : cls b 32 < 3) (hl : (fld32 b == 0) = true) (w : World) : Calls Tryz.prog 142 #[.int .i64 b,.int .i64 32] w fun e w' => e = .returned (.tuple #[.bool (sg32 b),.int .i64 (frc32 b),.int .i64 (-149),.bool true]) ∧ Kept w w':=by
 go_enter Tryz.func142,Tryz.ntmps142
 go_wp2_with (first | (go_at_call 134; refine (of_32 _).mono ?_; rintro e w1 ⟨rfl,hk1⟩) | (go_at_call 91; refine (rclass_any _ _ hb1 hb2 _).mono ?_; rintro e w2 ⟨rfl,hk2⟩; have hcl:=laid_cell hk2) | (go_at_call 135; refine (cut_32 _ _).mono ?_; rintro e w3 ⟨rfl,hk3⟩; have hcl3:=laid_cell (hk2.trans hk3)))
 go_quiet (fail)
 go_wp2
 exact bodyPost_ret (v:=.tuple #[.bool (sg32 b),.int .i64 (frc32 b),.int .i64 (-149),.bool true]) (by simp [results,Tryz.results142,go_sem]) rfl ⟨rfl,(((hk1.alloc _ _).trans hk2).trans hk3).drewN _⟩
theorem rparts_32_nor (b : Int) (hb1 : -9223372036854775808 ≤ b) (hb2 : b ≤ 9223372036854775807) (hf1 : 0 ≤ fld32 b) (hf2 : fld32 b ≤ 4096) (ht1 : 0 ≤ frc32 b) (ht2 : frc32 b ≤ 8388608) (hc : cls b 32 < 3) (hl : (fld32 b == 0) = false) (w : World) : Calls Tryz.prog 142 #[.int .i64 b,.int .i64 32] w fun e w' => e = .returned (.tuple #[.bool (sg32 b),.int .i64 (8388608 + frc32 b),.int .i64 (fld32 b + -149 - 1),.bool true]) ∧ Kept w w':=by
 go_enter Tryz.func142,Tryz.ntmps142
 go_wp2_with (first | (go_at_call 134; refine (of_32 _).mono ?_; rintro e w1 ⟨rfl,hk1⟩) | (go_at_call 91; refine (rclass_any _ _ hb1 hb2 _).mono ?_; rintro e w2 ⟨rfl,hk2⟩; have hcl:=laid_cell hk2) | (go_at_call 135; refine (cut_32 _ _).mono ?_; rintro e w3 ⟨rfl,hk3⟩; have hcl3:=laid_cell (hk2.trans hk3)))
 go_quiet (fail)
 go_wp2
 exact bodyPost_ret (v:=.tuple #[.bool (sg32 b),.int .i64 (8388608 + frc32 b),.int .i64 (fld32 b + -149 - 1),.bool true]) (by simp [results,Tryz.results142,go_sem]) rfl ⟨rfl,(((hk1.alloc _ _).trans hk2).trans hk3).drewN _⟩
theorem rparts_any (b n : Int) (hb1 : -9223372036854775808 ≤ b) (hb2 : b ≤ 9223372036854775807) (w : World) : Calls Tryz.prog 142 #[.int .i64 b,.int .i64 n] w fun e w' => e = .returned (.tuple #[.bool (pneg b n),.int .i64 (pmag b n),.int .i64 (pexp b n),.bool (fin b n)]) ∧ Kept w w':=by
 by_cases hn : n = 64 ∨ n = 32
 ·by_cases hc : cls b n < 3
  ·have hf : fin b n = true:=by simp [fin,hn,hc]
   rcases hn with rfl | rfl
   ·by_cases hl : fld64 b = 0
    ·have hl' : b % 9223372036854775808 < 4503599627370496:=by unfold fld64 at hl; omega
     refine (rparts_64_sub b hb1 hb2 hc (by simpa using hl) w).mono ?_
     rintro e w' ⟨rfl,hk⟩
     exact ⟨ret_parts (by simp [pneg,hf]) (by simp only [pmag,hf,if_true,hl',frc64]; omega) (by simp [pexp,hf,hl']) hf.symm,hk⟩
    ·have hl' : ¬ b % 9223372036854775808 < 4503599627370496:=by unfold fld64 at hl; omega
     refine (rparts_64_nor b hb1 hb2 (by unfold fld64; omega) (by unfold fld64; omega) (by unfold frc64; omega) (by unfold frc64; omega) hc (by simpa using hl) w).mono ?_
     rintro e w' ⟨rfl,hk⟩
     exact ⟨ret_parts (by simp [pneg,hf]) (by simp only [pmag,hf,if_true,hl',if_false,frc64]; omega) (by simp only [pexp,hf,if_true,hl',if_false,fld64]; omega) hf.symm,hk⟩
   ·have hv:=cls_valid b (by omega)
    have ht : thr b = true:=by simp [thr,hv]
    have e1 : fld32 b = b % 2147483648 / 8388608:=by simp [fld32,ht]
    have e2 : frc32 b = b % 8388608:=by simp [frc32,ht]
    have e3 : sg32 b = pneg b 32:=by simp [sg32,ht,pneg,hf]
    by_cases hl : fld32 b = 0
    ·have hl' : b % 2147483648 < 8388608:=by omega
     refine (rparts_32_sub b hb1 hb2 hc (by simpa using hl) w).mono ?_
     rintro e w' ⟨rfl,hk⟩
     exact ⟨ret_parts e3 (by rw [e2]; simp [pmag,hf,hl']; omega) (by simp [pexp,hf,hl']) hf.symm,hk⟩
    ·have hl' : ¬ b % 2147483648 < 8388608:=by omega
     refine (rparts_32_nor b hb1 hb2 (by omega) (by omega) (by omega) (by omega) hc (by simpa using hl) w).mono ?_
     rintro e w' ⟨rfl,hk⟩
     exact ⟨ret_parts e3 (by rw [e2]; simp [pmag,hf,hl']; omega) (by rw [e1]; simp [pexp,hf,hl']; omega) hf.symm,hk⟩
  ·have hf : fin b n = false:=by simp [fin]; omega
   refine (rparts_no b n hb1 hb2 hn (by omega) w).mono ?_
   rintro e w' ⟨rfl,hk⟩
   exact ⟨ret_parts (by simp [pneg,hf]) (by simp [pmag,hf]) (by simp [pexp,hf]) hf.symm,hk⟩
 ·have hf : fin b n = false:=by simp [fin]; omega
  refine (rparts_none b n (by rw [beq_eq_false_iff_ne]; omega) (by rw [beq_eq_false_iff_ne]; omega) w).mono ?_
  rintro e w' ⟨rfl,hk⟩
  exact ⟨ret_parts (by simp [pneg,hf]) (by simp [pmag,hf]) (by simp [pexp,hf]) hf.symm,hk⟩
theorem getD_apr (A B : List Int) (k j : Nat) (h : A.length + j = k) : (A ++ B).getD k 0 = B.getD j 0:=by
 rw [List.getD_eq_getElem?_getD,List.getElem?_append_right (by omega),show k - A.length = j by omega,List.getD_eq_getElem?_getD]
theorem lent_any (L : List Int) (hlen : L.length < 10000000) (ao : Option Addr) (c : Nat) (w : World) (h : Sl w (.slice ao L.length c) L) : Calls Tryz.prog 55 #[.slice ao L.length c] w fun e w' => (∃ g cap,e = .returned (.slice (some ⟨g,0,none⟩) (L.length + 3) cap) ∧ w.heap.size ≤ g ∧ Own w' g cap (L ++ [-71,-72,-73])) ∧ Kept w w':=by
 obtain ⟨v1,w1,hr1,k1,hrow⟩:=app_nil L (by omega) _ w h
 have k2 : Kept w1 (w1.alloc (.cells #[.int .i64 (-71),.int .i64 (-72),.int .i64 (-73)] 3)):=(Kept.refl w1).alloc _ _
 have hR : Rw (w1.alloc (.cells #[.int .i64 (-71),.int .i64 (-72),.int .i64 (-73)] 3)) v1 3 (L.map (Value.int .i64)):=by
  rcases hrow with ⟨rfl,rfl⟩ | ⟨g,cap,rfl,hg,hO⟩
  ·exact .inl ⟨rfl,rfl⟩
  ·exact .inr ⟨g,cap,by rw [List.length_map],own_v.1 (hO.kept k2)⟩
 obtain ⟨g,cap,w2,hr2,hO2,hk2⟩:=app_gen 22 3 li_under (.int .i64 0) 8 int_info (by simp [Value.cells]) (by omega) _ v1 (L.map (Value.int .i64)) [.int .i64 (-71),.int .i64 (-72),.int .i64 (-73)] hR ⟨w1.heap.size,0,none⟩ 3 3 rfl (fun j u hj => by
  rw [Addr.add_lit,Nat.zero_add]
  rcases j with _ | _ | _ | j
  ·cases hj; simp [go_sem]
  ·cases hj; simp [go_sem]
  ·cases hj; simp [go_sem]
  ·simp at hj) (fun u hu => by simp at hu; rcases hu with rfl | rfl | rfl <;> rfl) (by omega) (by rw [List.length_map]; omega)
 rw [List.length_map] at hr2 hk2
 have hfin : (w.heap.size ≤ g ∧ Own w2 g cap (L ++ [-71,-72,-73])) ∧ Kept w w2:=by
  have hs1:=k1.below.size
  refine ⟨⟨?_,own_v.2 (by simpa using hO2)⟩,?_⟩
  ·rcases hk2 with ⟨rfl,-⟩ | ⟨e,-⟩
   ·simp; omega
   ·rcases hrow with ⟨-,rfl⟩ | ⟨g',cap',rfl,hg,-⟩
    ·cases e
    ·cases e; exact hg
  ·rcases hk2 with ⟨-,k⟩ | ⟨e,k⟩
   ·exact (k1.trans k2).trans k
   ·rcases hrow with ⟨-,rfl⟩ | ⟨g',cap',rfl,hg,-⟩
    ·cases e
    ·cases e; exact (k1.trans k2).grw hg k
 have H1 : Hid (∀ ty,(Builtin.append_ #[22,22] ty #[.slice none 0 0,.slice ao L.length c]).run Tryz.prog w = .ok v1 w1):=hr1
 have H2 : Hid (∀ ty,(Builtin.append_ #[22,22] ty #[v1,.slice (some ⟨w1.heap.size,0,none⟩) 3 3]).run Tryz.prog (w1.alloc (.cells #[.int .i64 (-71),.int .i64 (-72),.int .i64 (-73)] 3)) = .ok (.slice (some ⟨g,0,none⟩) (L.length + 3) cap) w2):=hr2
 clear hr1 hr2 hrow hR hO2 hk2 h
 generalize L.length = n at *
 go_enter Tryz.func55,Tryz.ntmps55
 go_wp2_with (first | (at_builtin; refine wpList_append_run rfl _ _ _ rfl _ _ rfl rfl _ _ (H1.out _) ?_) | (at_builtin; refine wpList_append_run rfl _ _ _ rfl _ _ rfl rfl _ _ (H2.out _) ?_))
 go_ret
 exact ⟨⟨_,_,rfl,hfin.1⟩,hfin.2⟩
theorem lentNum_any (neg : Bool) (x : Int) (L : List Int) (hlen : L.length < 10000000) (ao : Option Addr) (c : Nat) (w : World) (h : Sl w (.slice ao L.length c) L) : Calls Tryz.prog 49 #[.agg #[.bool neg,.slice ao L.length c,.int .i64 x]] w fun e w' => (∃ g cap,e = .returned (.tuple #[.slice (some ⟨g,0,none⟩) (L.length + 3) cap,.agg #[.bool neg,.slice (some ⟨g,0,none⟩) L.length cap,.int .i64 x]]) ∧ w.heap.size ≤ g ∧ Own w' g cap (L ++ [-71,-72,-73])) ∧ Kept w w':=by
 have hW : Kept w ((w.alloc (.cells #[.bool neg,.slice ao L.length c,.int .i64 x] 24)).alloc nilNum):=((Kept.refl w).alloc _ _).alloc _ _
 have KL : Hid (Calls Tryz.prog 55 #[.slice ao L.length c] ((w.alloc (.cells #[.bool neg,.slice ao L.length c,.int .i64 x] 24)).alloc nilNum) fun e w' => (∃ g cap,e = .returned (.slice (some ⟨g,0,none⟩) (L.length + 3) cap) ∧ ((w.alloc (.cells #[.bool neg,.slice ao L.length c,.int .i64 x] 24)).alloc nilNum).heap.size ≤ g ∧ L.length ≤ cap ∧ Own w' g cap (L ++ [-71,-72,-73])) ∧ Kept ((w.alloc (.cells #[.bool neg,.slice ao L.length c,.int .i64 x] 24)).alloc nilNum) w'):=by
  refine (lent_any L hlen ao c _ (h.kept hW)).mono ?_
  rintro e w1 ⟨⟨g,cap,rfl,hg,hO⟩,k1⟩
  exact ⟨⟨g,cap,rfl,hg,(by obtain ⟨_,_,h1,_⟩:=hO; simp at h1; omega),hO⟩,k1⟩
 generalize hM : L ++ [-71,-72,-73] = M at *
 generalize L.length = n at *
 go_enter Tryz.func49,Tryz.ntmps49
 go_wp2_with (first | (go_at_call 55; refine KL.out.mono ?_; rintro e w1 ⟨⟨g,cap,rfl,hg,hcap,hO⟩,hk1⟩; simp only [World.size_alloc] at hg; obtain ⟨f0,f1,f2,f3⟩:=res_cells (w.heap.size + 1) (by simp <;> omega) hk1 (by simp [go_sem]) (by simp [go_sem]) (by simp [go_sem]) (fun o => by simp [go_sem]); have b0:=(hk1.below.cell (p:=⟨w.heap.size,0,none⟩) (by simp; omega)).trans (show _ = some (Value.bool neg) by simp [go_sem]); have b1:=(hk1.below.cell (p:=⟨w.heap.size,1,none⟩) (by simp; omega)).trans (show _ = some (Value.slice ao n c) by simp [go_sem]); have b2:=(hk1.below.cell (p:=⟨w.heap.size,2,none⟩) (by simp; omega)).trans (show _ = some (Value.int .i64 x) by simp [go_sem])))
 have kB0 : Kept (w.alloc (.cells #[.bool neg,.slice ao n c,.int .i64 x] 24)) ((w.alloc (.cells #[.bool neg,.slice ao n c,.int .i64 x] 24)).alloc nilNum):=(Kept.refl _).alloc _ _
 have HS : Hid (∀ u,Kept (w.alloc (.cells #[.bool neg,.slice ao n c,.int .i64 x] 24)) u → Kept w u ∧ u.cell? ⟨w.heap.size,0,none⟩ = some (.bool neg) ∧ u.cell? ⟨w.heap.size,1,none⟩ = some (.slice ao n c) ∧ u.cell? ⟨w.heap.size,2,none⟩ = some (.int .i64 x)):=fun u k => ⟨((Kept.refl w).alloc _ _).trans k,(laid_cell k 0).trans (by simp [go_sem]),(laid_cell k 1).trans (by simp [go_sem]),(laid_cell k 2).trans (by simp [go_sem])⟩
 clear b0 b1 b2
 go_region_held (fun u => Kept w u ∧ u.cell? ⟨w.heap.size,0,none⟩ = some (.bool neg) ∧ u.cell? ⟨w.heap.size,1,none⟩ = some (.slice ao n c) ∧ u.cell? ⟨w.heap.size,2,none⟩ = some (.int .i64 x)) (first | exact HS.out _ (kB0.trans hk1.drew) | assumption | exact HS.out _ (res_kept (w.heap.size + 1) (by simp) kB0 hk1.drew _ _ _)) (fail)
 all_goals
  go_wp2
  exact bodyPost_ret (v:=.tuple #[.slice (some ⟨g,0,none⟩) (n + 3) cap,.agg #[.bool neg,.slice (some ⟨g,0,none⟩) n cap,.int .i64 x]]) (by simp [results,Tryz.results49,go_sem,f0,f1,f2]) rfl ⟨⟨g,cap,rfl,by omega,(((hO.kept (Kept.refl _).drew).setOther (by simp; omega) _).setOther (by simp; omega) _).setOther (by simp; omega) _⟩,res_kept (w.heap.size + 1) (by omega) hW hk1.drew _ _ _⟩
theorem back_any (L : List Int) (hlen : L.length < 10000000) (v : Value) (g cap : Nat) (w : World) (h : Sl w v L) (ho : Own w g cap (L ++ [-71,-72,-73])) : Calls Tryz.prog 41 #[.slice (some ⟨g,0,none⟩) (L.length + 3) cap,v] w fun e w' => e = .returned (.bool true) ∧ Grw g w w':=by
 have hcap : L.length + 3 ≤ cap:=by obtain ⟨_,_,h1,_⟩:=ho; simpa using h1
 have KS : Hid (Calls Tryz.prog 48 #[.slice (some ⟨g,0,none⟩) L.length cap,v] w fun e w' => e = .returned (.bool true) ∧ Kept w w'):=by
  have:=ho.slTake L.length (by simp)
  rw [List.take_left'  rfl] at this
  exact same_true L (by omega) _ _ w this h
 have HO : Hid (∀ u,Kept w u → Own u g cap (L ++ [-71,-72,-73])):=fun u k => ho.kept k
 have HC : Hid (∀ u,Kept w u → u.cell? ⟨g,L.length,none⟩ = some (.int .i64 (-71)) ∧ u.cell? ⟨g,L.length + 1,none⟩ = some (.int .i64 (-72)) ∧ u.cell? ⟨g,L.length + 2,none⟩ = some (.int .i64 (-73))):=fun u k => by
  have hq:=ho.kept k
  refine ⟨?_,?_,?_⟩
  ·have:=hq.cell L.length (by simp)
   rw [getD_apr L _ _ 0 (by omega)] at this
   exact this
  ·have:=hq.cell (L.length + 1) (by simp)
   rw [getD_apr L _ _ 1 (by omega)] at this
   exact this
  ·have:=hq.cell (L.length + 2) (by simp)
   rw [getD_apr L _ _ 2 (by omega)] at this
   exact this
 have HL : Hid ((L ++ [-71,-72,-73]).length = L.length + 3):=by simp [Hid]
 obtain ⟨ao,cp,rfl,-,-,-⟩:=h
 generalize hM : L ++ [-71,-72,-73] = M at *
 clear hM ho
 generalize L.length = n at *
 go_enter Tryz.func41,Tryz.ntmps41
 go_wp2_with (first | (go_at_call 48; refine KS.out.mono ?_; rintro e w1 ⟨rfl,k1⟩; obtain ⟨q0,q1,q2⟩:=HC.out _ k1))
 go_loopw [7] (fun i wr => ∃ (k : Nat) (M' : List Int),k ≤ n + 3 ∧ i = .int .i64 k ∧ M'.length = n + 3 ∧ Own wr g cap M' ∧ Grw g w wr) (fun i _ => n + 3 - (intOf i).toNat)
 case atStart => exact ⟨0,M,by omega,rfl,HL.out,HO.out _ k1,k1.toGrw g⟩
 case round =>
  obtain ⟨k,M',hk,rfl,hM',hO,hG⟩:=hrel
  have HO2 : Hid (Own wr g cap M'):=hO
  by_cases hkn : k < n + 3
  ·have hcell:=hO.cell k (by omega)
   have hfree:=hO.free k
   clear hO
   go_wp2
   go_roundw
   case rel => exact ⟨k + 1,M'.set k (-9),by omega,by go_num,by rw [List.length_set]; exact hM',HO2.out.set k (-9),hG.setCell _ _⟩
   case measure => simp [intOf]; omega
  ·obtain rfl : k = n + 3:=by omega
   go_wp2
   go_ret
   exact ⟨rfl,hG⟩
end Go.Proofs.YtoflafgbbjinpaaGreatDoor
