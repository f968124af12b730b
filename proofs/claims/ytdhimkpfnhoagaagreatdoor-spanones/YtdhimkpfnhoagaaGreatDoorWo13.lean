/- The walks of the document's own Class and Parts. The walks of the laws' own Same and SameNum at what is the same. -/
import Derived.Test.YtdhimkpfnhoagaaGreatDoorWo12
import Derived.Test.YtdhimkpfnhoagaaGreatDoorWo05
namespace Go.Proofs.YtdhimkpfnhoagaaGreatDoor
open Go.ChangeShapes Go.WideShapes Go.ChangeAt Go.RowKit
set_option linter.unusedVariables false
set_option linter.unusedSimpArgs false
set_option maxHeartbeats 16000000
set_option maxRecDepth 100000
theorem rclass_any (b n : Int) (hb1 : -9223372036854775808 ≤ b) (hb2 : b ≤ 9223372036854775807) (w : World) : Calls Tryz.prog 92 #[.int .i64 b, .int .i64 n] w fun e w' => e = .returned (.int .i64 (cls b n)) ∧ Kept w w' := by
  by_cases h64 : n = 64
  · subst h64
    go_enter Tryz.func92, Tryz.ntmps92
    go_wp2_with (first | (go_at_call 136; refine (of_64 _).mono ?_; rintro e w1 ⟨rfl, hk1⟩) | (go_at_call 137; refine (cut_64 _ hb1 hb2 _).mono ?_; rintro e w2 ⟨rfl, hk2⟩; have hcl := laid_cell hk2))
    all_goals
      go_ret
      refine ⟨ret_int ?_, (hk1.alloc _ _).trans hk2⟩
      rw [cls_64_eq]
      (repeat' split) <;> omega
  · by_cases h32 : n = 32
    · subst h32
      go_enter Tryz.func92, Tryz.ntmps92
      go_wp2_with (first | (go_at_call 136; refine (of_32 _).mono ?_; rintro e w1 ⟨rfl, hk1⟩) | (go_at_call 137; refine (cut_32 _ _).mono ?_; rintro e w2 ⟨rfl, hk2⟩; have hcl := laid_cell hk2))
      all_goals
        go_ret
        refine ⟨ret_int ?_, (hk1.alloc _ _).trans hk2⟩
        rw [cls_32_eq]
        first
          | (have hf : thr b = false := by simpa using ‹¬thr b = true›
             rw [if_pos (Or.inl hf)])
          | (have ht : thr b = true := by assumption
             simp only [ht, Bool.true_eq_false, false_or]
             (repeat' split) <;> omega)
    · have e1 : (n == 32) = false := by simpa using h32
      have e2 : (n == 64) = false := by simpa using h64
      have hv : Hid (cls b n = 0) := by show cls b n = 0; simp [cls, h64, h32]
      clear h64 h32
      go_enter Tryz.func92, Tryz.ntmps92
      go_wp2_with (first | (go_at_call 136; refine (of_0 _ e1 e2 _).mono ?_; rintro e w1 ⟨rfl, hk1⟩))
      go_ret
      exact ⟨ret_int hv.out.symm, (hk1.alloc _ _)⟩
theorem rparts_no (b n : Int) (hb1 : -9223372036854775808 ≤ b) (hb2 : b ≤ 9223372036854775807) (hn : n = 64 ∨ n = 32) (hc : 3 ≤ cls b n) (w : World) : Calls Tryz.prog 146 #[.int .i64 b,.int .i64 n] w fun e w' => e = .returned (.tuple #[.bool false,.int .i64 0,.int .i64 0,.bool false]) ∧ Kept w w':=by
 rcases hn with rfl | rfl
 ·go_enter Tryz.func146,Tryz.ntmps146
  go_wp2_with (first | (go_at_call 136; refine (of_64 _).mono ?_; rintro e w1 ⟨rfl,hk1⟩) | (go_at_call 92; refine (rclass_any _ _ hb1 hb2 _).mono ?_; rintro e w2 ⟨rfl,hk2⟩))
  exact bodyPost_ret (v:=.tuple #[.bool false,.int .i64 0,.int .i64 0,.bool false]) (by simp [results,Tryz.results146,go_sem]) rfl ⟨rfl,(hk1.alloc _ _).trans hk2⟩
 ·go_enter Tryz.func146,Tryz.ntmps146
  go_wp2_with (first | (go_at_call 136; refine (of_32 _).mono ?_; rintro e w1 ⟨rfl,hk1⟩) | (go_at_call 92; refine (rclass_any _ _ hb1 hb2 _).mono ?_; rintro e w2 ⟨rfl,hk2⟩))
  exact bodyPost_ret (v:=.tuple #[.bool false,.int .i64 0,.int .i64 0,.bool false]) (by simp [results,Tryz.results146,go_sem]) rfl ⟨rfl,(hk1.alloc _ _).trans hk2⟩
theorem rparts_none (b n : Int) (h1 : (n == 32) = false) (h2 : (n == 64) = false) (w : World) : Calls Tryz.prog 146 #[.int .i64 b,.int .i64 n] w fun e w' => e = .returned (.tuple #[.bool false,.int .i64 0,.int .i64 0,.bool false]) ∧ Kept w w':=by
 go_enter Tryz.func146,Tryz.ntmps146
 go_wp2_with (first | (go_at_call 136; refine (of_0 _ h1 h2 _).mono ?_; rintro e w1 ⟨rfl,hk1⟩))
 exact bodyPost_ret (v:=.tuple #[.bool false,.int .i64 0,.int .i64 0,.bool false]) (by simp [results,Tryz.results146,go_sem]) rfl ⟨rfl,(hk1.alloc _ _)⟩
theorem rparts_64_sub (b : Int) (hb1 : -9223372036854775808 ≤ b) (hb2 : b ≤ 9223372036854775807) (hc : cls b 64 < 3) (hl : (fld64 b == 0) = true) (w : World) : Calls Tryz.prog 146 #[.int .i64 b,.int .i64 64] w fun e w' => e = .returned (.tuple #[.bool (sgn b 64),.int .i64 (frc64 b),.int .i64 (-1074),.bool true]) ∧ Kept w w':=by
 go_enter Tryz.func146,Tryz.ntmps146
 go_wp2_with (first | (go_at_call 136; refine (of_64 _).mono ?_; rintro e w1 ⟨rfl,hk1⟩) | (go_at_call 92; refine (rclass_any _ _ hb1 hb2 _).mono ?_; rintro e w2 ⟨rfl,hk2⟩; have hcl:=laid_cell hk2) | (go_at_call 137; refine (cut_64 _ hb1 hb2 _).mono ?_; rintro e w3 ⟨rfl,hk3⟩; have hcl3:=laid_cell (hk2.trans hk3)))
 go_quiet (fail)
 go_wp2
 exact bodyPost_ret (v:=.tuple #[.bool (sgn b 64),.int .i64 (frc64 b),.int .i64 (-1074),.bool true]) (by simp [results,Tryz.results146,go_sem]) rfl ⟨rfl,(((hk1.alloc _ _).trans hk2).trans hk3).drewN _⟩
theorem rparts_64_nor (b : Int) (hb1 : -9223372036854775808 ≤ b) (hb2 : b ≤ 9223372036854775807) (hf1 : 0 ≤ fld64 b) (hf2 : fld64 b ≤ 4096) (ht1 : 0 ≤ frc64 b) (ht2 : frc64 b ≤ 4503599627370496) (hc : cls b 64 < 3) (hl : (fld64 b == 0) = false) (w : World) : Calls Tryz.prog 146 #[.int .i64 b,.int .i64 64] w fun e w' => e = .returned (.tuple #[.bool (sgn b 64),.int .i64 (4503599627370496 + frc64 b),.int .i64 (fld64 b + -1074 - 1),.bool true]) ∧ Kept w w':=by
 go_enter Tryz.func146,Tryz.ntmps146
 go_wp2_with (first | (go_at_call 136; refine (of_64 _).mono ?_; rintro e w1 ⟨rfl,hk1⟩) | (go_at_call 92; refine (rclass_any _ _ hb1 hb2 _).mono ?_; rintro e w2 ⟨rfl,hk2⟩; have hcl:=laid_cell hk2) | (go_at_call 137; refine (cut_64 _ hb1 hb2 _).mono ?_; rintro e w3 ⟨rfl,hk3⟩; have hcl3:=laid_cell (hk2.trans hk3)))
 go_quiet (fail)
 go_wp2
 exact bodyPost_ret (v:=.tuple #[.bool (sgn b 64),.int .i64 (4503599627370496 + frc64 b),.int .i64 (fld64 b + -1074 - 1),.bool true]) (by simp [results,Tryz.results146,go_sem]) rfl ⟨rfl,(((hk1.alloc _ _).trans hk2).trans hk3).drewN _⟩
theorem rparts_32_sub (b : Int) (hb1 : -9223372036854775808 ≤ b) (hb2 : b ≤ 9223372036854775807) (hc : cls b 32 < 3) (hl : (fld32 b == 0) = true) (w : World) : Calls Tryz.prog 146 #[.int .i64 b,.int .i64 32] w fun e w' => e = .returned (.tuple #[.bool (sg32 b),.int .i64 (frc32 b),.int .i64 (-149),.bool true]) ∧ Kept w w':=by
 go_enter Tryz.func146,Tryz.ntmps146
 go_wp2_with (first | (go_at_call 136; refine (of_32 _).mono ?_; rintro e w1 ⟨rfl,hk1⟩) | (go_at_call 92; refine (rclass_any _ _ hb1 hb2 _).mono ?_; rintro e w2 ⟨rfl,hk2⟩; have hcl:=laid_cell hk2) | (go_at_call 137; refine (cut_32 _ _).mono ?_; rintro e w3 ⟨rfl,hk3⟩; have hcl3:=laid_cell (hk2.trans hk3)))
 go_quiet (fail)
 go_wp2
 exact bodyPost_ret (v:=.tuple #[.bool (sg32 b),.int .i64 (frc32 b),.int .i64 (-149),.bool true]) (by simp [results,Tryz.results146,go_sem]) rfl ⟨rfl,(((hk1.alloc _ _).trans hk2).trans hk3).drewN _⟩
theorem rparts_32_nor (b : Int) (hb1 : -9223372036854775808 ≤ b) (hb2 : b ≤ 9223372036854775807) (hf1 : 0 ≤ fld32 b) (hf2 : fld32 b ≤ 4096) (ht1 : 0 ≤ frc32 b) (ht2 : frc32 b ≤ 8388608) (hc : cls b 32 < 3) (hl : (fld32 b == 0) = false) (w : World) : Calls Tryz.prog 146 #[.int .i64 b,.int .i64 32] w fun e w' => e = .returned (.tuple #[.bool (sg32 b),.int .i64 (8388608 + frc32 b),.int .i64 (fld32 b + -149 - 1),.bool true]) ∧ Kept w w':=by
 go_enter Tryz.func146,Tryz.ntmps146
 go_wp2_with (first | (go_at_call 136; refine (of_32 _).mono ?_; rintro e w1 ⟨rfl,hk1⟩) | (go_at_call 92; refine (rclass_any _ _ hb1 hb2 _).mono ?_; rintro e w2 ⟨rfl,hk2⟩; have hcl:=laid_cell hk2) | (go_at_call 137; refine (cut_32 _ _).mono ?_; rintro e w3 ⟨rfl,hk3⟩; have hcl3:=laid_cell (hk2.trans hk3)))
 go_quiet (fail)
 go_wp2
 exact bodyPost_ret (v:=.tuple #[.bool (sg32 b),.int .i64 (8388608 + frc32 b),.int .i64 (fld32 b + -149 - 1),.bool true]) (by simp [results,Tryz.results146,go_sem]) rfl ⟨rfl,(((hk1.alloc _ _).trans hk2).trans hk3).drewN _⟩
theorem rparts_any (b n : Int) (hb1 : -9223372036854775808 ≤ b) (hb2 : b ≤ 9223372036854775807) (w : World) : Calls Tryz.prog 146 #[.int .i64 b,.int .i64 n] w fun e w' => e = .returned (.tuple #[.bool (pneg b n),.int .i64 (pmag b n),.int .i64 (pexp b n),.bool (fin b n)]) ∧ Kept w w':=by
 by_cases hn : n = 64 ∨ n = 32
 ·by_cases hc : cls b n < 3
  ·have hf : fin b n = true:=by simp [fin,hn,hc]
   rcases hn with rfl | rfl
   ·by_cases hl : fld64 b = 0
    ·have hl' : b % 9223372036854775808 < 4503599627370496:=by unfold fld64 at hl; omega
     refine (rparts_64_sub b hb1 hb2 hc (by simpa using hl) w).mono ?_
     rintro e w' ⟨rfl,hk⟩
     exact ⟨ret_parts (by simp [pneg,hf]) (by simp only [pmag,hf,if_true,hl',frc64]; omega) (by simp [pexp,hf,hl']) hf.symm,hk⟩
    ·have hl' : ¬ b % 9223372036854775808 < 4503599627370496:=by unfold fld64 at hl; omega
     refine (rparts_64_nor b hb1 hb2 (by unfold fld64; omega) (by unfold fld64; omega) (by unfold frc64; omega) (by unfold frc64; omega) hc (by simpa using hl) w).mono ?_
     rintro e w' ⟨rfl,hk⟩
     exact ⟨ret_parts (by simp [pneg,hf]) (by simp only [pmag,hf,if_true,hl',if_false,frc64]; omega) (by simp only [pexp,hf,if_true,hl',if_false,fld64]; omega) hf.symm,hk⟩
   ·have hv:=cls_valid b (by omega)
    have ht : thr b = true:=by simp [thr,hv]
    have e1 : fld32 b = b % 2147483648 / 8388608:=by simp [fld32,ht]
    have e2 : frc32 b = b % 8388608:=by simp [frc32,ht]
    have e3 : sg32 b = pneg b 32:=by simp [sg32,ht,pneg,hf]
    by_cases hl : fld32 b = 0
    ·have hl' : b % 2147483648 < 8388608:=by omega
     refine (rparts_32_sub b hb1 hb2 hc (by simpa using hl) w).mono ?_
     rintro e w' ⟨rfl,hk⟩
     exact ⟨ret_parts e3 (by rw [e2]; simp [pmag,hf,hl']; omega) (by simp [pexp,hf,hl']) hf.symm,hk⟩
    ·have hl' : ¬ b % 2147483648 < 8388608:=by omega
     refine (rparts_32_nor b hb1 hb2 (by omega) (by omega) (by omega) (by omega) hc (by simpa using hl) w).mono ?_
     rintro e w' ⟨rfl,hk⟩
     exact ⟨ret_parts e3 (by rw [e2]; simp [pmag,hf,hl']; omega) (by rw [e1]; simp [pexp,hf,hl']; omega) hf.symm,hk⟩
  ·have hf : fin b n = false:=by simp [fin]; omega
   refine (rparts_no b n hb1 hb2 hn (by omega) w).mono ?_
   rintro e w' ⟨rfl,hk⟩
   exact ⟨ret_parts (by simp [pneg,hf]) (by simp [pmag,hf]) (by simp [pexp,hf]) hf.symm,hk⟩
 ·have hf : fin b n = false:=by simp [fin]; omega
  refine (rparts_none b n (by rw [beq_eq_false_iff_ne]; omega) (by rw [beq_eq_false_iff_ne]; omega) w).mono ?_
  rintro e w' ⟨rfl,hk⟩
  exact ⟨ret_parts (by simp [pneg,hf]) (by simp [pmag,hf]) (by simp [pexp,hf]) hf.symm,hk⟩
theorem same_nil (a b : Option Addr) (c d : Nat) (w : World) : Calls Tryz.prog 91 #[.slice a 0 c,.slice b 0 d] w fun e w' => e = .returned (.bool true) ∧ Kept w w':=by
 go_enter Tryz.func91,Tryz.ntmps91
 go_wp2
 refine wp_loop_rounds 1 ?_
 rw [rounds_succ]
 go_wp2
 go_ret
 exact ⟨rfl,Kept.refl _⟩
theorem same_some (L : List Int) (hlen : L.length < 100000000) (b1 o1 c1 b2 o2 c2 : Nat) (w : World) (hb1 : b1 < w.heap.size) (hb2 : b2 < w.heap.size) (h1 : Reads w b1 o1 L) (h2 : Reads w b2 o2 L) : Calls Tryz.prog 91 #[.slice (some ⟨b1,o1,none⟩) L.length c1,.slice (some ⟨b2,o2,none⟩) L.length c2] w fun e w' => e = .returned (.bool true) ∧ Kept w w':=by
 have H1 : Hid (∀ u,Kept w u → Reads u b1 o1 L):=fun u k => h1.kept hb1 k
 have H2 : Hid (∀ u,Kept w u → Reads u b2 o2 L):=fun u k => h2.kept hb2 k
 obtain ⟨n,hn⟩ : ∃ n,n = L.length:=⟨_,rfl⟩
 have HN : Hid (n = L.length):=hn
 rw [← hn] at hlen ⊢
 clear h1 h2 hn hb1 hb2
 go_enter Tryz.func91,Tryz.ntmps91
 go_wp2
 go_loopw [5] (fun i wr => ∃ k : Nat,k ≤ n ∧ i = .int .i64 k ∧ Kept w wr) (fun i _ => n - (intOf i).toNat)
 case atStart => exact ⟨0,Nat.zero_le _,rfl,Kept.refl _⟩
 case round =>
  obtain ⟨k,hk,rfl,hK⟩:=hrel
  by_cases hkn : k < n
  ·have c1:=H1.out _ hK k (by rw [← HN.out]; exact hkn)
   have c2:=H2.out _ hK k (by rw [← HN.out]; exact hkn)
   generalize L.getD k 0 = d at c1 c2
   have hdd : (d != d) = false:=by simp
   go_wp2
   go_quiet (fail)
   go_wp2
   go_roundw
   case rel => exact ⟨k + 1,by omega,by go_num,hK.drewN _⟩
   case measure => simp [intOf]; omega
  ·obtain rfl : k = n:=by omega
   go_wp2
   go_ret
   exact ⟨rfl,hK⟩
theorem same_true (L : List Int) (hlen : L.length < 100000000) (u v : Value) (w : World) (h1 : Sl w u L) (h2 : Sl w v L) : Calls Tryz.prog 91 #[u,v] w fun e w' => e = .returned (.bool true) ∧ Kept w w':=by
 obtain ⟨a,c,rfl,-,-,r1⟩:=h1
 obtain ⟨b,d,rfl,-,-,r2⟩:=h2
 by_cases hne : L = []
 ·subst hne; exact same_nil a b c d w
 ·obtain ⟨b1,o1,rfl,hb1,r1⟩:=r1 hne
  obtain ⟨b2,o2,rfl,hb2,r2⟩:=r2 hne
  exact same_some L hlen b1 o1 c b2 o2 d w hb1 hb2 r1 r2
end Go.Proofs.YtdhimkpfnhoagaaGreatDoor
