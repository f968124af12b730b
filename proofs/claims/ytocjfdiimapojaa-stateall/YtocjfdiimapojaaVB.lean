/- Package state: isFinite. -/
import Derived.Test.YtocjfdiimapojaaVA
namespace Go.Proofs.Ytocjfdiimapojaa
open Go.ChangeShapes Go.WideShapes Go.ChangeAt Go.RowKit Ieee
set_option maxHeartbeats 16000000
set_option maxRecDepth 100000
set_option linter.unusedVariables false
set_option linter.unusedSimpArgs false
theorem abs_word (x : Nat) : bits .andNot .u64 (x : Int) 9223372036854775808 = ((x % 9223372036854775808 : Nat) : Int):=by
 have e : (~~~ BitVec.ofInt 64 9223372036854775808 : BitVec 64).toNat = 2 ^ 63 - 1:=by decide
 have h1 : (BitVec.ofInt 64 (x : Int)).toNat = x % 18446744073709551616:=by
  rw [BitVec.ofInt_natCast,BitVec.toNat_ofNat]
 show IntKind.u64.wrap ((BitVec.ofInt 64 (x : Int) &&& ~~~ BitVec.ofInt 64 9223372036854775808).toNat : Int) = _
 rw [BitVec.toNat_and,e,h1,Nat.and_two_pow_sub_one_eq_mod,IntKind.wrap_u64]
 omega
theorem abs_any (x : Nat) (w : World) : Calls Try.prog 72 #[.float .f64 x] w fun e w' => e = .returned (.float .f64 (x % 9223372036854775808)) ∧ w = w':=by
 have h1:=abs_word x
 have c1:=call_bits64 x
 have c2 : ∀ wx : World,(callFunc 81 #[.int .u64 ((x % 9223372036854775808 : Nat) : Int)]).run Try.prog wx = .ok (.value (.float .f64 (x % 9223372036854775808))) wx:=fun wx => by
  have:=call_frombits64 ((x % 9223372036854775808 : Nat) : Int) wx
  rw [Int.toNat_natCast] at this
  exact this
 generalize x % 9223372036854775808 = y at *
 go_enter Try.func72,Try.ntmps72
 go_wp2_with (simp only [c1,c2,h1])
 go_ret
 exact ⟨rfl,rfl⟩
theorem inf_any (w : World) : Calls Try.prog 73 #[.int .i64 1] w fun e w' => e = .returned (.float .f64 9218868437227405312) ∧ w = w':=by
 have c2:=call_frombits64
 go_enter Try.func73,Try.ntmps73
 go_wp2_with fail
 go_ret
 exact ⟨rfl,rfl⟩
theorem fin_cmp (y : Nat) : (FloatKind.f64.format.order (y % 9223372036854775808) 9218868437227405312 == some .lt) = decide (rung FloatKind.f64.format y < FloatKind.f64.format.infRung):=by
 have hr : rung FloatKind.f64.format (y % 9223372036854775808) = rung FloatKind.f64.format y:=by
  unfold rung; rw [sw64]; omega
 have hb : below FloatKind.f64.format (y % 9223372036854775808) = false:=by
  unfold below
  rw [sw64,Nat.div_eq_of_lt (Nat.mod_lt _ (by decide))]
  rfl
 by_cases h : FloatKind.f64.format.infRung < rung FloatKind.f64.format y
 ·rw [order_nan_left _ _ _ hb64 (by rw [hr]; exact h),decide_eq_false (by omega)]
  rfl
 ·have hi : rung FloatKind.f64.format 9218868437227405312 = 9218868437227405312:=by decide +kernel
  have hk : key FloatKind.f64.format 9218868437227405312 = 9218868437227405312:=by decide +kernel
  rw [order_num _ _ _ hb64 (by rw [hr]; omega) (by rw [hi,inf64]; exact Nat.le_refl _),hk,cmp_is_lt]
  unfold key
  rw [hb,hr,if_neg (by decide)]
  have hi:=inf64
  generalize rung FloatKind.f64.format y = q at *
  rw [hi] at *
  congr 1
  apply propext
  omega
theorem fin_val (b n : Int) (hn : n = 64 ∨ n = 32) : fin b n = decide (cls b n < 3):=by
 unfold fin
 congr 1
 apply propext
 exact ⟨fun h => h.2,fun h => ⟨hn,h⟩⟩
theorem cls_rung64 (b : Int) : cls b 64 < 3 ↔ rung FloatKind.f64.format (pat64 b) < FloatKind.f64.format.infRung:=by
 have h:=rung_pat64 b
 rw [inf64]
 generalize rung FloatKind.f64.format (pat64 b) = q at *
 unfold cls clsOf
 rw [if_pos rfl,← h]
 (repeat' split) <;> omega
theorem cls_rung32 (b : Int) (hv : 0 ≤ b ∧ b < 4294967296) : cls b 32 < 3 ↔ rung FloatKind.f32.format (pat32 b) < FloatKind.f32.format.infRung:=by
 have h:=rung_pat32 b hv
 rw [inf32]
 generalize rung FloatKind.f32.format (pat32 b) = q at *
 unfold cls clsOf
 rw [if_neg (by decide),if_pos rfl,if_pos hv,← h]
 (repeat' split) <;> omega
theorem isFinite_64 (b : Int) (w : World) : Calls Try.prog 62 #[.int .i64 b,.int .i64 64] w fun e w' => e = .returned (.bool (fin b 64)) ∧ Kept w w':=by
 have hf : fin b 64 = decide (rung FloatKind.f64.format (pat64 b) < FloatKind.f64.format.infRung):=by
  rw [fin_val b 64 (.inl rfl)]; congr 1; exact propext (cls_rung64 b)
 have hc:=fin_cmp (pat64 b)
 rw [← hf] at hc
 have KF : Hid (∀ u,Calls Try.prog 70 #[.int .i64 b] u fun e w' => e = .returned (.float .f64 (pat64 b)) ∧ u = w'):=fun u => float_any b u
 have KA : Hid (∀ u,Calls Try.prog 72 #[.float .f64 (pat64 b)] u fun e w' => e = .returned (.float .f64 (pat64 b % 9223372036854775808)) ∧ u = w'):=fun u => abs_any _ u
 clear hf
 generalize fin b 64 = t at *
 generalize pat64 b = x at *
 generalize x % 9223372036854775808 = y at *
 go_enter Try.func62,Try.ntmps62
 go_wp2_with (first | (go_at_call 70; refine (KF.out _).mono ?_; rintro e u1 ⟨rfl,rfl⟩) | (go_at_call 72; refine (KA.out _).mono ?_; rintro e u1 ⟨rfl,rfl⟩) | (go_at_call 73; refine (inf_any _).mono ?_; rintro e u1 ⟨rfl,rfl⟩))
 go_ret
 exact ⟨rfl,Kept.refl _⟩
theorem widen_num (b : Int) (hr : rung FloatKind.f32.format (pat32 b) ≤ FloatKind.f32.format.infRung) : ∀ wx : World,(convert 107 105 (.float .f32 (pat32 b))).run Try.prog wx = .ok (.float .f64 (W (pat32 b))) wx:=by
 have hc : floatToFloatBits .f32 (pat32 b) .f64 = some (wide b):=by
  unfold floatToFloatBits
  rw [if_neg (by decide)]
  by_cases hi : rung FloatKind.f32.format (pat32 b) = FloatKind.f32.format.infRung
  ·have e:=wide_inf (pat32 b) hi
   unfold wide
   rw [e.1]
  ·obtain ⟨r,e,h1,-,m,i,hd⟩:=wide_num (pat32 b) (by omega)
   unfold wide
   rw [hd] at e
   rw [hd]
   simp only
   rw [if_neg]
   have hs : r < FloatKind.f64.format.signWeight:=Nat.lt_trans h1 inf_lt64
   obtain ⟨m',i',e',-⟩:=read_num FloatKind.f64.format (FloatKind.f64.format.word (below FloatKind.f32.format (pat32 b)) r) (by rw [rung_word _ _ _ hs]; exact h1)
   rw [e]
   show ¬ (FloatKind.f64.format.read _).isInfinity = true
   rw [e']
   simp [Datum.isInfinity]
 exact fun wx => run_convert_float_float wx 107 105 .f32 .f64 (pat32 b) (wide b) (by kernel_rfl) (by kernel_rfl) hc
theorem isFinite_32 (b : Int) (hv : 0 ≤ b ∧ b < 4294967296) (w : World) : Calls Try.prog 62 #[.int .i64 b,.int .i64 32] w fun e w' => e = .returned (.bool (fin b 32)) ∧ Kept w w':=by
 have hf : fin b 32 = decide (rung FloatKind.f32.format (pat32 b) < FloatKind.f32.format.infRung):=by
  rw [fin_val b 32 (.inr rfl)]; congr 1; exact propext (cls_rung32 b hv)
 have KF0 : Hid (∀ u,Calls Try.prog 70 #[.int .i64 b] u fun e w' => e = .returned (.float .f64 (pat64 b)) ∧ u = w'):=fun u => float_any b u
 have KF : Hid (∀ u,Calls Try.prog 71 #[.int .i64 b] u fun e w' => e = .returned (.float .f32 (pat32 b)) ∧ u = w'):=fun u => float32_any b u
 obtain ⟨G,hG⟩ : ∃ G : World → Nat × World,(∀ wx : World,(convert 107 105 (.float .f32 (pat32 b))).run Try.prog wx = .ok (.float .f64 (G wx).1) (G wx).2) ∧ (∀ wx,Kept wx (G wx).2) ∧ ∀ wx,decide (rung FloatKind.f64.format (G wx).1 < FloatKind.f64.format.infRung) = fin b 32:=by
  by_cases hr : rung FloatKind.f32.format (pat32 b) ≤ FloatKind.f32.format.infRung
  ·refine ⟨fun wx => (W (pat32 b),wx),widen_num b hr,fun wx => Kept.refl wx,fun wx => ?_⟩
   rw [hf]
   congr 1
   apply propext
   show rung FloatKind.f64.format (W (pat32 b)) < FloatKind.f64.format.infRung ↔ _
   by_cases h1 : rung FloatKind.f32.format (pat32 b) < FloatKind.f32.format.infRung
   ·exact ⟨fun _ => h1,fun _ => (W_num _ h1).1⟩
   ·have:=(W_inf (pat32 b) (by omega)).1
    exact ⟨fun h => by omega,fun h => absurd h h1⟩
  ·obtain ⟨s,t,hd⟩:=read_nan FloatKind.f32.format (pat32 b) (by omega) hb32
   refine ⟨fun wx => (nanAns .f64 (pat32 b) wx,wx.drew),fun wx => run_convert_nan wx 107 105 .f32 .f64 (pat32 b) (by kernel_rfl) (by kernel_rfl) (by decide) hd,fun wx => (Kept.refl wx).drew,fun wx => ?_⟩
   rw [hf,decide_eq_false (by have:=nanAns_nan (pat32 b) wx; show ¬ rung FloatKind.f64.format (nanAns .f64 (pat32 b) wx) < _; omega),decide_eq_false (by omega)]
 obtain ⟨hG1,hG2,hG3⟩:=hG
 have HK : Hid (∀ wx,Kept wx (G wx).2):=hG2
 have KA : Hid (∀ u wx,Calls Try.prog 72 #[.float .f64 (G wx).1] u fun e w' => e = .returned (.float .f64 ((G wx).1 % 9223372036854775808)) ∧ u = w'):=fun u wx => abs_any _ u
 have hc : ∀ wx,(FloatKind.f64.format.order ((G wx).1 % 9223372036854775808) 9218868437227405312 == some .lt) = fin b 32:=fun wx => (fin_cmp _).trans (hG3 wx)
 clear hf hG2 hG3 hv
 generalize fin b 32 = t at *
 generalize pat64 b = x0 at *
 generalize pat32 b = x at *
 go_enter Try.func62,Try.ntmps62
 go_wp2_with (first | (go_at_call 70; refine (KF0.out _).mono ?_; rintro e u1 ⟨rfl,rfl⟩) | (go_at_call 71; refine (KF.out _).mono ?_; rintro e u1 ⟨rfl,rfl⟩) | (go_at_call 72; refine (KA.out _ _).mono ?_; rintro e u1 ⟨rfl,rfl⟩) | (go_at_call 73; refine (inf_any _).mono ?_; rintro e u1 ⟨rfl,rfl⟩))
 go_ret
 exact ⟨rfl,HK.out _⟩
theorem isFinite_any (b n : Int) (hv : val b n = true) (w : World) : Calls Try.prog 62 #[.int .i64 b,.int .i64 n] w fun e w' => e = .returned (.bool (fin b n)) ∧ Kept w w':=by
 unfold val at hv
 rw [decide_eq_true_eq] at hv
 rcases hv with rfl | ⟨rfl,h⟩
 ·exact isFinite_64 b w
 ·exact isFinite_32 b h w
theorem rmat4_any (b n : Int) (hv : val b n = true) (D : Nat) (w : World) (h2 : w.cell? ⟨D,0,none⟩ = some (.int .i64 n)) : Calls Try.prog 77 #[.int .i64 b,.pointer (some ⟨D,0,none⟩)] w fun e w' => e = .returned (.bool (fin b n)) ∧ Kept w w':=by
 have KF : Hid (∀ u,Calls Try.prog 62 #[.int .i64 b,.int .i64 n] u fun e w' => e = .returned (.bool (fin b n)) ∧ Kept u w'):=fun u => isFinite_any b n hv u
 go_enter Try.func77,Try.ntmps77
 go_wp2_with (go_at_call 62; refine (KF.out _).mono ?_; rintro e w1 ⟨rfl,hk1⟩)
 go_ret
 exact ⟨rfl,hk1⟩
end Go.Proofs.Ytocjfdiimapojaa
