/- Single operations of package bits at words that are known. Package start: the float nearest to the root of 6 by n: the test,by values. -/
import Derived.Test.YtcfcbabbgcckhaaGreatDoorWa32
import Derived.Test.YtcfcbabbgcckhaaGreatDoorWa21
import Derived.Test.YtcfcbabbgcckhaaGreatDoorWa31
import Derived.Test.YtcfcbabbgcckhaaGreatDoorWa43
namespace Go.Proofs.YtcfcbabbgcckhaaGreatDoor
open Go.ChangeShapes Go.WideShapes Go.ChangeAt Go.RowKit Ieee
set_option maxHeartbeats 16000000
set_option maxRecDepth 100000
set_option linter.unusedVariables false
set_option linter.unusedSimpArgs false
theorem fromInt_64 (n : Int) (q : Nat) (hq : floatOfInt .f64 n = q) (hr : q < 9218868437227405312) (w : World) : Calls Tryz.prog 24 #[.int .i64 n,.int .i64 64] w fun e w' => e = .returned (.int .i64 q) ∧ w = w':=by
 have HO : Hid (∀ u,Calls Tryz.prog 80 #[.float .f64 q] u fun e w' => e = .returned (.int .i64 q) ∧ u = w'):=fun u => by
  have:=of64_any q u
  rw [ofr_64 q hr] at this
  exact this
 clear hr
 go_enter Tryz.func24,Tryz.ntmps24
 go_wp2_with (first | (go_at_call 80; refine (HO.out _).mono ?_; rintro e w1 ⟨rfl,rfl⟩))
 go_ret
 exact ⟨rfl,rfl⟩
theorem fromInt_32 (n : Int) (q : Nat) (hq : floatOfInt .f32 n = q) (hr : q < 2139095040) (w : World) : Calls Tryz.prog 24 #[.int .i64 n,.int .i64 32] w fun e w' => e = .returned (.int .i64 q) ∧ w = w':=by
 have HO : Hid (∀ u,Calls Tryz.prog 78 #[.float .f32 q] u fun e w' => e = .returned (.int .i64 q) ∧ u = w'):=fun u => by
  have:=of32_any q u
  rw [ofr_32 q hr] at this
  exact this
 clear hr
 go_enter Tryz.func24,Tryz.ntmps24
 go_wp2_with (first | (go_at_call 78; refine (HO.out _).mono ?_; rintro e w1 ⟨rfl,rfl⟩))
 go_ret
 exact ⟨rfl,rfl⟩
theorem sqrt_run (x r : Nat) (h : FloatKind.f64.format.sqrt x = some r) (w : World) : (callFunc 203 #[.float .f64 x]).run Tryz.prog w = .ok (.value (.float .f64 r)) w:=by
 rw [run_callFunc_extern (fn:=Tryz.f203) (e:=Extern.MathSqrt.sqrt) (by kernel_rfl) (by kernel_rfl) (by kernel_rfl) (by kernel_rfl) (by kernel_rfl)]
 have e : Extern.MathSqrt.sqrt #[.float .f64 x] = pure (.float .f64 r):=by
  show (match FloatKind.f64.format.sqrt x with | some r => (pure (.float .f64 r) : Sem Value) | none => _) = _
  rw [h]
 rw [e]
 rfl
theorem mSqrt_any (x r : Nat) (h : FloatKind.f64.format.sqrt x = some r) (w : World) : Calls Tryz.prog 180 #[.float .f64 x] w fun e w' => e = .returned (.float .f64 r) ∧ w = w':=by
 have H:=sqrt_run x r h
 clear h
 go_enter Tryz.func180,Tryz.ntmps180
 go_wp2_with fail
 go_ret
 exact ⟨rfl,rfl⟩
theorem single64_div (x y z : Nat) (h : FloatKind.f64.format.div x y = some z) (w : World) : Calls Tryz.prog 141 #[.int .i64 3,.float .f64 x,.float .f64 y] w fun e w' => e = .returned (.float .f64 z) ∧ w = w':=by
 have HM : ∀ (u : World) (ty : TypeId),(binOp .quo ty (.float .f64 x) (.float .f64 y)).run Tryz.prog u = .ok (.float .f64 z) u:=fun u ty => run_float_arith u .quo ty .f64 _ _ _ h
 clear h
 go_enter Tryz.func141,Tryz.ntmps141
 go_wp2_with fail
 go_ret
 exact ⟨rfl,rfl⟩
theorem single32_div (x y z : Nat) (h : FloatKind.f32.format.div x y = some z) (w : World) : Calls Tryz.prog 140 #[.int .i64 3,.float .f32 x,.float .f32 y] w fun e w' => e = .returned (.float .f32 z) ∧ w = w':=by
 have HM : ∀ (u : World) (ty : TypeId),(binOp .quo ty (.float .f32 x) (.float .f32 y)).run Tryz.prog u = .ok (.float .f32 z) u:=fun u ty => run_float_arith u .quo ty .f32 _ _ _ h
 clear h
 go_enter Tryz.func140,Tryz.ntmps140
 go_wp2_with fail
 go_ret
 exact ⟨rfl,rfl⟩
theorem single64_root (x y z : Nat) (h : FloatKind.f64.format.sqrt x = some z) (w : World) : Calls Tryz.prog 141 #[.int .i64 4,.float .f64 x,.float .f64 y] w fun e w' => e = .returned (.float .f64 z) ∧ w = w':=by
 have HS : Hid (∀ u,Calls Tryz.prog 180 #[.float .f64 x] u fun e w' => e = .returned (.float .f64 z) ∧ u = w'):=fun u => mSqrt_any x z h u
 clear h
 go_enter Tryz.func141,Tryz.ntmps141
 go_wp2_with (first | (go_at_call 180; refine (HS.out _).mono ?_; rintro e w1 ⟨rfl,rfl⟩))
 go_ret
 exact ⟨rfl,rfl⟩
theorem single32_root (x y x2 r z : Nat) (h1 : floatToFloatBits .f32 x .f64 = some x2) (h : FloatKind.f64.format.sqrt x2 = some r) (h2 : floatToFloatBits .f64 r .f32 = some z) (w : World) : Calls Tryz.prog 140 #[.int .i64 4,.float .f32 x,.float .f32 y] w fun e w' => e = .returned (.float .f32 z) ∧ w = w':=by
 have HS : Hid (∀ u,Calls Tryz.prog 180 #[.float .f64 x2] u fun e w' => e = .returned (.float .f64 r) ∧ u = w'):=fun u => mSqrt_any x2 r h u
 have HC1 : ∀ u : World,(convert 106 107 (.float .f32 x)).run Tryz.prog u = .ok (.float .f64 x2) u:=fun u => run_convert_float_float u 106 107 .f32 .f64 x x2 (by kernel_rfl) (by kernel_rfl) h1
 have HC2 : ∀ u : World,(convert 107 106 (.float .f64 r)).run Tryz.prog u = .ok (.float .f32 z) u:=fun u => run_convert_float_float u 107 106 .f64 .f32 r z (by kernel_rfl) (by kernel_rfl) h2
 clear h h1 h2
 go_enter Tryz.func140,Tryz.ntmps140
 go_wp2_with (first | (go_at_call 180; refine (HS.out _).mono ?_; rintro e w1 ⟨rfl,rfl⟩))
 go_ret
 exact ⟨rfl,rfl⟩
theorem apply_64 (op : Int) (x y z : Nat) (hx : x < 9218868437227405312) (hy : y < 9218868437227405312) (hz : z < 9218868437227405312) (w : World)
  (KS : Hid (∀ u,Calls Tryz.prog 141 #[.int .i64 op,.float .f64 x,.float .f64 y] u fun e w' => e = .returned (.float .f64 z) ∧ u = w')) : Calls Tryz.prog 82 #[.int .i64 op,.int .i64 x,.int .i64 y,.int .i64 64] w fun e w' => e = .returned (.int .i64 z) ∧ w = w':=by
 have KF : Hid (∀ u (v : Nat),(v = x ∨ v = y) → Calls Tryz.prog 137 #[.int .i64 v] u fun e w' => e = .returned (.float .f64 v) ∧ u = w'):=fun u v hv => by
  have:=float_any (v : Int) u
  have hp : pat64 (v : Int) = v:=by
   unfold pat64
   rw [IntKind.wrap_u64]
   rcases hv with rfl | rfl <;> omega
  rw [hp] at this
  exact this
 have KO : Hid (∀ u,Calls Tryz.prog 80 #[.float .f64 z] u fun e w' => e = .returned (.int .i64 z) ∧ u = w'):=fun u => by
  have:=of64_any z u
  rw [ofr_64 z hz] at this
  exact this
 clear hx hy hz
 go_enter Tryz.func82,Tryz.ntmps82
 go_wp2_with (first | (go_at_call 137; refine (KF.out _ _ (by first | exact .inl rfl | exact .inr rfl)).mono ?_; rintro e w1 ⟨rfl,rfl⟩) | (go_at_call 141; refine (KS.out _).mono ?_; rintro e w2 ⟨rfl,rfl⟩) | (go_at_call 80; refine (KO.out _).mono ?_; rintro e w3 ⟨rfl,rfl⟩))
 go_ret
 exact ⟨rfl,rfl⟩
theorem apply_32 (op : Int) (x y z : Nat) (hx : x < 2139095040) (hy : y < 2139095040) (hz : z < 2139095040) (w : World)
  (KS : Hid (∀ u,Calls Tryz.prog 140 #[.int .i64 op,.float .f32 x,.float .f32 y] u fun e w' => e = .returned (.float .f32 z) ∧ u = w')) : Calls Tryz.prog 82 #[.int .i64 op,.int .i64 x,.int .i64 y,.int .i64 32] w fun e w' => e = .returned (.int .i64 z) ∧ w = w':=by
 have KF : Hid (∀ u (v : Nat),(v = x ∨ v = y) → Calls Tryz.prog 136 #[.int .i64 v] u fun e w' => e = .returned (.float .f32 v) ∧ u = w'):=fun u v hv => by
  have:=float32_any (v : Int) u
  have hp : pat32 (v : Int) = v:=by
   unfold pat32
   rcases hv with rfl | rfl <;> (simp only [val]; split <;> first | omega | skip)
   all_goals simp_all
   all_goals omega
  rw [hp] at this
  exact this
 have KO : Hid (∀ u,Calls Tryz.prog 78 #[.float .f32 z] u fun e w' => e = .returned (.int .i64 z) ∧ u = w'):=fun u => by
  have:=of32_any z u
  rw [ofr_32 z hz] at this
  exact this
 clear hx hy hz
 go_enter Tryz.func82,Tryz.ntmps82
 go_wp2_with (first | (go_at_call 136; refine (KF.out _ _ (by first | exact .inl rfl | exact .inr rfl)).mono ?_; rintro e w1 ⟨rfl,rfl⟩) | (go_at_call 140; refine (KS.out _).mono ?_; rintro e w2 ⟨rfl,rfl⟩) | (go_at_call 78; refine (KO.out _).mono ?_; rintro e w3 ⟨rfl,rfl⟩))
 go_ret
 exact ⟨rfl,rfl⟩
theorem div_call (n : Int) (a b z : Int) (w : World) (KA : Hid (∀ u,Calls Tryz.prog 82 #[.int .i64 3,.int .i64 a,.int .i64 b,.int .i64 n] u fun e w' => e = .returned (.int .i64 z) ∧ u = w')) : Calls Tryz.prog 23 #[.int .i64 a,.int .i64 b,.int .i64 n] w fun e w' => e = .returned (.int .i64 z) ∧ w = w':=by
 go_enter Tryz.func23,Tryz.ntmps23
 go_wp2_with (first | (go_at_call 82; refine (KA.out _).mono ?_; rintro e w1 ⟨rfl,rfl⟩))
 go_ret
 exact ⟨rfl,rfl⟩
theorem sqrt_call (n : Int) (a z : Int) (w : World) (KA : Hid (∀ u,Calls Tryz.prog 82 #[.int .i64 4,.int .i64 a,.int .i64 a,.int .i64 n] u fun e w' => e = .returned (.int .i64 z) ∧ u = w')) : Calls Tryz.prog 22 #[.int .i64 a,.int .i64 n] w fun e w' => e = .returned (.int .i64 z) ∧ w = w':=by
 go_enter Tryz.func22,Tryz.ntmps22
 go_wp2_with (first | (go_at_call 82; refine (KA.out _).mono ?_; rintro e w1 ⟨rfl,rfl⟩))
 go_ret
 exact ⟨rfl,rfl⟩
end Go.Proofs.YtcfcbabbgcckhaaGreatDoor

namespace Go.Proofs.YtcfcbabbgcckhaaGreatDoor
open Go.ChangeShapes Go.WideShapes Go.ChangeAt Go.RowKit
set_option maxHeartbeats 16000000
set_option maxRecDepth 100000
set_option linter.unusedVariables false
set_option linter.unusedSimpArgs false
/-- an exponent,under a name -/
def expQ : Nat:=2148
theorem shl_lt (z : Int) (k e : Nat) (h : z.natAbs < 2 ^ k) : (z * 2 ^ e).natAbs < 2 ^ (k + e):=by
 rw [Int.natAbs_mul,Int.natAbs_pow,Nat.pow_add]
 exact Nat.mul_lt_mul_of_pos_right h (Nat.two_pow_pos _)
theorem nearer_any (b b' n m : Int) (hm : m = 64 ∨ m = 32) (hb : -9223372036854775808 ≤ b ∧ b ≤ 9223372036854775807) (hb' : -9223372036854775808 ≤ b' ∧ b' ≤ 9223372036854775807) (hc : cls b m < 3) (hc' : cls b' m < 3) (hx : nxt b m = b') (hn : 0 ≤ n) (hn2 : n ≤ 100000) (w : World) (hT : Tab w) :
  Calls Tryz.prog 155 #[.int .i64 b,.int .i64 n,.int .i64 m] w fun e w' => e = .returned (.bool (decide ((zf b m + zf b' m) * (zf b m + zf b' m) * n < 24 * 2 ^ expQ))) ∧ Kept w w':=by
 obtain ⟨z0,l0⟩:=zf_vz b m hm hc
 obtain ⟨z1,l1⟩:=zf_vz b' m hm hc'
 obtain ⟨E,hE⟩ : ∃ E : Nat,E = 2200:=⟨_,rfl⟩
 have l0:=l0 E hE
 have l1:=l1 E hE
 have hs : expS = 9000:=rfl
 have hq : expQ = 2148:=rfl
 obtain ⟨T,hTT⟩ : ∃ T,T = zf b m + zf b' m:=⟨_,rfl⟩
 have lT : T.natAbs < 2 ^ (E + 1):=by rw [Nat.pow_succ]; omega
 have big : ∀ k : Nat,k ≤ 9000 → (2 : Nat) ^ k ≤ 2 ^ expS:=fun k hk => Nat.pow_le_pow_right (by decide) (by omega)
 have lTT : (T * T).natAbs < 2 ^ (E + 1 + (E + 1)):=by
  rw [Int.natAbs_mul,Nat.pow_add]
  exact Nat.mul_lt_mul'' lT lT
 have ln : n.natAbs < 2 ^ 17:=by omega
 have lTn : (T * T * n).natAbs < 2 ^ (E + 1 + (E + 1) + 17):=by
  rw [Int.natAbs_mul,Nat.pow_add 2 (E + 1 + (E + 1)) 17]
  exact Nat.mul_lt_mul'' lTT ln
 have pw : ∀ (z : Int) (k : Nat),z.natAbs < 2 ^ k → (z * 2 ^ expQ).natAbs < 2 ^ (k + expQ):=fun z k h => shl_lt z k expQ h
 obtain ⟨tw,htw⟩:=vz_mk (-1074) T (by decide) (by decide) (Nat.lt_of_lt_of_le lT (big _ (by omega)))
 obtain ⟨sq,hsq⟩:=vz_mk (-2148) (T * T) (by decide) (by decide) (Nat.lt_of_lt_of_le lTT (big _ (by omega)))
 obtain ⟨nn,hnn⟩:=vz_mk 0 n (by decide) (by decide) (Nat.lt_of_lt_of_le ln (big _ (by omega)))
 obtain ⟨sn,hsn⟩:=vz_mk (-2148) (T * T * n) (by decide) (by decide) (Nat.lt_of_lt_of_le lTn (big _ (by omega)))
 obtain ⟨cc,hcc⟩:=vz_mk 0 24 (by decide) (by decide) (Nat.lt_of_lt_of_le (show (24 : Int).natAbs < 2 ^ 5 by decide) (big _ (by omega)))
 have hnn2:=hnn.down expQ (t:=-2148) (by rw [hq]; rfl) (by decide) (by decide) (Nat.lt_of_lt_of_le (pw n 17 ln) (big _ (by omega)))
 have hcc2:=hcc.down expQ (t:=-2148) (by rw [hq]; rfl) (by decide) (by decide) (Nat.lt_of_lt_of_le (pw 24 5 (by decide)) (big _ (by omega)))
 have ld : (T * T * n - 24 * 2 ^ expQ).natAbs < 2 ^ expS:=by
  have h1:=pw 24 5 (by decide)
  have h2 : (2 : Nat) ^ (5 + expQ) ≤ 2 ^ (E + 1 + (E + 1) + 17):=Nat.pow_le_pow_right (by decide) (by omega)
  have h3 : (2 : Nat) ^ (E + 1 + (E + 1) + 17) + 2 ^ (E + 1 + (E + 1) + 17) ≤ 2 ^ expS:=by
   rw [← Nat.mul_two,← Nat.pow_succ]
   exact big _ (by omega)
  omega
 obtain ⟨df,hdf⟩:=vz_mk (-2148) (T * T * n - 24 * 2 ^ expQ) (by decide) (by decide) ld
 have e1 : addZ (ofN b m) (ofN b' m) = some tw:=z0.add z1 (by rw [← hTT]; exact htw)
 have e2 : mulN tw tw = some sq:=htw.mul (by decide) (by decide) htw (t:=-2148) (by decide) hsq.eq
 have e3 : mulN sq nn = some sn:=by
  refine Vz.mul (s:=-2148) (t:=-4296) (by decide) (by decide) hsq hnn2 (by decide) ?_
  rw [← Int.mul_assoc,cfm_shift,show (-4296 : Int) + (expQ : Int) = -2148 by rw [hq]; rfl]
  exact hsn.eq
 have e4 : addZ sn (ng cc) = some df:=hsn.sub hcc2 hdf
 have key : decide ((if T * T * n - 24 * 2 ^ expQ = 0 then (0 : Int) else if T * T * n - 24 * 2 ^ expQ < 0 then -1 else 1) < 0) = decide (T * T * n < 24 * 2 ^ expQ):=by
  generalize T * T * n = P
  generalize (24 : Int) * 2 ^ expQ = Q
  by_cases h1 : P - Q = 0
  ·rw [if_pos h1]
   rw [decide_eq_false (by decide),decide_eq_false (by omega)]
  ·rw [if_neg h1]
   by_cases h2 : P - Q < 0
   ·rw [if_pos h2,decide_eq_true (by decide),decide_eq_true (by omega)]
   ·rw [if_neg h2,decide_eq_false (by decide),decide_eq_false (by omega)]
 rw [← hTT,← key]
 refine nearer_walk b b' n m (ofN b m) (ofN b' m) tw sq nn sn cc df _ w (fun u c x h k => ?_) (fun u => ?_) (fun u v1 v2 k h1 h2 => sadd_any _ _ tw v1 v2 u (hT.kept k) h1 h2 z0.ok z1.ok e1) (fun u v1 v2 y1 y2 y3 h k h1 h2 => ?_) (fun u c x h k => ?_) (fun u v1 v2 k h1 h2 => ssub_any _ _ df v1 v2 u (hT.kept k) h1 h2 hsn.ok hcc.ok e4) (fun u v1 k h1 => ssign_any hdf v1 u h1)
 ·rcases h with ⟨rfl,rfl⟩ | ⟨rfl,rfl⟩
  ·exact sof_any _ m hb.1 hb.2 hm hc u (hT.kept k)
  ·exact sof_any _ m hb'.1 hb'.2 hm hc' u (hT.kept k)
 ·have:=next_any b m hb.1 hb.2 u
  rw [hx] at this
  exact this
 ·rcases h with ⟨rfl,rfl,rfl⟩ | ⟨rfl,rfl,rfl⟩
  ·exact smul_any _ _ _ v1 v2 u (hT.kept k) h1 h2 htw.ok htw.ok e2
  ·exact smul_any _ _ _ v1 v2 u (hT.kept k) h1 h2 hsq.ok hnn.ok e3
 ·rcases h with ⟨rfl,rfl⟩ | ⟨rfl,rfl⟩
  ·exact sint_any _ (by omega) (by omega) _ hnn.eq u (hT.kept k)
  ·exact sint_any _ (by decide) (by decide) _ hcc.eq u (hT.kept k)
end Go.Proofs.YtcfcbabbgcckhaaGreatDoor
