/- Int of a number below 0. Package sure,by values. -/
import Derived.Test.YtnniljhdcplkgaaGreatDoorWr16
import Derived.Test.YtnniljhdcplkgaaGreatDoorWr37
import Derived.Test.YtnniljhdcplkgaaGreatDoorWr32
import Derived.Test.YtnniljhdcplkgaaGreatDoorWr31
import Derived.Test.YtnniljhdcplkgaaGreatDoorWr29
namespace Go.Proofs.YtnniljhdcplkgaaGreatDoor
open Go.ChangeShapes Go.WideShapes Go.ChangeAt Go.RowKit
set_option maxHeartbeats 16000000
set_option maxRecDepth 100000
set_option linter.unusedVariables false
set_option linter.unusedSimpArgs false
theorem int_neg (n : Int) (h0 : -9223372036854775808 ≤ n) (h1 : n < 0) (r : Nm) (hf : frm (decide (n < 0)) n.natAbs 0 = some r) (w : World) (hT : Tab w) : Calls Tryz.prog 43 #[.int .i64 n] w fun e w' => (∃ v,e = .returned v ∧ New w w' v r) ∧ Kept w w':=by
 have hK : Kept w (numW w):=(Kept.refl w).alloc _ _
 obtain ⟨s,hs⟩ : ∃ s : Int,s = (n.natAbs : Int):=⟨_,rfl⟩
 have hs1 : 0 ≤ s ∧ s ≤ 9223372036854775808:=by omega
 have hw1 : IntKind.u64.wrap n = if n < 0 then n + 18446744073709551616 else n:=by rw [IntKind.wrap_u64]; split <;> omega
 have KD : Hid (Calls Tryz.prog 75 #[.int .u64 s] (numW w) fun e w' => e = .returned (.slice (some ⟨(numW w).heap.size,0,none⟩) 3 3) ∧ w' = (numW w).alloc (.cells #[.int .i64 (s % 1073741824),.int .i64 (s / 1073741824 % 1073741824),.int .i64 (s / 1152921504606846976)] 3)):=digitsOf_any s hs1.1 (by omega) (numW w)
 have hO:=own_three (numW w) (s % 1073741824) (s / 1073741824 % 1073741824) (s / 1152921504606846976)
 have hDg : Dg [s % 1073741824,s / 1073741824 % 1073741824,s / 1152921504606846976]:=Dg.cons (by omega) (by omega) (Dg.cons (by omega) (by omega) (Dg.cons (by omega) (by omega) Dg.nil))
 have hnv : nv [s % 1073741824,s / 1073741824 % 1073741824,s / 1152921504606846976] = n.natAbs:=by
  show (s % 1073741824).toNat + 1073741824 * ((s / 1073741824 % 1073741824).toNat + 1073741824 * ((s / 1152921504606846976).toNat + 1073741824 * 0)) = n.natAbs
  omega
 have hK2 : Kept (numW w) ((numW w).alloc (.cells #[.int .i64 (s % 1073741824),.int .i64 (s / 1073741824 % 1073741824),.int .i64 (s / 1152921504606846976)] 3)):=(Kept.refl _).alloc _ _
 have KF : Hid (Calls Tryz.prog 74 #[.bool (decide (n < 0)),.slice (some ⟨(numW w).heap.size,0,none⟩) 3 3,.int .i64 0] ((numW w).alloc (.cells #[.int .i64 (s % 1073741824),.int .i64 (s / 1073741824 % 1073741824),.int .i64 (s / 1152921504606846976)] 3)) fun e w' => (∃ v,e = .returned v ∧ New (numW w) w' v r) ∧ Kept (numW w) w'):=form_ok _ _ hDg (by simp) _ 3 0 (numW w) _ hK2 (Nat.le_refl _) hO (hT.kept (hK.trans hK2)) r (by rw [hnv]; exact hf)
 clear hO hDg hnv hf hT
 simp only [World.size_alloc] at KD KF
 rw [if_pos h1] at hw1
 have hw2 : IntKind.u64.wrap (-(n + 18446744073709551616)) = s:=by rw [IntKind.wrap_u64]; omega
 rw [decide_eq_true h1] at KF
 clear hs hs1
 go_enter Tryz.func43,Tryz.ntmps43
 go_wp2_with (first | (go_at_call 75; refine KD.out.mono ?_; rintro e w1 ⟨rfl,rfl⟩) | (go_at_call 74; refine KF.out.mono ?_; rintro e w2 ⟨⟨v,rfl,hN⟩,hk1⟩; obtain ⟨vn,va,vl,vc,vx,rfl⟩:=hN.shape; obtain ⟨f0,f1,f2,f3⟩:=num_cells hk1))
 have:=num_done hN hk1 (.bool vn) (.slice va vl vc) (.int .i64 vx)
 exact bodyPost_ret (v:=.agg #[.bool vn,.slice va vl vc,.int .i64 vx]) (by simp [results,Tryz.results43,go_sem,f0,f1,f2]) rfl ⟨⟨_,rfl,this.1⟩,this.2⟩
end Go.Proofs.YtnniljhdcplkgaaGreatDoor

namespace Go.Proofs.YtnniljhdcplkgaaGreatDoor
open Go.ChangeShapes Go.WideShapes Go.ChangeAt Go.RowKit
set_option maxHeartbeats 16000000
set_option maxRecDepth 100000
set_option linter.unusedVariables false
set_option linter.unusedSimpArgs false
/-- how many bits a value has at the most: a name,for the number is great -/
def expS : Nat:=9000
/-- x is the number Z at the scale s -/
structure Vz (s Z : Int) (x : Nm) : Prop where
 eq : cfm Z s = some x
 lies : Lies s expS x
 val : vz s x = Z
theorem vz_mk (s Z : Int) (h1 : -20000 ≤ s) (h2 : s ≤ 0) (hz : Z.natAbs < 2 ^ expS) : ∃ x,Vz s Z x:=by
 obtain ⟨x,e,l,v⟩:=cfm_lies s expS (by unfold expS; omega) h1 h2 Z hz
 exact ⟨x,e,l,v⟩
theorem Vz.of {s Z : Int} {x : Nm} (h1 : -20000 ≤ s) (h2 : s ≤ 0) (hz : Z.natAbs < 2 ^ expS) (h : cfm Z s = some x) : Vz s Z x:=by
 obtain ⟨y,e,l,v⟩:=cfm_lies s expS (by unfold expS; omega) h1 h2 Z hz
 rw [h] at e
 cases e
 exact ⟨h,l,v⟩
theorem Vz.ok {s Z : Int} {x : Nm} (h : Vz s Z x) : vld x = true:=h.lies.ok
theorem Vz.add {s X Y : Int} {x y r : Nm} (hx : Vz s X x) (hy : Vz s Y y) (hr : Vz s (X + Y) r) : addZ x y = some r:=by
 rw [add_cfm s expS (by unfold expS; omega) x y hx.lies hy.lies,hx.val,hy.val]
 exact hr.eq
theorem Vz.mul {s t X Y : Int} {x y r : Nm} (h1 : -20000 ≤ s) (h2 : s ≤ 0) (hx : Vz s X x) (hy : Vz s Y y) (ht : t = s + s) (hr : cfm (X * Y) t = some r) : mulN x y = some r:=by
 subst ht
 rw [mul_cfm s expS (by unfold expS; omega) h1 h2 x y hx.lies hy.lies,hx.val,hy.val]
 exact hr
/-- a whole number at a lower scale -/
theorem Vz.down {s t Z : Int} {x : Nm} (k : Nat) (hk : s = t + k) (h : Vz s Z x) (h1 : -20000 ≤ t) (h2 : t ≤ 0) (hz : (Z * 2 ^ k).natAbs < 2 ^ expS) : Vz t (Z * 2 ^ k) x:=Vz.of h1 h2 hz (by rw [cfm_shift,← hk]; exact h.eq)
/-- the value of a finite float -/
def zf (b n : Int) : Int:=sg (pneg b n) (pmag b n * 2 ^ (pexp b n + 1074).toNat)
theorem zf_vz (b n : Int) (hn : n = 64 ∨ n = 32) (hc : cls b n < 3) : Vz (-1074) (zf b n) (ofN b n) ∧ ∀ E,E = 2200 → (zf b n).natAbs < 2 ^ E:=by
 obtain ⟨p1,p2,p3,p4,p5,-⟩:=fl_any b n hn hc
 have hlt : ∀ E,E = 2200 → (zf b n).natAbs < 2 ^ E:=by
  intro E hE
  have e : (zf b n).natAbs = (pmag b n).toNat * 2 ^ (pexp b n + 1074).toNat:=by
   obtain ⟨M,hM⟩ : ∃ M : Nat,pmag b n = (M : Int):=⟨(pmag b n).toNat,by omega⟩
   unfold zf
   rw [hM,Int.toNat_natCast]
   have h0 : ∀ (s : Bool) (a : Nat),(sg s (a : Int)).natAbs = a:=fun s a => by cases s <;> simp [sg]
   have:=h0 (pneg b n) (M * 2 ^ (pexp b n + 1074).toNat)
   push_cast at this
   exact this
  rw [e]
  have h1 : (pmag b n).toNat < 2 ^ (kprec n).toNat:=by
   have : ((pmag b n).toNat : Int) < ((2 ^ (kprec n).toNat : Nat) : Int):=by push_cast; omega
   omega
  have h2 : (kprec n).toNat ≤ 53:=by rcases hn with rfl | rfl <;> decide
  have h3 : (pexp b n + 1074).toNat ≤ 2074:=by omega
  have h4 : (pmag b n).toNat < 2 ^ 53:=Nat.lt_of_lt_of_le h1 (Nat.pow_le_pow_right (by decide) h2)
  obtain ⟨F,hF⟩ : ∃ F : Nat,F = 2074:=⟨_,rfl⟩
  rw [← hF] at h3
  have h5 : 2 ^ (pexp b n + 1074).toNat ≤ 2 ^ F:=Nat.pow_le_pow_right (by decide) h3
  have h6 : (pmag b n).toNat * 2 ^ (pexp b n + 1074).toNat ≤ 2 ^ 53 * 2 ^ F:=Nat.mul_le_mul (Nat.le_of_lt h4) h5
  have h7 : 2 ^ 53 * 2 ^ F < 2 ^ E:=by
   rw [← Nat.pow_add]
   exact Nat.pow_lt_pow_right (by decide) (by omega)
  exact Nat.lt_of_le_of_lt h6 h7
 obtain ⟨E,hE⟩ : ∃ E : Nat,E = 2200:=⟨_,rfl⟩
 refine ⟨Vz.of (by decide) (by decide) (Nat.lt_of_lt_of_le (hlt E hE) (Nat.pow_le_pow_right (by decide) (by unfold expS; omega))) ?_,hlt⟩
 have h:=of_frm b n hn hc
 rw [frm_cfm] at h
 have hm : ∀ (s : Bool) (a b : Int),sg s (a * b) = sg s a * b:=fun s a b => by cases s <;> simp [sg,Int.neg_mul]
 unfold zf
 rw [hm,cfm_shift,show (-1074 : Int) + ((pexp b n + 1074).toNat : Int) = pexp b n by omega]
 rw [show ((pmag b n).toNat : Int) = pmag b n by omega] at h
 exact h
theorem NumAt.keptS {w w' : World} {v : Value} {x : Nm} (h : NumAt w v x) (k : Kept w w') : NumAt w' v x:=by
 obtain ⟨s,e,hs⟩:=h
 exact ⟨s,e,hs.kept k⟩
theorem NumAt.form {w : World} {v : Value} {x : Nm} (h : NumAt w v x) : ∃ ao c,v = .agg #[.bool x.neg,.slice ao x.mag.length c,.int .i64 x.exp] ∧ Sl w (.slice ao x.mag.length c) x.mag:=by
 obtain ⟨s,rfl,hs⟩:=h
 obtain ⟨ao,c,rfl,r⟩:=hs
 exact ⟨ao,c,rfl,ao,c,rfl,r⟩
theorem sof_any (b n : Int) (hb1 : -9223372036854775808 ≤ b) (hb2 : b ≤ 9223372036854775807) (hn : n = 64 ∨ n = 32) (hc : cls b n < 3) (w : World) (hT : Tab w) : Calls Tryz.prog 42 #[.int .i64 b,.int .i64 n] w fun e w' => ∃ v,e = .returned v ∧ New w w' v (ofN b n) ∧ Kept w w' :=
 sof_walk b n _ w (fun u k => of_fin b n hb1 hb2 hn hc u (hT.kept k))
end Go.Proofs.YtnniljhdcplkgaaGreatDoor
