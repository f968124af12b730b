/- The walks of exact's pieces. The walk of exact's quotient at 1 by 3. The walk of exact's Quot at 1 by 3. A few values: 6 by 2,1,3,and 1 - 3. The walk of the laws' own test of life. Long division,plainly. The walk of exact's quotient,in general. -/
import Derived.Test.YtoflafgbbjinpaaGreatDoorX08
import Derived.Laws.EntriesVeiled
import Derived.Test.YtoflafgbbjinpaaGreatDoorX21
import Derived.OwnWalk
import Derived.Laws.OwnMore
import Derived.Test.YtoflafgbbjinpaaGreatDoorX20
import Derived.Test.YtoflafgbbjinpaaGreatDoorX19
import Derived.Test.YtoflafgbbjinpaaGreatDoorX09
import Derived.Test.YtoflafgbbjinpaaGreatDoorX06
import Derived.Deep.Cut
import Derived.Test.YtoflafgbbjinpaaGreatDoorX23
import Derived.Test.YtoflafgbbjinpaaGreatDoorX10
namespace Go.Proofs.YtoflafgbbjinpaaGreatDoor
open Go.ChangeShapes Go.WideShapes Go.ChangeAt Go.RowKit
set_option linter.unusedVariables false
set_option linter.unusedSimpArgs false
set_option maxHeartbeats 16000000
set_option maxRecDepth 100000
/-! ### pieces -/
theorem pieces_any (L : List Int) (hL : Dg L) (v : Value) (n : Nat) (hn : n < 100000) (p : Int) (hp : -10000000 < p ∧ p < 10000000) (w : World) (h : Sl w v L) : Calls Tryz.prog 123 #[v,.int .i64 (n : Int),.int .i64 p] w fun e w' => e = .returned (.slice (some ⟨w.heap.size,0,none⟩) n n) ∧ Own w' w.heap.size n ((List.range n).map fun i : Nat => pcz (nv L) (p + 30 * (i : Int))) ∧ Kept w w':=by
 have HM:=make_run n (by omega)
 have hO:=own_made n (by omega) w
 have hK0 : Kept w (w.alloc (.cells (madeCells #[.int .i64 0] n) 3)):=(Kept.refl w).alloc _ _
 have HL : Hid (Sl w v L):=h
 have HO : Hid (Own (w.alloc (.cells (madeCells #[.int .i64 0] n) 3)) w.heap.size n (List.replicate n 0)):=hO
 have HK : Hid (Kept w (w.alloc (.cells (madeCells #[.int .i64 0] n) 3))):=hK0
 clear h hO hK0
 go_enter Tryz.func123,Tryz.ntmps123
 go_wp2
 go_loopw [12] (fun i wr => ∃ (k : Nat),k ≤ n ∧ i = .int .i64 k ∧ Own wr w.heap.size n ((List.range k).map (fun i : Nat => pcz (nv L) (p + 30 * (i : Int))) ++ List.replicate (n - k) 0) ∧ Kept w wr) (fun i _ => n - (intOf i).toNat)
 case atStart => exact ⟨0,Nat.zero_le _,rfl,by simpa using HO.out,HK.out⟩
 case round =>
  obtain ⟨k,hk,rfl,hO,hG⟩:=hrel
  by_cases hkn : k < n
  ·have KP : Hid (Calls Tryz.prog 108 #[v,.int .i64 (p + (k : Int) * 30)] wr fun e w' => e = .returned (.int .i64 (pcz (nv L) (p + (k : Int) * 30))) ∧ Kept wr w'):=piece_any L hL v _ (by omega) (by omega) wr (HL.out.kept hG)
   have HO2 : Hid (Own wr w.heap.size n ((List.range k).map (fun i : Nat => pcz (nv L) (p + 30 * (i : Int))) ++ List.replicate (n - k) 0)):=hO
   have HG : Hid (Kept w wr):=hG
   have hlen : ((List.range k).map (fun i : Nat => pcz (nv L) (p + 30 * (i : Int))) ++ List.replicate (n - k) 0).length = n:=by simp; omega
   have HLn : Hid (((List.range k).map (fun i : Nat => pcz (nv L) (p + 30 * (i : Int))) ++ List.replicate (n - k) 0).length = n):=hlen
   clear hO hG hlen
   generalize hq : pcz (nv L) (p + (k : Int) * 30) = pv at KP
   have HQ : Hid (pcz (nv L) (p + (k : Int) * 30) = pv):=hq
   clear hq
   go_wp2_with (first | (go_at_call 108; refine KP.out.mono ?_; rintro e w2 ⟨rfl,hk2⟩; have hO2:=HO2.out.kept hk2; have hcc:=hO2.cell k (by rw [HLn.out]; exact hkn); have hff:=hO2.free k))
   go_roundw
   case rel =>
    have hO2:=(HO2.out.kept hk2).set k pv
    refine ⟨k + 1,by omega,by go_num,?_,(HG.out.trans hk2).setCell (by simp) _⟩
    obtain ⟨m,hm⟩ : ∃ m,n - k = m + 1:=⟨n - k - 1,by omega⟩
    rw [hm,List.replicate_succ,set_app _ _ _ _ _ (by simp)] at hO2
    rw [show n - (k + 1) = m by omega,List.range_succ,List.map_append]
    have:=HQ.out
    rw [Int.mul_comm] at this
    simpa [this] using hO2
   case measure => simp [intOf]; omega
  ·obtain rfl : k = n:=by omega
   rw [Nat.sub_self,List.replicate_zero,List.append_nil] at hO
   go_wp2
   go_ret
   exact ⟨rfl,hO,hG⟩
theorem set4' (u : World) (b c o : Nat) (h : c ≠ b) (v0 v1 v2 v3 : Value) : ((((u.setCell ⟨b,0,none⟩ v0).setCell ⟨b,1,none⟩ v1).setCell ⟨b,2,none⟩ v2).setCell ⟨b,3,none⟩ v3).cell? ⟨c,o,none⟩ = u.cell? ⟨c,o,none⟩ :=
 World.cell?_of_block (a:=⟨c,o,none⟩) ((Below.heap_setCell _ _ _ c h).trans ((Below.heap_setCell _ _ _ c h).trans ((Below.heap_setCell _ _ _ c h).trans (Below.heap_setCell _ _ _ c h))))
abbrev third : Value:=.agg #[.bool false,.int .i64 768614336404564650,.int .i64 (-61),.bool true]
end Go.Proofs.YtoflafgbbjinpaaGreatDoor
namespace Go.Proofs.YtoflafgbbjinpaaGreatDoor
open Go.RowKit
set_option linter.unusedVariables false
set_option linter.unusedSimpArgs false
set_option maxHeartbeats 16000000
set_option maxRecDepth 100000
theorem digs_small (n : Nat) (h0 : n ≠ 0) (h : n < 1073741824) : digs n = [(n : Int)]:=by
 rw [digs_pos n h0,Nat.mod_eq_of_lt h,Nat.div_eq_of_lt h,digs_zero]
end Go.Proofs.YtoflafgbbjinpaaGreatDoor
namespace Go.Proofs.YtoflafgbbjinpaaGreatDoor
open Go.ChangeShapes Go.WideShapes Go.ChangeAt Go.RowKit
set_option linter.unusedVariables false
set_option linter.unusedSimpArgs false
set_option maxHeartbeats 16000000
set_option maxRecDepth 100000
theorem New.some {w0 w : World} {v : Value} {neg : Bool} {d : Int} {x : Int} (h : New w0 w v ⟨neg,[d],x⟩) : ∃ g cap,v = .agg #[.bool neg,.slice (some ⟨g,0,none⟩) 1 cap,.int .i64 x] ∧ w0.heap.size ≤ g ∧ Own w g cap [d]:=by
 rcases h with ⟨h,-⟩ | ⟨g,cap,e,hg,ho,-⟩
 ·cases h
 ·exact ⟨g,cap,e,hg,ho⟩
theorem dg_shift (A j i : Nat) : dg (A / 2 ^ (30 * j)) i = dg A (j + i):=by
 unfold dg
 rw [Nat.div_div_eq_div_mul,← Nat.pow_add,← Nat.mul_add]
theorem dg_cons_zero (R d : Nat) (hd : d < 1073741824) : dg (R * 1073741824 + d) 0 = d:=by
 unfold dg
 rw [Nat.mul_zero,Nat.pow_zero,Nat.div_one]
 omega
theorem dg_cons_succ (R d i : Nat) (hd : d < 1073741824) : dg (R * 1073741824 + d) (i + 1) = dg R i:=by
 unfold dg
 rw [show 30 * (i + 1) = 30 + 30 * i by omega,Nat.pow_add,← Nat.div_div_eq_div_mul,show (R * 1073741824 + d) / 2 ^ 30 = R by rw [show (2 : Nat) ^ 30 = 1073741824 by decide]; omega]
theorem low_two (A : Nat) : A = (A / 2 ^ (30 * 2) * 1073741824 + dg A 1) * 1073741824 + dg A 0:=by
 unfold dg
 rw [show 30 * 2 = 30 + 30 by decide,show 30 * 1 = 30 by decide,Nat.mul_zero,Nat.pow_zero,Nat.div_one,Nat.pow_add,← Nat.div_div_eq_div_mul,show (2 : Nat) ^ 30 = 1073741824 by decide]
 omega
theorem long_div_aux (B A U H d1 d0 q0 R0 q1 R1 q2 R2 : Nat) (hA : A = (H * B + d1) * B + d0) (h0 : H = q0 * U + R0) (h1 : R0 * B + d1 = q1 * U + R1) (h2 : R1 * B + d0 = q2 * U + R2) : A = ((q0 * B + q1) * B + q2) * U + R2:=by
 calc A = (H * B + d1) * B + d0:=hA
  _ = (q0 * U * B + (R0 * B + d1)) * B + d0:=by rw [h0,Nat.add_mul (q0 * U) R0 B,Nat.add_assoc]
  _ = (q0 * U * B + q1 * U + R1) * B + d0:=by rw [h1,Nat.add_assoc]
  _ = (q0 * U * B + q1 * U) * B + (R1 * B + d0):=by rw [Nat.add_mul (q0 * U * B + q1 * U) R1 B,Nat.add_assoc]
  _ = (q0 * U * B + q1 * U) * B + (q2 * U + R2):=by rw [h2]
  _ = ((q0 * B + q1) * B + q2) * U + R2:=by
   rw [← Nat.add_assoc]
   congr 1
   rw [Nat.add_mul ((q0 * B + q1) * B) q2 U]
   congr 1
   rw [Nat.mul_right_comm q0 U B,← Nat.add_mul,Nat.mul_right_comm]
theorem long_div (A U q0 R0 q1 R1 q2 R2 : Nat) (hU : 0 < U) (h0 : A / 2 ^ (30 * 2) = q0 * U + R0) (h1 : R0 * 1073741824 + dg A 1 = q1 * U + R1) (h2 : R1 * 1073741824 + dg A 0 = q2 * U + R2) (hR : R2 < U) : A / U = (q0 * 1073741824 + q1) * 1073741824 + q2 ∧ A % U = R2:=by
 have e:=long_div_aux 1073741824 A U _ _ _ q0 R0 q1 R1 q2 R2 (low_two A) h0 h1 h2
 rw [e,Nat.mul_comm]
 exact ⟨by rw [Nat.mul_add_div hU,Nat.div_eq_of_lt hR,Nat.add_zero],by rw [Nat.mul_add_mod,Nat.mod_eq_of_lt hR]⟩
theorem rest_step (R i : Nat) : decide (R % 2 ^ (30 * (i + 1)) ≠ 0) = (decide (R % 2 ^ (30 * i) ≠ 0) || decide (dg R i ≠ 0)):=by
 rw [dg_mod,← Bool.decide_or]
 congr 1
 apply propext
 have hp:=Nat.two_pow_pos (30 * i)
 constructor
 ·intro h
  apply Decidable.byContradiction
  intro hn
  have h1 : R % 2 ^ (30 * i) = 0:=by omega
  have h2 : dg R i = 0:=by omega
  rw [h1,h2] at h
  exact h (by simp)
 ·rintro (h | h)
  ·omega
  ·have : 2 ^ (30 * i) ≤ 2 ^ (30 * i) * dg R i:=Nat.le_mul_of_pos_right _ (by omega)
   omega
theorem flo_div (v : Nat) (t : Int) (j : Nat) : flo v t / 2 ^ j = flo v (t - (j : Int)):=by
 unfold flo
 by_cases h : 0 ≤ t - (j : Int)
 ·rw [if_pos h,if_pos (by omega),show t.toNat = (t - (j : Int)).toNat + j by omega,Nat.pow_add,← Nat.mul_assoc,Nat.mul_div_cancel _ (Nat.two_pow_pos _)]
 ·rw [if_neg h]
  by_cases h1 : 0 ≤ t
  ·rw [if_pos h1]
   have : (2 : Nat) ^ j = 2 ^ t.toNat * 2 ^ (-(t - (j : Int))).toNat:=by rw [← Nat.pow_add]; congr 1; omega
   rw [this,Nat.mul_comm v,Nat.mul_div_mul_left _ _ (Nat.two_pow_pos _)]
  ·rw [if_neg h1,Nat.div_div_eq_div_mul,← Nat.pow_add]
   congr 2
   omega
theorem or_head (q h : Nat) (hq : q < 1073741824) (hh : h < 2147483648) : IntKind.i64.wrap ((h : Int) * 1073741824) = ((h * 1073741824 : Nat) : Int) ∧ bits .or .i64 ((h * 1073741824 : Nat) : Int) (q : Int) = ((h * 1073741824 + q : Nat) : Int):=by
 have e : (2 : Nat) ^ 30 = 1073741824:=by decide
 constructor
 ·rw [wrap_i64]; omega
 ·have:=or_low q h 30 (by rw [e]; exact hq) (by rw [e]; omega)
  rw [e,Nat.add_comm q] at this
  exact this
theorem or_head2 (q h : Nat) (hq : q < 1073741824) (hh : h < 2147483648) : ∃ G H : Nat,IntKind.i64.wrap ((h : Int) * 1073741824) = (G : Int) ∧ bits .or .i64 (G : Int) (q : Int) = (H : Int) ∧ G = h * 1073741824 ∧ H = G + q:=by
 obtain ⟨h1,h2⟩:=or_head q h hq hh
 exact ⟨h * 1073741824,h * 1073741824 + q,h1,h2,rfl,rfl⟩
theorem or_zero (q : Nat) (hq : q < 1073741824) : bits .or .i64 0 (q : Int) = (q : Int):=by
 obtain ⟨h1,h2⟩:=or_head q 0 hq (by decide)
 rw [Nat.zero_mul,Nat.zero_add] at h2
 exact h2
structure Q3z (A U n X0 Q0 R0 X1 Q1 R1 X2 Q2 R2 G0 H1 G1 H2 : Nat) : Prop where
 x0 : A / 2 ^ (30 * 2) = X0
 x0b : X0 < 2 ^ (30 * (n + 1))
 x0u : X0 < U * 4294967296
 q0 : X0 / U = Q0
 r0 : X0 % U = R0
 x1 : R0 * 1073741824 + dg A 1 = X1
 x1b : X1 < 2 ^ (30 * (n + 1))
 x1u : X1 < U * 4294967296
 q1 : X1 / U = Q1
 r1 : X1 % U = R1
 x2 : R1 * 1073741824 + dg A 0 = X2
 x2b : X2 < 2 ^ (30 * (n + 1))
 x2u : X2 < U * 4294967296
 q2 : X2 / U = Q2
 r2 : X2 % U = R2
 s1 : IntKind.i64.wrap ((Q0 : Int) * 1073741824) = (G0 : Int)
 s2 : bits .or .i64 (G0 : Int) (Q1 : Int) = (H1 : Int)
 s3 : IntKind.i64.wrap ((H1 : Int) * 1073741824) = (G1 : Int)
 s4 : bits .or .i64 (G1 : Int) (Q2 : Int) = (H2 : Int)
 zz : bits .or .i64 0 (Q0 : Int) = (Q0 : Int)
 dv : A / U = H2
 rm : A % U = R2
 r2b : R2 < 2 ^ (30 * n)
theorem x_small (R d U P : Nat) (hR : R < U) (hd : d < 1073741824) (hU : U < P) : R * 1073741824 + d < U * 1073741824 ∧ R * 1073741824 + d < P * 1073741824:=by omega
theorem q3z_ex (A U n : Nat) (hU0 : 0 < U) (hU : U < 2 ^ (30 * n)) (hX : A / 2 ^ (30 * 2) < 2 * U) : ∃ X0 Q0 R0 X1 Q1 R1 X2 Q2 R2 G0 H1 G1 H2,Q3z A U n X0 Q0 R0 X1 Q1 R1 X2 Q2 R2 G0 H1 G1 H2:=by
 obtain ⟨X0,hX0⟩ : ∃ X0,A / 2 ^ (30 * 2) = X0:=⟨_,rfl⟩
 obtain ⟨Q0,hQ0⟩ : ∃ Q0,X0 / U = Q0:=⟨_,rfl⟩
 obtain ⟨R0,hR0⟩ : ∃ R0,X0 % U = R0:=⟨_,rfl⟩
 obtain ⟨X1,hX1⟩ : ∃ X1,R0 * 1073741824 + dg A 1 = X1:=⟨_,rfl⟩
 obtain ⟨Q1,hQ1⟩ : ∃ Q1,X1 / U = Q1:=⟨_,rfl⟩
 obtain ⟨R1,hR1⟩ : ∃ R1,X1 % U = R1:=⟨_,rfl⟩
 obtain ⟨X2,hX2⟩ : ∃ X2,R1 * 1073741824 + dg A 0 = X2:=⟨_,rfl⟩
 obtain ⟨Q2,hQ2⟩ : ∃ Q2,X2 / U = Q2:=⟨_,rfl⟩
 obtain ⟨R2,hR2⟩ : ∃ R2,X2 % U = R2:=⟨_,rfl⟩
 have r0l : R0 < U:=by rw [← hR0]; exact Nat.mod_lt _ hU0
 have r1l : R1 < U:=by rw [← hR1]; exact Nat.mod_lt _ hU0
 have r2l : R2 < U:=by rw [← hR2]; exact Nat.mod_lt _ hU0
 rw [hX0] at hX
 obtain ⟨b1,c1⟩:=x_small R0 (dg A 1) U _ r0l (dg_lt A 1) hU
 obtain ⟨b2,c2⟩:=x_small R1 (dg A 0) U _ r1l (dg_lt A 0) hU
 rw [hX1] at b1 c1
 rw [hX2] at b2 c2
 have q0l : Q0 < 2:=by rw [← hQ0,Nat.div_lt_iff_lt_mul hU0]; exact hX
 have q1l : Q1 < 1073741824:=by rw [← hQ1,Nat.div_lt_iff_lt_mul hU0,Nat.mul_comm]; exact b1
 have q2l : Q2 < 1073741824:=by rw [← hQ2,Nat.div_lt_iff_lt_mul hU0,Nat.mul_comm]; exact b2
 have hdiv : A / U = (Q0 * 1073741824 + Q1) * 1073741824 + Q2 ∧ A % U = R2:=by
  refine long_div A U Q0 R0 Q1 R1 Q2 R2 hU0 ?_ ?_ ?_ r2l
  ·rw [hX0,← hQ0,← hR0,Nat.mul_comm]; exact (Nat.div_add_mod _ _).symm
  ·rw [hX1,← hQ1,← hR1,Nat.mul_comm]; exact (Nat.div_add_mod _ _).symm
  ·rw [hX2,← hQ2,← hR2,Nat.mul_comm]; exact (Nat.div_add_mod _ _).symm
 have hp3 : 2 ^ (30 * (n + 1)) = 2 ^ (30 * n) * 1073741824:=pow30k n
 obtain ⟨G0,H1,s1,s2,eG0,eH1⟩:=or_head2 Q1 Q0 q1l (by omega)
 obtain ⟨G1,H2,s3,s4,eG1,eH2⟩:=or_head2 Q2 H1 q2l (by omega)
 have s6:=or_zero Q0 (by omega)
 have hd1 : A / U = H2:=by
  rw [hdiv.1,eH2,eG1,eH1,eG0]
 have hbig : U * 1073741824 ≤ U * 4294967296:=Nat.mul_le_mul_left _ (by decide)
 have h2u : 2 * U ≤ U * 4294967296:=by rw [Nat.mul_comm]; exact Nat.mul_le_mul_left _ (by decide)
 have h2p : 2 * U ≤ 2 ^ (30 * n) * 1073741824:=by
  rw [Nat.mul_comm]; exact Nat.mul_le_mul (Nat.le_of_lt hU) (by decide)
 have f1 : X0 < 2 ^ (30 * (n + 1)):=by rw [hp3]; exact Nat.lt_of_lt_of_le hX h2p
 have f2 : X1 < 2 ^ (30 * (n + 1)):=by rw [hp3]; exact c1
 have f3 : X2 < 2 ^ (30 * (n + 1)):=by rw [hp3]; exact c2
 have f4 : X0 < U * 4294967296:=Nat.lt_of_lt_of_le hX h2u
 have f5 : X1 < U * 4294967296:=Nat.lt_of_lt_of_le b1 hbig
 have f6 : X2 < U * 4294967296:=Nat.lt_of_lt_of_le b2 hbig
 have f7 : R2 < 2 ^ (30 * n):=Nat.lt_trans r2l hU
 have f8:=hdiv.2
 exact ⟨X0,Q0,R0,X1,Q1,R1,X2,Q2,R2,G0,H1,G1,H2,Q3z.mk hX0 f1 f4 hQ0 hR0 hX1 f2 f5 hQ1 hR1 hX2 f3 f6 hQ2 hR2 s1 s2 s3 s4 s6 hd1 f8 f7⟩
theorem getD_snoc (L : List Int) (d : Int) (i : Nat) : (L ++ [d]).getD i 0 = if i < L.length then L.getD i 0 else if i = L.length then d else 0:=by
 simp only [List.getD_eq_getElem?_getD]
 by_cases h : i < L.length
 ·rw [if_pos h,List.getElem?_append_left h]
 ·rw [if_neg h,List.getElem?_append_right (by omega)]
  by_cases h2 : i = L.length
  ·rw [if_pos h2,h2,Nat.sub_self]
   rfl
  ·rw [if_neg h2]
   obtain ⟨j,hj⟩ : ∃ j,i - L.length = j + 1:=⟨i - L.length - 1,by omega⟩
   rw [hj]
   rfl
theorem quot_walk (n1 n2 nb : Bool) (hnb : (n1 != n2) = nb) (a b : Option Addr) (l1 c1 n c2 : Nat) (hl1 : 0 < l1) (hn : 0 < n) (hn2 : n < 50000) (x1 x2 : Int) (hx1 : -1048576 ≤ x1) (hx2 : x1 ≤ 1048576) (hx3 : -1048576 ≤ x2) (hx4 : x2 ≤ 1048576) (T1 T2 : Nat) (hT1 : T1 ≤ 90000) (hT2 : T2 ≤ 90000) (A U : Nat) (LL : List Int) (lw : Int) (hlw : lw = (T1 : Int) - (((n : Int) + 2) * 30)) (ex : Int) (hex : ex = x1 - x2 + (T1 : Int) - (T2 : Int) - 60) (w : World)
  (HLL : Hid (LL.length = n + 2 ∧ ∀ i,i < n + 2 → LL.getD i 0 = ((dg A i : Nat) : Int)))
  (HA : Hid (A < 2 ^ (30 * (n + 2)))) (HU : Hid (2 ^ (30 * (n - 1)) * 536870912 ≤ U ∧ U < 2 ^ (30 * n) ∧ A / 2 ^ (30 * 2) < 2 * U))
  (Ka : Hid (∀ u,Kept w u → Calls Tryz.prog 106 #[.slice a l1 c1] u fun e w' => e = .returned (.int .i64 (T1 : Int)) ∧ u = w'))
  (Kb : Hid (∀ u,Kept w u → Calls Tryz.prog 106 #[.slice b n c2] u fun e w' => e = .returned (.int .i64 (T2 : Int)) ∧ u = w'))
  (Kd : Hid (∀ u,Kept w u → Calls Tryz.prog 123 #[.slice b n c2,.int .i64 (n : Int),.int .i64 ((T2 : Int) - (n : Int) * 30)] u fun e w' => e = .returned (.slice (some ⟨u.heap.size,0,none⟩) n n) ∧ DgAt w' u.heap.size 0 n U ∧ Kept u w'))
  (Kl : Hid (∀ u,Kept w u → Calls Tryz.prog 123 #[.slice a l1 c1,.int .i64 ((n : Int) + 2),.int .i64 lw] u fun e w' => e = .returned (.slice (some ⟨u.heap.size,0,none⟩) (n + 2) (n + 2)) ∧ Own w' u.heap.size (n + 2) LL ∧ Kept u w')) :
  Calls Tryz.prog 76 #[.agg #[.bool n1,.slice a l1 c1,.int .i64 x1],.agg #[.bool n2,.slice b n c2,.int .i64 x2]] w fun e w' => e = .returned (.agg #[.bool nb,.int .i64 ((A / U : Nat) : Int),.int .i64 ex,.bool (decide (0 < lw) || decide (A % U ≠ 0))]) ∧ Kept w w':=by
 have hK : Kept w (((w.alloc (.cells #[.bool n1,.slice a l1 c1,.int .i64 x1] 24)).alloc (.cells #[.bool n2,.slice b n c2,.int .i64 x2] 24)).alloc (.cells #[.bool false,.int .i64 0,.int .i64 0,.bool false] 114)):=(((Kept.refl w).alloc _ _).alloc _ _).alloc _ _
 have B1 : Hid (∀ u,Kept (((w.alloc (.cells #[.bool n1,.slice a l1 c1,.int .i64 x1] 24)).alloc (.cells #[.bool n2,.slice b n c2,.int .i64 x2] 24)).alloc (.cells #[.bool false,.int .i64 0,.int .i64 0,.bool false] 114)) u → (u.cell? ⟨w.heap.size,0,none⟩ = some (.bool n1) ∧ u.cell? ⟨w.heap.size,1,none⟩ = some (.slice a l1 c1) ∧ u.cell? ⟨w.heap.size,2,none⟩ = some (.int .i64 x1)) ∧ (u.cell? ⟨w.heap.size + 1,0,none⟩ = some (.bool n2) ∧ u.cell? ⟨w.heap.size + 1,1,none⟩ = some (.slice b n c2) ∧ u.cell? ⟨w.heap.size + 1,2,none⟩ = some (.int .i64 x2)) ∧ (u.cell? ⟨w.heap.size + 2,0,none⟩ = some (.bool false) ∧ u.cell? ⟨w.heap.size + 2,1,none⟩ = some (.int .i64 0) ∧ u.cell? ⟨w.heap.size + 2,2,none⟩ = some (.int .i64 0) ∧ u.cell? ⟨w.heap.size + 2,3,none⟩ = some (.bool false)) ∧ ∀ o,u.frozen? ⟨w.heap.size + 2,o,none⟩ = false):=fun u k => ⟨⟨(k.below.cell (p:=⟨w.heap.size,0,none⟩) (by simp <;> omega)).trans (by simp [go_sem]),(k.below.cell (p:=⟨w.heap.size,1,none⟩) (by simp <;> omega)).trans (by simp [go_sem]),(k.below.cell (p:=⟨w.heap.size,2,none⟩) (by simp <;> omega)).trans (by simp [go_sem])⟩,⟨(k.below.cell (p:=⟨w.heap.size + 1,0,none⟩) (by simp <;> omega)).trans (by simp [go_sem]),(k.below.cell (p:=⟨w.heap.size + 1,1,none⟩) (by simp <;> omega)).trans (by simp [go_sem]),(k.below.cell (p:=⟨w.heap.size + 1,2,none⟩) (by simp <;> omega)).trans (by simp [go_sem])⟩,⟨(k.below.cell (p:=⟨w.heap.size + 2,0,none⟩) (by simp <;> omega)).trans (by simp [go_sem]),(k.below.cell (p:=⟨w.heap.size + 2,1,none⟩) (by simp <;> omega)).trans (by simp [go_sem]),(k.below.cell (p:=⟨w.heap.size + 2,2,none⟩) (by simp <;> omega)).trans (by simp [go_sem]),(k.below.cell (p:=⟨w.heap.size + 2,3,none⟩) (by simp <;> omega)).trans (by simp [go_sem])⟩,fun o => (k.frozen _).trans (by simp [go_sem])⟩
 obtain ⟨W0,hW0⟩ : ∃ W0,((w.alloc (.cells #[.bool n1,.slice a l1 c1,.int .i64 x1] 24)).alloc (.cells #[.bool n2,.slice b n c2,.int .i64 x2] 24)).alloc (.cells #[.bool false,.int .i64 0,.int .i64 0,.bool false] 114) = W0:=⟨_,rfl⟩
 have hsz : W0.heap.size = w.heap.size + 3:=by rw [← hW0]; simp
 have HLW : Hid (lw = (T1 : Int) - (((n : Int) + 2) * 30)):=hlw
 have HEX : Hid (ex = x1 - x2 + (T1 : Int) - (T2 : Int) - 60):=hex
 have hlr : -2000000 ≤ lw ∧ lw ≤ 2000000:=by omega
 have hl0 : ((l1 : Int) == 0) = false:=by rw [beq_eq_false_iff_ne]; omega
 have z1 : IntKind.i64.wrap ((n : Int) * 30) = (n : Int) * 30:=by rw [wrap_i64]; omega
 have z2 : IntKind.i64.wrap ((T2 : Int) - (n : Int) * 30) = (T2 : Int) - (n : Int) * 30:=by rw [wrap_i64]; omega
 have z3 : IntKind.i64.wrap ((n : Int) + 2) = (n : Int) + 2:=by rw [wrap_i64]; omega
 have z4 : IntKind.i64.wrap (((n : Int) + 2) * 30) = ((n : Int) + 2) * 30:=by rw [wrap_i64]; omega
 have z5 : IntKind.i64.wrap ((T1 : Int) - ((n : Int) + 2) * 30) = lw:=by rw [wrap_i64]; omega
 clear hlw hex
 obtain ⟨ld,hld⟩ : ∃ ld,decide (0 < lw) = ld:=⟨_,rfl⟩
 have HLD : Hid (decide (0 < lw) = ld):=hld
 rw [hW0] at hK B1
 have hM0:=Kept.refl W0
 obtain ⟨⟨p0,p1,p2⟩,⟨q0,q1,q2⟩,⟨o0,o1,o2,o3⟩,oF⟩:=B1.out _ hM0
 rw [hld]
 go_enter Tryz.func76,Tryz.ntmps76
 go_wp2_with fail
 clear hW0
 refine wp_region_held_drew (S:=fun u => u.cell? ⟨w.heap.size + 1,1,none⟩ = some (.slice b n c2)) (by kernel_rfl) q1 (fun hHeld => ?_)
 refine tk (i:=0) (v:=?_) rfl ?_
 simp only [Act.put,zA,zB,zC,zD,zE,zF]
 refine tk (i:=1) (v:=?_) rfl ?_
 simp only [Act.put,zA,zB,zC,zD,zE,zF]
 refine tk (i:=2) (v:=?_) rfl ?_
 simp only [Act.put,zA,zB,zC,zD,zE,zF]
 refine tk (i:=3) (v:=?_) rfl ?_
 simp only [Act.put,zA,zB,zC,zD,zE,zF]
 refine tk (i:=4) (v:=?_) rfl ?_
 simp only [Act.put,zA,zB,zC,zD,zE,zF]
 refine wpAnyH_ready (rs:=[5]) (by kernel_rfl) (by simp) ?_
 refine AllReadyH.cons rfl (fun K hK9 => ?_) AllReadyH.nil
 go_simp
 go_wp2_with fail
 refine (Kb.out _ hK.drew).mono ?_
 rintro e u0 ⟨rfl,rfl⟩
 refine hK9.out _ _ q1 (fun hHeld2 => ?_)
 clear hK9 K hHeld
 refine tk (i:=6) (v:=?_) rfl ?_
 simp only [Act.put,zA,zB,zC,zD,zE,zF]
 refine tk (i:=7) (v:=?_) rfl ?_
 simp only [Act.put,zA,zB,zC,zD,zE,zF]
 refine wpAnyH_done (by kernel_rfl) ?_ _
 clear hHeld2
 go_wp2_with fail
 refine (Kd.out _ hK.drew).mono ?_
 rintro e u1 ⟨rfl,od,ku1⟩
 have mu1:=hM0.drew.trans ku1
 clear p0 p1 p2 q0 q1 q2 o0 o1 o2 o3 oF
 obtain ⟨⟨p0,p1,p2⟩,⟨q0,q1,q2⟩,⟨o0,o1,o2,o3⟩,oF⟩:=B1.out _ mu1
 have OD : Hid (DgAt u1 W0.drew.heap.size 0 n U):=od
 have HM : Hid (Kept W0 u1):=mu1
 clear od mu1 ku1 oF o0 o1 o2 o3 p0 p2 q0 q2
 go_wp2_with fail
 refine (Ka.out _ (hK.trans HM.out)).mono ?_
 rintro e u9 ⟨rfl,rfl⟩
 go_wp2_with fail
 refine (Kl.out _ (hK.trans HM.out)).mono ?_
 rintro e u2 ⟨rfl,ol,ku2⟩
 have HU2 : Hid (Kept u1 u2):=ku2
 obtain ⟨v',V,hr,hM',hK'⟩:=app_step u1.heap.size u2 (.slice (some ⟨u1.heap.size,0,none⟩) (n + 2) (n + 2)) LL (.inr ⟨u1.heap.size,n + 2,by rw [HLL.out.1],Nat.le_refl _,ol⟩) 0 ku2.below.size (by rw [HLL.out.1]; omega)
 have hMl : (LL ++ [0]).length = n + 3:=by rw [List.length_append,HLL.out.1]; rfl
 obtain ⟨g,C,hv',hgs,hOV⟩ : ∃ g C,v' = .slice (some ⟨g,0,none⟩) (n + 3) C ∧ u1.heap.size ≤ g ∧ Own V g C (LL ++ [0]):=by
  rcases hM' with ⟨e,-⟩ | ⟨g,C,e,h1,h2⟩
  ·rw [e] at hMl; simp at hMl
  ·exact ⟨g,C,by rw [e,hMl],h1,h2⟩
 subst hv'
 have HHA : Hid (∀ ty,(Builtin.append_ #[22,22] ty #[.slice (some ⟨u1.heap.size,0,none⟩) (n + 2) (n + 2),.slice (some ⟨u2.heap.size,0,none⟩) 1 1]).run Tryz.prog (u2.alloc (.cells #[.int .i64 0] 3)) = .ok (.slice (some ⟨g,0,none⟩) (n + 3) C) V):=hr
 have KV : Hid (Kept u1 V):=hK' u1 (Nat.le_refl _) ku2
 have hC : n + 3 ≤ C:=by obtain ⟨_,_,h1,_⟩:=hOV; rw [hMl] at h1; exact h1
 have HDA : Hid (∀ i,i < n + 3 → V.cell? ⟨g,i,none⟩ = some (.int .i64 ((dg A i : Nat) : Int))):=fun i hi => by
  rw [hOV.cell i (by rw [hMl]; exact hi)]
  rw [getD_snoc,HLL.out.1]
  by_cases h2 : i < n + 2
  ·rw [if_pos h2,HLL.out.2 i h2]
  ·have hi2 : i = n + 2:=by omega
   rw [if_neg h2,if_pos hi2,hi2]
   unfold dg
   rw [Nat.div_eq_of_lt HA.out]
   simp
 have FZ : Hid (∀ i,V.frozen? ⟨g,i,none⟩ = false):=fun i => hOV.free i
 have HGL : Hid (g < V.heap.size):=hOV.lt
 have hgt : w.heap.size + 3 < g:=by
  have h1:=World.block_lt_of_cell? u1 _ (OD.out 0 hn)
  have h4 : W0.drew.heap.size = W0.heap.size:=rfl
  rw [h4,hsz] at h1
  have h5 : w.heap.size + 3 < u1.heap.size:=h1
  omega
 have DD : Hid (DgAt V (w.heap.size + 3) 0 n U):=by
  have:=OD.out.kept KV.out
  have h4 : W0.drew.heap.size = W0.heap.size:=rfl
  rw [h4,hsz] at this
  exact this
 have HKV : Hid (Kept W0 V):=HM.out.trans KV.out
 clear hr hM' hK' hOV ku2 ol KV
 go_wp2_with (first | (at_builtin; refine wpList_append_run rfl _ _ _ rfl _ _ rfl rfl _ _ (HHA.out _) ?_))
 clear HHA HU2 p1 q1
 have hgd : w.heap.size + 3 ≠ g:=by omega
 obtain ⟨X0,Q0,R0,X1,Q1,R1,X2,Q2,R2,G0,H1,G1,H2,hZ⟩:=q3z_ex A U n (Nat.lt_of_lt_of_le (Nat.mul_pos (Nat.two_pow_pos _) (by decide)) HU.out.1) HU.out.2.1 HU.out.2.2
 have Z : Hid (Q3z A U n X0 Q0 R0 X1 Q1 R1 X2 Q2 R2 G0 H1 G1 H2):=hZ
 obtain ⟨s1,s2,s3,s4,zz⟩ : _ ∧ _ ∧ _ ∧ _ ∧ _:=⟨hZ.s1,hZ.s2,hZ.s3,hZ.s4,hZ.zz⟩
 clear hZ
 have TA : Hid (∀ (off cap : Nat) (V' : World) (X Q R : Nat),X < 2 ^ (30 * (n + 1)) → X < U * 4294967296 → X / U = Q → X % U = R → g < V'.heap.size → DgAt V' g off (n + 1) X → DgAt V' (w.heap.size + 3) 0 n U → (∀ i,V'.frozen? ⟨g,i,none⟩ = false) → Calls Tryz.prog 124 #[.slice (some ⟨g,off,none⟩) (n + 1) cap,.slice (some ⟨w.heap.size + 3,0,none⟩) n n] V' fun e w' => e = .returned (.int .i64 (Q : Int)) ∧ DgAt w' g off (n + 1) R ∧ TK g off n V' w'):=fun off cap V' X Q R h1 h2 hq hr h3 h4 h5 h6 => by
  rw [← hq,← hr]
  exact take_any g off cap (w.heap.size + 3) n n hgd hn (by omega) X U h1 HU.out.1 HU.out.2.1 h2 V' h3 h4 h5 h6
 have D0 : Hid (DgAt V g 2 (n + 1) X0):=fun i hi => by
  rw [HDA.out (2 + i) (by omega),← Z.out.x0,dg_shift]
 have y1 : IntKind.i64.wrap (3 + (n : Int)) = 3 + (n : Int):=by rw [wrap_i64]; omega
 have y2 : IntKind.i64.wrap (2 + (n : Int)) = 2 + (n : Int):=by rw [wrap_i64]; omega
 have y3 : IntKind.i64.wrap (1 + (n : Int)) = 1 + (n : Int):=by rw [wrap_i64]; omega
 clear z1 z2 z3 z4 z5
 refine wp_loop_rounds 4 ?_
 rw [rounds_succ]
 go_wp2_with fail
 rw [show 3 + n - 2 = n + 1 by omega]
 refine (TA.out 2 _ V X0 Q0 R0 Z.out.x0b Z.out.x0u Z.out.q0 Z.out.r0 HGL.out D0.out DD.out FZ.out).mono ?_
 rintro e V1 ⟨rfl,d1,tk1⟩
 have T1' : Hid (TK g 2 n V V1):=tk1
 have L1 : Hid (g < V1.heap.size):=Nat.lt_of_lt_of_le HGL.out tk1.grw.grown.size
 have DD1 : Hid (DgAt V1 (w.heap.size + 3) 0 n U):=DD.out.off_block hgd tk1.grw
 have FZ1 : Hid (∀ i,V1.frozen? ⟨g,i,none⟩ = false):=fun i => (tk1.grw.frozen _).trans (FZ.out i)
 have D1 : Hid (DgAt V1 g 1 (n + 1) X1):=fun i hi => by
  rw [← Z.out.x1]
  rcases i with _ | i
  ·rw [dg_cons_zero _ _ (dg_lt _ _)]
   exact (tk1.rest 1 (by omega)).trans (HDA.out 1 (by omega))
  ·rw [dg_cons_succ _ _ _ (dg_lt _ _),show 1 + (i + 1) = 2 + i by omega]
   exact d1 i (by omega)
 have C0 : Hid (V1.cell? ⟨g,0,none⟩ = some (.int .i64 ((dg A 0 : Nat) : Int))):=(tk1.rest 0 (by omega)).trans (HDA.out 0 (by omega))
 have KW1 : Hid (Kept W0 V1):=HKV.out.grw (by rw [hsz]; omega) tk1.grw
 clear d1 tk1 D0 DD FZ HGL HDA HKV
 go_wp2_with fail
 rw [rounds_succ]
 go_wp2_with fail
 rw [Nat.add_comm 1 n]
 refine (TA.out 1 _ V1 X1 Q1 R1 Z.out.x1b Z.out.x1u Z.out.q1 Z.out.r1 L1.out D1.out DD1.out FZ1.out).mono ?_
 rintro e V2 ⟨rfl,d2,tk2⟩
 have L2 : Hid (g < V2.heap.size):=Nat.lt_of_lt_of_le L1.out tk2.grw.grown.size
 have DD2 : Hid (DgAt V2 (w.heap.size + 3) 0 n U):=DD1.out.off_block hgd tk2.grw
 have FZ2 : Hid (∀ i,V2.frozen? ⟨g,i,none⟩ = false):=fun i => (tk2.grw.frozen _).trans (FZ1.out i)
 have D2 : Hid (DgAt V2 g 0 (n + 1) X2):=fun i hi => by
  rw [← Z.out.x2]
  rcases i with _ | i
  ·rw [dg_cons_zero _ _ (dg_lt _ _)]
   exact (tk2.rest 0 (by omega)).trans C0.out
  ·rw [dg_cons_succ _ _ _ (dg_lt _ _),show 0 + (i + 1) = 1 + i by omega]
   exact d2 i (by omega)
 have KW2 : Hid (Kept W0 V2):=KW1.out.grw (by rw [hsz]; omega) tk2.grw
 clear d2 tk2 D1 DD1 FZ1 L1 C0 KW1 T1'
 go_wp2_with fail
 rw [rounds_succ]
 go_wp2_with fail
 rw [Nat.add_comm 1 n]
 refine (TA.out 0 _ V2 X2 Q2 R2 Z.out.x2b Z.out.x2u Z.out.q2 Z.out.r2 L2.out D2.out DD2.out FZ2.out).mono ?_
 rintro e V3 ⟨rfl,d3,tk3⟩
 have D3 : Hid (DgAt V3 g 0 (n + 1) R2):=d3
 have KW3 : Hid (Kept W0 V3):=KW2.out.grw (by rw [hsz]; omega) tk3.grw
 clear d3 tk3 D2 DD2 FZ2 L2 KW2 TA
 go_wp2_with fail
 rw [rounds_succ]
 go_wp2_with fail
 go_loopw [12,68] (fun rv iv wr => ∃ (k : Nat) (rk : Bool),k ≤ n ∧ iv = .int .i64 k ∧ rv = .bool rk ∧ rk = (ld || decide (R2 % 2 ^ (30 * k) ≠ 0)) ∧ Kept V3 wr) (fun _ iv _ => n - (intOf iv).toNat)
 case atStart => exact ⟨0,ld,Nat.zero_le _,rfl,rfl,by rw [Nat.mul_zero,Nat.pow_zero,Nat.mod_one]; simp,Kept.refl _⟩
 case round =>
  obtain ⟨k,rk,hk,rfl,rfl,hrk,hKr⟩:=hrel
  have HRK : Hid (rk = (ld || decide (R2 % 2 ^ (30 * k) ≠ 0))):=hrk
  clear hrk
  by_cases hkn : k < n
  ·have hk3 : (k : Int) < (n : Int) + 3:=by omega
   have ck:=(D3.out.kept hKr) k (by omega)
   rw [Nat.zero_add] at ck
   obtain ⟨dk,hdk⟩ : ∃ dk,dg R2 k = dk:=⟨_,rfl⟩
   rw [hdk] at ck
   have HDK : Hid (dg R2 k = dk):=hdk
   clear hdk
   have HST:=rest_step R2 k
   have HST2 : Hid (decide (R2 % 2 ^ (30 * (k + 1)) ≠ 0) = (decide (R2 % 2 ^ (30 * k) ≠ 0) || decide (dg R2 k ≠ 0))):=HST
   clear HST
   cases rk
   ·by_cases hd0 : dk = 0
    ·subst hd0
     go_wp2
     go_roundw
     case rel => exact ⟨k + 1,false,by omega,by go_num,rfl,by rw [HST2.out,← Bool.or_assoc,← HRK.out,HDK.out]; rfl,hKr⟩
     case measure => simp [intOf]; omega
    ·have hdb : ((dk : Int) == 0) = false:=by rw [beq_eq_false_iff_ne]; omega
     have hdn : ((dk : Int) != 0) = true:=by simpa [bne_iff_ne] using (show ¬ (dk : Int) = 0 by omega)
     go_wp2
     go_roundw
     case rel => exact ⟨k + 1,true,by omega,by go_num,by first | rfl | simp [hd0],by rw [HST2.out,← Bool.or_assoc,← HRK.out,HDK.out]; simp [hd0],hKr⟩
     case measure => simp [intOf]; omega
   ·go_wp2
    go_roundw
    case rel => exact ⟨k + 1,true,by omega,by go_num,rfl,by rw [HST2.out,← Bool.or_assoc,← HRK.out]; rfl,hKr⟩
    case measure => simp [intOf]; omega
  ·obtain rfl : k = n:=by omega
   have hfin : rk = (ld || decide (A % U ≠ 0)):=by
    rw [HRK.out,Nat.mod_eq_of_lt Z.out.r2b,Z.out.rm]
   have HFIN : Hid (rk = (ld || decide (A % U ≠ 0))):=hfin
   clear hfin
   have kW:=KW3.out.trans hKr
   obtain ⟨⟨p0,p1,p2⟩,⟨q0,q1,q2⟩,⟨o0,o1,o2,o3⟩,oF⟩:=B1.out _ kW
   have hEX:=HEX.out
   obtain ⟨e1,he1⟩ : ∃ e1,x1 - x2 = e1:=⟨_,rfl⟩
   have v1 : IntKind.i64.wrap (x1 - x2) = e1:=by rw [wrap_i64]; omega
   obtain ⟨e2,he2⟩ : ∃ e2,e1 + (T1 : Int) = e2:=⟨_,rfl⟩
   have v2 : IntKind.i64.wrap (e1 + (T1 : Int)) = e2:=by rw [wrap_i64]; omega
   obtain ⟨e3,he3⟩ : ∃ e3,e2 - (T2 : Int) = e3:=⟨_,rfl⟩
   have v3 : IntKind.i64.wrap (e2 - (T2 : Int)) = e3:=by rw [wrap_i64]; omega
   have v4 : IntKind.i64.wrap (e3 - 60) = ex:=by rw [wrap_i64]; omega
   clear hEX he1 he2 he3
   go_wp2_with fail
   refine wp_region_held_drew (S:=fun u => (u.cell? ⟨w.heap.size,0,none⟩ = some (.bool n1) ∧ u.cell? ⟨w.heap.size,1,none⟩ = some (.slice a l1 c1) ∧ u.cell? ⟨w.heap.size,2,none⟩ = some (.int .i64 x1)) ∧ u.cell? ⟨w.heap.size + 1,0,none⟩ = some (.bool n2) ∧ u.cell? ⟨w.heap.size + 1,2,none⟩ = some (.int .i64 x2)) (by kernel_rfl) ⟨⟨p0,p1,p2⟩,q0,q2⟩ (fun hHeld => ?_)
   refine tk (i:=0) (v:=?_) rfl ?_
   simp only [Act.put,zA,zB,zC,zD,zE,zF]
   refine tk (i:=1) (v:=?_) rfl ?_
   simp only [Act.put,zA,zB,zC,zD,zE,zF]
   refine tk (i:=2) (v:=?_) rfl ?_
   simp only [Act.put,zA,zB,zC,zD,zE,zF]
   refine tk (i:=3) (v:=?_) rfl ?_
   simp only [Act.put,zA,zB,zC,zD,zE,zF]
   refine tk (i:=4) (v:=?_) rfl ?_
   simp only [Act.put,zA,zB,zC,zD,zE,zF]
   refine tk (i:=5) (v:=?_) rfl ?_
   simp only [Act.put,zA,zB,zC,zD,zE,zF]
   refine tk (i:=6) (v:=?_) rfl ?_
   simp only [Act.put,zA,zB,zC,zD,zE,zF]
   refine tk (i:=7) (v:=?_) rfl ?_
   simp only [Act.put,zA,zB,zC,zD,zE,zF]
   refine tk (i:=8) (v:=?_) rfl ?_
   simp only [Act.put,zA,zB,zC,zD,zE,zF]
   refine tk (i:=9) (v:=?_) rfl ?_
   simp only [Act.put,zA,zB,zC,zD,zE,zF]
   refine tk (i:=10) (v:=?_) rfl ?_
   simp only [Act.put,zA,zB,zC,zD,zE,zF]
   refine tk (i:=11) (v:=?_) rfl ?_
   simp only [Act.put,zA,zB,zC,zD,zE,zF]
   refine tk (i:=12) (v:=?_) rfl ?_
   simp only [Act.put,zA,zB,zC,zD,zE,zF]
   refine tk (i:=15) (v:=?_) rfl ?_
   simp only [Act.put,zA,zB,zC,zD,zE,zF]
   refine tk (i:=18) (v:=?_) rfl ?_
   simp only [Act.put,zA,zB,zC,zD,zE,zF]
   refine wpAnyH_ready (rs:=[13]) (by kernel_rfl) (by simp) ?_
   refine AllReadyH.cons rfl (fun K hK9 => ?_) AllReadyH.nil
   go_simp
   go_wp2_with fail
   refine (Ka.out _ (hK.trans kW.drew)).mono ?_
   rintro e u9 ⟨rfl,rfl⟩
   refine hK9.out _ _ ⟨⟨p0,p1,p2⟩,q0,q2⟩ (fun hHeld2 => ?_)
   clear hK9 K hHeld
   refine tk (i:=14) (v:=?_) rfl ?_
   simp only [Act.put,zA,zB,zC,zD,zE,zF]
   refine tk (i:=16) (v:=?_) rfl ?_
   simp only [Act.put,zA,zB,zC,zD,zE,zF]
   refine tk (i:=17) (v:=?_) rfl ?_
   simp only [Act.put,zA,zB,zC,zD,zE,zF]
   refine tk (i:=19) (v:=?_) rfl ?_
   simp only [Act.put,zA,zB,zC,zD,zE,zF]
   refine wpAnyH_ready (rs:=[20]) (by kernel_rfl) (by simp) ?_
   refine AllReadyH.cons rfl (fun K hK9 => ?_) AllReadyH.nil
   go_simp
   refine hK9.out _ _ ⟨⟨(set4' _ _ _ _ (by omega) _ _ _ _).trans p0,(set4' _ _ _ _ (by omega) _ _ _ _).trans p1,(set4' _ _ _ _ (by omega) _ _ _ _).trans p2⟩,(set4' _ _ _ _ (by omega) _ _ _ _).trans q0,(set4' _ _ _ _ (by omega) _ _ _ _).trans q2⟩ (fun hHeld3 => ?_)
   clear hK9 K hHeld2
   refine wpAnyH_done (by kernel_rfl) ?_ _
   clear hHeld3
   go_wp2
   have hnb2 : (n1 == n2) = !nb:=by rw [← hnb]; cases n1 <;> cases n2 <;> rfl
   have hfi:=HFIN.out
   rw [← hfi]
   have hdv:=Z.out.dv
   rw [hdv]
   refine bodyPost_ret (v:=.agg #[.bool nb,.int .i64 (H2 : Int),.int .i64 ex,.bool rk]) (by simp [results,Tryz.results76,go_sem,o0,o1,o2,o3,hnb2]) rfl ⟨rfl,?_⟩
   first
   | exact ((hK.trans kW).drew.setCell (by simp <;> omega) _ |>.setCell (by simp <;> omega) _ |>.setCell (by simp <;> omega) _ |>.setCell (by simp <;> omega) _)
   | exact ((hK.trans kW).setCell (by simp <;> omega) _ |>.setCell (by simp <;> omega) _ |>.setCell (by simp <;> omega) _ |>.setCell (by simp <;> omega) _).drew
end Go.Proofs.YtoflafgbbjinpaaGreatDoor
