/- Words as numbers from 0 to 2^64 - 1. evenWord and Below: package rng's and the document's own: one number of words is passed over. Uniform: package rng's and the document's own. Package start: what takes numbers from a draw. What stays where some blocks are turned; package start: the sum of twelve. -/
import Derived.Test.YtnafaclfdoefcaaGreatDoorWh27
import Derived.Test.YtnafaclfdoefcaaGreatDoorWh07
import Derived.Test.YtnafaclfdoefcaaGreatDoorWh26
namespace Go.Proofs.YtnafaclfdoefcaaGreatDoor
open Go.ChangeShapes Go.WideShapes Go.ChangeAt Go.RowKit
set_option linter.unusedVariables false
set_option linter.unusedSimpArgs false
set_option maxHeartbeats 16000000
set_option maxRecDepth 100000
theorem mixz_nat (z : Nat) (h : z < 18446744073709551616) : mixz (z : Int) = (mixn z : Nat):=by
 have e1:=mixStep_u64 z 1073741824 13787848793156543929 h
 have e2:=mixStep_u64 ((z ^^^ z / 1073741824) * 13787848793156543929 % 18446744073709551616) 134217728 10723151780598845931 (Nat.mod_lt _ (by decide))
 have e3:=xorShift_u64 (((z ^^^ z / 1073741824) * 13787848793156543929 % 18446744073709551616 ^^^ (z ^^^ z / 1073741824) * 13787848793156543929 % 18446744073709551616 / 134217728) * 10723151780598845931 % 18446744073709551616) 2147483648 (Nat.mod_lt _ (by decide))
 have f1 : mixa 13787848793156543929 1073741824 (z : Int) = (((z ^^^ z / 1073741824) * 13787848793156543929 % 18446744073709551616 : Nat) : Int):=e1
 unfold mixz
 rw [f1]
 have f2 : mixa 10723151780598845931 134217728 (((z ^^^ z / 1073741824) * 13787848793156543929 % 18446744073709551616 : Nat) : Int) = _:=e2
 rw [f2]
 have f3:=e3
 unfold mixb
 rw [show (2147483648 : Int) = ((2147483648 : Nat) : Int) from rfl,f3]
 rfl
theorem uw (x : Int) : IntKind.u64.wrap x = (un x : Int):=by rw [IntKind.wrap_u64,un_cast]
theorem keyz_nat (s t : Int) : keyz s t = (keyn s t : Nat):=by
 unfold keyz keyn
 rw [uw s,uw t,show (un t : Int) + 7146057691288625177 = ((un t + 7146057691288625177 : Nat) : Int) by omega,IntKind.wrap_u64,
  show ((un t + 7146057691288625177 : Nat) : Int) % 18446744073709551616 = (((un t + 7146057691288625177) % 18446744073709551616 : Nat) : Int) by omega,
  mixz_nat _ (Nat.mod_lt _ (by decide)),bits_xor_u64_nat _ _ (un_lt s) (mixn_lt _),mixz_nat _ (xor_lt64 (un_lt s) (mixn_lt _))]
theorem mulmod (x c : Nat) : IntKind.u64.wrap ((x : Int) * (c : Int)) = ((x * c % 18446744073709551616 : Nat) : Int):=by
 rw [IntKind.wrap_u64]; simp
theorem uwn (x : Nat) : IntKind.u64.wrap (x : Int) = ((x % 18446744073709551616 : Nat) : Int):=by rw [IntKind.wrap_u64]; omega
theorem watz_nat (s t a : Int) : watz (keyz s t) a = (wn s t a : Nat):=by
 unfold watz wn
 rw [keyz_nat,uw a,show (un a : Int) + 1 = ((un a + 1 : Nat) : Int) by omega,uwn (un a + 1)]
 rw [show (11400714819323198485 : Int) = ((11400714819323198485 : Nat) : Int) from rfl,mulmod]
 rw [← Int.natCast_add,uwn]
 exact mixz_nat _ (Nat.mod_lt _ (by decide))
theorem wz_nat (s t a : Int) : wz s t a = wrap64 (wn s t a : Nat):=by unfold wz; rw [watz_nat,wrap_i64]; unfold wrap64; rfl
theorem u_wz (s t a : Int) : IntKind.u64.wrap (wz s t a) = (wn s t a : Nat):=by
 rw [wz_nat,IntKind.wrap_u64]
 have:=wn_lt s t a
 unfold wrap64
 omega
theorem Dw.put {w : World} {b : Nat} {x y z : Int} (h : Dw w b x y z) (s t a : Int) : Dw (put3 w b (.int .i64 s) (.int .i64 t) (.int .i64 a)) b s t a:=by
 have h0 : (w.setCell ⟨b,0,none⟩ (.int .i64 s)).cell? ⟨b,0,none⟩ = some (.int .i64 s):=World.cell?_setCell_same _ _ _ h.1.1
 have h1 : (w.setCell ⟨b,0,none⟩ (.int .i64 s)).cell? ⟨b,1,none⟩ = some (.int .i64 y):=(World.cell?_setCell_other _ _ _ _ (by simp)).trans h.1.2.1
 have h2 : ((w.setCell ⟨b,0,none⟩ (.int .i64 s)).setCell ⟨b,1,none⟩ (.int .i64 t)).cell? ⟨b,2,none⟩ = some (.int .i64 z):=(World.cell?_setCell_other _ _ _ _ (by simp)).trans ((World.cell?_setCell_other _ _ _ _ (by simp)).trans h.1.2.2)
 refine ⟨⟨?_,?_,World.cell?_setCell_same _ _ _ h2⟩,fun o => ?_⟩
 ·exact (World.cell?_setCell_other _ _ _ _ (by simp)).trans ((World.cell?_setCell_other _ _ _ _ (by simp)).trans h0)
 ·exact (World.cell?_setCell_other _ _ _ _ (by simp)).trans (World.cell?_setCell_same _ _ _ h1)
 ·unfold put3
  rw [World.frozen?_setCell,World.frozen?_setCell,World.frozen?_setCell]
  exact h.2 o
theorem Dw.far3 {w : World} {b : Nat} {s t a : Int} (h : Dw w b s t a) (c : Nat) (hc : c ≠ b) (x y z : Value) : Dw (put3 w c x y z) b s t a :=
 ((h.far ⟨c,0,none⟩ hc x).far ⟨c,1,none⟩ hc y).far ⟨c,2,none⟩ hc z
theorem Kept.put3 {w X : World} (h : Kept w X) (c : Nat) (hc : w.heap.size ≤ c) (x y z : Value) : Kept w (put3 X c x y z):=((h.setCell hc _).setCell hc _).setCell hc _
theorem Dr.lt {w : World} {b : Nat} {s t a : Int} (h : Dr w b s t a) : b < w.heap.size:=World.block_lt_of_cell? _ _ h.1
theorem fraction_64 (V m r : Nat) (hm : m = V / 2048) (hr : r < 9218868437227405312) (h : FloatKind.f64.format.mul (floatOfInt .f64 (m : Int)) 4368491638549381120 = some r) (w : World) : Calls Tryz.prog 266 #[.int .u64 V,.int .i64 64] w fun e w' => e = .returned (.int .i64 r) ∧ w = w':=by
 have e1 : (V : Int) / 2048 = (m : Int):=by rw [hm]; rfl
 clear hm
 obtain ⟨X,hX⟩ : ∃ X,floatOfInt .f64 (m : Int) = X:=⟨_,rfl⟩
 rw [hX] at h
 have hx : ∀ wx : World,(binOp .mul 129 (.float .f64 X) (.float .f64 4368491638549381120)).run Tryz.prog wx = .ok (.float .f64 r) wx:=fun wx => run_float_arith wx .mul 129 .f64 X 4368491638549381120 r h
 clear h
 have HO : Hid (∀ u,Calls Tryz.prog 110 #[.float .f64 r] u fun e w' => e = .returned (.int .i64 r) ∧ u = w'):=fun u => by
  have:=of64_any r u
  rw [ofr_64 r hr] at this
  exact this
 go_enter Tryz.func266,Tryz.ntmps266
 go_wp2_with (first | (go_at_call 110; refine (HO.out _).mono ?_; rintro e w1 ⟨rfl,rfl⟩))
 go_ret
 exact ⟨rfl,rfl⟩
theorem uniform_64 (s t a : Int) (r : Nat) (hr : r < 9218868437227405312) (h : FloatKind.f64.format.mul (floatOfInt .f64 ((wn s t a / 2048 : Nat) : Int)) 4368491638549381120 = some r) (w : World) : Calls Tryz.prog 208 #[.agg #[.int .i64 s,.int .i64 t,.int .i64 a],.int .i64 64] w fun e w' => e = .returned (.tuple #[.int .i64 r,.agg #[.int .i64 s,.int .i64 t,.int .i64 (wrap64 (a + 1))],.int .i64 0]) ∧ Kept w w':=by
 have hA:=(Kept.refl w).alloc #[.int .i64 s,.int .i64 t,.int .i64 a] 82
 have hB:=(Kept.refl (w.alloc (.cells #[.int .i64 s,.int .i64 t,.int .i64 a] 82))).alloc #[.int .i64 0,.int .i64 0,.int .i64 0] 82
 have d1:=(dw_new w s t a 82).kept hB
 have d2:=(dw_new (w.alloc (.cells #[.int .i64 s,.int .i64 t,.int .i64 a] 82)) 0 0 0 82)
 rw [show (w.alloc (.cells #[.int .i64 s,.int .i64 t,.int .i64 a] 82)).heap.size = w.heap.size + 1 by simp] at d2
 have hW0:=hA.trans hB
 clear hA hB
 obtain ⟨Z,hZ⟩ : ∃ Z,Z = wz s t a:=⟨_,rfl⟩
 obtain ⟨P,hP⟩ : ∃ P,P = wrap64 (a + 1):=⟨_,rfl⟩
 obtain ⟨V,hV⟩ : ∃ V : Nat,V = wn s t a:=⟨_,rfl⟩
 have u1 : IntKind.u64.wrap Z = (V : Int):=by rw [hZ,hV,u_wz]
 have HN : Hid (∀ u,Calls Tryz.prog 265 #[.agg #[.int .i64 s,.int .i64 t,.int .i64 a]] u fun e w' => e = .returned (.tuple #[.int .i64 Z,.agg #[.int .i64 s,.int .i64 t,.int .i64 P]]) ∧ Kept u w'):=fun u => by rw [hZ,hP]; exact gnext_any s t a u
 have HF : Hid (∀ u,Calls Tryz.prog 266 #[.int .u64 V,.int .i64 64] u fun e w' => e = .returned (.int .i64 r) ∧ u = w'):=fun u => fraction_64 V _ r (by rw [hV]) hr h u
 rw [← hP]
 clear hZ hP hV h
 go_enter Tryz.func208,Tryz.ntmps208
 go_upto_region 1 with fail
 obtain ⟨X,hX⟩ : ∃ X,X = (w.alloc (.cells #[.int .i64 s,.int .i64 t,.int .i64 a] 82)).alloc (.cells #[.int .i64 0,.int .i64 0,.int .i64 0] 82):=⟨_,rfl⟩
 rw [← hX] at d1 d2 hW0 ⊢
 clear hX
 have D1:=d1
 obtain ⟨⟨c0,c1,c2⟩,f1⟩:=D1
 go_wp2_with (first | (go_at_call 169; refine (valid_64 _ _).mono ?_; rintro e w1 ⟨rfl,rfl⟩))
 refine (HN.out _).mono ?_
 rintro e w1 ⟨rfl,hk1⟩
 clear c0 c1 c2 f1
 have g1:=d1.kept hk1
 have g2:=d2.kept hk1
 have hK:=hW0.trans hk1
 have G1':=g1
 obtain ⟨⟨c0,c1,c2⟩,f1⟩:=G1'
 go_upto_region 4 with fail
 clear c0 c1 c2 f1
 have k1:=g1.put s t P
 have k2:=g2.far3 w.heap.size (by simp) (.int .i64 s) (.int .i64 t) (.int .i64 P)
 have k3:=hK.put3 w.heap.size (Nat.le_refl _) (.int .i64 s) (.int .i64 t) (.int .i64 P)
 obtain ⟨Y,hY⟩ : ∃ Y,Y = put3 w1 w.heap.size (.int .i64 s) (.int .i64 t) (.int .i64 P):=⟨_,rfl⟩
 rw [← hY] at k1 k2 k3
 unfold put3 at hY
 rw [← hY]
 clear hY g1 g2 hK d1 d2 hW0 hk1
 obtain ⟨⟨c0,c1,c2⟩,f1⟩:=k1
 obtain ⟨⟨c3,c4,c5⟩,f2⟩:=k2
 go_region_held (fun u => Kept w u ∧ u.cell? ⟨w.heap.size,0,none⟩ = some (.int .i64 s) ∧ u.cell? ⟨w.heap.size,1,none⟩ = some (.int .i64 t) ∧ u.cell? ⟨w.heap.size,2,none⟩ = some (.int .i64 P)) (first | exact ⟨k3.drew,c0,c1,c2⟩ | assumption | exact keep3d k3 (by simp) (by simp) ⟨c0,c1,c2⟩ _ _ _) (first | (go_at_call 266; refine (HF.out _).mono ?_; rintro e w1 ⟨rfl,rfl⟩))
 go_wp2
 exact bodyPost_ret (v:=.tuple #[.int .i64 r,.agg #[.int .i64 s,.int .i64 t,.int .i64 P],.int .i64 0]) (by simp [results,Tryz.results208,go_sem, *]) rfl ⟨rfl,(keep3d k3 (by simp) (by simp) ⟨c0,c1,c2⟩ _ _ _).1⟩
end Go.Proofs.YtnafaclfdoefcaaGreatDoor
namespace Go.Proofs.YtnafaclfdoefcaaGreatDoor
open Go.ChangeShapes Go.WideShapes Go.ChangeAt Go.RowKit Ieee
set_option linter.unusedVariables false
set_option linter.unusedSimpArgs false
set_option maxHeartbeats 16000000
set_option maxRecDepth 100000
/-- the number at a place of a draw,in parts of which 2^53 make 1 -/
def upt (s t a : Int) : Nat:=wn s t a / 2048
theorem upt_lt (s t a : Int) : upt s t a < 9007199254740992:=by
 unfold upt
 have:=wn_lt s t a
 omega
theorem unif_walk (s t a b : Int) (D r q m : Nat) (w : World) (hD : Dw w D s t a) (hmul : FloatKind.f64.format.mul r 4845873199050653696 = some q) (hcv : floatToIntVal .f64 q .i64 = some (m : Int)) (hp : pat64 (r : Int) = r)
  (KU : Hid (∀ u,Calls Tryz.prog 208 #[.agg #[.int .i64 s,.int .i64 t,.int .i64 a],.int .i64 64] u fun e w' => e = .returned (.tuple #[.int .i64 r,.agg #[.int .i64 s,.int .i64 t,.int .i64 b],.int .i64 0]) ∧ Kept u w')) :
  Calls Tryz.prog 207 #[.pointer (some ⟨D,0,none⟩)] w fun e w' => e = .returned (.int .i64 m) ∧ Dw w' D s t b ∧ Grw D w w':=by
 have KF : Hid (∀ u,Calls Tryz.prog 109 #[.int .i64 r] u fun e w' => e = .returned (.float .f64 r) ∧ u = w'):=fun u => by
  have:=float_any (r : Int) u
  rw [hp] at this
  exact this
 have HM : ∀ (u : World) (ty : TypeId),(binOp .mul ty (.float .f64 r) (.float .f64 4845873199050653696)).run Tryz.prog u = .ok (.float .f64 q) u:=fun u ty => run_float_arith u .mul ty .f64 _ _ _ hmul
 have HV : ∀ u : World,(convert 129 3 (.float .f64 q)).run Tryz.prog u = .ok (.int .i64 m) u:=fun u => run_convert_float_int u 129 3 .f64 .i64 q m (by kernel_rfl) (by kernel_rfl) hcv
 have hDK : Hid (∀ u,Kept w u → Dw u D s t a):=fun u k => hD.kept k
 obtain ⟨⟨c0,c1,c2⟩,cf⟩:=hD
 clear hmul hcv hp
 go_enter Tryz.func207,Tryz.ntmps207
 go_wp2_with fail
 refine (KU.out _).mono ?_
 rintro e w1 ⟨rfl,k1⟩
 have h1:=hDK.out _ k1
 have h2:=h1.put s t b
 clear c0 c1 c2 cf
 obtain ⟨⟨c0,c1,c2⟩,cf⟩:=h1
 go_upto_region 3 with fail
 have g:=(((Kept.toGrw D k1).setCell 0 (.int .i64 s)).setCell 1 (.int .i64 t)).setCell 2 (.int .i64 b)
 unfold put3 at h2
 generalize ((w1.setCell ⟨D,0,none⟩ (.int .i64 s)).setCell ⟨D,1,none⟩ (.int .i64 t)).setCell ⟨D,2,none⟩ (.int .i64 b) = Y at *
 clear c0 c1 c2 cf
 go_wp2_with (first | (go_at_call 109; refine (KF.out _).mono ?_; rintro e w2 ⟨rfl,rfl⟩))
 go_ret
 exact ⟨rfl,h2,g⟩
theorem unif_any (s t a : Int) (h0 : 0 ≤ a) (h1 : a ≤ 1000000000) (D : Nat) (w : World) (hD : Dw w D s t a) : Calls Tryz.prog 207 #[.pointer (some ⟨D,0,none⟩)] w fun e w' => e = .returned (.int .i64 (upt s t a)) ∧ Dw w' D s t (a + 1) ∧ Grw D w w':=by
 obtain ⟨r,q,hr,hm,hq,hc⟩:=part_back (upt s t a) (upt_lt s t a)
 have hw : wrap64 (a + 1) = a + 1:=by unfold wrap64; omega
 refine unif_walk s t a (a + 1) D r q (upt s t a) w hD hq hc ?_ (fun u => ?_)
 ·unfold pat64
  rw [IntKind.wrap_u64]
  omega
 ·have:=uniform_64 s t a r hr hm u
  rw [hw] at this
  exact this
end Go.Proofs.YtnafaclfdoefcaaGreatDoor
namespace Go.Proofs.YtnafaclfdoefcaaGreatDoor
open Go.ChangeShapes Go.WideShapes Go.ChangeAt Go.RowKit
set_option linter.unusedVariables false
set_option linter.unusedSimpArgs false
set_option maxHeartbeats 16000000
set_option maxRecDepth 100000
/-- All lies as it lay but in the blocks of a list. -/
structure Gs (S : List Nat) (w w' : World) : Prop where
 os : w'.os = w.os
 tape : w'.tape = w.tape
 output : w'.output = w.output
 size : w.heap.size ≤ w'.heap.size
 block : ∀ i,i < w.heap.size → i ∉ S → w'.heap[i]? = w.heap[i]?
 frozen : ∀ a,w'.frozen? a = w.frozen? a
theorem Gs.refl (S : List Nat) (w : World) : Gs S w w:=⟨rfl,rfl,rfl,Nat.le_refl _,fun _ _ _ => rfl,fun _ => rfl⟩
theorem Gs.trans {S : List Nat} {a b c : World} (h : Gs S a b) (k : Gs S b c) : Gs S a c :=
 ⟨k.os.trans h.os,k.tape.trans h.tape,k.output.trans h.output,Nat.le_trans h.size k.size,fun i hi hn => (k.block i (Nat.lt_of_lt_of_le hi h.size) hn).trans (h.block i hi hn),fun x => (k.frozen x).trans (h.frozen x)⟩
theorem Gs.mono {S S' : List Nat} {a b : World} (h : Gs S a b) (hs : ∀ i ∈ S,i ∈ S') : Gs S' a b :=
 ⟨h.os,h.tape,h.output,h.size,fun i hi hn => h.block i hi (fun hm => hn (hs i hm)),h.frozen⟩
theorem Kept.gs {a b : World} (S : List Nat) (h : Kept a b) : Gs S a b:=⟨h.below.os,h.below.tape,h.below.output,h.below.size,fun i hi _ => h.below.block i hi,h.frozen⟩
theorem Grw.gs {g : Nat} {a b : World} (h : Grw g a b) : Gs [g] a b:=⟨h.grown.os,h.grown.tape,h.grown.output,h.grown.size,fun i hi hn => h.grown.block i hi (by simpa using hn),h.frozen⟩
theorem Kept.gsn {S : List Nat} {a b c : World} (h : Kept a b) (hS : ∀ i ∈ S,a.heap.size ≤ i) (k : Gs S b c) : Kept a c :=
 ⟨⟨k.os.trans h.below.os,k.tape.trans h.below.tape,k.output.trans h.below.output,Nat.le_trans h.below.size k.size,fun i hi => (k.block i (Nat.lt_of_lt_of_le hi h.below.size) (fun hm => by have:=hS i hm; omega)).trans (h.below.block i hi)⟩,fun x => (k.frozen x).trans (h.frozen x)⟩
theorem Gs.setCell {S : List Nat} {a b : World} (h : Gs S a b) {p : Addr} (hp : p.block ∈ S ∨ a.heap.size ≤ p.block) (u : Value) : Gs S a (b.setCell p u) :=
 ⟨h.os,h.tape,h.output,by simpa using h.size,fun i hi hn => (Below.heap_setCell b p u i (fun e => by subst e; rcases hp with h1 | h1; exact hn h1; omega)).trans (h.block i hi hn),fun x => (World.frozen?_setCell _ _ _ _).trans (h.frozen x)⟩
theorem Gs.kept {S : List Nat} {a b c : World} (h : Gs S a b) (k : Kept b c) : Gs S a c:=h.trans (k.gs S)
theorem Gs.cell {S : List Nat} {a b : World} (h : Gs S a b) (B o : Nat) (hB : B < a.heap.size) (hn : B ∉ S) : b.cell? ⟨B,o,none⟩ = a.cell? ⟨B,o,none⟩:=by
 have:=h.block B hB hn
 simp only [World.cell?,this]
theorem N3.gs {S : List Nat} {w w' : World} {b : Nat} {u v x : Value} (h : N3 w b u v x) (k : Gs S w w') (hn : b ∉ S) : N3 w' b u v x :=
 ⟨(k.cell b 0 h.lt hn).trans h.c0,(k.cell b 1 h.lt hn).trans h.c1,(k.cell b 2 h.lt hn).trans h.c2,fun o => (k.frozen _).trans (h.fz o)⟩
theorem Dw.gs {S : List Nat} {w w' : World} {b : Nat} {s t a : Int} (h : Dw w b s t a) (k : Gs S w w') (hn : b ∉ S) : Dw w' b s t a :=
 ⟨⟨(k.cell b 0 h.1.lt hn).trans h.1.1,(k.cell b 1 h.1.lt hn).trans h.1.2.1,(k.cell b 2 h.1.lt hn).trans h.1.2.2⟩,fun o => (k.frozen _).trans (h.2 o)⟩
theorem Own.gs {S : List Nat} {w w' : World} {g cap : Nat} {L : List Int} (h : Own w g cap L) (k : Gs S w w') (hn : g ∉ S) : Own w' g cap L:=by
 have hl:=h.lt
 obtain ⟨cur,hg,r⟩:=h
 exact ⟨cur,(k.block g hl hn).trans hg,r⟩
theorem Tab.gs {S : List Nat} {w w' : World} (h : Tab w) (k : Gs S w w') (hS : 2 ∉ S) : Tab w' :=
 ⟨Nat.le_trans h.1 k.size,fun j hj => (k.cell 2 j (by have:=h.1; omega) hS).trans (h.2 j hj)⟩
theorem Tab.own {w : World} (h : Tab w) {g cap : Nat} {L : List Int} (ho : Own w g cap L) (hne : L ≠ []) : g ≠ 2:=fun e => by
 have h1:=h.2 0 (by decide)
 have h2:=ho.cell 0 (List.length_pos_iff.2 hne)
 rw [e,h1] at h2
 cases h2
theorem Tab.lo {w : World} (h : Tab w) : 3 ≤ w.heap.size:=h.1
/-- A number whose digits lie above a block. -/
def NumUp (D : Nat) (w : World) (v : Value) (x : Nm) : Prop :=
 (x = ⟨false,[],0⟩ ∧ v = zeroNum) ∨ ∃ g cap,v = .agg #[.bool x.neg,.slice (some ⟨g,0,none⟩) x.mag.length cap,.int .i64 x.exp] ∧ D < g ∧ Own w g cap x.mag ∧ x.mag ≠ []
theorem New.up {D : Nat} {w0 w : World} {v : Value} {x : Nm} (h : New w0 w v x) (hD : D < w0.heap.size) : NumUp D w v x:=by
 rcases h with h | ⟨g,cap,e,hg,ho,hne⟩
 ·exact .inl h
 ·exact .inr ⟨g,cap,e,by omega,ho,hne⟩
theorem NumUp.numAt {D : Nat} {w : World} {v : Value} {x : Nm} (h : NumUp D w v x) : NumAt w v x:=by
 rcases h with ⟨rfl,rfl⟩ | ⟨g,cap,rfl,hg,ho,hne⟩
 ·exact ⟨_,rfl,none,0,rfl,Nat.le_refl _,by simp [maxLen],fun h => absurd rfl h⟩
 ·exact ⟨_,rfl,ho.sl⟩
theorem NumUp.gs {D : Nat} {S : List Nat} {w w' : World} {v : Value} {x : Nm} (h : NumUp D w v x) (k : Gs S w w') (hS : ∀ i ∈ S,i ≤ D) : NumUp D w' v x:=by
 rcases h with h | ⟨g,cap,e,hg,ho,hne⟩
 ·exact .inl h
 ·exact .inr ⟨g,cap,e,hg,ho.gs k (fun hm => by have:=hS g hm; omega),hne⟩
theorem NumUp.kept {D : Nat} {w w' : World} {v : Value} {x : Nm} (h : NumUp D w v x) (k : Kept w w') : NumUp D w' v x:=h.gs (k.gs []) (fun i hi => by cases hi)
theorem New.low {w0 w1 w : World} {v : Value} {x : Nm} (h : New w1 w v x) (k : w0.heap.size ≤ w1.heap.size) : New w0 w v x:=by
 rcases h with h | ⟨g,cap,e,hg,ho,hne⟩
 ·exact .inl h
 ·exact .inr ⟨g,cap,e,Nat.le_trans k hg,ho,hne⟩
/-- the sum of k numbers of a draw -/
def sup (s t a : Int) : Nat → Int
 | 0 => 0
 | k + 1 => sup s t a k + (upt s t (a + k) : Int)
theorem sup_rng (s t a : Int) (k : Nat) : 0 ≤ sup s t a k ∧ sup s t a k ≤ k * 9007199254740992:=by
 induction k with
 | zero => exact ⟨Int.le_refl _,by simp [sup]⟩
 | succ k ih =>
  have:=upt_lt s t (a + k)
  unfold sup
  omega
theorem normal_any (s t a : Int) (h0 : 0 ≤ a) (h1 : a ≤ 500000000) (D : Nat) (w : World) (hD : Dw w D s t a) : Calls Tryz.prog 124 #[.func (.func 207) #[] #[.pointer (some ⟨D,0,none⟩)]] w fun e w' => e = .returned (.int .i64 (sup s t a 12 - 54043195528445952)) ∧ Dw w' D s t (a + 12) ∧ Gs [D] w w':=by
 have KU : Hid (∀ u b,0 ≤ b → b ≤ 1000000000 → Dw u D s t b → Calls Tryz.prog 207 #[.pointer (some ⟨D,0,none⟩)] u fun e w' => e = .returned (.int .i64 (upt s t b)) ∧ Dw w' D s t (b + 1) ∧ Grw D u w'):=fun u b hb1 hb2 hd => unif_any s t b hb1 hb2 D u hd
 go_enter Tryz.func124,Tryz.ntmps124
 go_wp2_with fail
 go_loopw [3,4] (fun sv i wr => ∃ k : Nat,k ≤ 12 ∧ i = .int .i64 k ∧ sv = .int .i64 (sup s t a k - 54043195528445952) ∧ Dw wr D s t (a + k) ∧ Gs [D] w wr) (fun _ i _ => 12 - (intOf i).toNat)
 case atStart => exact ⟨0,Nat.zero_le _,rfl,rfl,by simpa using hD,Gs.refl _ w⟩
 case round =>
  clear hD
  obtain ⟨k,hk,rfl,rfl,hDr,hG⟩:=hrel
  by_cases hk12 : k < 12
  ·have hr:=sup_rng s t a k
   have hu:=upt_lt s t (a + k)
   have hsum : IntKind.i64.wrap (sup s t a k - 54043195528445952 + (upt s t (a + k) : Int)) = sup s t a (k + 1) - 54043195528445952:=by
    rw [wrap_i64]
    show _ = sup s t a k + (upt s t (a + k) : Int) - 54043195528445952
    omega
   have KU2 : Hid (∀ u,Dw u D s t (a + k) → Calls Tryz.prog 207 #[.pointer (some ⟨D,0,none⟩)] u fun e w' => e = .returned (.int .i64 (upt s t (a + k))) ∧ Dw w' D s t (a + k + 1) ∧ Grw D u w'):=fun u => KU.out u (a + k) (by omega) (by omega)
   have e1 : a + (k : Int) + 1 = a + ((k + 1 : Nat) : Int):=by omega
   rw [e1] at KU2
   clear KU hu hr
   generalize sup s t a k = S0 at *
   obtain ⟨S1,hS1⟩ : ∃ S,S = sup s t a (k + 1):=⟨_,rfl⟩
   rw [← hS1] at hsum
   have hS1 : Hid (S1 = sup s t a (k + 1)):=hS1
   generalize (upt s t (a + k) : Int) = U0 at *
   go_wp2_with (first | (go_at_call 207; refine (KU2.out _ hDr).mono ?_; rintro e w1 ⟨rfl,d1,g1⟩))
   go_roundw
   case rel => exact ⟨k + 1,by omega,by go_num,by rw [← hS1.out,← hsum],d1,hG.trans g1.gs⟩
   case measure => simp [intOf]; omega
  ·obtain rfl : k = 12:=by omega
   go_wp2_with fail
   go_ret
   exact ⟨rfl,hDr,hG⟩
end Go.Proofs.YtnafaclfdoefcaaGreatDoor
