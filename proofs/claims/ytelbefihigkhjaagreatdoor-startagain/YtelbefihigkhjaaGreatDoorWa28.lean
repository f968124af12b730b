/- The walks of mix,key,wordAt,Word,Next,Split of package rng,and of the document's own: for every draw. Next,Split: package rng's and the document's own. Words as numbers from 0 to 2^64 - 1. evenWord and Below: package rng's and the document's own: one number of words is passed over. Uniform: package rng's and the document's own. -/
import Derived.Test.YtelbefihigkhjaaGreatDoorRows
import Derived.Test.YtelbefihigkhjaaGreatDoorWa27
import Derived.Test.YtelbefihigkhjaaGreatDoorWa02
import Derived.Deep.RegionHeld
namespace Go.Proofs.YtelbefihigkhjaaGreatDoor
open Go.ChangeShapes Go.WideShapes Go.ChangeAt Go.RowKit
set_option maxHeartbeats 16000000
set_option maxRecDepth 100000
set_option linter.unusedVariables false
def mixa (c : Int) (k : Int) (x : Int) : Int:=IntKind.u64.wrap (bits .xor .u64 x (x / k) * c)
def mixb (x : Int) : Int:=bits .xor .u64 x (x / 2147483648)
def mixz (x : Int) : Int:=mixb (mixa 10723151780598845931 134217728 (mixa 13787848793156543929 1073741824 x))
theorem mix_any (z : Int) (w : World) : Calls Tryz.prog 332 #[.int .u64 z] w fun e w' => e = .returned (.int .u64 (mixz z)) ∧ w = w':=by
 go_enter Tryz.func332,Tryz.ntmps332
 go_wp2
 go_ret
 exact ⟨rfl,rfl⟩
def keyz (s t : Int) : Int:=mixz (bits .xor .u64 (IntKind.u64.wrap s) (mixz (IntKind.u64.wrap (IntKind.u64.wrap t + 7146057691288625177))))
/-- A draw's three cells. -/
def Dr (w : World) (b : Nat) (s t a : Int) : Prop:=w.cell? ⟨b,0,none⟩ = some (.int .i64 s) ∧ w.cell? ⟨b,1,none⟩ = some (.int .i64 t) ∧ w.cell? ⟨b,2,none⟩ = some (.int .i64 a)
theorem dr_new (w : World) (s t a : Int) (T : TypeId) : Dr (w.alloc (.cells #[.int .i64 s,.int .i64 t,.int .i64 a] T)) w.heap.size s t a:=by
 refine ⟨?_,?_,?_⟩ <;> simp
theorem Dr.kept {w w' : World} {b : Nat} {s t a : Int} (h : Dr w b s t a) (k : Kept w w') : Dr w' b s t a :=
 ⟨(k.below.cell (World.block_lt_of_cell? _ _ h.1)).trans h.1,(k.below.cell (World.block_lt_of_cell? _ _ h.2.1)).trans h.2.1,(k.below.cell (World.block_lt_of_cell? _ _ h.2.2)).trans h.2.2⟩
theorem key_any (s t a : Int) (w : World) : Calls Tryz.prog 324 #[.agg #[.int .i64 s,.int .i64 t,.int .i64 a]] w fun e w' => e = .returned (.int .u64 (keyz s t)) ∧ Kept w w':=by
 have hK:=(Kept.refl w).alloc #[.int .i64 s,.int .i64 t,.int .i64 a] 72
 obtain ⟨c0,c1,c2⟩:=dr_new w s t a 72
 go_enter Tryz.func324,Tryz.ntmps324
 go_wp2_with fail
 go_region_held (fun u => Kept w u ∧ u.cell? ⟨w.heap.size,0,none⟩ = some (.int .i64 s) ∧ u.cell? ⟨w.heap.size,1,none⟩ = some (.int .i64 t)) (first | exact ⟨hK.drew,c0,c1⟩ | assumption) (first | (go_at_call 332; refine (mix_any _ _).mono ?_; rintro e w1 ⟨rfl,rfl⟩))
 go_wp2
 go_ret
 exact ⟨rfl,hK.drew⟩
def watz (k a : Int) : Int:=mixz (IntKind.u64.wrap (k + IntKind.u64.wrap (IntKind.u64.wrap (IntKind.u64.wrap a + 1) * 11400714819323198485)))
theorem wordAt_any (k a : Int) (w : World) : Calls Tryz.prog 323 #[.int .u64 k,.int .i64 a] w fun e w' => e = .returned (.int .u64 (watz k a)) ∧ w = w':=by
 go_enter Tryz.func323,Tryz.ntmps323
 go_wp2_with (first | (go_at_call 332; refine (mix_any _ _).mono ?_; rintro e w1 ⟨rfl,rfl⟩))
 go_ret
 exact ⟨rfl,rfl⟩
theorem word_any0 (s t a i : Int) (w : World) : Calls Tryz.prog 294 #[.agg #[.int .i64 s,.int .i64 t,.int .i64 a],.int .i64 i] w fun e w' => e = .returned (.int .i64 (IntKind.i64.wrap (watz (keyz s t) (IntKind.i64.wrap (a + i))))) ∧ Kept w w':=by
 have hK:=(Kept.refl w).alloc #[.int .i64 s,.int .i64 t,.int .i64 a] 72
 have hD:=dr_new w s t a 72
 have hS : ∀ u,Kept (w.alloc (.cells #[.int .i64 s,.int .i64 t,.int .i64 a] 72)) u → Kept w u ∧ Kept (w.alloc (.cells #[.int .i64 s,.int .i64 t,.int .i64 a] 72)) u ∧ u.cell? ⟨w.heap.size,0,none⟩ = some (.int .i64 s) ∧ u.cell? ⟨w.heap.size,1,none⟩ = some (.int .i64 t) ∧ u.cell? ⟨w.heap.size,2,none⟩ = some (.int .i64 a):=fun u hu => ⟨hK.trans hu,hu,hD.kept hu⟩
 have HS : Hid (∀ u,Kept (w.alloc (.cells #[.int .i64 s,.int .i64 t,.int .i64 a] 72)) u → _):=hS
 have HK : Hid (Kept (w.alloc (.cells #[.int .i64 s,.int .i64 t,.int .i64 a] 72)) (w.alloc (.cells #[.int .i64 s,.int .i64 t,.int .i64 a] 72)).drew):=(Kept.refl _).drew
 clear hS hD hK
 go_enter Tryz.func294,Tryz.ntmps294
 go_wp2_with fail
 go_region_held (fun u => Kept w u ∧ Kept (w.alloc (.cells #[.int .i64 s,.int .i64 t,.int .i64 a] 72)) u ∧ u.cell? ⟨w.heap.size,0,none⟩ = some (.int .i64 s) ∧ u.cell? ⟨w.heap.size,1,none⟩ = some (.int .i64 t) ∧ u.cell? ⟨w.heap.size,2,none⟩ = some (.int .i64 a)) (first | exact HS.out _ HK.out | assumption) (first | (go_at_call 324; refine (key_any _ _ _ _).mono ?_; rintro e w1 ⟨rfl,hk1⟩; have e0:=HS.out _ (Kept.trans (by assumption) hk1)) | (go_at_call 323; refine (wordAt_any _ _ _).mono ?_; rintro e w1 ⟨rfl,rfl⟩))
 go_wp2
 go_ret
 exact ⟨rfl,by first | exact e0.1 | (rename_i h; exact h.1)⟩
/-- The word at a place,as an int. -/
def wz (s t a : Int) : Int:=IntKind.i64.wrap (watz (keyz s t) a)
theorem watz_cong (k a b : Int) (h : a % 18446744073709551616 = b % 18446744073709551616) : watz k a = watz k b:=by
 unfold watz
 simp only [IntKind.wrap_u64]
 rw [h]
theorem wz_cong (s t a b : Int) (h : a % 18446744073709551616 = b % 18446744073709551616) : wz s t a = wz s t b:=by
 unfold wz; rw [watz_cong _ a b h]
theorem word_any (s t a i : Int) (w : World) : Calls Tryz.prog 294 #[.agg #[.int .i64 s,.int .i64 t,.int .i64 a],.int .i64 i] w fun e w' => e = .returned (.int .i64 (wz s t (a + i))) ∧ Kept w w':=by
 refine (word_any0 s t a i w).mono ?_
 rintro e w' ⟨rfl,hk⟩
 refine ⟨?_,hk⟩
 rw [wz_cong s t (a + i) (IntKind.i64.wrap (a + i)) (by rw [wrap_i64]; omega)]; rfl
end Go.Proofs.YtelbefihigkhjaaGreatDoor

namespace Go.Proofs.YtelbefihigkhjaaGreatDoor
open Go.ChangeShapes Go.WideShapes Go.ChangeAt Go.RowKit
set_option maxHeartbeats 16000000
set_option maxRecDepth 100000
set_option linter.unusedVariables false
/-- A draw's three cells,which may be written. -/
def Dw (w : World) (b : Nat) (s t a : Int) : Prop:=Dr w b s t a ∧ ∀ o,w.frozen? ⟨b,o,none⟩ = false
theorem dw_new (w : World) (s t a : Int) (T : TypeId) : Dw (w.alloc (.cells #[.int .i64 s,.int .i64 t,.int .i64 a] T)) w.heap.size s t a:=⟨dr_new w s t a T,fun o => by simp [go_sem]⟩
theorem Dw.kept {w w' : World} {b : Nat} {s t a : Int} (h : Dw w b s t a) (k : Kept w w') : Dw w' b s t a:=⟨h.1.kept k,fun o => (k.frozen _).trans (h.2 o)⟩
theorem Dw.set {w : World} {b : Nat} {s t a : Int} (h : Dw w b s t a) (x : Int) : Dw (w.setCell ⟨b,2,none⟩ (.int .i64 x)) b s t x :=
 ⟨⟨(World.cell?_setCell_other _ _ _ _ (by simp)).trans h.1.1,(World.cell?_setCell_other _ _ _ _ (by simp)).trans h.1.2.1,World.cell?_setCell_same _ _ _ h.1.2.2⟩,fun o => (World.frozen?_setCell _ _ _ _).trans (h.2 o)⟩
theorem Dw.far {w : World} {b : Nat} {s t a : Int} (h : Dw w b s t a) (p : Addr) (hp : p.block ≠ b) (v : Value) : Dw (w.setCell p v) b s t a :=
 ⟨⟨(World.cell?_setCell_far _ _ _ _ hp).trans h.1.1,(World.cell?_setCell_far _ _ _ _ hp).trans h.1.2.1,(World.cell?_setCell_far _ _ _ _ hp).trans h.1.2.2⟩,fun o => (World.frozen?_setCell _ _ _ _).trans (h.2 o)⟩
/-- A draw written into other cells. -/
def put3 (w : World) (c : Nat) (x y z : Value) : World:=((w.setCell ⟨c,0,none⟩ x).setCell ⟨c,1,none⟩ y).setCell ⟨c,2,none⟩ z
theorem keep3 {w X : World} {b c : Nat} {s t a : Int} (hw : Kept w X) (hb : w.heap.size ≤ c) (hne : c ≠ b) (d : Dr X b s t a) (x y z : Value) :
  Kept w (put3 X c x y z) ∧ (put3 X c x y z).cell? ⟨b,0,none⟩ = some (.int .i64 s) ∧ (put3 X c x y z).cell? ⟨b,1,none⟩ = some (.int .i64 t) ∧ (put3 X c x y z).cell? ⟨b,2,none⟩ = some (.int .i64 a):=by
 have e : ∀ o,(put3 X c x y z).cell? ⟨b,o,none⟩ = X.cell? ⟨b,o,none⟩:=fun o =>
  ((World.cell?_setCell_far _ _ _ _ hne).trans (World.cell?_setCell_far _ _ _ _ hne)).trans (World.cell?_setCell_far _ _ _ _ hne)
 exact ⟨((hw.setCell hb _).setCell hb _).setCell hb _,(e 0).trans d.1,(e 1).trans d.2.1,(e 2).trans d.2.2⟩
theorem keep3d {w X : World} {b c : Nat} {s t a : Int} (hw : Kept w X) (hb : w.heap.size ≤ c) (hne : c ≠ b) (d : Dr X b s t a) (x y z : Value) :
  Kept w (put3 X c x y z).drew ∧ (put3 X c x y z).drew.cell? ⟨b,0,none⟩ = some (.int .i64 s) ∧ (put3 X c x y z).drew.cell? ⟨b,1,none⟩ = some (.int .i64 t) ∧ (put3 X c x y z).drew.cell? ⟨b,2,none⟩ = some (.int .i64 a) :=
 ⟨(keep3 hw hb hne d x y z).1.drew,(keep3 hw hb hne d x y z).2⟩
theorem gnext_any (s t a : Int) (w : World) : Calls Tryz.prog 242 #[.agg #[.int .i64 s,.int .i64 t,.int .i64 a]] w fun e w' => e = .returned (.tuple #[.int .i64 (wz s t a),.agg #[.int .i64 s,.int .i64 t,.int .i64 (wrap64 (a + 1))]]) ∧ Kept w w':=by
 have e1 : a + 0 = a:=by omega
 have e2 : IntKind.i64.wrap (IntKind.u64.wrap (IntKind.u64.wrap a + 1)) = wrap64 (a + 1):=by
  rw [wrap_i64]; simp only [IntKind.wrap_u64]; unfold wrap64; omega
 go_enter Tryz.func242,Tryz.ntmps242
 go_wp2_with fail
 refine (word_any _ _ _ _ _).mono ?_
 rintro e w1 ⟨rfl,hk1⟩
 rw [e1]
 have hA:=(Kept.refl w).alloc #[.int .i64 s,.int .i64 t,.int .i64 a] 72
 have hB:=(Kept.refl (w.alloc (.cells #[.int .i64 s,.int .i64 t,.int .i64 a] 72))).alloc #[.int .i64 0,.int .i64 0,.int .i64 0] 72
 have hw1:=(hA.trans hB).trans hk1
 have hsz:=hw1.below.size
 have d1:=((dw_new w s t a 72).kept hB).kept hk1
 have d2:=(dw_new (w.alloc (.cells #[.int .i64 s,.int .i64 t,.int .i64 a] 72)) 0 0 0 72).kept hk1
 rw [show (w.alloc (.cells #[.int .i64 s,.int .i64 t,.int .i64 a] 72)).heap.size = w.heap.size + 1 by simp] at d2
 have d3:=d1.set (wrap64 (a + 1))
 have d4:=d2.far ⟨w.heap.size,2,none⟩ (by simp) (.int .i64 (wrap64 (a + 1)))
 have hw2:=hw1.setCell (p:=⟨w.heap.size,2,none⟩) (Nat.le_refl _) (.int .i64 (wrap64 (a + 1)))
 obtain ⟨⟨c0,c1,c2⟩,f1⟩:=d1
 clear hA hB hk1 d2
 go_upto_region 3 with fail
 obtain ⟨X,hX⟩ : ∃ X,X = w1.setCell ⟨w.heap.size,2,none⟩ (.int .i64 (wrap64 (a + 1))):=⟨_,rfl⟩
 rw [← hX] at d3 d4 hw2 ⊢
 clear hX c0 c1 c2 f1 hw1
 obtain ⟨⟨c0,c1,c2⟩,f1⟩:=d3
 obtain ⟨⟨c3,c4,c5⟩,f2⟩:=d4
 go_region_held (fun u => Kept w u ∧ u.cell? ⟨w.heap.size,0,none⟩ = some (.int .i64 s) ∧ u.cell? ⟨w.heap.size,1,none⟩ = some (.int .i64 t) ∧ u.cell? ⟨w.heap.size,2,none⟩ = some (.int .i64 (wrap64 (a + 1)))) (first | exact ⟨hw2.drew,c0,c1,c2⟩ | assumption | exact keep3d hw2 (by simp) (by simp) ⟨c0,c1,c2⟩ _ _ _) (fail)
 go_wp2
 exact bodyPost_ret (v:=.tuple #[.int .i64 (wz s t a),.agg #[.int .i64 s,.int .i64 t,.int .i64 (wrap64 (a + 1))]]) (by simp [results,Tryz.results242,go_sem, *]) rfl ⟨rfl,(keep3d hw2 (by simp) (by simp) ⟨c0,c1,c2⟩ _ _ _).1⟩
end Go.Proofs.YtelbefihigkhjaaGreatDoor

namespace Go.Proofs.YtelbefihigkhjaaGreatDoor
open Go.ChangeShapes Go.WideShapes Go.ChangeAt Go.RowKit
set_option maxHeartbeats 16000000
set_option maxRecDepth 100000
set_option linter.unusedVariables false
theorem mixz_nat (z : Nat) (h : z < 18446744073709551616) : mixz (z : Int) = (mixn z : Nat):=by
 have e1:=mixStep_u64 z 1073741824 13787848793156543929 h
 have e2:=mixStep_u64 ((z ^^^ z / 1073741824) * 13787848793156543929 % 18446744073709551616) 134217728 10723151780598845931 (Nat.mod_lt _ (by decide))
 have e3:=xorShift_u64 (((z ^^^ z / 1073741824) * 13787848793156543929 % 18446744073709551616 ^^^ (z ^^^ z / 1073741824) * 13787848793156543929 % 18446744073709551616 / 134217728) * 10723151780598845931 % 18446744073709551616) 2147483648 (Nat.mod_lt _ (by decide))
 have f1 : mixa 13787848793156543929 1073741824 (z : Int) = (((z ^^^ z / 1073741824) * 13787848793156543929 % 18446744073709551616 : Nat) : Int):=e1
 unfold mixz
 rw [f1]
 have f2 : mixa 10723151780598845931 134217728 (((z ^^^ z / 1073741824) * 13787848793156543929 % 18446744073709551616 : Nat) : Int) = _:=e2
 rw [f2]
 have f3:=e3
 unfold mixb
 rw [show (2147483648 : Int) = ((2147483648 : Nat) : Int) from rfl,f3]
 rfl
theorem uw (x : Int) : IntKind.u64.wrap x = (un x : Int):=by rw [IntKind.wrap_u64,un_cast]
theorem keyz_nat (s t : Int) : keyz s t = (keyn s t : Nat):=by
 unfold keyz keyn
 rw [uw s,uw t,show (un t : Int) + 7146057691288625177 = ((un t + 7146057691288625177 : Nat) : Int) by omega,IntKind.wrap_u64,
  show ((un t + 7146057691288625177 : Nat) : Int) % 18446744073709551616 = (((un t + 7146057691288625177) % 18446744073709551616 : Nat) : Int) by omega,
  mixz_nat _ (Nat.mod_lt _ (by decide)),bits_xor_u64_nat _ _ (un_lt s) (mixn_lt _),mixz_nat _ (xor_lt64 (un_lt s) (mixn_lt _))]
theorem mulmod (x c : Nat) : IntKind.u64.wrap ((x : Int) * (c : Int)) = ((x * c % 18446744073709551616 : Nat) : Int):=by
 rw [IntKind.wrap_u64]; simp
theorem uwn (x : Nat) : IntKind.u64.wrap (x : Int) = ((x % 18446744073709551616 : Nat) : Int):=by rw [IntKind.wrap_u64]; omega
theorem watz_nat (s t a : Int) : watz (keyz s t) a = (wn s t a : Nat):=by
 unfold watz wn
 rw [keyz_nat,uw a,show (un a : Int) + 1 = ((un a + 1 : Nat) : Int) by omega,uwn (un a + 1)]
 rw [show (11400714819323198485 : Int) = ((11400714819323198485 : Nat) : Int) from rfl,mulmod]
 rw [← Int.natCast_add,uwn]
 exact mixz_nat _ (Nat.mod_lt _ (by decide))
theorem wz_nat (s t a : Int) : wz s t a = wrap64 (wn s t a : Nat):=by unfold wz; rw [watz_nat,wrap_i64]; unfold wrap64; rfl
theorem u_wz (s t a : Int) : IntKind.u64.wrap (wz s t a) = (wn s t a : Nat):=by
 rw [wz_nat,IntKind.wrap_u64]
 have:=wn_lt s t a
 unfold wrap64
 omega
theorem Dw.put {w : World} {b : Nat} {x y z : Int} (h : Dw w b x y z) (s t a : Int) : Dw (put3 w b (.int .i64 s) (.int .i64 t) (.int .i64 a)) b s t a:=by
 have h0 : (w.setCell ⟨b,0,none⟩ (.int .i64 s)).cell? ⟨b,0,none⟩ = some (.int .i64 s):=World.cell?_setCell_same _ _ _ h.1.1
 have h1 : (w.setCell ⟨b,0,none⟩ (.int .i64 s)).cell? ⟨b,1,none⟩ = some (.int .i64 y):=(World.cell?_setCell_other _ _ _ _ (by simp)).trans h.1.2.1
 have h2 : ((w.setCell ⟨b,0,none⟩ (.int .i64 s)).setCell ⟨b,1,none⟩ (.int .i64 t)).cell? ⟨b,2,none⟩ = some (.int .i64 z):=(World.cell?_setCell_other _ _ _ _ (by simp)).trans ((World.cell?_setCell_other _ _ _ _ (by simp)).trans h.1.2.2)
 refine ⟨⟨?_,?_,World.cell?_setCell_same _ _ _ h2⟩,fun o => ?_⟩
 ·exact (World.cell?_setCell_other _ _ _ _ (by simp)).trans ((World.cell?_setCell_other _ _ _ _ (by simp)).trans h0)
 ·exact (World.cell?_setCell_other _ _ _ _ (by simp)).trans (World.cell?_setCell_same _ _ _ h1)
 ·unfold put3
  rw [World.frozen?_setCell,World.frozen?_setCell,World.frozen?_setCell]
  exact h.2 o
theorem Dw.far3 {w : World} {b : Nat} {s t a : Int} (h : Dw w b s t a) (c : Nat) (hc : c ≠ b) (x y z : Value) : Dw (put3 w c x y z) b s t a :=
 ((h.far ⟨c,0,none⟩ hc x).far ⟨c,1,none⟩ hc y).far ⟨c,2,none⟩ hc z
theorem Kept.put3 {w X : World} (h : Kept w X) (c : Nat) (hc : w.heap.size ≤ c) (x y z : Value) : Kept w (put3 X c x y z):=((h.setCell hc _).setCell hc _).setCell hc _
theorem Dr.lt {w : World} {b : Nat} {s t a : Int} (h : Dr w b s t a) : b < w.heap.size:=World.block_lt_of_cell? _ _ h.1
end Go.Proofs.YtelbefihigkhjaaGreatDoor

namespace Go.Proofs.YtelbefihigkhjaaGreatDoor
open Go.ChangeShapes Go.WideShapes Go.ChangeAt Go.RowKit
set_option maxHeartbeats 16000000
set_option maxRecDepth 100000
set_option linter.unusedVariables false
set_option linter.unusedSimpArgs false
theorem fraction_64 (V m r : Nat) (hm : m = V / 2048) (hr : r < 9218868437227405312) (h : FloatKind.f64.format.mul (floatOfInt .f64 (m : Int)) 4368491638549381120 = some r) (w : World) : Calls Tryz.prog 243 #[.int .u64 V,.int .i64 64] w fun e w' => e = .returned (.int .i64 r) ∧ w = w':=by
 have e1 : (V : Int) / 2048 = (m : Int):=by rw [hm]; rfl
 clear hm
 obtain ⟨X,hX⟩ : ∃ X,floatOfInt .f64 (m : Int) = X:=⟨_,rfl⟩
 rw [hX] at h
 have hx : ∀ wx : World,(binOp .mul 190 (.float .f64 X) (.float .f64 4368491638549381120)).run Tryz.prog wx = .ok (.float .f64 r) wx:=fun wx => run_float_arith wx .mul 190 .f64 X 4368491638549381120 r h
 clear h
 have HO : Hid (∀ u,Calls Tryz.prog 150 #[.float .f64 r] u fun e w' => e = .returned (.int .i64 r) ∧ u = w'):=fun u => by
  have:=of64_any r u
  rw [ofr_64 r hr] at this
  exact this
 go_enter Tryz.func243,Tryz.ntmps243
 go_wp2_with (first | (go_at_call 150; refine (HO.out _).mono ?_; rintro e w1 ⟨rfl,rfl⟩))
 go_ret
 exact ⟨rfl,rfl⟩
theorem uniform_64 (s t a : Int) (r : Nat) (hr : r < 9218868437227405312) (h : FloatKind.f64.format.mul (floatOfInt .f64 ((wn s t a / 2048 : Nat) : Int)) 4368491638549381120 = some r) (w : World) : Calls Tryz.prog 183 #[.agg #[.int .i64 s,.int .i64 t,.int .i64 a],.int .i64 64] w fun e w' => e = .returned (.tuple #[.int .i64 r,.agg #[.int .i64 s,.int .i64 t,.int .i64 (wrap64 (a + 1))],.int .i64 0]) ∧ Kept w w':=by
 have hA:=(Kept.refl w).alloc #[.int .i64 s,.int .i64 t,.int .i64 a] 72
 have hB:=(Kept.refl (w.alloc (.cells #[.int .i64 s,.int .i64 t,.int .i64 a] 72))).alloc #[.int .i64 0,.int .i64 0,.int .i64 0] 72
 have d1:=(dw_new w s t a 72).kept hB
 have d2:=(dw_new (w.alloc (.cells #[.int .i64 s,.int .i64 t,.int .i64 a] 72)) 0 0 0 72)
 rw [show (w.alloc (.cells #[.int .i64 s,.int .i64 t,.int .i64 a] 72)).heap.size = w.heap.size + 1 by simp] at d2
 have hW0:=hA.trans hB
 clear hA hB
 obtain ⟨Z,hZ⟩ : ∃ Z,Z = wz s t a:=⟨_,rfl⟩
 obtain ⟨P,hP⟩ : ∃ P,P = wrap64 (a + 1):=⟨_,rfl⟩
 obtain ⟨V,hV⟩ : ∃ V : Nat,V = wn s t a:=⟨_,rfl⟩
 have u1 : IntKind.u64.wrap Z = (V : Int):=by rw [hZ,hV,u_wz]
 have HN : Hid (∀ u,Calls Tryz.prog 242 #[.agg #[.int .i64 s,.int .i64 t,.int .i64 a]] u fun e w' => e = .returned (.tuple #[.int .i64 Z,.agg #[.int .i64 s,.int .i64 t,.int .i64 P]]) ∧ Kept u w'):=fun u => by rw [hZ,hP]; exact gnext_any s t a u
 have HF : Hid (∀ u,Calls Tryz.prog 243 #[.int .u64 V,.int .i64 64] u fun e w' => e = .returned (.int .i64 r) ∧ u = w'):=fun u => fraction_64 V _ r (by rw [hV]) hr h u
 rw [← hP]
 clear hZ hP hV h
 go_enter Tryz.func183,Tryz.ntmps183
 go_upto_region 1 with fail
 obtain ⟨X,hX⟩ : ∃ X,X = (w.alloc (.cells #[.int .i64 s,.int .i64 t,.int .i64 a] 72)).alloc (.cells #[.int .i64 0,.int .i64 0,.int .i64 0] 72):=⟨_,rfl⟩
 rw [← hX] at d1 d2 hW0 ⊢
 clear hX
 have D1:=d1
 obtain ⟨⟨c0,c1,c2⟩,f1⟩:=D1
 go_wp2_with (first | (go_at_call 162; refine (valid_64 _ _).mono ?_; rintro e w1 ⟨rfl,rfl⟩))
 refine (HN.out _).mono ?_
 rintro e w1 ⟨rfl,hk1⟩
 clear c0 c1 c2 f1
 have g1:=d1.kept hk1
 have g2:=d2.kept hk1
 have hK:=hW0.trans hk1
 have G1':=g1
 obtain ⟨⟨c0,c1,c2⟩,f1⟩:=G1'
 go_upto_region 4 with fail
 clear c0 c1 c2 f1
 have k1:=g1.put s t P
 have k2:=g2.far3 w.heap.size (by simp) (.int .i64 s) (.int .i64 t) (.int .i64 P)
 have k3:=hK.put3 w.heap.size (Nat.le_refl _) (.int .i64 s) (.int .i64 t) (.int .i64 P)
 obtain ⟨Y,hY⟩ : ∃ Y,Y = put3 w1 w.heap.size (.int .i64 s) (.int .i64 t) (.int .i64 P):=⟨_,rfl⟩
 rw [← hY] at k1 k2 k3
 unfold put3 at hY
 rw [← hY]
 clear hY g1 g2 hK d1 d2 hW0 hk1
 obtain ⟨⟨c0,c1,c2⟩,f1⟩:=k1
 obtain ⟨⟨c3,c4,c5⟩,f2⟩:=k2
 go_region_held (fun u => Kept w u ∧ u.cell? ⟨w.heap.size,0,none⟩ = some (.int .i64 s) ∧ u.cell? ⟨w.heap.size,1,none⟩ = some (.int .i64 t) ∧ u.cell? ⟨w.heap.size,2,none⟩ = some (.int .i64 P)) (first | exact ⟨k3.drew,c0,c1,c2⟩ | assumption | exact keep3d k3 (by simp) (by simp) ⟨c0,c1,c2⟩ _ _ _) (first | (go_at_call 243; refine (HF.out _).mono ?_; rintro e w1 ⟨rfl,rfl⟩))
 go_wp2
 exact bodyPost_ret (v:=.tuple #[.int .i64 r,.agg #[.int .i64 s,.int .i64 t,.int .i64 P],.int .i64 0]) (by simp [results,Tryz.results183,go_sem, *]) rfl ⟨rfl,(keep3d k3 (by simp) (by simp) ⟨c0,c1,c2⟩ _ _ _).1⟩
end Go.Proofs.YtelbefihigkhjaaGreatDoor
