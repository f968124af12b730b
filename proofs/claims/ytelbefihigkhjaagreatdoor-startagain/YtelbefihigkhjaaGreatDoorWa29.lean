/- Package start: what takes numbers from a draw. What stays where some blocks are turned; package start: the sum of twelve. -/
import Derived.Test.YtelbefihigkhjaaGreatDoorWa27
import Derived.Test.YtelbefihigkhjaaGreatDoorWa28
import Derived.Test.YtelbefihigkhjaaGreatDoorWa08
namespace Go.Proofs.YtelbefihigkhjaaGreatDoor
open Go.ChangeShapes Go.WideShapes Go.ChangeAt Go.RowKit Ieee
set_option maxHeartbeats 16000000
set_option maxRecDepth 100000
set_option linter.unusedVariables false
set_option linter.unusedSimpArgs false
/-- the number at a place of a draw,in parts of which 2^53 make 1 -/
def upt (s t a : Int) : Nat:=wn s t a / 2048
theorem upt_lt (s t a : Int) : upt s t a < 9007199254740992:=by
 unfold upt
 have:=wn_lt s t a
 omega
theorem unif_walk (s t a b : Int) (D r q m : Nat) (w : World) (hD : Dw w D s t a) (hmul : FloatKind.f64.format.mul r 4845873199050653696 = some q) (hcv : floatToIntVal .f64 q .i64 = some (m : Int)) (hp : pat64 (r : Int) = r)
  (KU : Hid (∀ u,Calls Tryz.prog 183 #[.agg #[.int .i64 s,.int .i64 t,.int .i64 a],.int .i64 64] u fun e w' => e = .returned (.tuple #[.int .i64 r,.agg #[.int .i64 s,.int .i64 t,.int .i64 b],.int .i64 0]) ∧ Kept u w')) :
  Calls Tryz.prog 182 #[.pointer (some ⟨D,0,none⟩)] w fun e w' => e = .returned (.int .i64 m) ∧ Dw w' D s t b ∧ Grw D w w':=by
 have KF : Hid (∀ u,Calls Tryz.prog 149 #[.int .i64 r] u fun e w' => e = .returned (.float .f64 r) ∧ u = w'):=fun u => by
  have:=float_any (r : Int) u
  rw [hp] at this
  exact this
 have HM : ∀ (u : World) (ty : TypeId),(binOp .mul ty (.float .f64 r) (.float .f64 4845873199050653696)).run Tryz.prog u = .ok (.float .f64 q) u:=fun u ty => run_float_arith u .mul ty .f64 _ _ _ hmul
 have HV : ∀ u : World,(convert 190 3 (.float .f64 q)).run Tryz.prog u = .ok (.int .i64 m) u:=fun u => run_convert_float_int u 190 3 .f64 .i64 q m (by kernel_rfl) (by kernel_rfl) hcv
 have hDK : Hid (∀ u,Kept w u → Dw u D s t a):=fun u k => hD.kept k
 obtain ⟨⟨c0,c1,c2⟩,cf⟩:=hD
 clear hmul hcv hp
 go_enter Tryz.func182,Tryz.ntmps182
 go_wp2_with fail
 refine (KU.out _).mono ?_
 rintro e w1 ⟨rfl,k1⟩
 have h1:=hDK.out _ k1
 have h2:=h1.put s t b
 clear c0 c1 c2 cf
 obtain ⟨⟨c0,c1,c2⟩,cf⟩:=h1
 go_upto_region 3 with fail
 have g:=(((Kept.toGrw D k1).setCell 0 (.int .i64 s)).setCell 1 (.int .i64 t)).setCell 2 (.int .i64 b)
 unfold put3 at h2
 generalize ((w1.setCell ⟨D,0,none⟩ (.int .i64 s)).setCell ⟨D,1,none⟩ (.int .i64 t)).setCell ⟨D,2,none⟩ (.int .i64 b) = Y at *
 clear c0 c1 c2 cf
 go_wp2_with (first | (go_at_call 149; refine (KF.out _).mono ?_; rintro e w2 ⟨rfl,rfl⟩))
 go_ret
 exact ⟨rfl,h2,g⟩
theorem unif_any (s t a : Int) (h0 : 0 ≤ a) (h1 : a ≤ 1000000000) (D : Nat) (w : World) (hD : Dw w D s t a) : Calls Tryz.prog 182 #[.pointer (some ⟨D,0,none⟩)] w fun e w' => e = .returned (.int .i64 (upt s t a)) ∧ Dw w' D s t (a + 1) ∧ Grw D w w':=by
 obtain ⟨r,q,hr,hm,hq,hc⟩:=part_back (upt s t a) (upt_lt s t a)
 have hw : wrap64 (a + 1) = a + 1:=by unfold wrap64; omega
 refine unif_walk s t a (a + 1) D r q (upt s t a) w hD hq hc ?_ (fun u => ?_)
 ·unfold pat64
  rw [IntKind.wrap_u64]
  omega
 ·have:=uniform_64 s t a r hr hm u
  rw [hw] at this
  exact this
end Go.Proofs.YtelbefihigkhjaaGreatDoor

namespace Go.Proofs.YtelbefihigkhjaaGreatDoor
open Go.ChangeShapes Go.WideShapes Go.ChangeAt Go.RowKit
set_option maxHeartbeats 16000000
set_option maxRecDepth 100000
set_option linter.unusedVariables false
set_option linter.unusedSimpArgs false
/-- All lies as it lay but in the blocks of a list. -/
structure Gs (S : List Nat) (w w' : World) : Prop where
 os : w'.os = w.os
 tape : w'.tape = w.tape
 output : w'.output = w.output
 size : w.heap.size ≤ w'.heap.size
 block : ∀ i,i < w.heap.size → i ∉ S → w'.heap[i]? = w.heap[i]?
 frozen : ∀ a,w'.frozen? a = w.frozen? a
theorem Gs.refl (S : List Nat) (w : World) : Gs S w w:=⟨rfl,rfl,rfl,Nat.le_refl _,fun _ _ _ => rfl,fun _ => rfl⟩
theorem Gs.trans {S : List Nat} {a b c : World} (h : Gs S a b) (k : Gs S b c) : Gs S a c :=
 ⟨k.os.trans h.os,k.tape.trans h.tape,k.output.trans h.output,Nat.le_trans h.size k.size,fun i hi hn => (k.block i (Nat.lt_of_lt_of_le hi h.size) hn).trans (h.block i hi hn),fun x => (k.frozen x).trans (h.frozen x)⟩
theorem Gs.mono {S S' : List Nat} {a b : World} (h : Gs S a b) (hs : ∀ i ∈ S,i ∈ S') : Gs S' a b :=
 ⟨h.os,h.tape,h.output,h.size,fun i hi hn => h.block i hi (fun hm => hn (hs i hm)),h.frozen⟩
theorem Kept.gs {a b : World} (S : List Nat) (h : Kept a b) : Gs S a b:=⟨h.below.os,h.below.tape,h.below.output,h.below.size,fun i hi _ => h.below.block i hi,h.frozen⟩
theorem Grw.gs {g : Nat} {a b : World} (h : Grw g a b) : Gs [g] a b:=⟨h.grown.os,h.grown.tape,h.grown.output,h.grown.size,fun i hi hn => h.grown.block i hi (by simpa using hn),h.frozen⟩
theorem Kept.gsn {S : List Nat} {a b c : World} (h : Kept a b) (hS : ∀ i ∈ S,a.heap.size ≤ i) (k : Gs S b c) : Kept a c :=
 ⟨⟨k.os.trans h.below.os,k.tape.trans h.below.tape,k.output.trans h.below.output,Nat.le_trans h.below.size k.size,fun i hi => (k.block i (Nat.lt_of_lt_of_le hi h.below.size) (fun hm => by have:=hS i hm; omega)).trans (h.below.block i hi)⟩,fun x => (k.frozen x).trans (h.frozen x)⟩
theorem Gs.setCell {S : List Nat} {a b : World} (h : Gs S a b) {p : Addr} (hp : p.block ∈ S ∨ a.heap.size ≤ p.block) (u : Value) : Gs S a (b.setCell p u) :=
 ⟨h.os,h.tape,h.output,by simpa using h.size,fun i hi hn => (Below.heap_setCell b p u i (fun e => by subst e; rcases hp with h1 | h1; exact hn h1; omega)).trans (h.block i hi hn),fun x => (World.frozen?_setCell _ _ _ _).trans (h.frozen x)⟩
theorem Gs.kept {S : List Nat} {a b c : World} (h : Gs S a b) (k : Kept b c) : Gs S a c:=h.trans (k.gs S)
theorem Gs.cell {S : List Nat} {a b : World} (h : Gs S a b) (B o : Nat) (hB : B < a.heap.size) (hn : B ∉ S) : b.cell? ⟨B,o,none⟩ = a.cell? ⟨B,o,none⟩:=by
 have:=h.block B hB hn
 simp only [World.cell?,this]
theorem N3.gs {S : List Nat} {w w' : World} {b : Nat} {u v x : Value} (h : N3 w b u v x) (k : Gs S w w') (hn : b ∉ S) : N3 w' b u v x :=
 ⟨(k.cell b 0 h.lt hn).trans h.c0,(k.cell b 1 h.lt hn).trans h.c1,(k.cell b 2 h.lt hn).trans h.c2,fun o => (k.frozen _).trans (h.fz o)⟩
theorem Dw.gs {S : List Nat} {w w' : World} {b : Nat} {s t a : Int} (h : Dw w b s t a) (k : Gs S w w') (hn : b ∉ S) : Dw w' b s t a :=
 ⟨⟨(k.cell b 0 h.1.lt hn).trans h.1.1,(k.cell b 1 h.1.lt hn).trans h.1.2.1,(k.cell b 2 h.1.lt hn).trans h.1.2.2⟩,fun o => (k.frozen _).trans (h.2 o)⟩
theorem Own.gs {S : List Nat} {w w' : World} {g cap : Nat} {L : List Int} (h : Own w g cap L) (k : Gs S w w') (hn : g ∉ S) : Own w' g cap L:=by
 have hl:=h.lt
 obtain ⟨cur,hg,r⟩:=h
 exact ⟨cur,(k.block g hl hn).trans hg,r⟩
theorem Tab.gs {S : List Nat} {w w' : World} (h : Tab w) (k : Gs S w w') (hS : 2 ∉ S) : Tab w' :=
 ⟨Nat.le_trans h.1 k.size,fun j hj => (k.cell 2 j (by have:=h.1; omega) hS).trans (h.2 j hj)⟩
theorem Tab.own {w : World} (h : Tab w) {g cap : Nat} {L : List Int} (ho : Own w g cap L) (hne : L ≠ []) : g ≠ 2:=fun e => by
 have h1:=h.2 0 (by decide)
 have h2:=ho.cell 0 (List.length_pos_iff.2 hne)
 rw [e,h1] at h2
 cases h2
theorem Tab.lo {w : World} (h : Tab w) : 3 ≤ w.heap.size:=h.1
/-- A number whose digits lie above a block. -/
def NumUp (D : Nat) (w : World) (v : Value) (x : Nm) : Prop :=
 (x = ⟨false,[],0⟩ ∧ v = zeroNum) ∨ ∃ g cap,v = .agg #[.bool x.neg,.slice (some ⟨g,0,none⟩) x.mag.length cap,.int .i64 x.exp] ∧ D < g ∧ Own w g cap x.mag ∧ x.mag ≠ []
theorem New.up {D : Nat} {w0 w : World} {v : Value} {x : Nm} (h : New w0 w v x) (hD : D < w0.heap.size) : NumUp D w v x:=by
 rcases h with h | ⟨g,cap,e,hg,ho,hne⟩
 ·exact .inl h
 ·exact .inr ⟨g,cap,e,by omega,ho,hne⟩
theorem NumUp.numAt {D : Nat} {w : World} {v : Value} {x : Nm} (h : NumUp D w v x) : NumAt w v x:=by
 rcases h with ⟨rfl,rfl⟩ | ⟨g,cap,rfl,hg,ho,hne⟩
 ·exact ⟨_,rfl,none,0,rfl,Nat.le_refl _,by simp [maxLen],fun h => absurd rfl h⟩
 ·exact ⟨_,rfl,ho.sl⟩
theorem NumUp.gs {D : Nat} {S : List Nat} {w w' : World} {v : Value} {x : Nm} (h : NumUp D w v x) (k : Gs S w w') (hS : ∀ i ∈ S,i ≤ D) : NumUp D w' v x:=by
 rcases h with h | ⟨g,cap,e,hg,ho,hne⟩
 ·exact .inl h
 ·exact .inr ⟨g,cap,e,hg,ho.gs k (fun hm => by have:=hS g hm; omega),hne⟩
theorem NumUp.kept {D : Nat} {w w' : World} {v : Value} {x : Nm} (h : NumUp D w v x) (k : Kept w w') : NumUp D w' v x:=h.gs (k.gs []) (fun i hi => by cases hi)
theorem New.low {w0 w1 w : World} {v : Value} {x : Nm} (h : New w1 w v x) (k : w0.heap.size ≤ w1.heap.size) : New w0 w v x:=by
 rcases h with h | ⟨g,cap,e,hg,ho,hne⟩
 ·exact .inl h
 ·exact .inr ⟨g,cap,e,Nat.le_trans k hg,ho,hne⟩
/-- the sum of k numbers of a draw -/
def sup (s t a : Int) : Nat → Int
 | 0 => 0
 | k + 1 => sup s t a k + (upt s t (a + k) : Int)
theorem sup_rng (s t a : Int) (k : Nat) : 0 ≤ sup s t a k ∧ sup s t a k ≤ k * 9007199254740992:=by
 induction k with
 | zero => exact ⟨Int.le_refl _,by simp [sup]⟩
 | succ k ih =>
  have:=upt_lt s t (a + k)
  unfold sup
  omega
theorem normal_any (s t a : Int) (h0 : 0 ≤ a) (h1 : a ≤ 500000000) (D : Nat) (w : World) (hD : Dw w D s t a) : Calls Tryz.prog 110 #[.func (.func 182) #[] #[.pointer (some ⟨D,0,none⟩)]] w fun e w' => e = .returned (.int .i64 (sup s t a 12 - 54043195528445952)) ∧ Dw w' D s t (a + 12) ∧ Gs [D] w w':=by
 have KU : Hid (∀ u b,0 ≤ b → b ≤ 1000000000 → Dw u D s t b → Calls Tryz.prog 182 #[.pointer (some ⟨D,0,none⟩)] u fun e w' => e = .returned (.int .i64 (upt s t b)) ∧ Dw w' D s t (b + 1) ∧ Grw D u w'):=fun u b hb1 hb2 hd => unif_any s t b hb1 hb2 D u hd
 go_enter Tryz.func110,Tryz.ntmps110
 go_wp2_with fail
 go_loopw [3,4] (fun sv i wr => ∃ k : Nat,k ≤ 12 ∧ i = .int .i64 k ∧ sv = .int .i64 (sup s t a k - 54043195528445952) ∧ Dw wr D s t (a + k) ∧ Gs [D] w wr) (fun _ i _ => 12 - (intOf i).toNat)
 case atStart => exact ⟨0,Nat.zero_le _,rfl,rfl,by simpa using hD,Gs.refl _ w⟩
 case round =>
  clear hD
  obtain ⟨k,hk,rfl,rfl,hDr,hG⟩:=hrel
  by_cases hk12 : k < 12
  ·have hr:=sup_rng s t a k
   have hu:=upt_lt s t (a + k)
   have hsum : IntKind.i64.wrap (sup s t a k - 54043195528445952 + (upt s t (a + k) : Int)) = sup s t a (k + 1) - 54043195528445952:=by
    rw [wrap_i64]
    show _ = sup s t a k + (upt s t (a + k) : Int) - 54043195528445952
    omega
   have KU2 : Hid (∀ u,Dw u D s t (a + k) → Calls Tryz.prog 182 #[.pointer (some ⟨D,0,none⟩)] u fun e w' => e = .returned (.int .i64 (upt s t (a + k))) ∧ Dw w' D s t (a + k + 1) ∧ Grw D u w'):=fun u => KU.out u (a + k) (by omega) (by omega)
   have e1 : a + (k : Int) + 1 = a + ((k + 1 : Nat) : Int):=by omega
   rw [e1] at KU2
   clear KU hu hr
   generalize sup s t a k = S0 at *
   obtain ⟨S1,hS1⟩ : ∃ S,S = sup s t a (k + 1):=⟨_,rfl⟩
   rw [← hS1] at hsum
   have hS1 : Hid (S1 = sup s t a (k + 1)):=hS1
   generalize (upt s t (a + k) : Int) = U0 at *
   go_wp2_with (first | (go_at_call 182; refine (KU2.out _ hDr).mono ?_; rintro e w1 ⟨rfl,d1,g1⟩))
   go_roundw
   case rel => exact ⟨k + 1,by omega,by go_num,by rw [← hS1.out,← hsum],d1,hG.trans g1.gs⟩
   case measure => simp [intOf]; omega
  ·obtain rfl : k = 12:=by omega
   go_wp2_with fail
   go_ret
   exact ⟨rfl,hDr,hG⟩
end Go.Proofs.YtelbefihigkhjaaGreatDoor
