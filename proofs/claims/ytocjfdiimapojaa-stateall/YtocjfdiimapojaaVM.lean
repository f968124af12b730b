/- Package state: Read. -/
import Derived.Test.YtocjfdiimapojaaVL
namespace Go.Proofs.Ytocjfdiimapojaa
open Go.ChangeShapes Go.WideShapes Go.ChangeAt Go.RowKit
set_option maxHeartbeats 16000000
set_option maxRecDepth 100000
set_option linter.unusedVariables false
set_option linter.unusedSimpArgs false
abbrev zst : Value:=.agg #[.int .i64 0,.int .i64 0,.int .i64 0,.slice none 0 0,.slice none 0 0,.int .i64 0,.int .i64 0]
abbrev zsl : List Value:=[.int .i64 0,.int .i64 0,.int .i64 0,.slice none 0 0,.slice none 0 0,.int .i64 0,.int .i64 0]
/-- What Read tells. -/
def RdR (H : Nat) (x : Res Sta) (e : Ending) (w' : World) : Prop:=match x with
 | .no er pl => e = .returned (.tuple #[zst,.int .i64 pl,.int .i64 er])
 | .ok s _ => ∃ v,e = .returned (.tuple #[v,.int .i64 0,.int .i64 0]) ∧ StV H w' v s
abbrev readW (w : World) : World:=((w.alloc (.cells #[.int .i64 0,.int .i64 0,.int .i64 0,.slice none 0 0,.slice none 0 0,.int .i64 0,.int .i64 0] 35)).alloc (.cells #[.int .i64 0] 3)).alloc (.cells #[.int .i64 0] 41)
structure RdW (w : World) (M : Nat) (u : World) : Prop where
 k : Kept w u
 m : Bk u M zsl
 a : Bk u (M + 1) [.int .i64 0]
 e : Bk u (M + 2) [.int .i64 0]
theorem RdW.new (w : World) : RdW w w.heap.size (readW w):=by
 have k1:=Bk.new w zsl 35
 have k2:=Bk.new (w.alloc (.cells zsl.toArray 35)) [.int .i64 0] 3
 have k3:=Bk.new ((w.alloc (.cells zsl.toArray 35)).alloc (.cells #[.int .i64 0] 3)) [.int .i64 0] 41
 refine ⟨(((Kept.refl w).alloc _ _).alloc _ _).alloc _ _,(k1.kept ((Kept.refl _).alloc _ _)).kept ((Kept.refl _).alloc _ _),?_,?_⟩
 ·have:=k2.kept ((Kept.refl _).alloc #[.int .i64 0] 41)
  rw [show (w.alloc (.cells zsl.toArray 35)).heap.size = w.heap.size + 1 by simp] at this
  exact this
 ·rw [show ((w.alloc (.cells zsl.toArray 35)).alloc (.cells #[.int .i64 0] 3)).heap.size = w.heap.size + 2 by simp] at k3
  exact k3
theorem RdW.kept {w u u' : World} {M : Nat} (h : RdW w M u) (k : Kept u u') : RdW w M u':=⟨h.k.trans k,h.m.kept k,h.a.kept k,h.e.kept k⟩
theorem kept_of_kx {X : Nat → Prop} {w u u' : World} (h : Kept w u) (k : KX X u u') (hX : ∀ b,X b → w.heap.size ≤ b) : Kept w u' :=
 ⟨⟨k.os.trans h.below.os,k.tape.trans h.below.tape,k.output.trans h.below.output,Nat.le_trans h.below.size k.size,fun i hi => (k.block i (Nat.lt_of_lt_of_le hi h.below.size) (fun hx => by have:=hX i hx; omega)).trans (h.below.block i hi)⟩,fun a => (k.frozen a).trans (h.frozen a)⟩
theorem read_long (ao : Option Addr) (n cap : Nat) (hn : 16777216 < n) (w : World) :
  Calls Try.prog 12 #[.slice ao n cap] w fun e w' => Kept w w' ∧ e = .returned (.tuple #[zst,.int .i64 0,.int .i64 2]):=by
 have hmf : ∀ (fn : Fn) (first cap : Array Value) (w : World),(Instr.makeFunc fn first cap).run Try.prog w = .ok (.func fn first cap) w:=fun _ _ _ _ => rfl
 have hW:=hid (RdW.new w)
 have hM:=hid (rfl : w.heap.size = w.heap.size)
 have hd : decide ((n : Int) ≤ 16777216) = false:=decide_eq_false (by omega)
 clear hn
 go_enter_defers Try.func12,Try.ntmps12
 go_wp2_with (first | (go_at_call 28; refine (want_no _ _ _).mono ?_; rintro e w1 ⟨rfl,hk1⟩))
 have h1:=hW.out.kept hk1
 refine leaves_cons (f:=27) (args:=#[.pointer (some ⟨w.heap.size + 1,0,none⟩),.pointer (some ⟨w.heap.size + 1 + 1,0,none⟩)]) (by simp) (by simp [go_sem]) ?_
 refine (rcatch_up 2 0 [] (w.heap.size + 1) (w.heap.size + 1 + 1) (by omega) 0 0 w1 (h1.a.c 0 _ rfl) (h1.e.c 0 _ rfl) (h1.a.fz 0) (h1.e.fz 0)).mono ?_
 rintro e u' w'' ⟨rfl,rfl,kx,cA,cE⟩
 simp only [settle,List.dropWhile_nil,Leaves]
 have b:=h1.m.kx kx (by omega)
 have d0:=b.c 0 _ rfl
 have d1:=b.c 1 _ rfl
 have d2:=b.c 2 _ rfl
 have d3:=b.c 3 _ rfl
 have d4:=b.c 4 _ rfl
 have d5:=b.c 5 _ rfl
 have d6:=b.c 6 _ rfl
 refine ⟨_,(by simp [results,Try.results12,go_sem,d0,d1,d2,d3,d4,d5,d6,cA,cE]),?_,rfl⟩
 exact kept_of_kx h1.k kx (by omega)
theorem read_in (ao : Option Addr) (cap : Nat) (B : List Int) (hB : Byt B) (hlen : B.length ≤ 16777216) (hlc : B.length ≤ cap) (w : World) (hS : B ≠ [] → ∃ b off,ao = some ⟨b,off,none⟩ ∧ b < w.heap.size ∧ BR w b off B) :
  Calls Try.prog 12 #[.slice ao B.length cap] w fun e w' => Kept w w' ∧ RdR w.heap.size (pall B 0) e w':=by
 have hmf : ∀ (fn : Fn) (first cap : Array Value) (w : World),(Instr.makeFunc fn first cap).run Try.prog w = .ok (.func fn first cap) w:=fun _ _ _ _ => rfl
 have hW:=hid (RdW.new w)
 have hd : decide ((B.length : Int) ≤ 16777216) = true:=decide_eq_true (by omega)
 have HRV : Hid (∀ u,Kept w u → RV (u.alloc (.cells #[.slice ao B.length cap,.int .i64 0] 65)) u.heap.size ao B cap 0):=fun u ku => by
  have hb:=Bk.new u [.slice ao B.length cap,.int .i64 0] 65
  refine ⟨hb.c 0 _ rfl,hb.c 1 _ rfl,hb.fz 1,fun hne => ?_,Nat.zero_le _,hlen,hlc⟩
  obtain ⟨b,off,e,hb2,hr⟩:=hS hne
  refine ⟨b,off,e,Nat.lt_of_lt_of_le hb2 ku.below.size,fun i hi => ?_⟩
  exact ((ku.alloc _ _).below.cell (p:=⟨b,off + i,none⟩) hb2).trans (hr i hi)
 obtain ⟨m,hm⟩ : ∃ m,B.length = m:=⟨_,rfl⟩
 rw [hm] at hd HRV ⊢
 have HM:=hid hm
 clear hm hlen hlc hS
 obtain ⟨X,hX⟩ : ∃ X,pall B 0 = X:=⟨_,rfl⟩
 rw [hX]
 have HX:=hid hX
 clear hX
 go_enter_defers Try.func12,Try.ntmps12
 go_wp2_with (first | (go_at_call 28; refine (want_ok _ _ _).mono ?_; rintro e w1 ⟨rfl,hk1⟩))
 have h1:=hW.out.kept hk1
 have HH1:=hid h1
 have rv:=HRV.out w1 h1.k
 obtain ⟨R,hR⟩ : ∃ R,w1.heap.size = R:=⟨_,rfl⟩
 obtain ⟨W1,hW1⟩ : ∃ W1,w1.alloc (.cells #[.slice ao m cap,.int .i64 0] 65) = W1:=⟨_,rfl⟩
 rw [hW1,hR] at rv
 have k1 : Kept w1 W1:=by rw [← hW1]; exact (Kept.refl w1).alloc _ _
 have hRl : w.heap.size + 2 < R:=by have:=h1.e.lt; omega
 have HRl:=hid hRl
 have HK:=hid (rstate_any 0 cap R ao B W1 (by have:=HM.out; exact rv) hB)
 have h2:=hid (h1.kept k1)
 clear h1 rv k1 hRl hk1 hW HRV
 rcases hx : pall B 0 with ⟨er,pl⟩ | ⟨s,q⟩
 ·rw [hx] at HK
  have hXe : X = .no er pl:=by rw [← HX.out,hx]
  subst hXe
  clear hx
  go_wp2_with fail
  rw [hW1,hR]
  go_at_call 29
  refine HK.out.mono ?_
  intro e w5 h9
  obtain ⟨rfl,g5⟩:=gv_no h9
  go_wp2_with fail
  have h1:=h2.out
  have hRl:=HRl.out
  have bA:=h1.a.kx g5.kx (by omega)
  have bE:=h1.e.kx g5.kx (by omega)
  refine leaves_cons (f:=27) (args:=#[.pointer (some ⟨w.heap.size + 1,0,none⟩),.pointer (some ⟨w.heap.size + 1 + 1,0,none⟩)]) (by simp) (by simp [go_sem]) ?_
  refine (rcatch_up er pl [] (w.heap.size + 1) (w.heap.size + 1 + 1) (by omega) 0 0 w5 (bA.c 0 _ rfl) (bE.c 0 _ rfl) (bA.fz 0) (bE.fz 0)).mono ?_
  rintro e u' w'' ⟨rfl,rfl,kx,cA,cE⟩
  simp only [settle,List.dropWhile_nil,Leaves]
  have b:=(h1.m.kx g5.kx (by omega)).kx kx (by omega)
  have d0:=b.c 0 _ rfl
  have d1:=b.c 1 _ rfl
  have d2:=b.c 2 _ rfl
  have d3:=b.c 3 _ rfl
  have d4:=b.c 4 _ rfl
  have d5:=b.c 5 _ rfl
  have d6:=b.c 6 _ rfl
  refine ⟨_,(by simp [results,Try.results12,go_sem,d0,d1,d2,d3,d4,d5,d6,cA,cE]),?_,rfl⟩
  exact kept_of_kx (kept_of_kx h1.k g5.kx (by omega)) kx (by omega)
 ·rw [hx] at HK
  have hXe : X = .ok s q:=by rw [← HX.out,hx]
  subst hXe
  clear hx
  go_wp2_with fail
  rw [hW1,hR]
  go_at_call 29
  refine HK.out.mono ?_
  intro e w5 h9
  obtain ⟨v,rfl,g5,r5,pv,qv,KB,rfl,hKB,hp,hq⟩:=gv_ok h9
  have HKB:=hid hKB
  clear hKB
  obtain ⟨pa,pc,rfl⟩:=hp.form
  obtain ⟨qa,qc,rfl⟩:=hq.form
  have h1:=h2.out
  have hRl:=HRl.out
  have bA:=h1.a.kx g5.kx (by omega)
  have bE:=h1.e.kx g5.kx (by omega)
  have bM:=h1.m.kx g5.kx (by omega)
  have d0:=bM.c 0 _ rfl
  have d1:=bM.c 1 _ rfl
  have d2:=bM.c 2 _ rfl
  have d3:=bM.c 3 _ rfl
  have d4:=bM.c 4 _ rfl
  have d5:=bM.c 5 _ rfl
  have d6:=bM.c 6 _ rfl
  have a0:=bA.c 0 _ rfl
  have e0:=bE.c 0 _ rfl
  have fM:=bM.fz
  have fA:=bA.fz 0
  have fE:=bE.fz 0
  have HB:=hid (show Bk w5 w.heap.size zsl ∧ Bk w5 (w.heap.size + 1) [.int .i64 0] ∧ Bk w5 (w.heap.size + 2) [.int .i64 0] ∧ Kept w w5 from ⟨bM,bA,bE,kept_of_kx h1.k g5.kx (by omega)⟩)
  have HP:=hid hp
  have HQ:=hid hq
  have HZ:=hid (show w.heap.size + 3 ≤ W1.heap.size by have:=h1.e.lt; omega)
  clear h9 h1 hRl bA bE bM g5 r5 hp hq h2 HK
  go_wp2_with fail
  obtain ⟨g1,g2,g3,g4⟩:=HB.out
  obtain ⟨Y,hY⟩ : ∃ Y,(((((((((w5.setCell ⟨w.heap.size,0,none⟩ (.int .i64 s.a)).setCell ⟨w.heap.size,1,none⟩ (.int .i64 s.b)).setCell ⟨w.heap.size,2,none⟩ (.int .i64 s.d)).setCell ⟨w.heap.size,3,none⟩ (.slice pa s.P.length pc)).setCell ⟨w.heap.size,4,none⟩ (.slice qa s.Q.length qc)).setCell ⟨w.heap.size,5,none⟩ (.int .i64 s.lo)).setCell ⟨w.heap.size,6,none⟩ (.int .i64 s.ra)).setCell ⟨w.heap.size + 1,0,none⟩ (.int .i64 0)).setCell ⟨w.heap.size + 1 + 1,0,none⟩ (.int .i64 0)) = Y:=⟨_,rfl⟩
  have yM : Bk Y w.heap.size [.int .i64 s.a,.int .i64 s.b,.int .i64 s.d,.slice pa s.P.length pc,.slice qa s.Q.length qc,.int .i64 s.lo,.int .i64 s.ra]:=by
   rw [← hY]
   exact ((((((((g1.set 0 _).set 1 _).set 2 _).set 3 _).set 4 _).set 5 _).set 6 _).far (p:=⟨w.heap.size + 1,0,none⟩) (by show w.heap.size ≠ w.heap.size + 1; omega) _).far (p:=⟨w.heap.size + 1 + 1,0,none⟩) (by show w.heap.size ≠ w.heap.size + 1 + 1; omega) _
  have yA : Bk Y (w.heap.size + 1) [.int .i64 0]:=by
   rw [← hY]
   exact ((((((((g2.far (p:=⟨w.heap.size,0,none⟩) (by show _ ≠ w.heap.size; omega) _).far (p:=⟨w.heap.size,1,none⟩) (by show _ ≠ w.heap.size; omega) _).far (p:=⟨w.heap.size,2,none⟩) (by show _ ≠ w.heap.size; omega) _).far (p:=⟨w.heap.size,3,none⟩) (by show _ ≠ w.heap.size; omega) _).far (p:=⟨w.heap.size,4,none⟩) (by show _ ≠ w.heap.size; omega) _).far (p:=⟨w.heap.size,5,none⟩) (by show _ ≠ w.heap.size; omega) _).far (p:=⟨w.heap.size,6,none⟩) (by show _ ≠ w.heap.size; omega) _).set 0 _).far (p:=⟨w.heap.size + 1 + 1,0,none⟩) (by show w.heap.size + 1 ≠ w.heap.size + 1 + 1; omega) _
  have yE : Bk Y (w.heap.size + 1 + 1) [.int .i64 0]:=by
   rw [← hY]
   exact ((((((((g3.far (p:=⟨w.heap.size,0,none⟩) (by show _ ≠ w.heap.size; omega) _).far (p:=⟨w.heap.size,1,none⟩) (by show _ ≠ w.heap.size; omega) _).far (p:=⟨w.heap.size,2,none⟩) (by show _ ≠ w.heap.size; omega) _).far (p:=⟨w.heap.size,3,none⟩) (by show _ ≠ w.heap.size; omega) _).far (p:=⟨w.heap.size,4,none⟩) (by show _ ≠ w.heap.size; omega) _).far (p:=⟨w.heap.size,5,none⟩) (by show _ ≠ w.heap.size; omega) _).far (p:=⟨w.heap.size,6,none⟩) (by show _ ≠ w.heap.size; omega) _).far (p:=⟨w.heap.size + 1,0,none⟩) (by show w.heap.size + 2 ≠ w.heap.size + 1; omega) _).set 0 _
  have yK : KX (fun b => w.heap.size ≤ b ∧ b ≤ w.heap.size + 2) w5 Y:=by
   rw [← hY]
   exact (((((((((Grw.refl w.heap.size w5).setCell 0 _).setCell 1 _).setCell 2 _).setCell 3 _).setCell 4 _).setCell 5 _).setCell 6 _).kx.mono (Y:=fun b => w.heap.size ≤ b ∧ b ≤ w.heap.size + 2) (fun b hb => by omega)).trans ((((Grw.refl (w.heap.size + 1) _).setCell 0 _).kx.mono (Y:=fun b => w.heap.size ≤ b ∧ b ≤ w.heap.size + 2) (fun b hb => by omega)).trans (((Grw.refl (w.heap.size + 1 + 1) _).setCell 0 _).kx.mono (Y:=fun b => w.heap.size ≤ b ∧ b ≤ w.heap.size + 2) (fun b hb => by omega)))
  rw [hY]
  clear hY
  refine leaves_cons (f:=27) (args:=#[.pointer (some ⟨w.heap.size + 1,0,none⟩),.pointer (some ⟨w.heap.size + 1 + 1,0,none⟩)]) (by simp) (by simp [go_sem]) ?_
  refine (rcatch_idle (w.heap.size + 1) (w.heap.size + 1 + 1) (by omega) 0 0 Y (yA.c 0 _ rfl) (yE.c 0 _ rfl) (yA.fz 0) (yE.fz 0)).mono ?_
  rintro e u' w'' ⟨rfl,rfl,kx,cA,cE⟩
  simp only [settle,Leaves]
  have b:=yM.kx kx (by omega)
  have d0:=b.c 0 _ rfl
  have d1:=b.c 1 _ rfl
  have d2:=b.c 2 _ rfl
  have d3:=b.c 3 _ rfl
  have d4:=b.c 4 _ rfl
  have d5:=b.c 5 _ rfl
  have d6:=b.c 6 _ rfl
  have hz:=HZ.out
  refine ⟨.tuple #[.agg #[.int .i64 s.a,.int .i64 s.b,.int .i64 s.d,.slice pa s.P.length pc,.slice qa s.Q.length qc,.int .i64 s.lo,.int .i64 s.ra],.int .i64 0,.int .i64 0],(by simp [results,Try.results12,go_sem,d0,d1,d2,d3,d4,d5,d6,cA,cE]),?_,_,rfl,_,_,KB,rfl,by have:=HKB.out; omega,?_,?_⟩
  ·exact kept_of_kx (kept_of_kx g4 yK (by omega)) kx (by omega)
  ·exact ((HP.out.kx yK (fun b hb => by omega)).kx kx (fun b hb => by omega)).mono (by omega)
  ·have hkb:=HKB.out
   exact (HQ.out.kx yK (fun b hb => by omega)).kx kx (fun b hb => by omega)
theorem read_any (ao : Option Addr) (cap : Nat) (B : List Int) (hB : Byt B) (hlc : B.length ≤ cap) (w : World) (hS : B ≠ [] → ∃ b off,ao = some ⟨b,off,none⟩ ∧ b < w.heap.size ∧ BR w b off B) :
  Calls Try.prog 12 #[.slice ao B.length cap] w fun e w' => Kept w w' ∧ RdR w.heap.size (rread B) e w':=by
 unfold rread
 by_cases h : B.length ≤ 16777216
 ·rw [if_pos h]
  exact read_in ao cap B hB h hlc w hS
 ·rw [if_neg h]
  refine (read_long ao B.length cap (by omega) w).mono ?_
  rintro e w' ⟨k,rfl⟩
  exact ⟨k,rfl⟩
end Go.Proofs.Ytocjfdiimapojaa
