/-  -/
import Derived.Test.YtaglkncdedeipaaGreatDoorWt15
import Derived.Test.YtaglkncdedeipaaGreatDoorWt11
import Derived.Test.YtaglkncdedeipaaGreatDoorWt09
import Derived.Test.YtaglkncdedeipaaGreatDoorWt05
import Derived.Test.YtaglkncdedeipaaGreatDoorWt04
import Derived.Test.YtaglkncdedeipaaGreatDoorWt10
namespace Go.Proofs.YtaglkncdedeipaaGreatDoor
open Go.ChangeShapes Go.WideShapes Go.ChangeAt Go.RowKit Ieee
set_option linter.unusedVariables false
set_option linter.unusedSimpArgs false
set_option maxHeartbeats 16000000
set_option maxRecDepth 100000
def tC (C:List Int)(f:Nat):List Value:=C.map (Value.int .i64)++[.float .f64 f]
structure TotAt (w:World) (b:Nat) (C:List Int) (f:Nat):Prop where
 blk:w.heap[b]?=some (.cells (tC C f).toArray 103 (0,0))
 len:C.length=71
theorem TotAt.cell {w:World}{b:Nat}{C:List Int}{f:Nat}(h:TotAt w b C f)(i:Nat):w.cell? ⟨b,i,none⟩=(tC C f)[i]?:=by
 simp[World.cell?,h.blk]
theorem TotAt.col {w:World}{b:Nat}{C:List Int}{f:Nat}(h:TotAt w b C f)(k:Nat)(hk:k<71):w.cell? ⟨b,k,none⟩=some (.int .i64 (C.getD k 0)):=by
 have hc:=h.len
 rw[h.cell,tC,List.getElem?_append_left (by simp;omega)]
 simp[List.getElem?_map,List.getElem?_eq_getElem (show k<C.length by omega),qon]
theorem TotAt.inf {w:World}{b:Nat}{C:List Int}{f:Nat}(h:TotAt w b C f):w.cell? ⟨b,71,none⟩=some (.float .f64 f):=by
 rw[h.cell,tC,List.getElem?_append_right (by simp[h.len])]
 simp[h.len]
theorem TotAt.lt {w:World}{b:Nat}{C:List Int}{f:Nat}(h:TotAt w b C f):b<w.heap.size:=qfy h.blk
theorem TotAt.kept {w w':World}{b:Nat}{C:List Int}{f:Nat}(h:TotAt w b C f)(k:Kept w w'):TotAt w' b C f:=⟨(k.below.block b h.lt).trans h.blk,h.len⟩
theorem TotAt.fz {w:World}{b:Nat}{C:List Int}{f:Nat}(h:TotAt w b C f)(i:Nat):w.frozen? ⟨b,i,none⟩=false:=by
 simp[World.frozen?,h.blk]
theorem Ju (w:World)(b i:Nat)(cs:Array Value)(t:TypeId)(v:Value)(h:w.heap[b]?=some (.cells cs t (0,0))):(w.setCell ⟨b,i,none⟩ v).heap[b]?=some (.cells (cs.setIfInBounds i v) t (0,0)):=by
 have hb:b<w.heap.size:=qfy h
 have h':w.heap[b]=.cells cs t (0,0):=by
  have e:=Array.getElem?_eq_getElem hb
  rw[h]at e
  injection e with e
  exact e.symm
 simp[World.setCell,hb,Array.getElem_modify,h']
theorem TotAt.setCol {w:World}{b:Nat}{C:List Int}{f:Nat}(h:TotAt w b C f)(k:Nat)(hk:k<71)(v:Int):TotAt (w.setCell ⟨b,k,none⟩ (.int .i64 v)) b (C.set k v) f:=by
 have hc:=h.len
 refine⟨?_,by simp[hc]⟩
 rw[Ju w b _ _ _ _ h.blk]
 congr 2
 rw[List.setIfInBounds_toArray]
 congr 1
 rw[tC,tC,List.set_append_left _ _ (by simp;omega),List.map_set]
theorem TotAt.setInf {w:World}{b:Nat}{C:List Int}{f:Nat}(h:TotAt w b C f)(g:Nat):TotAt (w.setCell ⟨b,71,none⟩ (.float .f64 g)) b C g:=by
 have hc:=h.len
 refine⟨?_,hc⟩
 rw[Ju w b _ _ _ _ h.blk]
 congr 2
 rw[List.setIfInBounds_toArray]
 congr 1
 rw[tC,tC,List.set_append_right _ _ (by simp[hc])]
 simp[hc]
theorem TotAt.other {w w':World}{b c:Nat}{C:List Int}{f:Nat}(h:TotAt w b C f)(g:Grw c w w')(hne:b≠c):TotAt w' b C f:=by
 exact⟨(g.grown.block b h.lt (by simpa using hne)).trans h.blk,h.len⟩
def T0L:List Int:=List.replicate 71 0
theorem qio:Tryz.zeroCells103.toList=tC T0L 0:=by kernel_rfl
theorem TotAt.new (w:World):TotAt (w.alloc (.cells Tryz.zeroCells103 103)) w.heap.size T0L 0:=by
 refine⟨?_,by simp[T0L]⟩
 rw[←qio]
 simpa using heap_alloc_new w (.cells Tryz.zeroCells103 103)
theorem ql7 (a b c:Value)(w:World):(Instr.index 137 (.agg #[a,b,c]) (.int .i64 0)).run Tryz.prog w=.ok a w:=by
 kernel_rfl
theorem ql8 (a b c:Value)(w:World):(Instr.index 137 (.agg #[a,b,c]) (.int .i64 1)).run Tryz.prog w=.ok b w:=by
 kernel_rfl
theorem ql9 (a b c:Value)(w:World):(Instr.index 137 (.agg #[a,b,c]) (.int .i64 2)).run Tryz.prog w=.ok c w:=by
 kernel_rfl
theorem VW (a:Int)(ha:0≤a∧a<9007199254740992)(s:Nat)(hs:s<30)(M0 M1 M2:Int)(h0:bits .and .i64 (wrap64 (a*2^s)) 1073741823=M0)(h1:bits .and .i64 (a/2^(30-s)) 1073741823=M1)(h2:a/2^(60-s)=M2):(0≤M0∧M0<1073741824)∧(0≤M1∧M1<1073741824)∧(0≤M2∧M2<1073741824):=by
 by_cases hz:a=0
 ·subst hz
  rw[Int.zero_mul,v8]at h0
  rw[Int.zero_ediv]at h1 h2
  rw[xW]at h1
  subst h0 h1 h2
  decide
 ·have:=Yc a ⟨by omega,ha.2⟩ s hs M0 M1 M2 h0 h1 h2
  exact⟨this 0,this 1,this 2⟩
theorem qip (w:World)(b:Nat)(C:List Int)(f:Nat)(hT:TotAt w b C f)(hC:∀k,-1152921504606846976≤C.getD k 0∧C.getD k 0≤1152921504606846976)(x:Nat)(p a ex:Int)(fs s:Nat)(hs:s<30)(hp:ex+1074=30*(fs:Int)+s)(hf:fs+3≤71)(hex:-1074≤ex∧ex≤971)(M0 M1 M2:Int)
  (hb0:0≤M0∧M0<1073741824) (hb1:0≤M1∧M1<1073741824) (hb2:0≤M2∧M2<1073741824) (hM0:bits .and .i64 (wrap64 (a*2^s)) 1073741823=M0) (hM1:bits .and .i64 (a/2^(30-s)) 1073741823=M1) (hM2:a/2^(60-s)=M2)
  (KO:Hid (∀u,Calls Tryz.prog 104 #[.float .f64 x] u fun e w'=>e=.returned (.int .i64 p)∧u=w'))
  (KP:Hid (∀u,Calls Tryz.prog 105 #[.int .i64 p,.int .i64 64] u fun e w'=>e=.returned (.tuple #[.bool false,.int .i64 a,.int .i64 ex,.bool true])∧Kept u w')):
  Calls Tryz.prog 77 #[.pointer (some ⟨b,0,none⟩),.float .f64 x] w fun e w'=>e=.returned (.tuple #[])∧TotAt w' b (((C.set fs (C.getD fs 0+1*M0)).set (fs+1) (C.getD (fs+1) 0+1*M1)).set (fs+2) (C.getD (fs+2) 0+1*M2)) f∧Grw b w w':=by
 have HM:Hid (∀u,Kept w u→TotAt u b C f):=fun u k=>hT.kept k
 have HC:Hid (∀k,-1152921504606846976≤C.getD k 0∧C.getD k 0≤1152921504606846976):=hC
 have hlen:=hT.len
 have q2:IntKind.i64.wrap (ex- -1074)=30*(fs:Int)+s:=by rw[qg];omega
 have q3:(30*(fs:Int)+s).tdiv 30=fs:=by
  rw[Int.tdiv_eq_ediv_of_nonneg (by omega)];omega
 have q4:(30*(fs:Int)+s).tmod 30=s:=by
  rw[Int.tmod_eq_emod_of_nonneg (by omega)];omega
 have q7:IntKind.i64.wrap (30-(s:Int))=30-s:=by rw[qg];omega
 have q8:IntKind.i64.wrap (60-(s:Int))=60-s:=by rw[qg];omega
 have i0:=ql7 (.int .i64 M0) (.int .i64 M1) (.int .i64 M2)
 have i1:=ql8 (.int .i64 M0) (.int .i64 M1) (.int .i64 M2)
 have i2:=ql9 (.int .i64 M0) (.int .i64 M1) (.int .i64 M2)
 have q5:IntKind.i64.wrap (fs:Int)=fs:=by rw[qg];omega
 have fw1:IntKind.i64.wrap ((fs:Int)+1)=(fs:Int)+1:=by rw[qg];omega
 have fw2:IntKind.i64.wrap ((fs:Int)+2)=(fs:Int)+2:=by rw[qg];omega
 have lt0:(fs:Int)<71:=by omega
 have lt1:(fs:Int)+1<71:=by omega
 have lt2:(fs:Int)+2<71:=by omega
 clear hT hC
 go_enter Tryz.func77,Tryz.ntmps77
 go_upto_region 8 with (first|(go_at_call 104;refine(KO.out _).mono ?_;rintro e w1 ⟨rfl,rfl⟩)|(go_at_call 105;refine(KP.out _).mono ?_;rintro e w2 ⟨rfl,k2⟩))
 clear KO KP
 go_region
 (try rw[hM0]);(try rw[hM1]);(try rw[hM2])
 have hm0:=HM.out _ k2.drew
 have gr0:Grw b w w2.drew:=k2.drew.toGrw b
 obtain⟨X0,hX0⟩:∃X,X=w2.drew:=⟨_,rfl⟩
 rw[←hX0]at hm0 gr0
 go_wp2_with fail
 rw[←hX0]
 clear hX0 k2 q2 q3 q4 q7 q8 hM0 hM1 hM2 hp hex HM
 refine wp_loop_rounds 4 ?_
 have g0:=HC.out (fs)
 have cc0:=hm0.col (fs) (by omega)
 have ff0:=hm0.fz
 obtain⟨c0,hc0⟩:∃c,c=C.getD (fs) 0:=⟨_,rfl⟩
 have ec0:(C).getD (fs) 0=c0:=by exact hc0.symm
 rw[ec0]at cc0
 rw[←hc0]at g0
 obtain⟨v0,hv0⟩:∃v,v=c0+1*M0:=⟨_,rfl⟩
 have wv0:wrap64 (c0+M0)=v0:=by rw[hv0];unfold wrap64;omega
 have HV0:Hid (v0=C.getD (fs) 0+1*M0):=by rw[hv0,hc0];exact rfl
 clear hc0 hv0 g0 ec0
 rw[rounds_succ]
 go_upto_region 11 with fail
 go_region
 have hm1:=(hm0.setCol (fs) (by omega) v0).kept (qo0 _).drew
 obtain⟨X1,hX1⟩:∃X,X=(X0.setCell ⟨b,fs,none⟩ (.int .i64 v0)).drew:=⟨_,rfl⟩
 have gr1:Grw b X0 X1:=by rw[hX1];exact((Grw.refl b X0).setCell _ _).drew
 rw[←hX1]at hm1
 go_wp2_with fail
 (try rw[wv0])
 rw[←hX1]
 clear hX1 cc0 ff0 wv0
 have g1:=HC.out (fs+1)
 have cc1:=hm1.col (fs+1) (by omega)
 have ff1:=hm1.fz
 obtain⟨c1,hc1⟩:∃c,c=C.getD (fs+1) 0:=⟨_,rfl⟩
 have ec1:(C.set fs v0).getD (fs+1) 0=c1:=by rw[qL _ _ _ _ (by omega),if_neg (by omega)];exact hc1.symm
 rw[ec1]at cc1
 rw[←hc1]at g1
 obtain⟨v1,hv1⟩:∃v,v=c1+1*M1:=⟨_,rfl⟩
 have wv1:wrap64 (c1+M1)=v1:=by rw[hv1];unfold wrap64;omega
 have HV1:Hid (v1=C.getD (fs+1) 0+1*M1):=by rw[hv1,hc1];exact rfl
 clear hc1 hv1 g1 ec1
 rw[rounds_succ]
 go_upto_region 11 with fail
 go_region
 have hm2:=(hm1.setCol (fs+1) (by omega) v1).kept (qo0 _).drew
 obtain⟨X2,hX2⟩:∃X,X=(X1.setCell ⟨b,fs+1,none⟩ (.int .i64 v1)).drew:=⟨_,rfl⟩
 have gr2:Grw b X1 X2:=by rw[hX2];exact((Grw.refl b X1).setCell _ _).drew
 rw[←hX2]at hm2
 go_wp2_with fail
 (try rw[wv1])
 rw[←hX2]
 clear hX2 cc1 ff1 wv1
 have g2:=HC.out (fs+2)
 have cc2:=hm2.col (fs+2) (by omega)
 have ff2:=hm2.fz
 obtain⟨c2,hc2⟩:∃c,c=C.getD (fs+2) 0:=⟨_,rfl⟩
 have ec2:((C.set fs v0).set (fs+1) v1).getD (fs+2) 0=c2:=by rw[qL _ _ _ _ (by simp;omega),if_neg (by omega),qL _ _ _ _ (by omega),if_neg (by omega)];exact hc2.symm
 rw[ec2]at cc2
 rw[←hc2]at g2
 obtain⟨v2,hv2⟩:∃v,v=c2+1*M2:=⟨_,rfl⟩
 have wv2:wrap64 (c2+M2)=v2:=by rw[hv2];unfold wrap64;omega
 have HV2:Hid (v2=C.getD (fs+2) 0+1*M2):=by rw[hv2,hc2];exact rfl
 clear hc2 hv2 g2 ec2
 rw[rounds_succ]
 go_upto_region 11 with fail
 go_region
 have hm3:=(hm2.setCol (fs+2) (by omega) v2).kept (qo0 _).drew
 obtain⟨X3,hX3⟩:∃X,X=(X2.setCell ⟨b,fs+2,none⟩ (.int .i64 v2)).drew:=⟨_,rfl⟩
 have gr3:Grw b X2 X3:=by rw[hX3];exact((Grw.refl b X2).setCell _ _).drew
 rw[←hX3]at hm3
 go_wp2_with fail
 (try rw[wv2])
 rw[←hX3]
 clear hX3 cc2 ff2 wv2
 rw[rounds_succ]
 go_wp2_with fail
 rw[HV0.out,HV1.out,HV2.out]at hm3
 exact bodyPost_end (v:=.tuple #[]) (by simp[results,Tryz.results77,go_sem]) rfl ⟨rfl,hm3,((gr0.trans gr1).trans gr2).trans gr3⟩
theorem qiq (w:World)(b:Nat)(C:List Int)(f:Nat)(hT:TotAt w b C f)(hC:∀k,-1152921504606846976≤C.getD k 0∧C.getD k 0≤1152921504606846976)(x:Nat)(p a ex:Int)(fs s:Nat)(hs:s<30)(hp:ex+1074=30*(fs:Int)+s)(hf:fs+3≤71)(hex:-1074≤ex∧ex≤971)(M0 M1 M2:Int)
  (hb0:0≤M0∧M0<1073741824) (hb1:0≤M1∧M1<1073741824) (hb2:0≤M2∧M2<1073741824) (hM0:bits .and .i64 (wrap64 (a*2^s)) 1073741823=M0) (hM1:bits .and .i64 (a/2^(30-s)) 1073741823=M1) (hM2:a/2^(60-s)=M2)
  (KO:Hid (∀u,Calls Tryz.prog 104 #[.float .f64 x] u fun e w'=>e=.returned (.int .i64 p)∧u=w'))
  (KP:Hid (∀u,Calls Tryz.prog 105 #[.int .i64 p,.int .i64 64] u fun e w'=>e=.returned (.tuple #[.bool true,.int .i64 a,.int .i64 ex,.bool true])∧Kept u w')):
  Calls Tryz.prog 77 #[.pointer (some ⟨b,0,none⟩),.float .f64 x] w fun e w'=>e=.returned (.tuple #[])∧TotAt w' b (((C.set fs (C.getD fs 0+-1*M0)).set (fs+1) (C.getD (fs+1) 0+-1*M1)).set (fs+2) (C.getD (fs+2) 0+-1*M2)) f∧Grw b w w':=by
 have HM:Hid (∀u,Kept w u→TotAt u b C f):=fun u k=>hT.kept k
 have HC:Hid (∀k,-1152921504606846976≤C.getD k 0∧C.getD k 0≤1152921504606846976):=hC
 have hlen:=hT.len
 have q2:IntKind.i64.wrap (ex- -1074)=30*(fs:Int)+s:=by rw[qg];omega
 have q3:(30*(fs:Int)+s).tdiv 30=fs:=by
  rw[Int.tdiv_eq_ediv_of_nonneg (by omega)];omega
 have q4:(30*(fs:Int)+s).tmod 30=s:=by
  rw[Int.tmod_eq_emod_of_nonneg (by omega)];omega
 have q7:IntKind.i64.wrap (30-(s:Int))=30-s:=by rw[qg];omega
 have q8:IntKind.i64.wrap (60-(s:Int))=60-s:=by rw[qg];omega
 have i0:=ql7 (.int .i64 M0) (.int .i64 M1) (.int .i64 M2)
 have i1:=ql8 (.int .i64 M0) (.int .i64 M1) (.int .i64 M2)
 have i2:=ql9 (.int .i64 M0) (.int .i64 M1) (.int .i64 M2)
 have q5:IntKind.i64.wrap (fs:Int)=fs:=by rw[qg];omega
 have fw1:IntKind.i64.wrap ((fs:Int)+1)=(fs:Int)+1:=by rw[qg];omega
 have fw2:IntKind.i64.wrap ((fs:Int)+2)=(fs:Int)+2:=by rw[qg];omega
 have lt0:(fs:Int)<71:=by omega
 have lt1:(fs:Int)+1<71:=by omega
 have lt2:(fs:Int)+2<71:=by omega
 clear hT hC
 go_enter Tryz.func77,Tryz.ntmps77
 go_upto_region 8 with (first|(go_at_call 104;refine(KO.out _).mono ?_;rintro e w1 ⟨rfl,rfl⟩)|(go_at_call 105;refine(KP.out _).mono ?_;rintro e w2 ⟨rfl,k2⟩))
 clear KO KP
 go_region
 (try rw[hM0]);(try rw[hM1]);(try rw[hM2])
 have hm0:=HM.out _ k2.drew
 have gr0:Grw b w w2.drew:=k2.drew.toGrw b
 obtain⟨X0,hX0⟩:∃X,X=w2.drew:=⟨_,rfl⟩
 rw[←hX0]at hm0 gr0
 go_wp2_with fail
 rw[←hX0]
 clear hX0 k2 q2 q3 q4 q7 q8 hM0 hM1 hM2 hp hex HM
 refine wp_loop_rounds 4 ?_
 have g0:=HC.out (fs)
 have cc0:=hm0.col (fs) (by omega)
 have ff0:=hm0.fz
 obtain⟨c0,hc0⟩:∃c,c=C.getD (fs) 0:=⟨_,rfl⟩
 have ec0:(C).getD (fs) 0=c0:=by exact hc0.symm
 rw[ec0]at cc0
 rw[←hc0]at g0
 obtain⟨v0,hv0⟩:∃v,v=c0+-1*M0:=⟨_,rfl⟩
 have wv0:wrap64 (c0+-M0)=v0:=by rw[hv0];unfold wrap64;omega
 have HV0:Hid (v0=C.getD (fs) 0+-1*M0):=by rw[hv0,hc0];exact rfl
 clear hc0 hv0 g0 ec0
 rw[rounds_succ]
 go_upto_region 11 with fail
 go_region
 have hm1:=(hm0.setCol (fs) (by omega) v0).kept (qo0 _).drew
 obtain⟨X1,hX1⟩:∃X,X=(X0.setCell ⟨b,fs,none⟩ (.int .i64 v0)).drew:=⟨_,rfl⟩
 have gr1:Grw b X0 X1:=by rw[hX1];exact((Grw.refl b X0).setCell _ _).drew
 rw[←hX1]at hm1
 go_wp2_with fail
 (try rw[wv0])
 rw[←hX1]
 clear hX1 cc0 ff0 wv0
 have g1:=HC.out (fs+1)
 have cc1:=hm1.col (fs+1) (by omega)
 have ff1:=hm1.fz
 obtain⟨c1,hc1⟩:∃c,c=C.getD (fs+1) 0:=⟨_,rfl⟩
 have ec1:(C.set fs v0).getD (fs+1) 0=c1:=by rw[qL _ _ _ _ (by omega),if_neg (by omega)];exact hc1.symm
 rw[ec1]at cc1
 rw[←hc1]at g1
 obtain⟨v1,hv1⟩:∃v,v=c1+-1*M1:=⟨_,rfl⟩
 have wv1:wrap64 (c1+-M1)=v1:=by rw[hv1];unfold wrap64;omega
 have HV1:Hid (v1=C.getD (fs+1) 0+-1*M1):=by rw[hv1,hc1];exact rfl
 clear hc1 hv1 g1 ec1
 rw[rounds_succ]
 go_upto_region 11 with fail
 go_region
 have hm2:=(hm1.setCol (fs+1) (by omega) v1).kept (qo0 _).drew
 obtain⟨X2,hX2⟩:∃X,X=(X1.setCell ⟨b,fs+1,none⟩ (.int .i64 v1)).drew:=⟨_,rfl⟩
 have gr2:Grw b X1 X2:=by rw[hX2];exact((Grw.refl b X1).setCell _ _).drew
 rw[←hX2]at hm2
 go_wp2_with fail
 (try rw[wv1])
 rw[←hX2]
 clear hX2 cc1 ff1 wv1
 have g2:=HC.out (fs+2)
 have cc2:=hm2.col (fs+2) (by omega)
 have ff2:=hm2.fz
 obtain⟨c2,hc2⟩:∃c,c=C.getD (fs+2) 0:=⟨_,rfl⟩
 have ec2:((C.set fs v0).set (fs+1) v1).getD (fs+2) 0=c2:=by rw[qL _ _ _ _ (by simp;omega),if_neg (by omega),qL _ _ _ _ (by omega),if_neg (by omega)];exact hc2.symm
 rw[ec2]at cc2
 rw[←hc2]at g2
 obtain⟨v2,hv2⟩:∃v,v=c2+-1*M2:=⟨_,rfl⟩
 have wv2:wrap64 (c2+-M2)=v2:=by rw[hv2];unfold wrap64;omega
 have HV2:Hid (v2=C.getD (fs+2) 0+-1*M2):=by rw[hv2,hc2];exact rfl
 clear hc2 hv2 g2 ec2
 rw[rounds_succ]
 go_upto_region 11 with fail
 go_region
 have hm3:=(hm2.setCol (fs+2) (by omega) v2).kept (qo0 _).drew
 obtain⟨X3,hX3⟩:∃X,X=(X2.setCell ⟨b,fs+2,none⟩ (.int .i64 v2)).drew:=⟨_,rfl⟩
 have gr3:Grw b X2 X3:=by rw[hX3];exact((Grw.refl b X2).setCell _ _).drew
 rw[←hX3]at hm3
 go_wp2_with fail
 (try rw[wv2])
 rw[←hX3]
 clear hX3 cc2 ff2 wv2
 rw[rounds_succ]
 go_wp2_with fail
 rw[HV0.out,HV1.out,HV2.out]at hm3
 exact bodyPost_end (v:=.tuple #[]) (by simp[results,Tryz.results77,go_sem]) rfl ⟨rfl,hm3,((gr0.trans gr1).trans gr2).trans gr3⟩
end Go.Proofs.YtaglkncdedeipaaGreatDoor
namespace Go.Proofs.YtaglkncdedeipaaGreatDoor
open Go.ChangeShapes Go.WideShapes Go.ChangeAt Go.RowKit
set_option linter.unusedVariables false
set_option linter.unusedSimpArgs false
set_option maxHeartbeats 16000000
set_option maxRecDepth 100000
def cbn (n:Int):Nat:=if n=64 then 4503599627370496 else 8388608
theorem Zt (n:Int)(hn:n=64∨n=32):cbn n=2^((qM n).toNat-1)∧2≤(qM n).toNat:=by
 rcases hn with rfl|rfl<;>decide
theorem XF (n:Int)(hn:n=64∨n=32)(r s:Nat)(h:r<s):rv (cbn n) r<rv (cbn n) s:=by
 rcases hn with rfl|rfl
 ·have:=zU FloatKind.f64.format h
  unfold qF at this
  rw[qmd]at this
  exact this
 ·have:=zU FloatKind.f32.format h
  unfold qF at this
  rw[qdu]at this
  exact this
theorem qh6 (n:Int)(hn:n=64∨n=32)(r s:Nat)(h:r≤s):rv (cbn n) r≤rv (cbn n) s:=by
 rcases Nat.lt_or_ge r s with hl|hg
 ·exact Nat.le_of_lt (XF n hn r s hl)
 ·rw[show r=s by omega]
  exact qoo _
def unN (n:Int)(r:Nm):Int:=unz (qM n).toNat (qk n) (bl (nv r.mag)) r.exp
def kpN (n:Int)(r:Nm):Nat:=flo (nv r.mag) (r.exp-unN n r)
def flN (n:Int)(r:Nm):Nat:=(unN n r-qk n).toNat*cbn n+kpN n r
def odN (n:Int)(r:Nm):Bool:=decide (kpN n r%2=1)
def hfN (n:Int)(r:Nm):Bool:=decide (flo (nv r.mag) (r.exp-unN n r+1)%2=1)
def rtN (n:Int)(r:Nm):Bool:=rst (nv r.mag) (r.exp-unN n r+1)
def mgN (n way:Int)(r:Nm):Nat:=if r.mag=[]then 0 else mgz way r.neg (ifn n) (flN n r) (odN n r) (hfN n r) (rtN n r)
def oxN (n way:Int)(r:Nm):Bool:=if r.mag=[]then false else odz way r.neg (ifn n) (flN n r) (odN n r) (hfN n r) (rtN n r)
def kyN (n way:Int)(r:Nm):Int:=if r.neg=true then -(mgN n way r:Int)else (mgN n way r:Int)
def rzN (n way:Int)(r:Nm):Int:=pz n (kyN n way r)
theorem QX (r:Nm)(hv:vld r=true)(hne:r.mag≠[]):nv r.mag≠0:=by
 obtain⟨n,L,x⟩:=r
 exact Nat.pos_iff_ne_zero.1 (jB n L x hne hv)
theorem qkz (n:Int)(hn:n=64∨n=32)(r:Nm)(hv:vld r=true)(hne:r.mag≠[])(s:Int)(hs:s≤r.exp)(hl:s<qk n):Cutz (cbn n) (2^(qk n-s).toNat) (vz s r).natAbs (kpN n r) (2^(unN n r-s).toNat) (2^(unN n r-1-s).toNat) (flN n r) (odN n r) (hfN n r) (rtN n r):=by
 have h0:=QX r hv hne
 obtain⟨b1,b2,b3⟩:=qO (nv r.mag) h0
 obtain⟨c1,c2⟩:=Zt n hn
 rw[jo]
 exact qlv (qM n).toNat (cbn n) (qk n) (nv r.mag) (bl (nv r.mag)) r.exp s c2 c1 b1 b2 b3 hs hl (unN n r) rfl (kpN n r) (flN n r) rfl rfl
theorem qmz (n way:Int)(r:Nm):mgN n way r≤ifn n:=by
 unfold mgN
 split
 ·omega
 ·exact Yb _ _ _ _ _ _ _
theorem xd (n way:Int)(r:Nm):-(ifn n:Int)≤kyN n way r∧kyN n way r≤(ifn n:Int):=by
 have:=qmz n way r
 unfold kyN
 split<;>omega
theorem jb (s:Int)(r:Nm)(hv:vld r=true):(r.neg=true→vz s r<0)∧(r.neg=false→0≤vz s r)∧(r.mag=[]→r.neg=false∧vz s r=0):=by
 by_cases hne:r.mag=[]
 ·obtain⟨n,L,x⟩:=r
  simp only at hne
  subst hne
  have hn:n=false:=by
   simp only[vld,if_pos,Bool.and_eq_true]at hv
   simpa using hv.1
  subst hn
  rw[zM]
  simp
 ·have h0:=QX r hv hne
  have hp:=qoj (r.exp-s).toNat
  have hm:0<nv r.mag*2^(r.exp-s).toNat:=Nat.mul_pos (by omega) hp
  have ha:=jo s r
  refine⟨fun h=>?_,fun h=>?_,fun h=>absurd h hne⟩
  ·unfold vz sg
   rw[h,if_pos rfl]
   have:((nv r.mag:Int)*2^(r.exp-s).toNat)=((nv r.mag*2^(r.exp-s).toNat:Nat):Int):=by push_cast;rfl
   omega
  ·unfold vz sg
   rw[h,if_neg (by decide)]
   have:((nv r.mag:Int)*2^(r.exp-s).toNat)=((nv r.mag*2^(r.exp-s).toNat:Nat):Int):=by push_cast;rfl
   omega
theorem Kg (n way:Int)(hn:n=64∨n=32)(s:Int)(hl:s<qk n)(a b:Nm)(ha:vld a=true)(hb:vld b=true)(ga:a.mag≠[]→s≤a.exp)(gb:b.mag≠[]→s≤b.exp)(hs:a.neg=b.neg)(h:(vz s a).natAbs≤(vz s b).natAbs):mgN n way a≤mgN n way b:=by
 unfold mgN
 by_cases h1:a.mag=[]
 ·rw[if_pos h1];omega
 ·rw[if_neg h1]
  by_cases h2:b.mag=[]
  ·have hz:=((jb s b hb).2.2 h2).2
   have h0:=QX a ha h1
   have hm:0<nv a.mag*2^(a.exp-s).toNat:=Nat.mul_pos (by omega) (qoj _)
   rw[←jo]at hm
   rw[hz]at h
   simp at h
   omega
  ·rw[if_neg h2,hs]
   exact qlx way b.neg (ifn n) (qkz n hn a ha h1 s (ga h1) hl) (qkz n hn b hb h2 s (gb h2) hl) (qh6 n hn) h
theorem qh7 (n way:Int)(hn:n=64∨n=32)(s:Int)(hl:s<qk n)(a b:Nm)(ha:vld a=true)(hb:vld b=true)(ga:a.mag≠[]→s≤a.exp)(gb:b.mag≠[]→s≤b.exp)(h:vz s a≤vz s b):kyN n way a≤kyN n way b:=by
 obtain⟨a1,a2,a3⟩:=jb s a ha
 obtain⟨b1,b2,b3⟩:=jb s b hb
 unfold kyN
 cases ea:a.neg
 ·cases eb:b.neg
  ·have:=a2 ea
   have:=b2 eb
   have:=Kg n way hn s hl a b ha hb ga gb (by rw[ea,eb]) (by omega)
   simp only[Bool.false_eq_true,if_false]
   omega
  ·have:=a2 ea
   have:=b1 eb
   omega
 ·cases eb:b.neg
  ·simp only[Bool.false_eq_true,if_false,if_true]
   omega
  ·have:=a1 ea
   have:=b1 eb
   have:=Kg n way hn s hl b a hb ha gb ga (by rw[ea,eb]) (by omega)
   simp only[if_true]
   omega
def ngv (r:Nm):Nm:=if r.mag=[]then ⟨false,[],0⟩else ng r
theorem qc9 (n way:Int)(hw:way=0∨way=1∨way=2)(r:Nm)(hv:vld r=true):kyN n (mir way) (ngv r)=-kyN n way r∧oxN n (mir way) (ngv r)=oxN n way r:=by
 by_cases h:r.mag=[]
 ·have hn:=((jb 0 r hv).2.2 h).1
  simp[ngv,h,kyN,oxN,mgN,hn]
 ·have hg:ngv r=ng r:=by simp[ngv,h]
  have h1:(ng r).mag=r.mag:=rfl
  have h2:(ng r).exp=r.exp:=rfl
  have h3:(ng r).neg=!r.neg:=rfl
  have e1:unN n (ng r)=unN n r:=by unfold unN;rw[h1,h2]
  have e2:kpN n (ng r)=kpN n r:=by unfold kpN;rw[h1,h2,e1]
  have e3:flN n (ng r)=flN n r:=by unfold flN;rw[e1,e2]
  have e4:odN n (ng r)=odN n r:=by unfold odN;rw[e2]
  have e5:hfN n (ng r)=hfN n r:=by unfold hfN;rw[h1,h2,e1]
  have e6:rtN n (ng r)=rtN n r:=by unfold rtN;rw[h1,h2,e1]
  rw[hg]
  unfold kyN oxN mgN
  rw[h1,h3,e3,e4,e5,e6]
  simp only[if_neg h]
  obtain⟨m1,m2⟩:=yY way hw r.neg (ifn n) (flN n r) (odN n r) (hfN n r) (rtN n r)
  rw[m1,m2]
  cases r.neg<;>simp
def kvz (n s k:Int):Int:=if k<0 then -((rv (cbn n) k.natAbs*2^(qk n-s).toNat:Nat):Int)else ((rv (cbn n) k.natAbs*2^(qk n-s).toNat:Nat):Int)
structure Nbr (n s Z d u e:Int) (o:Bool):Prop where
 same:o=false→u=d∧e=d∧Z=kvz n s d∧-(ifn n:Int)<d∧d<(ifn n:Int)
 next:o=true→u=d+1∧(e=d∨e=u)∧d<(ifn n:Int)∧-(ifn n:Int)<u∧(-(ifn n:Int)<d→kvz n s d<Z)∧(u<(ifn n:Int)→Z<kvz n s u)
 near:o=true→-(ifn n:Int)<d→u<(ifn n:Int)→(Z-kvz n s d<kvz n s u-Z→e=d)∧(kvz n s u-Z<Z-kvz n s d→e=u)∧(Z-kvz n s d=kvz n s u-Z→e%2=0)
theorem qda (n:Int):0<ifn n:=by unfold ifn;split<;>decide
theorem jX (n s:Int)(k:Nat):kvz n s (k:Int)=((rv (cbn n) k*2^(qk n-s).toNat:Nat):Int):=by
 unfold kvz
 rw[if_neg (by omega),Int.natAbs_natCast]
theorem xR (n s:Int)(k:Nat):kvz n s (-(k:Int))=-((rv (cbn n) k*2^(qk n-s).toNat:Nat):Int):=by
 unfold kvz
 rw[Int.natAbs_neg,Int.natAbs_natCast]
 by_cases h:k=0
 ·subst h
  have:rv (cbn n) 0=0:=by
   unfold rv cbn
   split<;>split<;>simp_all
  rw[this]
  simp
 ·rw[if_pos (by omega)]
theorem qob (n:Int)(hn:n=64∨n=32)(r:Nm)(hv:vld r=true)(s:Int)(hs:r.mag≠[]→s≤r.exp)(hl:s<qk n):Nbr n s (vz s r) (kyN n 1 r) (kyN n 2 r) (kyN n 0 r) (oxN n 1 r)∧oxN n 2 r=oxN n 1 r∧oxN n 0 r=oxN n 1 r:=by
 obtain⟨s1,s2,s3⟩:=jb s r hv
 have hip:=qda n
 by_cases h:r.mag=[]
 ·obtain⟨e1,e2⟩:=s3 h
  have hk:∀way,kyN n way r=0:=fun way=>by simp[kyN,mgN,h,e1]
  have ho:∀way,oxN n way r=false:=fun way=>by simp[oxN,h]
  rw[hk,hk,hk,ho,ho,ho,e2]
  refine⟨⟨fun _=>⟨rfl,rfl,?_,by omega,by omega⟩,fun hh=>(by cases hh),fun hh=>(by cases hh)⟩,rfl,rfl⟩
  have:=xR n s 0
  have h2:=jX n s 0
  rw[show(-((0:Nat):Int))=((0:Nat):Int) by rfl]at this
  rw[show(0:Int)=((0:Nat):Int) by rfl]
  omega
 ·have hC:=qkz n hn r hv h s (hs h) hl
  obtain⟨B,o1,o2⟩:=hC.btw (ifn n) hip (qh6 n hn) (XF n hn) (qoj _) r.neg
  obtain⟨N1,N2,N3⟩:=B
  have hox:∀way,oxN n way r=odz way r.neg (ifn n) (flN n r) (odN n r) (hfN n r) (rtN n r):=fun way=>by simp[oxN,h]
  have hmg:∀way,mgN n way r=mgz way r.neg (ifn n) (flN n r) (odN n r) (hfN n r) (rtN n r):=fun way=>by simp[mgN,h]
  rw[hox,hox,hox]
  unfold kyN
  rw[hmg,hmg,hmg]
  cases hng:r.neg
  ·rw[hng]at N1 N2 N3 o2
   have hZ:vz s r=((vz s r).natAbs:Int):=by have:=s2 hng;omega
   simp only[Bool.false_eq_true,if_false]
   rw[o1,o2]
   generalize (vz s r).natAbs=V at *
   generalize mgz 1 false (ifn n) (flN n r) (odN n r) (hfN n r) (rtN n r)=lo at *
   generalize mgz 2 false (ifn n) (flN n r) (odN n r) (hfN n r) (rtN n r)=hi at *
   generalize mgz 0 false (ifn n) (flN n r) (odN n r) (hfN n r) (rtN n r)=ne at *
   generalize odz 1 false (ifn n) (flN n r) (odN n r) (hfN n r) (rtN n r)=o at *
   rw[hZ]
   refine⟨⟨fun ho=>?_,fun ho=>?_,fun ho h1 h2=>?_⟩,rfl,rfl⟩
   ·have:=N1 ho
    rw[jX]
    omega
   ·have:=N2 ho
    rw[jX,jX]
    omega
   ·have:=N3 ho (by omega)
    have:=N2 ho
    rw[jX,jX]
    omega
  ·obtain⟨m1,m2⟩:=yY 1 (by omega) false (ifn n) (flN n r) (odN n r) (hfN n r) (rtN n r)
   obtain⟨m3,m4⟩:=yY 2 (by omega) false (ifn n) (flN n r) (odN n r) (hfN n r) (rtN n r)
   rw[show mir 1=2 by decide,show(!false)=true by rfl]at m1 m2
   rw[show mir 2=1 by decide,show(!false)=true by rfl]at m3 m4
   rw[hng]at N1 N2 N3 o2
   have hZ:vz s r=-((vz s r).natAbs:Int):=by have:=s1 hng;omega
   simp only[if_true]
   rw[m1,m3,m2,m4,o1,o2]
   generalize (vz s r).natAbs=V at *
   generalize mgz 1 false (ifn n) (flN n r) (odN n r) (hfN n r) (rtN n r)=lo at *
   generalize mgz 2 false (ifn n) (flN n r) (odN n r) (hfN n r) (rtN n r)=hi at *
   generalize mgz 0 true (ifn n) (flN n r) (odN n r) (hfN n r) (rtN n r)=ne at *
   generalize odz 1 false (ifn n) (flN n r) (odN n r) (hfN n r) (rtN n r)=o at *
   rw[hZ]
   refine⟨⟨fun ho=>?_,fun ho=>?_,fun ho h1 h2=>?_⟩,rfl,rfl⟩
   ·obtain⟨t1,t2,t3,t4⟩:=N1 ho
    subst t2
    rw[xR]
    omega
   ·have:=N2 ho
    rw[xR,xR]
    omega
   ·have:=N3 ho (by omega)
    have:=N2 ho
    rw[xR,xR]
    omega
theorem qm0 (n k:Int)(hn:n=64∨n=32)(h1:-(ifn n:Int)<k)(h2:k<(ifn n:Int))(s:Int)(hs:s< -1074)(hs2:-2000≤s):Lies s 5000 (ofN (pz n k) n)∧vz s (ofN (pz n k) n)=kvz n s k:=by
 have hc:=(qch n k hn (by omega) (by omega)).2 ⟨h1,h2⟩
 have hf:=Jg (pz n k) n hn hc
 obtain⟨f1,f2,f3,f4,f5,f6⟩:=Je (pz n k) n hn hc
 obtain⟨g1,g2⟩:=Jf (pz n k) n hn hc
 have hng:=qjh n k hn h1 h2
 obtain⟨c,hcc⟩:∃c,c=if n=64 then (4503599627370496:Int)else 8388608:=⟨_,rfl⟩
 obtain⟨l,hll⟩:∃l,l=if n=64 then (-1074:Int)else -149:=⟨_,rfl⟩
 obtain⟨r,hr⟩:∃r,r=if k<0 then -k else k:=⟨_,rfl⟩
 obtain⟨q1,q2⟩:=qji n k hn h1 h2 c hcc l hll r hr
 have hkl:qk n=l:=by rw[hll];rfl
 have hcb:(cbn n:Int)=c:=by rw[hcc];unfold cbn;split<;>rfl
 have hra:r=(k.natAbs:Int):=by rw[hr];split<;>omega
 have hval:(qI (pz n k) n).toNat*2^(qK (pz n k) n-s).toNat=rv (cbn n) k.natAbs*2^(qk n-s).toNat:=by
  unfold rv
  by_cases hb:r<c
  ·rw[if_pos hb]at q1 q2
   rw[if_pos (by omega),q1,q2,hkl,hra,Int.toNat_natCast]
  ·rw[if_neg hb]at q1 q2
   have hcp:0<cbn n:=by unfold cbn;split<;>decide
   rw[if_neg (by omega),q1,q2,hkl,qop,←qol]
   have hmod:(c+r%c).toNat=cbn n+k.natAbs%cbn n:=by
    rw[←hcb,hra,←Int.natCast_emod,←Int.natCast_add,Int.toNat_natCast]
   have hdiv:r/c=((k.natAbs/cbn n:Nat):Int):=by rw[←hcb,hra,Int.natCast_ediv]
   have hge:1≤k.natAbs/cbn n:=by
    rw[Nat.le_div_iff_mul_le hcp];omega
   rw[hmod]
   congr 2
   rw[hdiv]
   omega
 rw[qdb]at hf
 have hsh:=jA (sg (zv (pz n k) n) ((qI (pz n k) n).toNat:Int)) (qK (pz n k) n-s).toNat s
 rw[show s+((qK (pz n k) n-s).toNat:Int)=qK (pz n k) n by omega]at hsh
 rw[←hsh]at hf
 have hz:sg (zv (pz n k) n) ((qI (pz n k) n).toNat:Int)*2^(qK (pz n k) n-s).toNat=kvz n s k:=by
  unfold kvz sg
  rw[hng]
  by_cases hk:k<0
  ·rw[qos hk,if_pos rfl,if_pos hk,←hval,Int.neg_mul]
   push_cast
   rfl
  ·rw[qot hk,if_neg (by decide),if_neg hk,←hval]
   push_cast
   rfl
 rw[hz]at hf
 obtain⟨B,hB⟩:∃B:Nat,B=5000:=⟨_,rfl⟩
 rw[←hB]
 have hlt:(kvz n s k).natAbs<2^B:=by
  have:(kvz n s k).natAbs=(qI (pz n k) n).toNat*2^(qK (pz n k) n-s).toNat:=by
   rw[hval];unfold kvz;split<;>omega
  rw[this]
  calc (qI (pz n k) n).toNat*2^(qK (pz n k) n-s).toNat<2^53*2^(qK (pz n k) n-s).toNat:=Nat.mul_lt_mul_of_pos_right (qok (Z0 _) (qom (by decide) g2)) (qoj _)
   _=2^(53+(qK (pz n k) n-s).toNat):=by rw[qol]
   _≤2^B:=qom (by decide) (by omega)
 obtain⟨r',hr1,hr2,hr3⟩:=xC s B (by omega) (by omega) (by omega) (kvz n s k) hlt
 rw[hr1]at hf
 injection hf with hf
 rw[←hf]
 exact⟨hr2,hr3⟩
end Go.Proofs.YtaglkncdedeipaaGreatDoor
namespace Go.Proofs.YtaglkncdedeipaaGreatDoor
open Go.ChangeShapes Go.WideShapes Go.ChangeAt Go.RowKit Ieee
set_option linter.unusedVariables false
set_option linter.unusedSimpArgs false
set_option maxHeartbeats 16000000
set_option maxRecDepth 100000
def zw (x:Nat):Int:=sg (zv (qw x) 64) (qI (qw x) 64*2^(qK (qw x) 64+1074).toNat)
theorem qlb (w:World)(b:Nat)(C:List Int)(f:Nat)(hT:TotAt w b C f)(x:Nat)(p:Int)(ng:Bool)(a ex:Int)
  (KO:Hid (∀u,Calls Tryz.prog 104 #[.float .f64 x] u fun e w'=>e=.returned (.int .i64 p)∧u=w'))
  (KP:Hid (∀u,Calls Tryz.prog 105 #[.int .i64 p,.int .i64 64] u fun e w'=>e=.returned (.tuple #[.bool ng,.int .i64 a,.int .i64 ex,.bool false])∧Kept u w')):
  Calls Tryz.prog 77 #[.pointer (some ⟨b,0,none⟩),.float .f64 x] w fun e w'=>e=.returned (.tuple #[])∧TotAt w' b C x∧Grw b w w':=by
 have HM:Hid (∀u,Kept w u→TotAt u b C f):=fun u k=>hT.kept k
 have hSF:=jx
 clear hT
 go_enter Tryz.func77,Tryz.ntmps77
 go_wp2_with (first|(go_at_call 104;refine(KO.out _).mono ?_;rintro e w1 ⟨rfl,rfl⟩)|(go_at_call 105;refine(KP.out _).mono ?_;rintro e w2 ⟨rfl,k2⟩;have hi:=(HM.out _ k2).inf;have hf:=(HM.out _ k2).fz 71))
 exact qoz (v:=.tuple #[]) (by simp[results,Tryz.results77,go_sem]) rfl ⟨rfl,(HM.out _ k2).setInf x,(k2.toGrw b).setCell _ _⟩
theorem vD (p:Int)(hc:cls p 64<3):0≤qI p 64∧qI p 64<9007199254740992∧-1074≤qK p 64∧qK p 64≤971:=by
 obtain⟨h1,h2,h3,h4,-⟩:=ql4 p hc
 exact⟨h1,h2,h3,h4⟩
structure Clm (C C':List Int) (V:Int):Prop where
 len:C'.length=71
 val:cv C'=cv C+V
 near:∀k,-1073741824≤C'.getD k 0-C.getD k 0∧C'.getD k 0-C.getD k 0≤1073741824
theorem KZ (C:List Int)(hl:C.length=71)(fs:Nat)(hf:fs+3≤71)(S M0 M1 M2:Int)(hS:S=1∨S=-1)(hb0:0≤M0∧M0<1073741824)(hb1:0≤M1∧M1<1073741824)(hb2:0≤M2∧M2<1073741824):Clm C (((C.set fs (C.getD fs 0+S*M0)).set (fs+1) (C.getD (fs+1) 0+S*M1)).set (fs+2) (C.getD (fs+2) 0+S*M2)) (S*ws M0 M1 M2 3*2^(30*fs)):=by
 have g1:(C.set fs (C.getD fs 0+S*M0)).getD (fs+1) 0=C.getD (fs+1) 0:=by rw[qL _ _ _ _ (by omega),if_neg (by omega)]
 have g2:((C.set fs (C.getD fs 0+S*M0)).set (fs+1) (C.getD (fs+1) 0+S*M1)).getD (fs+2) 0=C.getD (fs+2) 0:=by rw[qL _ _ _ _ (by simp;omega),if_neg (by omega),qL _ _ _ _ (by omega),if_neg (by omega)]
 refine⟨by simp[hl],?_,fun k=>?_⟩
 ·rw[Jm _ _ (by simp;omega),Jm _ _ (by simp;omega),Jm _ _ (by omega),g1,g2]
  have e1:(2:Int)^(30*(fs+1))=1073741824*2^(30*fs):=by rw[show 30*(fs+1)=30+30*fs by omega,Int.pow_add];rfl
  have e2:(2:Int)^(30*(fs+2))=1152921504606846976*2^(30*fs):=by rw[show 30*(fs+2)=60+30*fs by omega,Int.pow_add];rfl
  rw[e1,e2]
  show _=cv C+S*(M0+M1*1073741824+M2*1152921504606846976)*2^(30*fs)
  generalize (2:Int)^(30*fs)=Q
  rw[show C.getD fs 0+S*M0-C.getD fs 0=S*M0 by omega,show C.getD (fs+1) 0+S*M1-C.getD (fs+1) 0=S*M1 by omega,show C.getD (fs+2) 0+S*M2-C.getD (fs+2) 0=S*M2 by omega]
  simp only[Int.mul_add,Int.add_mul,Int.mul_assoc,Int.mul_comm,Int.mul_left_comm]
  omega
 ·have m0:-1073741824≤S*M0∧S*M0≤1073741824:=by rcases hS with rfl|rfl<;>omega
  have m1:-1073741824≤S*M1∧S*M1≤1073741824:=by rcases hS with rfl|rfl<;>omega
  have m2:-1073741824≤S*M2∧S*M2≤1073741824:=by rcases hS with rfl|rfl<;>omega
  rw[qL _ _ _ _ (by simp;omega),qL _ _ _ _ (by simp;omega),qL _ _ _ _ (by omega)]
  by_cases h2:fs+2=k
  ·rw[if_pos h2,←h2];omega
  ·rw[if_neg h2]
   by_cases h1:fs+1=k
   ·rw[if_pos h1,←h1];omega
   ·rw[if_neg h1]
    by_cases h0:fs=k
    ·rw[if_pos h0,←h0];omega
    ·rw[if_neg h0];omega
theorem Qt (w:World)(b:Nat)(C:List Int)(f:Nat)(hT:TotAt w b C f)(hC:∀k,-1152921504606846976≤C.getD k 0∧C.getD k 0≤1152921504606846976)(x:Nat)(q:Int)(hx:Fl 64 x q):
  Calls Tryz.prog 77 #[.pointer (some ⟨b,0,none⟩),.float .f64 x] w fun e w'=>e=.returned (.tuple #[])∧(∃C',Clm C C' (if q=(ifn 64:Int)∨q=-(ifn 64:Int)then 0 else zw x)∧TotAt w' b C' (if q=(ifn 64:Int)∨q=-(ifn 64:Int)then x else f))∧Grw b w w':=by
 obtain⟨q',hq',hK,o1,o2,o3,o4,o5,o6⟩:=hx.wide
 have hqq:q'=q:=by
  have h1:=hx.ord hx
  obtain⟨c,c1,c2,c3,c4⟩:=hx
  have e:zn c=x:=by rw[c4];simp[fl]
  have e2:qc (qw x) 64=qc c 64:=by rw[←jS _ o4 o5,←jS _ c2.1 c2.2,o6,e]
  omega
 rw[hqq]at o3
 have KO:Hid (∀u,Calls Tryz.prog 104 #[.float .f64 x] u fun e w'=>e=.returned (.int .i64 (qw x))∧u=w'):=fun u=>yE x u
 have KP:=fun u=>Xn (qw x) 64 o4 o5 u
 have hf:=Qs (qw x) 64 (.inl rfl) o2 ⟨o4,o5⟩
 rw[o3]at hf
 by_cases hi:q=(ifn 64:Int)∨q=-(ifn 64:Int)
 ·simp only[if_pos hi]
  rw[qot (fun h=>h hi)]at hf
  rw[hf]at KP
  refine(qlb w b C f hT x _ _ _ _ KO (fun u=>KP u)).mono ?_
  rintro e w' ⟨rfl,h1,h2⟩
  exact⟨rfl,⟨C,⟨hT.len,by omega,fun k=>by omega⟩,h1⟩,h2⟩
 ·simp only[if_neg hi]
  rw[qos hi]at hf
  rw[hf]at KP
  have hc:cls (qw x) 64<3:=by
   unfold fin at hf
   rw[qor]at hf
   exact hf.2
  obtain⟨p1,p2,p3,p4⟩:=vD _ hc
  obtain⟨fs,hfs⟩:∃fs:Nat,(fs:Int)=(qK (qw x) 64+1074)/30:=⟨((qK (qw x) 64+1074)/30).toNat,by omega⟩
  obtain⟨s,hs⟩:∃s:Nat,(s:Int)=(qK (qw x) 64+1074)%30:=⟨((qK (qw x) 64+1074)%30).toNat,by omega⟩
  have hs30:s<30:=by omega
  have hpe:qK (qw x) 64+1074=30*(fs:Int)+s:=by omega
  have hfl:fs+3≤71:=by omega
  obtain⟨b0,b1,b2⟩:=VW _ ⟨p1,p2⟩ s hs30 _ _ _ rfl rfl rfl
  have hws:=qdy (qI (qw x) 64) s hs30 _ _ _ rfl rfl rfl
  have hz:∀S:Int,S*(qI (qw x) 64*2^s)*2^(30*fs)=S*(qI (qw x) 64*2^(qK (qw x) 64+1074).toNat):=fun S=>by
   rw[show(qK (qw x) 64+1074).toNat=s+30*fs by omega,Int.pow_add]
   simp only[Int.mul_assoc]
  cases hng:zv (qw x) 64
  ·rw[hng]at KP
   refine(qip w b C f hT hC x _ _ _ fs s hs30 hpe hfl ⟨p3,p4⟩ _ _ _ b0 b1 b2 rfl rfl rfl KO (fun u=>KP u)).mono ?_
   rintro e w' ⟨rfl,h1,h2⟩
   have hcl:=KZ C hT.len fs hfl 1 _ _ _ (.inl rfl) b0 b1 b2
   rw[hws,hz]at hcl
   refine⟨rfl,⟨_,?_,h1⟩,h2⟩
   have:zw x=1*(qI (qw x) 64*2^(qK (qw x) 64+1074).toNat):=by unfold zw;rw[hng];simp[sg]
   rw[this]
   exact hcl
  ·rw[hng]at KP
   refine(qiq w b C f hT hC x _ _ _ fs s hs30 hpe hfl ⟨p3,p4⟩ _ _ _ b0 b1 b2 rfl rfl rfl KO (fun u=>KP u)).mono ?_
   rintro e w' ⟨rfl,h1,h2⟩
   have hcl:=KZ C hT.len fs hfl (-1) _ _ _ (.inr rfl) b0 b1 b2
   rw[hws,hz]at hcl
   refine⟨rfl,⟨_,?_,h1⟩,h2⟩
   have:zw x=-1*(qI (qw x) 64*2^(qK (qw x) 64+1074).toNat):=by unfold zw;rw[hng];simp[sg]
   rw[this]
   exact hcl
end Go.Proofs.YtaglkncdedeipaaGreatDoor
namespace Go.Proofs.YtaglkncdedeipaaGreatDoor
open Go.ChangeShapes Go.WideShapes Go.ChangeAt Go.RowKit
set_option linter.unusedVariables false
set_option linter.unusedSimpArgs false
set_option maxHeartbeats 16000000
set_option maxRecDepth 100000
theorem VL (ng:Bool)(h ex kept P Q1:Int)(L L1:Int)(hL:63≤L)(hL2:L≤9000000)(hsr:Op.shift .shr .i64 h .i64 L=pure (.int .i64 kept))(zL:IntKind.i64.wrap (L-1)=L1)(hsl:Op.shift .shl .i64 1 .i64 L1=pure (.int .i64 P))(od hf rt:Bool)(hQ:IntKind.i64.wrap (P-1)=Q1)(c1 c2 c3:Int)(hc1:bits .and .i64 kept 1=c1)(hc2:bits .and .i64 h P=c2)(hc3:bits .and .i64 h Q1=c3)(hod:(c1==1)=od)(hhf:(c2 != 0)=hf)(hrt:(c3 != 0)=rt)(w:World):Calls Tryz.prog 146 #[.agg #[.bool ng,.int .i64 h,.int .i64 ex,.bool false],.int .i64 L] w fun e w'=>e=.returned (.tuple #[.int .i64 kept,.agg #[.bool ng,.bool od,.bool hf,.bool rt]])∧Kept w w':=by
 have hK:Kept w ((w.alloc (.cells #[.bool ng,.int .i64 h,.int .i64 ex,.bool false] 155)).alloc (.cells #[.bool false,.bool false,.bool false,.bool false] 186)):=((qo0 w).alloc _ _).alloc _ _
 go_enter Tryz.func146,Tryz.ntmps146
 go_wp2
 go_quiet (fail)
 go_wp2
 obtain⟨W0,hW0⟩:∃W0,((w.alloc (.cells #[.bool ng,.int .i64 h,.int .i64 ex,.bool false] 155)).alloc (.cells #[.bool false,.bool false,.bool false,.bool false] 186)).drewN nq=W0:=⟨_,rfl⟩
 have q0:W0.cell? ⟨w.heap.size,0,none⟩=some (.bool ng):=by rw[←hW0];simp[go_sem]
 have q1:W0.cell? ⟨w.heap.size,1,none⟩=some (.int .i64 h):=by rw[←hW0];simp[go_sem]
 have q3:W0.cell? ⟨w.heap.size,3,none⟩=some (.bool false):=by rw[←hW0];simp[go_sem]
 have s0:W0.cell? ⟨w.heap.size+1,0,none⟩=some (.bool false):=by rw[←hW0];simp[go_sem]
 have s1:W0.cell? ⟨w.heap.size+1,1,none⟩=some (.bool false):=by rw[←hW0];simp[go_sem]
 have s2:W0.cell? ⟨w.heap.size+1,2,none⟩=some (.bool false):=by rw[←hW0];simp[go_sem]
 have s3:W0.cell? ⟨w.heap.size+1,3,none⟩=some (.bool false):=by rw[←hW0];simp[go_sem]
 have sf:∀o,W0.frozen? ⟨w.heap.size+1,o,none⟩=false:=fun o=>by rw[←hW0];simp[go_sem]
 have hK0:Kept w W0:=by rw[←hW0];exact hK.drewN nq
 rw[hW0]
 clear hW0 hK
 refine qo1 (S:=fun u=>u.cell? ⟨w.heap.size,0,none⟩=some (.bool ng)∧u.cell? ⟨w.heap.size,1,none⟩=some (.int .i64 h)∧u.cell? ⟨w.heap.size,3,none⟩=some (.bool false)) (by kernel_rfl) ⟨q0,q1,q3⟩ (fun hHeld=>?_)
 refine tk (i:=0) (v:=?_) rfl ?_
 try simp only[zz]
 refine tk (i:=1) (v:=?_) rfl ?_
 try simp only[zz]
 refine tk (i:=2) (v:=?_) rfl ?_
 try simp only[zz]
 refine tk (i:=3) (v:=?_) rfl ?_
 try simp only[zz]
 refine tk (i:=4) (v:=?_) rfl ?_
 try simp only[zz]
 refine tk (i:=5) (v:=?_) rfl ?_
 try simp only[zz]
 refine tk (i:=6) (v:=?_) rfl ?_
 try simp only[zz]
 refine tk (i:=7) (v:=?_) rfl ?_
 try simp only[zz]
 refine tk (i:=8) (v:=?_) rfl ?_
 try simp only[zz]
 refine tk (i:=9) (v:=?_) rfl ?_
 try simp only[zz]
 refine tk (i:=10) (v:=?_) rfl ?_
 try simp only[zz]
 refine tk (i:=11) (v:=?_) rfl ?_
 try simp only[zz]
 refine tk (i:=12) (v:=?_) rfl ?_
 try simp only[zz]
 refine tk (i:=13) (v:=?_) rfl ?_
 try simp only[zz]
 refine tk (i:=14) (v:=?_) rfl ?_
 try simp only[zz]
 refine tk (i:=15) (v:=?_) rfl ?_
 try simp only[zz]
 refine tk (i:=16) (v:=?_) rfl ?_
 try simp only[zz]
 refine tk (i:=17) (v:=?_) rfl ?_
 try simp only[zz]
 refine tk (i:=18) (v:=?_) rfl ?_
 try simp only[zz]
 refine tk (i:=19) (v:=?_) rfl ?_
 try simp only[zz]
 refine tk (i:=20) (v:=?_) rfl ?_
 try simp only[zz]
 refine tk (i:=21) (v:=?_) rfl ?_
 try simp only[zz]
 refine tk (i:=22) (v:=?_) rfl ?_
 try simp only[zz]
 refine qoy (rs:=[23]) (by kernel_rfl) (by simp) ?_
 refine qow rfl (fun K hK9=>?_) qox
 go_simp
 refine hK9.out _ _ ⟨(kE _ _ _ _ (by omega) _ _ _ _).trans q0,(kE _ _ _ _ (by omega) _ _ _ _).trans q1,(kE _ _ _ _ (by omega) _ _ _ _).trans q3⟩ (fun hHeld3=>?_)
 clear hK9 K hHeld
 refine qo2 (by kernel_rfl) ?_ _
 clear hHeld3
 go_wp2
 refine qoz (v:=.tuple #[.int .i64 kept,.agg #[.bool ng,.bool od,.bool hf,.bool rt]]) (by simp[results,Tryz.results146,go_sem,s0,s1,s2,s3]) rfl ⟨rfl,?_⟩
 first
 |exact(hK0.drew.setCell (by simp) _|>.setCell (by simp) _|>.setCell (by simp) _|>.setCell (by simp) _)
 |exact(hK0.setCell (by simp) _|>.setCell (by simp) _|>.setCell (by simp) _|>.setCell (by simp) _).drew
theorem Y9 (ng:Bool)(h ex kept P Q1:Int)(L L1:Int)(hL:63≤L)(hL2:L≤9000000)(hsr:Op.shift .shr .i64 h .i64 L=pure (.int .i64 kept))(zL:IntKind.i64.wrap (L-1)=L1)(hsl:Op.shift .shl .i64 1 .i64 L1=pure (.int .i64 P))(od hf rt:Bool)(hQ:IntKind.i64.wrap (P-1)=Q1)(c1 c2 c3:Int)(hc1:bits .and .i64 kept 1=c1)(hc2:bits .and .i64 h P=c2)(hc3:bits .and .i64 h Q1=c3)(hod:(c1==1)=od)(hhf:(c2 != 0)=hf)(hrt:rt=true)(w:World):Calls Tryz.prog 146 #[.agg #[.bool ng,.int .i64 h,.int .i64 ex,.bool true],.int .i64 L] w fun e w'=>e=.returned (.tuple #[.int .i64 kept,.agg #[.bool ng,.bool od,.bool hf,.bool rt]])∧Kept w w':=by
 have hK:Kept w ((w.alloc (.cells #[.bool ng,.int .i64 h,.int .i64 ex,.bool true] 155)).alloc (.cells #[.bool false,.bool false,.bool false,.bool false] 186)):=((qo0 w).alloc _ _).alloc _ _
 subst hrt
 go_enter Tryz.func146,Tryz.ntmps146
 go_wp2
 go_quiet (fail)
 go_wp2
 obtain⟨W0,hW0⟩:∃W0,((w.alloc (.cells #[.bool ng,.int .i64 h,.int .i64 ex,.bool true] 155)).alloc (.cells #[.bool false,.bool false,.bool false,.bool false] 186)).drewN nq=W0:=⟨_,rfl⟩
 have q0:W0.cell? ⟨w.heap.size,0,none⟩=some (.bool ng):=by rw[←hW0];simp[go_sem]
 have q1:W0.cell? ⟨w.heap.size,1,none⟩=some (.int .i64 h):=by rw[←hW0];simp[go_sem]
 have q3:W0.cell? ⟨w.heap.size,3,none⟩=some (.bool true):=by rw[←hW0];simp[go_sem]
 have s0:W0.cell? ⟨w.heap.size+1,0,none⟩=some (.bool false):=by rw[←hW0];simp[go_sem]
 have s1:W0.cell? ⟨w.heap.size+1,1,none⟩=some (.bool false):=by rw[←hW0];simp[go_sem]
 have s2:W0.cell? ⟨w.heap.size+1,2,none⟩=some (.bool false):=by rw[←hW0];simp[go_sem]
 have s3:W0.cell? ⟨w.heap.size+1,3,none⟩=some (.bool false):=by rw[←hW0];simp[go_sem]
 have sf:∀o,W0.frozen? ⟨w.heap.size+1,o,none⟩=false:=fun o=>by rw[←hW0];simp[go_sem]
 have hK0:Kept w W0:=by rw[←hW0];exact hK.drewN nq
 rw[hW0]
 clear hW0 hK
 refine qo1 (S:=fun u=>u.cell? ⟨w.heap.size,0,none⟩=some (.bool ng)∧u.cell? ⟨w.heap.size,1,none⟩=some (.int .i64 h)∧u.cell? ⟨w.heap.size,3,none⟩=some (.bool true)) (by kernel_rfl) ⟨q0,q1,q3⟩ (fun hHeld=>?_)
 refine tk (i:=0) (v:=?_) rfl ?_
 try simp only[zz]
 refine tk (i:=1) (v:=?_) rfl ?_
 try simp only[zz]
 refine tk (i:=2) (v:=?_) rfl ?_
 try simp only[zz]
 refine tk (i:=3) (v:=?_) rfl ?_
 try simp only[zz]
 refine tk (i:=4) (v:=?_) rfl ?_
 try simp only[zz]
 refine tk (i:=5) (v:=?_) rfl ?_
 try simp only[zz]
 refine tk (i:=6) (v:=?_) rfl ?_
 try simp only[zz]
 refine tk (i:=7) (v:=?_) rfl ?_
 try simp only[zz]
 refine tk (i:=8) (v:=?_) rfl ?_
 try simp only[zz]
 refine tk (i:=9) (v:=?_) rfl ?_
 try simp only[zz]
 refine tk (i:=10) (v:=?_) rfl ?_
 try simp only[zz]
 refine tk (i:=11) (v:=?_) rfl ?_
 try simp only[zz]
 refine tk (i:=12) (v:=?_) rfl ?_
 try simp only[zz]
 refine tk (i:=13) (v:=?_) rfl ?_
 try simp only[zz]
 refine wpAnyH_take (i:=14) (v:=undef) rfl (by kernel_rfl) (by kernel_rfl) (by kernel_rfl) (fun _ _ _ h=>h) (Or.inr ⟨by rfl,rfl⟩) (by assumption) ?_
 try simp only[zz]
 refine wpAnyH_take (i:=15) (v:=undef) rfl (by kernel_rfl) (by kernel_rfl) (by kernel_rfl) (fun _ _ _ h=>h) (Or.inr ⟨by rfl,rfl⟩) (by assumption) ?_
 try simp only[zz]
 refine wpAnyH_take (i:=16) (v:=undef) rfl (by kernel_rfl) (by kernel_rfl) (by kernel_rfl) (fun _ _ _ h=>h) (Or.inr ⟨by rfl,rfl⟩) (by assumption) ?_
 try simp only[zz]
 refine wpAnyH_take (i:=17) (v:=undef) rfl (by kernel_rfl) (by kernel_rfl) (by kernel_rfl) (fun _ _ _ h=>h) (Or.inr ⟨by rfl,rfl⟩) (by assumption) ?_
 try simp only[zz]
 refine wpAnyH_take (i:=18) (v:=undef) rfl (by kernel_rfl) (by kernel_rfl) (by kernel_rfl) (fun _ _ _ h=>h) (Or.inr ⟨by rfl,rfl⟩) (by assumption) ?_
 try simp only[zz]
 refine wpAnyH_take (i:=19) (v:=undef) rfl (by kernel_rfl) (by kernel_rfl) (by kernel_rfl) (fun _ _ _ h=>h) (Or.inr ⟨by rfl,rfl⟩) (by assumption) ?_
 try simp only[zz]
 refine tk (i:=20) (v:=?_) rfl ?_
 try simp only[zz]
 refine tk (i:=21) (v:=?_) rfl ?_
 try simp only[zz]
 refine tk (i:=22) (v:=?_) rfl ?_
 try simp only[zz]
 refine qoy (rs:=[23]) (by kernel_rfl) (by simp) ?_
 refine qow rfl (fun K hK9=>?_) qox
 go_simp
 refine hK9.out _ _ ⟨(kE _ _ _ _ (by omega) _ _ _ _).trans q0,(kE _ _ _ _ (by omega) _ _ _ _).trans q1,(kE _ _ _ _ (by omega) _ _ _ _).trans q3⟩ (fun hHeld3=>?_)
 clear hK9 K hHeld
 refine qo2 (by kernel_rfl) ?_ _
 clear hHeld3
 go_wp2
 refine qoz (v:=.tuple #[.int .i64 kept,.agg #[.bool ng,.bool od,.bool hf,.bool true]]) (by simp[results,Tryz.results146,go_sem,s0,s1,s2,s3]) rfl ⟨rfl,?_⟩
 first
 |exact(hK0.drew.setCell (by simp) _|>.setCell (by simp) _|>.setCell (by simp) _|>.setCell (by simp) _)
 |exact(hK0.setCell (by simp) _|>.setCell (by simp) _|>.setCell (by simp) _|>.setCell (by simp) _).drew
theorem kH (K:Nat)(hcall:∀a w,(callFunc K #[a]).run Tryz.prog w=.ok (.enter K #[a]) w)(n pr le fi p q:Int)(w:World)
  (KA:Hid (∀u,Calls Tryz.prog K #[.agg #[.bool false,.bool false,.bool true,.bool true]] u fun e w'=>e=.returned (.bool false)∧Kept u w'))
  (KP:Hid (∀u,Calls Tryz.prog 169 #[.int .i64 fi,.int .i64 n] u fun e w'=>e=.returned (.int .i64 p)∧Kept u w'))
  (KN:Hid (∀u,Calls Tryz.prog 170 #[.int .i64 p,.int .i64 n] u fun e w'=>e=.returned (.int .i64 q)∧Kept u w')):
  Calls Tryz.prog 148 #[.agg #[.int .i64 n,.int .i64 pr,.int .i64 le,.int .i64 fi,.func (.func K) #[] #[]],.bool false] w fun e w'=>e=.returned (.int .i64 p)∧Kept w w':=by
 have hK:Kept w (w.alloc (.cells #[.int .i64 n,.int .i64 pr,.int .i64 le,.int .i64 fi,.func (.func K) #[] #[]] 149)):=(qo0 w).alloc _ _
 have Q:Hid (∀u,Kept (w.alloc (.cells #[.int .i64 n,.int .i64 pr,.int .i64 le,.int .i64 fi,.func (.func K) #[] #[]] 149)) u→u.cell? ⟨w.heap.size,0,none⟩=some (.int .i64 n)∧u.cell? ⟨w.heap.size,3,none⟩=some (.int .i64 fi)∧u.cell? ⟨w.heap.size,4,none⟩=some (.func (.func K) #[] #[])):=fun u k=>⟨(qh k 0).trans (by simp[go_sem]),(qh k 3).trans (by simp[go_sem]),(qh k 4).trans (by simp[go_sem])⟩
 go_enter Tryz.func148,Tryz.ntmps148
 go_wp2_with fail
 refine(KA.out _).mono ?_
 rintro e w1 ⟨rfl,k1⟩
 obtain⟨p0,p3,p4⟩:=Q.out _ k1
 go_wp2_with fail
 refine(KP.out _).mono ?_
 rintro e w2 ⟨rfl,k2⟩
 obtain⟨q0,q3,q4⟩:=Q.out _ (k1.trans k2)
 go_wp2
 go_ret
 exact⟨rfl,hK.trans (k1.trans k2)⟩
theorem Qn (K:Nat)(hcall:∀a w,(callFunc K #[a]).run Tryz.prog w=.ok (.enter K #[a]) w)(n pr le fi p q:Int)(w:World)
  (KA:Hid (∀u,Calls Tryz.prog K #[.agg #[.bool false,.bool false,.bool true,.bool true]] u fun e w'=>e=.returned (.bool true)∧Kept u w'))
  (KP:Hid (∀u,Calls Tryz.prog 169 #[.int .i64 fi,.int .i64 n] u fun e w'=>e=.returned (.int .i64 p)∧Kept u w'))
  (KN:Hid (∀u,Calls Tryz.prog 170 #[.int .i64 fi,.int .i64 n] u fun e w'=>e=.returned (.int .i64 q)∧Kept u w')):
  Calls Tryz.prog 148 #[.agg #[.int .i64 n,.int .i64 pr,.int .i64 le,.int .i64 fi,.func (.func K) #[] #[]],.bool false] w fun e w'=>e=.returned (.int .i64 fi)∧Kept w w':=by
 have hK:Kept w (w.alloc (.cells #[.int .i64 n,.int .i64 pr,.int .i64 le,.int .i64 fi,.func (.func K) #[] #[]] 149)):=(qo0 w).alloc _ _
 have Q:Hid (∀u,Kept (w.alloc (.cells #[.int .i64 n,.int .i64 pr,.int .i64 le,.int .i64 fi,.func (.func K) #[] #[]] 149)) u→u.cell? ⟨w.heap.size,0,none⟩=some (.int .i64 n)∧u.cell? ⟨w.heap.size,3,none⟩=some (.int .i64 fi)∧u.cell? ⟨w.heap.size,4,none⟩=some (.func (.func K) #[] #[])):=fun u k=>⟨(qh k 0).trans (by simp[go_sem]),(qh k 3).trans (by simp[go_sem]),(qh k 4).trans (by simp[go_sem])⟩
 go_enter Tryz.func148,Tryz.ntmps148
 go_wp2_with fail
 refine(KA.out _).mono ?_
 rintro e w1 ⟨rfl,k1⟩
 obtain⟨p0,p3,p4⟩:=Q.out _ k1
 go_wp2
 go_ret
 exact⟨rfl,hK.trans k1⟩
theorem Qo (K:Nat)(hcall:∀a w,(callFunc K #[a]).run Tryz.prog w=.ok (.enter K #[a]) w)(n pr le fi p q:Int)(w:World)
  (KA:Hid (∀u,Calls Tryz.prog K #[.agg #[.bool true,.bool false,.bool true,.bool true]] u fun e w'=>e=.returned (.bool false)∧Kept u w'))
  (KP:Hid (∀u,Calls Tryz.prog 169 #[.int .i64 fi,.int .i64 n] u fun e w'=>e=.returned (.int .i64 p)∧Kept u w'))
  (KN:Hid (∀u,Calls Tryz.prog 170 #[.int .i64 p,.int .i64 n] u fun e w'=>e=.returned (.int .i64 q)∧Kept u w')):
  Calls Tryz.prog 148 #[.agg #[.int .i64 n,.int .i64 pr,.int .i64 le,.int .i64 fi,.func (.func K) #[] #[]],.bool true] w fun e w'=>e=.returned (.int .i64 q)∧Kept w w':=by
 have hK:Kept w (w.alloc (.cells #[.int .i64 n,.int .i64 pr,.int .i64 le,.int .i64 fi,.func (.func K) #[] #[]] 149)):=(qo0 w).alloc _ _
 have Q:Hid (∀u,Kept (w.alloc (.cells #[.int .i64 n,.int .i64 pr,.int .i64 le,.int .i64 fi,.func (.func K) #[] #[]] 149)) u→u.cell? ⟨w.heap.size,0,none⟩=some (.int .i64 n)∧u.cell? ⟨w.heap.size,3,none⟩=some (.int .i64 fi)∧u.cell? ⟨w.heap.size,4,none⟩=some (.func (.func K) #[] #[])):=fun u k=>⟨(qh k 0).trans (by simp[go_sem]),(qh k 3).trans (by simp[go_sem]),(qh k 4).trans (by simp[go_sem])⟩
 go_enter Tryz.func148,Tryz.ntmps148
 go_wp2_with fail
 refine(KA.out _).mono ?_
 rintro e w1 ⟨rfl,k1⟩
 obtain⟨p0,p3,p4⟩:=Q.out _ k1
 go_wp2_with fail
 refine(KP.out _).mono ?_
 rintro e w2 ⟨rfl,k2⟩
 obtain⟨q0,q3,q4⟩:=Q.out _ (k1.trans k2)
 go_wp2_with fail
 refine(KN.out _).mono ?_
 rintro e w3 ⟨rfl,k3⟩
 go_wp2
 go_ret
 exact⟨rfl,hK.trans ((k1.trans k2).trans k3)⟩
theorem QJ (K:Nat)(hcall:∀a w,(callFunc K #[a]).run Tryz.prog w=.ok (.enter K #[a]) w)(n pr le fi p q:Int)(w:World)
  (KA:Hid (∀u,Calls Tryz.prog K #[.agg #[.bool true,.bool false,.bool true,.bool true]] u fun e w'=>e=.returned (.bool true)∧Kept u w'))
  (KP:Hid (∀u,Calls Tryz.prog 169 #[.int .i64 fi,.int .i64 n] u fun e w'=>e=.returned (.int .i64 p)∧Kept u w'))
  (KN:Hid (∀u,Calls Tryz.prog 170 #[.int .i64 fi,.int .i64 n] u fun e w'=>e=.returned (.int .i64 q)∧Kept u w')):
  Calls Tryz.prog 148 #[.agg #[.int .i64 n,.int .i64 pr,.int .i64 le,.int .i64 fi,.func (.func K) #[] #[]],.bool true] w fun e w'=>e=.returned (.int .i64 q)∧Kept w w':=by
 have hK:Kept w (w.alloc (.cells #[.int .i64 n,.int .i64 pr,.int .i64 le,.int .i64 fi,.func (.func K) #[] #[]] 149)):=(qo0 w).alloc _ _
 have Q:Hid (∀u,Kept (w.alloc (.cells #[.int .i64 n,.int .i64 pr,.int .i64 le,.int .i64 fi,.func (.func K) #[] #[]] 149)) u→u.cell? ⟨w.heap.size,0,none⟩=some (.int .i64 n)∧u.cell? ⟨w.heap.size,3,none⟩=some (.int .i64 fi)∧u.cell? ⟨w.heap.size,4,none⟩=some (.func (.func K) #[] #[])):=fun u k=>⟨(qh k 0).trans (by simp[go_sem]),(qh k 3).trans (by simp[go_sem]),(qh k 4).trans (by simp[go_sem])⟩
 go_enter Tryz.func148,Tryz.ntmps148
 go_wp2_with fail
 refine(KA.out _).mono ?_
 rintro e w1 ⟨rfl,k1⟩
 obtain⟨p0,p3,p4⟩:=Q.out _ k1
 go_wp2_with fail
 refine(KN.out _).mono ?_
 rintro e w3 ⟨rfl,k3⟩
 go_wp2
 go_ret
 exact⟨rfl,hK.trans (k1.trans k3)⟩
end Go.Proofs.YtaglkncdedeipaaGreatDoor
