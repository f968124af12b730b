/-  -/
import Derived.Test.YtaglkncdedeipaaGreatDoorWs07
import Derived.Test.YtaglkncdedeipaaGreatDoorWs13
import Derived.Test.YtaglkncdedeipaaGreatDoorWs11
import Derived.BigRegion
namespace Go.Proofs.YtaglkncdedeipaaGreatDoor
open Go.ChangeShapes Go.WideShapes Go.ChangeAt Go.RowKit Ieee
set_option linter.unusedVariables false
set_option linter.unusedSimpArgs false
set_option maxHeartbeats 16000000
set_option maxRecDepth 100000
def tC (C:List Int)(f:Nat):List Value:=C.map (Value.int .i64)++[.float .f64 f]
structure TotAt (w:World) (b:Nat) (C:List Int) (f:Nat):Prop where
 blk:w.heap[b]?=some (.cells (tC C f).toArray 103 (0,0))
 len:C.length=71
theorem TotAt.cell {w:World}{b:Nat}{C:List Int}{f:Nat}(h:TotAt w b C f)(i:Nat):w.cell? ⟨b,i,none⟩=(tC C f)[i]?:=by
 simp[World.cell?,h.blk]
theorem TotAt.col {w:World}{b:Nat}{C:List Int}{f:Nat}(h:TotAt w b C f)(k:Nat)(hk:k<71):w.cell? ⟨b,k,none⟩=some (.int .i64 (C.getD k 0)):=by
 have hc:=h.len
 rw[h.cell,tC,List.getElem?_append_left (by simp;omega)]
 simp[List.getElem?_map,List.getElem?_eq_getElem (show k<C.length by omega),qhx]
theorem TotAt.inf {w:World}{b:Nat}{C:List Int}{f:Nat}(h:TotAt w b C f):w.cell? ⟨b,71,none⟩=some (.float .f64 f):=by
 rw[h.cell,tC,List.getElem?_append_right (by simp[h.len])]
 simp[h.len]
theorem TotAt.lt {w:World}{b:Nat}{C:List Int}{f:Nat}(h:TotAt w b C f):b<w.heap.size:=Ko h.blk
theorem TotAt.kept {w w':World}{b:Nat}{C:List Int}{f:Nat}(h:TotAt w b C f)(k:Kept w w'):TotAt w' b C f:=⟨(k.below.block b h.lt).trans h.blk,h.len⟩
theorem TotAt.fz {w:World}{b:Nat}{C:List Int}{f:Nat}(h:TotAt w b C f)(i:Nat):w.frozen? ⟨b,i,none⟩=false:=by
 simp[World.frozen?,h.blk]
theorem km (w:World)(b i:Nat)(cs:Array Value)(t:TypeId)(v:Value)(h:w.heap[b]?=some (.cells cs t (0,0))):(w.setCell ⟨b,i,none⟩ v).heap[b]?=some (.cells (cs.setIfInBounds i v) t (0,0)):=by
 have hb:b<w.heap.size:=Ko h
 have h':w.heap[b]=.cells cs t (0,0):=by
  have e:=Array.getElem?_eq_getElem hb
  rw[h]at e
  injection e with e
  exact e.symm
 simp[World.setCell,hb,Array.getElem_modify,h']
theorem TotAt.setCol {w:World}{b:Nat}{C:List Int}{f:Nat}(h:TotAt w b C f)(k:Nat)(hk:k<71)(v:Int):TotAt (w.setCell ⟨b,k,none⟩ (.int .i64 v)) b (C.set k v) f:=by
 have hc:=h.len
 refine⟨?_,by simp[hc]⟩
 rw[km w b _ _ _ _ h.blk]
 congr 2
 rw[List.setIfInBounds_toArray]
 congr 1
 rw[tC,tC,List.set_append_left _ _ (by simp;omega),List.map_set]
theorem TotAt.setInf {w:World}{b:Nat}{C:List Int}{f:Nat}(h:TotAt w b C f)(g:Nat):TotAt (w.setCell ⟨b,71,none⟩ (.float .f64 g)) b C g:=by
 have hc:=h.len
 refine⟨?_,hc⟩
 rw[km w b _ _ _ _ h.blk]
 congr 2
 rw[List.setIfInBounds_toArray]
 congr 1
 rw[tC,tC,List.set_append_right _ _ (by simp[hc])]
 simp[hc]
theorem TotAt.other {w w':World}{b c:Nat}{C:List Int}{f:Nat}(h:TotAt w b C f)(g:Grw c w w')(hne:b≠c):TotAt w' b C f:=by
 exact⟨(g.grown.block b h.lt (by simpa using hne)).trans h.blk,h.len⟩
def T0L:List Int:=List.replicate 71 0
theorem qb2:Tryz.zeroCells103.toList=tC T0L 0:=by kernel_rfl
theorem TotAt.new (w:World):TotAt (w.alloc (.cells Tryz.zeroCells103 103)) w.heap.size T0L 0:=by
 refine⟨?_,by simp[T0L]⟩
 rw[←qb2]
 simpa using heap_alloc_new w (.cells Tryz.zeroCells103 103)
theorem qfk (a b c:Value)(w:World):(Instr.index 137 (.agg #[a,b,c]) (.int .i64 0)).run Tryz.prog w=.ok a w:=by
 kernel_rfl
theorem qfl (a b c:Value)(w:World):(Instr.index 137 (.agg #[a,b,c]) (.int .i64 1)).run Tryz.prog w=.ok b w:=by
 kernel_rfl
theorem qfm (a b c:Value)(w:World):(Instr.index 137 (.agg #[a,b,c]) (.int .i64 2)).run Tryz.prog w=.ok c w:=by
 kernel_rfl
theorem ZM (a:Int)(ha:0≤a∧a<9007199254740992)(s:Nat)(hs:s<30)(M0 M1 M2:Int)(h0:bits .and .i64 (wrap64 (a*2^s)) 1073741823=M0)(h1:bits .and .i64 (a/2^(30-s)) 1073741823=M1)(h2:a/2^(60-s)=M2):(0≤M0∧M0<1073741824)∧(0≤M1∧M1<1073741824)∧(0≤M2∧M2<1073741824):=by
 by_cases hz:a=0
 ·subst hz
  rw[Int.zero_mul,j9]at h0
  rw[Int.zero_ediv]at h1 h2
  rw[jR]at h1
  subst h0 h1 h2
  decide
 ·have:=ZZ a ⟨by omega,ha.2⟩ s hs M0 M1 M2 h0 h1 h2
  exact⟨this 0,this 1,this 2⟩
theorem qb3 (w:World)(b:Nat)(C:List Int)(f:Nat)(hT:TotAt w b C f)(hC:∀k,-1152921504606846976≤C.getD k 0∧C.getD k 0≤1152921504606846976)(x:Nat)(p a ex:Int)(fs s:Nat)(hs:s<30)(hp:ex+1074=30*(fs:Int)+s)(hf:fs+3≤71)(hex:-1074≤ex∧ex≤971)(M0 M1 M2:Int)
  (hb0:0≤M0∧M0<1073741824) (hb1:0≤M1∧M1<1073741824) (hb2:0≤M2∧M2<1073741824) (hM0:bits .and .i64 (wrap64 (a*2^s)) 1073741823=M0) (hM1:bits .and .i64 (a/2^(30-s)) 1073741823=M1) (hM2:a/2^(60-s)=M2)
  (KO:Hid (∀u,Calls Tryz.prog 104 #[.float .f64 x] u fun e w'=>e=.returned (.int .i64 p)∧u=w'))
  (KP:Hid (∀u,Calls Tryz.prog 105 #[.int .i64 p,.int .i64 64] u fun e w'=>e=.returned (.tuple #[.bool false,.int .i64 a,.int .i64 ex,.bool true])∧Kept u w')):
  Calls Tryz.prog 77 #[.pointer (some ⟨b,0,none⟩),.float .f64 x] w fun e w'=>e=.returned (.tuple #[])∧TotAt w' b (((C.set fs (C.getD fs 0+1*M0)).set (fs+1) (C.getD (fs+1) 0+1*M1)).set (fs+2) (C.getD (fs+2) 0+1*M2)) f∧Grw b w w':=by
 have HM:Hid (∀u,Kept w u→TotAt u b C f):=fun u k=>hT.kept k
 have HC:Hid (∀k,-1152921504606846976≤C.getD k 0∧C.getD k 0≤1152921504606846976):=hC
 have hlen:=hT.len
 have q2:IntKind.i64.wrap (ex- -1074)=30*(fs:Int)+s:=by rw[qc];omega
 have q3:(30*(fs:Int)+s).tdiv 30=fs:=by
  rw[Int.tdiv_eq_ediv_of_nonneg (by omega)];omega
 have q4:(30*(fs:Int)+s).tmod 30=s:=by
  rw[Int.tmod_eq_emod_of_nonneg (by omega)];omega
 have q7:IntKind.i64.wrap (30-(s:Int))=30-s:=by rw[qc];omega
 have q8:IntKind.i64.wrap (60-(s:Int))=60-s:=by rw[qc];omega
 have i0:=qfk (.int .i64 M0) (.int .i64 M1) (.int .i64 M2)
 have i1:=qfl (.int .i64 M0) (.int .i64 M1) (.int .i64 M2)
 have i2:=qfm (.int .i64 M0) (.int .i64 M1) (.int .i64 M2)
 have q5:IntKind.i64.wrap (fs:Int)=fs:=by rw[qc];omega
 have fw1:IntKind.i64.wrap ((fs:Int)+1)=(fs:Int)+1:=by rw[qc];omega
 have fw2:IntKind.i64.wrap ((fs:Int)+2)=(fs:Int)+2:=by rw[qc];omega
 have lt0:(fs:Int)<71:=by omega
 have lt1:(fs:Int)+1<71:=by omega
 have lt2:(fs:Int)+2<71:=by omega
 clear hT hC
 go_enter Tryz.func77,Tryz.ntmps77
 go_upto_region 8 with (first|(go_at_call 104;refine(KO.out _).mono ?_;rintro e w1 ⟨rfl,rfl⟩)|(go_at_call 105;refine(KP.out _).mono ?_;rintro e w2 ⟨rfl,k2⟩))
 clear KO KP
 go_region
 (try rw[hM0]);(try rw[hM1]);(try rw[hM2])
 have hm0:=HM.out _ k2.drew
 have gr0:Grw b w w2.drew:=k2.drew.toGrw b
 obtain⟨X0,hX0⟩:∃X,X=w2.drew:=⟨_,rfl⟩
 rw[←hX0]at hm0 gr0
 go_wp2_with fail
 rw[←hX0]
 clear hX0 k2 q2 q3 q4 q7 q8 hM0 hM1 hM2 hp hex HM
 refine wp_loop_rounds 4 ?_
 have g0:=HC.out (fs)
 have cc0:=hm0.col (fs) (by omega)
 have ff0:=hm0.fz
 obtain⟨c0,hc0⟩:∃c,c=C.getD (fs) 0:=⟨_,rfl⟩
 have ec0:(C).getD (fs) 0=c0:=by exact hc0.symm
 rw[ec0]at cc0
 rw[←hc0]at g0
 obtain⟨v0,hv0⟩:∃v,v=c0+1*M0:=⟨_,rfl⟩
 have wv0:wrap64 (c0+M0)=v0:=by rw[hv0];unfold wrap64;omega
 have HV0:Hid (v0=C.getD (fs) 0+1*M0):=by rw[hv0,hc0];exact rfl
 clear hc0 hv0 g0 ec0
 rw[rounds_succ]
 go_upto_region 11 with fail
 go_region
 have hm1:=(hm0.setCol (fs) (by omega) v0).kept (qia _).drew
 obtain⟨X1,hX1⟩:∃X,X=(X0.setCell ⟨b,fs,none⟩ (.int .i64 v0)).drew:=⟨_,rfl⟩
 have gr1:Grw b X0 X1:=by rw[hX1];exact((Grw.refl b X0).setCell _ _).drew
 rw[←hX1]at hm1
 go_wp2_with fail
 (try rw[wv0])
 rw[←hX1]
 clear hX1 cc0 ff0 wv0
 have g1:=HC.out (fs+1)
 have cc1:=hm1.col (fs+1) (by omega)
 have ff1:=hm1.fz
 obtain⟨c1,hc1⟩:∃c,c=C.getD (fs+1) 0:=⟨_,rfl⟩
 have ec1:(C.set fs v0).getD (fs+1) 0=c1:=by rw[qB _ _ _ _ (by omega),if_neg (by omega)];exact hc1.symm
 rw[ec1]at cc1
 rw[←hc1]at g1
 obtain⟨v1,hv1⟩:∃v,v=c1+1*M1:=⟨_,rfl⟩
 have wv1:wrap64 (c1+M1)=v1:=by rw[hv1];unfold wrap64;omega
 have HV1:Hid (v1=C.getD (fs+1) 0+1*M1):=by rw[hv1,hc1];exact rfl
 clear hc1 hv1 g1 ec1
 rw[rounds_succ]
 go_upto_region 11 with fail
 go_region
 have hm2:=(hm1.setCol (fs+1) (by omega) v1).kept (qia _).drew
 obtain⟨X2,hX2⟩:∃X,X=(X1.setCell ⟨b,fs+1,none⟩ (.int .i64 v1)).drew:=⟨_,rfl⟩
 have gr2:Grw b X1 X2:=by rw[hX2];exact((Grw.refl b X1).setCell _ _).drew
 rw[←hX2]at hm2
 go_wp2_with fail
 (try rw[wv1])
 rw[←hX2]
 clear hX2 cc1 ff1 wv1
 have g2:=HC.out (fs+2)
 have cc2:=hm2.col (fs+2) (by omega)
 have ff2:=hm2.fz
 obtain⟨c2,hc2⟩:∃c,c=C.getD (fs+2) 0:=⟨_,rfl⟩
 have ec2:((C.set fs v0).set (fs+1) v1).getD (fs+2) 0=c2:=by rw[qB _ _ _ _ (by simp;omega),if_neg (by omega),qB _ _ _ _ (by omega),if_neg (by omega)];exact hc2.symm
 rw[ec2]at cc2
 rw[←hc2]at g2
 obtain⟨v2,hv2⟩:∃v,v=c2+1*M2:=⟨_,rfl⟩
 have wv2:wrap64 (c2+M2)=v2:=by rw[hv2];unfold wrap64;omega
 have HV2:Hid (v2=C.getD (fs+2) 0+1*M2):=by rw[hv2,hc2];exact rfl
 clear hc2 hv2 g2 ec2
 rw[rounds_succ]
 go_upto_region 11 with fail
 go_region
 have hm3:=(hm2.setCol (fs+2) (by omega) v2).kept (qia _).drew
 obtain⟨X3,hX3⟩:∃X,X=(X2.setCell ⟨b,fs+2,none⟩ (.int .i64 v2)).drew:=⟨_,rfl⟩
 have gr3:Grw b X2 X3:=by rw[hX3];exact((Grw.refl b X2).setCell _ _).drew
 rw[←hX3]at hm3
 go_wp2_with fail
 (try rw[wv2])
 rw[←hX3]
 clear hX3 cc2 ff2 wv2
 rw[rounds_succ]
 go_wp2_with fail
 rw[HV0.out,HV1.out,HV2.out]at hm3
 exact bodyPost_end (v:=.tuple #[]) (by simp[results,Tryz.results77,go_sem]) rfl ⟨rfl,hm3,((gr0.trans gr1).trans gr2).trans gr3⟩
theorem qb4 (w:World)(b:Nat)(C:List Int)(f:Nat)(hT:TotAt w b C f)(hC:∀k,-1152921504606846976≤C.getD k 0∧C.getD k 0≤1152921504606846976)(x:Nat)(p a ex:Int)(fs s:Nat)(hs:s<30)(hp:ex+1074=30*(fs:Int)+s)(hf:fs+3≤71)(hex:-1074≤ex∧ex≤971)(M0 M1 M2:Int)
  (hb0:0≤M0∧M0<1073741824) (hb1:0≤M1∧M1<1073741824) (hb2:0≤M2∧M2<1073741824) (hM0:bits .and .i64 (wrap64 (a*2^s)) 1073741823=M0) (hM1:bits .and .i64 (a/2^(30-s)) 1073741823=M1) (hM2:a/2^(60-s)=M2)
  (KO:Hid (∀u,Calls Tryz.prog 104 #[.float .f64 x] u fun e w'=>e=.returned (.int .i64 p)∧u=w'))
  (KP:Hid (∀u,Calls Tryz.prog 105 #[.int .i64 p,.int .i64 64] u fun e w'=>e=.returned (.tuple #[.bool true,.int .i64 a,.int .i64 ex,.bool true])∧Kept u w')):
  Calls Tryz.prog 77 #[.pointer (some ⟨b,0,none⟩),.float .f64 x] w fun e w'=>e=.returned (.tuple #[])∧TotAt w' b (((C.set fs (C.getD fs 0+-1*M0)).set (fs+1) (C.getD (fs+1) 0+-1*M1)).set (fs+2) (C.getD (fs+2) 0+-1*M2)) f∧Grw b w w':=by
 have HM:Hid (∀u,Kept w u→TotAt u b C f):=fun u k=>hT.kept k
 have HC:Hid (∀k,-1152921504606846976≤C.getD k 0∧C.getD k 0≤1152921504606846976):=hC
 have hlen:=hT.len
 have q2:IntKind.i64.wrap (ex- -1074)=30*(fs:Int)+s:=by rw[qc];omega
 have q3:(30*(fs:Int)+s).tdiv 30=fs:=by
  rw[Int.tdiv_eq_ediv_of_nonneg (by omega)];omega
 have q4:(30*(fs:Int)+s).tmod 30=s:=by
  rw[Int.tmod_eq_emod_of_nonneg (by omega)];omega
 have q7:IntKind.i64.wrap (30-(s:Int))=30-s:=by rw[qc];omega
 have q8:IntKind.i64.wrap (60-(s:Int))=60-s:=by rw[qc];omega
 have i0:=qfk (.int .i64 M0) (.int .i64 M1) (.int .i64 M2)
 have i1:=qfl (.int .i64 M0) (.int .i64 M1) (.int .i64 M2)
 have i2:=qfm (.int .i64 M0) (.int .i64 M1) (.int .i64 M2)
 have q5:IntKind.i64.wrap (fs:Int)=fs:=by rw[qc];omega
 have fw1:IntKind.i64.wrap ((fs:Int)+1)=(fs:Int)+1:=by rw[qc];omega
 have fw2:IntKind.i64.wrap ((fs:Int)+2)=(fs:Int)+2:=by rw[qc];omega
 have lt0:(fs:Int)<71:=by omega
 have lt1:(fs:Int)+1<71:=by omega
 have lt2:(fs:Int)+2<71:=by omega
 clear hT hC
 go_enter Tryz.func77,Tryz.ntmps77
 go_upto_region 8 with (first|(go_at_call 104;refine(KO.out _).mono ?_;rintro e w1 ⟨rfl,rfl⟩)|(go_at_call 105;refine(KP.out _).mono ?_;rintro e w2 ⟨rfl,k2⟩))
 clear KO KP
 go_region
 (try rw[hM0]);(try rw[hM1]);(try rw[hM2])
 have hm0:=HM.out _ k2.drew
 have gr0:Grw b w w2.drew:=k2.drew.toGrw b
 obtain⟨X0,hX0⟩:∃X,X=w2.drew:=⟨_,rfl⟩
 rw[←hX0]at hm0 gr0
 go_wp2_with fail
 rw[←hX0]
 clear hX0 k2 q2 q3 q4 q7 q8 hM0 hM1 hM2 hp hex HM
 refine wp_loop_rounds 4 ?_
 have g0:=HC.out (fs)
 have cc0:=hm0.col (fs) (by omega)
 have ff0:=hm0.fz
 obtain⟨c0,hc0⟩:∃c,c=C.getD (fs) 0:=⟨_,rfl⟩
 have ec0:(C).getD (fs) 0=c0:=by exact hc0.symm
 rw[ec0]at cc0
 rw[←hc0]at g0
 obtain⟨v0,hv0⟩:∃v,v=c0+-1*M0:=⟨_,rfl⟩
 have wv0:wrap64 (c0+-M0)=v0:=by rw[hv0];unfold wrap64;omega
 have HV0:Hid (v0=C.getD (fs) 0+-1*M0):=by rw[hv0,hc0];exact rfl
 clear hc0 hv0 g0 ec0
 rw[rounds_succ]
 go_upto_region 11 with fail
 go_region
 have hm1:=(hm0.setCol (fs) (by omega) v0).kept (qia _).drew
 obtain⟨X1,hX1⟩:∃X,X=(X0.setCell ⟨b,fs,none⟩ (.int .i64 v0)).drew:=⟨_,rfl⟩
 have gr1:Grw b X0 X1:=by rw[hX1];exact((Grw.refl b X0).setCell _ _).drew
 rw[←hX1]at hm1
 go_wp2_with fail
 (try rw[wv0])
 rw[←hX1]
 clear hX1 cc0 ff0 wv0
 have g1:=HC.out (fs+1)
 have cc1:=hm1.col (fs+1) (by omega)
 have ff1:=hm1.fz
 obtain⟨c1,hc1⟩:∃c,c=C.getD (fs+1) 0:=⟨_,rfl⟩
 have ec1:(C.set fs v0).getD (fs+1) 0=c1:=by rw[qB _ _ _ _ (by omega),if_neg (by omega)];exact hc1.symm
 rw[ec1]at cc1
 rw[←hc1]at g1
 obtain⟨v1,hv1⟩:∃v,v=c1+-1*M1:=⟨_,rfl⟩
 have wv1:wrap64 (c1+-M1)=v1:=by rw[hv1];unfold wrap64;omega
 have HV1:Hid (v1=C.getD (fs+1) 0+-1*M1):=by rw[hv1,hc1];exact rfl
 clear hc1 hv1 g1 ec1
 rw[rounds_succ]
 go_upto_region 11 with fail
 go_region
 have hm2:=(hm1.setCol (fs+1) (by omega) v1).kept (qia _).drew
 obtain⟨X2,hX2⟩:∃X,X=(X1.setCell ⟨b,fs+1,none⟩ (.int .i64 v1)).drew:=⟨_,rfl⟩
 have gr2:Grw b X1 X2:=by rw[hX2];exact((Grw.refl b X1).setCell _ _).drew
 rw[←hX2]at hm2
 go_wp2_with fail
 (try rw[wv1])
 rw[←hX2]
 clear hX2 cc1 ff1 wv1
 have g2:=HC.out (fs+2)
 have cc2:=hm2.col (fs+2) (by omega)
 have ff2:=hm2.fz
 obtain⟨c2,hc2⟩:∃c,c=C.getD (fs+2) 0:=⟨_,rfl⟩
 have ec2:((C.set fs v0).set (fs+1) v1).getD (fs+2) 0=c2:=by rw[qB _ _ _ _ (by simp;omega),if_neg (by omega),qB _ _ _ _ (by omega),if_neg (by omega)];exact hc2.symm
 rw[ec2]at cc2
 rw[←hc2]at g2
 obtain⟨v2,hv2⟩:∃v,v=c2+-1*M2:=⟨_,rfl⟩
 have wv2:wrap64 (c2+-M2)=v2:=by rw[hv2];unfold wrap64;omega
 have HV2:Hid (v2=C.getD (fs+2) 0+-1*M2):=by rw[hv2,hc2];exact rfl
 clear hc2 hv2 g2 ec2
 rw[rounds_succ]
 go_upto_region 11 with fail
 go_region
 have hm3:=(hm2.setCol (fs+2) (by omega) v2).kept (qia _).drew
 obtain⟨X3,hX3⟩:∃X,X=(X2.setCell ⟨b,fs+2,none⟩ (.int .i64 v2)).drew:=⟨_,rfl⟩
 have gr3:Grw b X2 X3:=by rw[hX3];exact((Grw.refl b X2).setCell _ _).drew
 rw[←hX3]at hm3
 go_wp2_with fail
 (try rw[wv2])
 rw[←hX3]
 clear hX3 cc2 ff2 wv2
 rw[rounds_succ]
 go_wp2_with fail
 rw[HV0.out,HV1.out,HV2.out]at hm3
 exact bodyPost_end (v:=.tuple #[]) (by simp[results,Tryz.results77,go_sem]) rfl ⟨rfl,hm3,((gr0.trans gr1).trans gr2).trans gr3⟩
end Go.Proofs.YtaglkncdedeipaaGreatDoor
namespace Go.Proofs.YtaglkncdedeipaaGreatDoor
open Go.ChangeShapes Go.WideShapes Go.ChangeAt Go.RowKit
set_option linter.unusedVariables false
set_option linter.unusedSimpArgs false
set_option maxHeartbeats 16000000
set_option maxRecDepth 100000
abbrev Qs (n1:Bool)(s1:Value)(x1:Int)(n2:Bool)(s2:Value)(x2:Int):Array Value:=#[.bool n1,s1,.int .i64 x1,.bool n2,s2,.int .i64 x2]
abbrev XH (w:World)(v1 v2 c:Array Value):World:=(((w.alloc (.cells v1 31)).alloc (.cells v2 31)).alloc zn).alloc (.cells c 31)
theorem YA (w:World)(v1 v2 c:Array Value):Kept w (XH w v1 v2 c):=((((qia w).alloc _ _).alloc _ _).alloc _ _).alloc _ _
theorem YB (w:World)(a b c:Int):Own (w.alloc (.cells #[.int .i64 a,.int .i64 b,.int .i64 c] 3)) w.heap.size 3 [a,b,c]:=
 ⟨_,heap_alloc_new w _,qhy _,by simp[maxLen],by simp,by simp⟩
set_option linter.unnecessarySimpa false
theorem Jt (n1 n2:Bool)(a1 a2:Option Addr)(l1 c1 l2 c2:Nat)(x1 x2:Int)(b1 b2:Nat)(hx1:-1048576≤x1∧x1≤1048576)(hx2:-1048576≤x2∧x2≤1048576)(hb1:b1≤60000)(hb2:b2≤60000)(hno:60000<(b1:Int)+b2-1∨x1+x2< -1048576∨1048576<x1+x2)(w:World)
  (K1:Hid (∀u,Kept w u→Calls Tryz.prog 140 #[.slice a1 l1 c1] u fun e w'=>e=.returned (.int .i64 (b1:Int))∧u=w')) (K2:Hid (∀u,Kept w u→Calls Tryz.prog 140 #[.slice a2 l2 c2] u fun e w'=>e=.returned (.int .i64 (b2:Int))∧u=w')):
  Calls Tryz.prog 110 #[.agg #[.bool n1,.slice a1 l1 c1,.int .i64 x1],.agg #[.bool n2,.slice a2 l2 c2,.int .i64 x2]] w fun e w'=>e=.panicked jO∧Kept w w':=by
 have hK:Kept w (((w.alloc (.cells #[.bool n1,.slice a1 l1 c1,.int .i64 x1] 31)).alloc (.cells #[.bool n2,.slice a2 l2 c2,.int .i64 x2] 31)).alloc zn):=(((qia w).alloc _ _).alloc _ _).alloc _ _
 have z1:IntKind.i64.wrap ((b1:Int)+(b2:Int))=(b1:Int)+(b2:Int):=by rw[qc];omega
 have z2:IntKind.i64.wrap ((b1:Int)+(b2:Int)-1)=(b1:Int)+(b2:Int)-1:=by rw[qc];omega
 have z3:IntKind.i64.wrap (x1+x2)=x1+x2:=by rw[qc];omega
 have hS:∀u,Kept (((w.alloc (.cells #[.bool n1,.slice a1 l1 c1,.int .i64 x1] 31)).alloc (.cells #[.bool n2,.slice a2 l2 c2,.int .i64 x2] 31)).alloc zn) u→(u.cell? ⟨w.heap.size,1,none⟩=some (.slice a1 l1 c1)∧u.cell? ⟨w.heap.size,2,none⟩=some (.int .i64 x1))∧u.cell? ⟨w.heap.size+1,1,none⟩=some (.slice a2 l2 c2)∧u.cell? ⟨w.heap.size+1,2,none⟩=some (.int .i64 x2):=fun u k=>⟨⟨(k.below.cell (p:=⟨w.heap.size,1,none⟩) (by simp<;>omega)).trans (by simp[go_sem]),(k.below.cell (p:=⟨w.heap.size,2,none⟩) (by simp<;>omega)).trans (by simp[go_sem])⟩,(k.below.cell (p:=⟨w.heap.size+1,1,none⟩) (by simp<;>omega)).trans (by simp[go_sem]),(k.below.cell (p:=⟨w.heap.size+1,2,none⟩) (by simp<;>omega)).trans (by simp[go_sem])⟩
 have HS:=hS _ (qia _).drew
 have HSS:Hid (∀u,Kept (((w.alloc (.cells #[.bool n1,.slice a1 l1 c1,.int .i64 x1] 31)).alloc (.cells #[.bool n2,.slice a2 l2 c2,.int .i64 x2] 31)).alloc zn) u→(u.cell? ⟨w.heap.size,1,none⟩=some (.slice a1 l1 c1)∧u.cell? ⟨w.heap.size,2,none⟩=some (.int .i64 x1))∧u.cell? ⟨w.heap.size+1,1,none⟩=some (.slice a2 l2 c2)∧u.cell? ⟨w.heap.size+1,2,none⟩=some (.int .i64 x2)):=hS
 clear hS
 go_enter Tryz.func110,Tryz.ntmps110
 go_wp2_with fail
 refine qib (S:=fun u=>(u.cell? ⟨w.heap.size,1,none⟩=some (.slice a1 l1 c1)∧u.cell? ⟨w.heap.size,2,none⟩=some (.int .i64 x1))∧u.cell? ⟨w.heap.size+1,1,none⟩=some (.slice a2 l2 c2)∧u.cell? ⟨w.heap.size+1,2,none⟩=some (.int .i64 x2)) (by kernel_rfl) HS (fun hHeld=>?_)
 refine tk (i:=0) (v:=?_) rfl ?_
 simp only[zz]
 refine tk (i:=1) (v:=?_) rfl ?_
 simp only[zz]
 refine tk (i:=3) (v:=?_) rfl ?_
 simp only[zz]
 refine tk (i:=4) (v:=?_) rfl ?_
 simp only[zz]
 refine tk (i:=8) (v:=?_) rfl ?_
 simp only[zz]
 refine tk (i:=9) (v:=?_) rfl ?_
 simp only[zz]
 refine tk (i:=10) (v:=?_) rfl ?_
 simp only[zz]
 refine tk (i:=11) (v:=?_) rfl ?_
 simp only[zz]
 refine tk (i:=12) (v:=?_) rfl ?_
 simp only[zz]
 refine qh8 (rs:=[2]) (by kernel_rfl) (by simp) ?_
 refine qh6 rfl (fun K hK9=>?_) qh7
 go_simp
 go_wp2_with fail
 refine(K1.out _ hK.drew).mono ?_
 rintro e u1 ⟨rfl,rfl⟩
 refine hK9.out _ _ HS (fun hHeld2=>?_)
 clear hK9 K
 refine qh8 (rs:=[5]) (by kernel_rfl) (by simp) ?_
 refine qh6 rfl (fun K hK9=>?_) qh7
 go_simp
 go_wp2_with fail
 refine(K2.out _ hK.drew).mono ?_
 rintro e u1 ⟨rfl,rfl⟩
 refine hK9.out _ _ HS (fun hHeld3=>?_)
 clear hK9 K
 refine tk (i:=6) (v:=?_) rfl ?_
 simp only[zz]
 refine tk (i:=7) (v:=?_) rfl ?_
 simp only[zz]
 refine qh8 (rs:=[13]) (by kernel_rfl) (by simp) ?_
 refine qh6 rfl (fun K hK9=>?_) qh7
 go_simp
 go_wp2_with fail
 refine(qak _ _ hno _).mono ?_
 rintro e u1 ⟨rfl,rfl⟩
 exact⟨rfl,rfl,hK.drew⟩
end Go.Proofs.YtaglkncdedeipaaGreatDoor
