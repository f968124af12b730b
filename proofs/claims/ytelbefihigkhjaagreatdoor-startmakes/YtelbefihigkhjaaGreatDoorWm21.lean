/-  -/
import Derived.Test.YtelbefihigkhjaaGreatDoorWm14
import Derived.Test.YtelbefihigkhjaaGreatDoorWm19
import Derived.Test.YtelbefihigkhjaaGreatDoorWm20
import Derived.Test.YtelbefihigkhjaaGreatDoorWm15
import Derived.Test.YtelbefihigkhjaaGreatDoorWm16
namespace Go.Proofs.YtelbefihigkhjaaGreatDoor
open Go.ChangeShapes Go.WideShapes Go.ChangeAt Go.RowKit
set_option maxHeartbeats 16000000
set_option maxRecDepth 100000
set_option linter.unusedVariables false
set_option linter.unusedSimpArgs false
def cbn (n:Int):Nat:=if n=64 then 4503599627370496 else 8388608
theorem Jg (n:Int)(hn:n=64∨n=32):cbn n=2^((qH n).toNat-1)∧2≤(qH n).toNat:=by
 rcases hn with rfl|rfl<;>decide
theorem qkl (n:Int)(hn:n=64∨n=32)(r s:Nat)(h:r<s):rv (cbn n) r<rv (cbn n) s:=by
 rcases hn with rfl|rfl
 ·have:=jD FloatKind.f64.format h
  unfold qs at this
  rw[qia]at this
  exact this
 ·have:=jD FloatKind.f32.format h
  unfold qs at this
  rw[qib]at this
  exact this
def unN (n:Int)(r:Nm):Int:=unz (qH n).toNat (qn n) (bl (nv r.mag)) r.exp
def kpN (n:Int)(r:Nm):Nat:=flo (nv r.mag) (r.exp-unN n r)
def flN (n:Int)(r:Nm):Nat:=(unN n r-qn n).toNat*cbn n+kpN n r
def odN (n:Int)(r:Nm):Bool:=decide (kpN n r%2=1)
def hfN (n:Int)(r:Nm):Bool:=decide (flo (nv r.mag) (r.exp-unN n r+1)%2=1)
def rtN (n:Int)(r:Nm):Bool:=rst (nv r.mag) (r.exp-unN n r+1)
def mgN (n way:Int)(r:Nm):Nat:=if r.mag=[]then 0 else mgz way r.neg (ifn n) (flN n r) (odN n r) (hfN n r) (rtN n r)
def oxN (n way:Int)(r:Nm):Bool:=if r.mag=[]then false else odz way r.neg (ifn n) (flN n r) (odN n r) (hfN n r) (rtN n r)
def kyN (n way:Int)(r:Nm):Int:=if r.neg=true then -(mgN n way r:Int)else (mgN n way r:Int)
def rzN (n way:Int)(r:Nm):Int:=pz n (kyN n way r)
theorem yW (r:Nm)(hv:vld r=true)(hne:r.mag≠[]):nv r.mag≠0:=by
 obtain⟨n,L,x⟩:=r
 exact Nat.pos_iff_ne_zero.1 (jr n L x hne hv)
theorem VK (n way:Int)(r:Nm):mgN n way r≤ifn n:=by
 unfold mgN
 split
 ·omega
 ·exact qfj _ _ _ _ _ _ _
theorem qao (n way:Int)(r:Nm):-(ifn n:Int)≤kyN n way r∧kyN n way r≤(ifn n:Int):=by
 have:=VK n way r
 unfold kyN
 split<;>omega
theorem Jh (s:Int)(r:Nm)(hv:vld r=true):(r.neg=true→vz s r<0)∧(r.neg=false→0≤vz s r)∧(r.mag=[]→r.neg=false∧vz s r=0):=by
 by_cases hne:r.mag=[]
 ·obtain⟨n,L,x⟩:=r
  simp only at hne
  subst hne
  have hn:n=false:=by
   simp only[vld,if_pos,Bool.and_eq_true]at hv
   simpa using hv.1
  subst hn
  rw[xh]
  simp
 ·have h0:=yW r hv hne
  have hp:=qle (r.exp-s).toNat
  have hm:0<nv r.mag*2^(r.exp-s).toNat:=Nat.mul_pos (by omega) hp
  have ha:=qd8 s r
  refine⟨fun h=>?_,fun h=>?_,fun h=>absurd h hne⟩
  ·unfold vz sg
   rw[h,if_pos rfl]
   have:((nv r.mag:Int)*2^(r.exp-s).toNat)=((nv r.mag*2^(r.exp-s).toNat:Nat):Int):=by push_cast;rfl
   omega
  ·unfold vz sg
   rw[h,if_neg (by decide)]
   have:((nv r.mag:Int)*2^(r.exp-s).toNat)=((nv r.mag*2^(r.exp-s).toNat:Nat):Int):=by push_cast;rfl
   omega
def kvz (n s k:Int):Int:=if k<0 then -((rv (cbn n) k.natAbs*2^(qn n-s).toNat:Nat):Int)else ((rv (cbn n) k.natAbs*2^(qn n-s).toNat:Nat):Int)
theorem qjb (n k:Int)(hn:n=64∨n=32)(h1:-(ifn n:Int)<k)(h2:k<(ifn n:Int))(s:Int)(hs:s< -1074)(hs2:-2000≤s):Lies s 5000 (ofN (pz n k) n)∧vz s (ofN (pz n k) n)=kvz n s k:=by
 have hc:=(JG n k hn (by omega) (by omega)).2 ⟨h1,h2⟩
 have hf:=Jd (pz n k) n hn hc
 obtain⟨f1,f2,f3,f4,f5,f6⟩:=yA (pz n k) n hn hc
 obtain⟨g1,g2⟩:=VH (pz n k) n hn hc
 have hng:=qj1 n k hn h1 h2
 obtain⟨c,hcc⟩:∃c,c=if n=64 then (4503599627370496:Int)else 8388608:=⟨_,rfl⟩
 obtain⟨l,hll⟩:∃l,l=if n=64 then (-1074:Int)else -149:=⟨_,rfl⟩
 obtain⟨r,hr⟩:∃r,r=if k<0 then -k else k:=⟨_,rfl⟩
 obtain⟨q1,q2⟩:=qj2 n k hn h1 h2 c hcc l hll r hr
 have hkl:qn n=l:=by rw[hll];rfl
 have hcb:(cbn n:Int)=c:=by rw[hcc];unfold cbn;split<;>rfl
 have hra:r=(k.natAbs:Int):=by rw[hr];split<;>omega
 have hval:(qx (pz n k) n).toNat*2^(qE (pz n k) n-s).toNat=rv (cbn n) k.natAbs*2^(qn n-s).toNat:=by
  unfold rv
  by_cases hb:r<c
  ·rw[if_pos hb]at q1 q2
   rw[if_pos (by omega),q1,q2,hkl,hra,Int.toNat_natCast]
  ·rw[if_neg hb]at q1 q2
   have hcp:0<cbn n:=by unfold cbn;split<;>decide
   rw[if_neg (by omega),q1,q2,hkl,qlk,←qlg]
   have hmod:(c+r%c).toNat=cbn n+k.natAbs%cbn n:=by
    rw[←hcb,hra,←Int.natCast_emod,←Int.natCast_add,Int.toNat_natCast]
   have hdiv:r/c=((k.natAbs/cbn n:Nat):Int):=by rw[←hcb,hra,Int.natCast_ediv]
   have hge:1≤k.natAbs/cbn n:=by
    rw[Nat.le_div_iff_mul_le hcp];omega
   rw[hmod]
   congr 2
   rw[hdiv]
   omega
 rw[kH]at hf
 have hsh:=zw (sg (qT (pz n k) n) ((qx (pz n k) n).toNat:Int)) (qE (pz n k) n-s).toNat s
 rw[show s+((qE (pz n k) n-s).toNat:Int)=qE (pz n k) n by omega]at hsh
 rw[←hsh]at hf
 have hz:sg (qT (pz n k) n) ((qx (pz n k) n).toNat:Int)*2^(qE (pz n k) n-s).toNat=kvz n s k:=by
  unfold kvz sg
  rw[hng]
  by_cases hk:k<0
  ·rw[qln hk,if_pos rfl,if_pos hk,←hval,Int.neg_mul]
   push_cast
   rfl
  ·rw[qlo hk,if_neg (by decide),if_neg hk,←hval]
   push_cast
   rfl
 rw[hz]at hf
 obtain⟨B,hB⟩:∃B:Nat,B=5000:=⟨_,rfl⟩
 rw[←hB]
 have hlt:(kvz n s k).natAbs<2^B:=by
  have:(kvz n s k).natAbs=(qx (pz n k) n).toNat*2^(qE (pz n k) n-s).toNat:=by
   rw[hval];unfold kvz;split<;>omega
  rw[this]
  calc (qx (pz n k) n).toNat*2^(qE (pz n k) n-s).toNat<2^53*2^(qE (pz n k) n-s).toNat:=Nat.mul_lt_mul_of_pos_right (qlf (Ql _) (qlh (by decide) g2)) (qle _)
   _=2^(53+(qE (pz n k) n-s).toNat):=by rw[qlg]
   _≤2^B:=qlh (by decide) (by omega)
 obtain⟨r',hr1,hr2,hr3⟩:=xJ s B (by omega) (by omega) (by omega) (kvz n s k) hlt
 rw[hr1]at hf
 injection hf with hf
 rw[←hf]
 exact⟨hr2,hr3⟩
end Go.Proofs.YtelbefihigkhjaaGreatDoor

namespace Go.Proofs.YtelbefihigkhjaaGreatDoor
open Go.ChangeShapes Go.WideShapes Go.ChangeAt Go.RowKit
set_option maxHeartbeats 16000000
set_option maxRecDepth 100000
set_option linter.unusedVariables false
set_option linter.unusedSimpArgs false
theorem vR (r:Nm)(hv:vld r=true)(hne:r.mag≠[]):digs (nv r.mag)=r.mag∧nv r.mag≠0∧r.mag.length≤2000∧-1048576≤r.exp∧r.exp≤1048576:=by
 have h0:=yW r hv hne
 obtain⟨hl,hD⟩:=jj r.neg r.mag r.exp hv
 unfold vld at hv
 rw[if_neg hne]at hv
 unfold QO at hv
 simp only[Bool.and_eq_true,qlm,bne_iff_ne]at hv
 exact⟨kC r.mag hD (Or.inr hv.1.1.1.2),h0,by omega,by omega,by omega⟩
theorem qbv (b:Int)(odd:Bool)(w:World):Calls Tryz.prog 239 #[.agg #[.int .i64 64,.int .i64 53,.int .i64 4503599627370496,.int .i64 2047,.int .i64 (-1074),.int .i64 1024,.int .i64 9218868437227405312,.int .i64 (-9223372036854775808),.int .i64 9221120237041090561],.int .i64 b,.bool odd] w fun e w'=>e=.returned (.tuple #[.int .i64 (if b=-9223372036854775808 then 0 else b),.bool odd])∧Kept w w':=by
 by_cases hb:b=-9223372036854775808
 ·rw[if_pos hb]
  subst hb
  go_enter Tryz.func239,Tryz.ntmps239
  go_wp2
  go_ret2
  exact⟨rfl,(qlv _).alloc _ _⟩
 ·rw[if_neg hb]
  have hb2:(b==(-9223372036854775808))=false:=by simp[hb]
  go_enter Tryz.func239,Tryz.ntmps239
  go_wp2
  go_ret2
  exact⟨rfl,(qlv _).alloc _ _⟩
theorem ZE (way x:Int)(va:Value)(w:World)(hL:RL w va []):Calls Tryz.prog 121 #[.agg #[.int .i64 64,.int .i64 53,.int .i64 4503599627370496,.int .i64 2047,.int .i64 (-1074),.int .i64 1024,.int .i64 9218868437227405312,.int .i64 (-9223372036854775808),.int .i64 9221120237041090561],.bool false,va,.int .i64 x,.bool false,.int .i64 way] w fun e w'=>e=.returned (.tuple #[.int .i64 0,.bool false])∧Kept w w':=by
 have KB:Hid (∀v,Kept w v→Calls Tryz.prog 118 #[va] v fun e w'=>e=.returned (.int .i64 0)∧v=w'):=fun v kv=>ze v 0 va (hL.kept kv) (by simp[qA])
 have hK:Kept w (w.alloc (.cells #[.int .i64 64,.int .i64 53,.int .i64 4503599627370496,.int .i64 2047,.int .i64 (-1074),.int .i64 1024,.int .i64 9218868437227405312,.int .i64 (-9223372036854775808),.int .i64 9221120237041090561] 136)):=(qlv w).alloc _ _
 clear hL
 go_enter Tryz.func121,Tryz.ntmps121
 go_wp2_with (first|(go_at_call 118;refine(KB.out _ hK).mono ?_;rintro e w1 ⟨rfl,rfl⟩))
 go_ret2
 exact⟨rfl,hK⟩
theorem qif (way:Int)(hw:way=0∨way=1∨way=2)(r:Nm)(hv:vld r=true)(va:Value)(w:World)(hL:RL w va r.mag):Calls Tryz.prog 206 #[.agg #[.int .i64 64,.int .i64 53,.int .i64 4503599627370496,.int .i64 2047,.int .i64 (-1074),.int .i64 1024,.int .i64 9218868437227405312,.int .i64 (-9223372036854775808),.int .i64 9221120237041090561],.agg #[.bool r.neg,va,.int .i64 r.exp],.int .i64 way] w fun e w'=>e=.returned (.tuple #[.int .i64 (rzN 64 way r),.bool (oxN 64 way r)])∧Kept w w':=by
 obtain⟨b,hb⟩:∃b:Int,b=(if r.neg=true then (-9223372036854775808)else 0)+(mgN 64 way r:Int):=⟨_,rfl⟩
 have KCt:Hid (∀v,Kept w v→Calls Tryz.prog 121 #[.agg #[.int .i64 64,.int .i64 53,.int .i64 4503599627370496,.int .i64 2047,.int .i64 (-1074),.int .i64 1024,.int .i64 9218868437227405312,.int .i64 (-9223372036854775808),.int .i64 9221120237041090561],.bool r.neg,va,.int .i64 r.exp,.bool false,.int .i64 way] v fun e w'=>e=.returned (.tuple #[.int .i64 b,.bool (oxN 64 way r)])∧Kept v w'):=by
  intro v kv
  by_cases hne:r.mag=[]
  ·have hng:r.neg=false:=(Jh 0 r hv).2.2 hne|>.1
   have e1:mgN 64 way r=0:=by unfold mgN;rw[if_pos hne]
   have e2:oxN 64 way r=false:=by unfold oxN;rw[if_pos hne]
   rw[hb,hng,e1,e2]
   rw[hne]at hL
   exact ZE way r.exp va v (hL.kept kv)
  ·obtain⟨hd,h0,hl,hx1,hx2⟩:=vR r hv hne
   have:=Yn way hw r.neg (nv r.mag) h0 r.exp false va v (by rw[hd];exact hL.kept kv) (by rw[hd];omega) (by omega) (by omega) (unN 64 r) rfl (kpN 64 r) rfl (flN 64 r) rfl (odN 64 r) (hfN 64 r) (rtN 64 r) rfl rfl rfl _ rfl
   unfold oxN mgN at *
   rw[if_neg hne]at hb ⊢
   rw[hb]
   exact this
 have e3:(if b=-9223372036854775808 then 0 else b)=rzN 64 way r:=by
  have hm:=VK 64 way r
  have hi:ifn 64=9218868437227405312:=rfl
  rw[hi]at hm
  unfold rzN kyN pz
  rw[hb]
  cases r.neg
  ·simp only[Bool.false_eq_true,if_false,if_true]
   (repeat' split)<;>first|omega|(exfalso;simp_all;done)
  ·simp only[if_true]
   (repeat' split)<;>first|omega|(exfalso;simp_all;done)
 have KT:Hid (∀v,Calls Tryz.prog 239 #[.agg #[.int .i64 64,.int .i64 53,.int .i64 4503599627370496,.int .i64 2047,.int .i64 (-1074),.int .i64 1024,.int .i64 9218868437227405312,.int .i64 (-9223372036854775808),.int .i64 9221120237041090561],.int .i64 b,.bool (oxN 64 way r)] v fun e w'=>e=.returned (.tuple #[.int .i64 (rzN 64 way r),.bool (oxN 64 way r)])∧Kept v w'):=fun v=>by
  have:=qbv b (oxN 64 way r) v
  rw[e3]at this
  exact this
 obtain⟨sa,sn,sc,rfl⟩:∃sa sn sc,va=.slice sa sn sc:=by
  obtain⟨ao,c,h,-⟩:=hL
  exact⟨ao,_,c,h⟩
 obtain⟨X,hX⟩:∃X,X=(w.alloc (.cells #[.int .i64 64,.int .i64 53,.int .i64 4503599627370496,.int .i64 2047,.int .i64 (-1074),.int .i64 1024,.int .i64 9218868437227405312,.int .i64 (-9223372036854775808),.int .i64 9221120237041090561] 136)).alloc (.cells #[.bool r.neg,.slice sa sn sc,.int .i64 r.exp] 78):=⟨_,rfl⟩
 have hK:Kept w X:=by rw[hX];exact((qlv w).alloc _ _).alloc _ _
 have h9:K9 X w.heap.size (.int .i64 64) (.int .i64 53) (.int .i64 4503599627370496) (.int .i64 2047) (.int .i64 (-1074)) (.int .i64 1024) (.int .i64 9218868437227405312) (.int .i64 (-9223372036854775808)) (.int .i64 9221120237041090561):=by rw[hX];exact(K9.new w _ _ _ _ _ _ _ _ _ _).kept ((qlv _).alloc _ _)
 have n0:X.cell? ⟨w.heap.size+1,0,none⟩=some (.bool r.neg):=by rw[hX];simp[go_sem]
 have n1:X.cell? ⟨w.heap.size+1,1,none⟩=some (.slice sa sn sc):=by rw[hX];simp[go_sem]
 have n2:X.cell? ⟨w.heap.size+1,2,none⟩=some (.int .i64 r.exp):=by rw[hX];simp[go_sem]
 have HS:Hid (∀u,Kept X u→Kept X u∧u.cell? ⟨w.heap.size,0,none⟩=some (.int .i64 64)∧u.cell? ⟨w.heap.size,1,none⟩=some (.int .i64 53)∧u.cell? ⟨w.heap.size,2,none⟩=some (.int .i64 4503599627370496)∧u.cell? ⟨w.heap.size,3,none⟩=some (.int .i64 2047)∧u.cell? ⟨w.heap.size,4,none⟩=some (.int .i64 (-1074))∧u.cell? ⟨w.heap.size,5,none⟩=some (.int .i64 1024)∧u.cell? ⟨w.heap.size,6,none⟩=some (.int .i64 9218868437227405312)∧u.cell? ⟨w.heap.size,7,none⟩=some (.int .i64 (-9223372036854775808))∧u.cell? ⟨w.heap.size,8,none⟩=some (.int .i64 9221120237041090561)∧u.cell? ⟨w.heap.size+1,0,none⟩=some (.bool r.neg)∧u.cell? ⟨w.heap.size+1,1,none⟩=some (.slice sa sn sc)∧u.cell? ⟨w.heap.size+1,2,none⟩=some (.int .i64 r.exp)):=fun u ku=>by
  obtain⟨-,g0,g1,g2,g3,g4,g5,g6,g7,g8⟩:=h9.kept ku
  have hb1:w.heap.size+1<X.heap.size:=by rw[hX];simp[go_sem]
  exact⟨ku,g0,g1,g2,g3,g4,g5,g6,g7,g8,(ku.below.cell (p:=⟨w.heap.size+1,0,none⟩) hb1).trans n0,(ku.below.cell (p:=⟨w.heap.size+1,1,none⟩) hb1).trans n1,(ku.below.cell (p:=⟨w.heap.size+1,2,none⟩) hb1).trans n2⟩
 clear e3 hb hL h9 n0 n1 n2
 have kd:=(qlv X).drew
 generalize rzN 64 way r=RZ at *
 generalize oxN 64 way r=OX at *
 generalize r.neg=NG at *
 generalize r.exp=EX at *
 go_enter Tryz.func206,Tryz.ntmps206
 go_upto_region 1 with fail
 rw[←hX]
 clear hX
 go_region_held (fun u=>Kept X u∧u.cell? ⟨w.heap.size,0,none⟩=some (.int .i64 64)∧u.cell? ⟨w.heap.size,1,none⟩=some (.int .i64 53)∧u.cell? ⟨w.heap.size,2,none⟩=some (.int .i64 4503599627370496)∧u.cell? ⟨w.heap.size,3,none⟩=some (.int .i64 2047)∧u.cell? ⟨w.heap.size,4,none⟩=some (.int .i64 (-1074))∧u.cell? ⟨w.heap.size,5,none⟩=some (.int .i64 1024)∧u.cell? ⟨w.heap.size,6,none⟩=some (.int .i64 9218868437227405312)∧u.cell? ⟨w.heap.size,7,none⟩=some (.int .i64 (-9223372036854775808))∧u.cell? ⟨w.heap.size,8,none⟩=some (.int .i64 9221120237041090561)∧u.cell? ⟨w.heap.size+1,0,none⟩=some (.bool NG)∧u.cell? ⟨w.heap.size+1,1,none⟩=some (.slice sa sn sc)∧u.cell? ⟨w.heap.size+1,2,none⟩=some (.int .i64 EX)) (first|assumption|exact HS.out _ kd|exact HS.out _ (by assumption)) (first|(go_at_call 121;refine(KCt.out _ (hK.trans (by first|exact kd|assumption))).mono ?_;rintro e w1 ⟨rfl,k1⟩;replace kd:=kd.trans k1)|(go_at_call 239;refine(KT.out _).mono ?_;rintro e w2 ⟨rfl,k2⟩;replace kd:=kd.trans k2))
 go_wp2_with fail
 go_ret2
 exact⟨rfl,hK.trans kd⟩
theorem qbw (b:Int)(odd:Bool)(w:World):Calls Tryz.prog 239 #[.agg #[.int .i64 32,.int .i64 24,.int .i64 8388608,.int .i64 255,.int .i64 (-149),.int .i64 128,.int .i64 2139095040,.int .i64 2147483648,.int .i64 2143289345],.int .i64 b,.bool odd] w fun e w'=>e=.returned (.tuple #[.int .i64 (if b=2147483648 then 0 else b),.bool odd])∧Kept w w':=by
 by_cases hb:b=2147483648
 ·rw[if_pos hb]
  subst hb
  go_enter Tryz.func239,Tryz.ntmps239
  go_wp2
  go_ret2
  exact⟨rfl,(qlv _).alloc _ _⟩
 ·rw[if_neg hb]
  have hb2:(b==2147483648)=false:=by simp[hb]
  go_enter Tryz.func239,Tryz.ntmps239
  go_wp2
  go_ret2
  exact⟨rfl,(qlv _).alloc _ _⟩
theorem ZF (way x:Int)(va:Value)(w:World)(hL:RL w va []):Calls Tryz.prog 121 #[.agg #[.int .i64 32,.int .i64 24,.int .i64 8388608,.int .i64 255,.int .i64 (-149),.int .i64 128,.int .i64 2139095040,.int .i64 2147483648,.int .i64 2143289345],.bool false,va,.int .i64 x,.bool false,.int .i64 way] w fun e w'=>e=.returned (.tuple #[.int .i64 0,.bool false])∧Kept w w':=by
 have KB:Hid (∀v,Kept w v→Calls Tryz.prog 118 #[va] v fun e w'=>e=.returned (.int .i64 0)∧v=w'):=fun v kv=>ze v 0 va (hL.kept kv) (by simp[qA])
 have hK:Kept w (w.alloc (.cells #[.int .i64 32,.int .i64 24,.int .i64 8388608,.int .i64 255,.int .i64 (-149),.int .i64 128,.int .i64 2139095040,.int .i64 2147483648,.int .i64 2143289345] 136)):=(qlv w).alloc _ _
 clear hL
 go_enter Tryz.func121,Tryz.ntmps121
 go_wp2_with (first|(go_at_call 118;refine(KB.out _ hK).mono ?_;rintro e w1 ⟨rfl,rfl⟩))
 go_ret2
 exact⟨rfl,hK⟩
theorem qig (way:Int)(hw:way=0∨way=1∨way=2)(r:Nm)(hv:vld r=true)(va:Value)(w:World)(hL:RL w va r.mag):Calls Tryz.prog 206 #[.agg #[.int .i64 32,.int .i64 24,.int .i64 8388608,.int .i64 255,.int .i64 (-149),.int .i64 128,.int .i64 2139095040,.int .i64 2147483648,.int .i64 2143289345],.agg #[.bool r.neg,va,.int .i64 r.exp],.int .i64 way] w fun e w'=>e=.returned (.tuple #[.int .i64 (rzN 32 way r),.bool (oxN 32 way r)])∧Kept w w':=by
 obtain⟨b,hb⟩:∃b:Int,b=(if r.neg=true then 2147483648 else 0)+(mgN 32 way r:Int):=⟨_,rfl⟩
 have KCt:Hid (∀v,Kept w v→Calls Tryz.prog 121 #[.agg #[.int .i64 32,.int .i64 24,.int .i64 8388608,.int .i64 255,.int .i64 (-149),.int .i64 128,.int .i64 2139095040,.int .i64 2147483648,.int .i64 2143289345],.bool r.neg,va,.int .i64 r.exp,.bool false,.int .i64 way] v fun e w'=>e=.returned (.tuple #[.int .i64 b,.bool (oxN 32 way r)])∧Kept v w'):=by
  intro v kv
  by_cases hne:r.mag=[]
  ·have hng:r.neg=false:=(Jh 0 r hv).2.2 hne|>.1
   have e1:mgN 32 way r=0:=by unfold mgN;rw[if_pos hne]
   have e2:oxN 32 way r=false:=by unfold oxN;rw[if_pos hne]
   rw[hb,hng,e1,e2]
   rw[hne]at hL
   exact ZF way r.exp va v (hL.kept kv)
  ·obtain⟨hd,h0,hl,hx1,hx2⟩:=vR r hv hne
   have:=Yo way hw r.neg (nv r.mag) h0 r.exp false va v (by rw[hd];exact hL.kept kv) (by rw[hd];omega) (by omega) (by omega) (unN 32 r) rfl (kpN 32 r) rfl (flN 32 r) rfl (odN 32 r) (hfN 32 r) (rtN 32 r) rfl rfl rfl _ rfl
   unfold oxN mgN at *
   rw[if_neg hne]at hb ⊢
   rw[hb]
   exact this
 have e3:(if b=2147483648 then 0 else b)=rzN 32 way r:=by
  have hm:=VK 32 way r
  have hi:ifn 32=2139095040:=rfl
  rw[hi]at hm
  unfold rzN kyN pz
  rw[hb]
  cases r.neg
  ·simp only[Bool.false_eq_true,if_false,if_true]
   (repeat' split)<;>first|omega|(exfalso;simp_all;done)
  ·simp only[if_true]
   (repeat' split)<;>first|omega|(exfalso;simp_all;done)
 have KT:Hid (∀v,Calls Tryz.prog 239 #[.agg #[.int .i64 32,.int .i64 24,.int .i64 8388608,.int .i64 255,.int .i64 (-149),.int .i64 128,.int .i64 2139095040,.int .i64 2147483648,.int .i64 2143289345],.int .i64 b,.bool (oxN 32 way r)] v fun e w'=>e=.returned (.tuple #[.int .i64 (rzN 32 way r),.bool (oxN 32 way r)])∧Kept v w'):=fun v=>by
  have:=qbw b (oxN 32 way r) v
  rw[e3]at this
  exact this
 obtain⟨sa,sn,sc,rfl⟩:∃sa sn sc,va=.slice sa sn sc:=by
  obtain⟨ao,c,h,-⟩:=hL
  exact⟨ao,_,c,h⟩
 obtain⟨X,hX⟩:∃X,X=(w.alloc (.cells #[.int .i64 32,.int .i64 24,.int .i64 8388608,.int .i64 255,.int .i64 (-149),.int .i64 128,.int .i64 2139095040,.int .i64 2147483648,.int .i64 2143289345] 136)).alloc (.cells #[.bool r.neg,.slice sa sn sc,.int .i64 r.exp] 78):=⟨_,rfl⟩
 have hK:Kept w X:=by rw[hX];exact((qlv w).alloc _ _).alloc _ _
 have h9:K9 X w.heap.size (.int .i64 32) (.int .i64 24) (.int .i64 8388608) (.int .i64 255) (.int .i64 (-149)) (.int .i64 128) (.int .i64 2139095040) (.int .i64 2147483648) (.int .i64 2143289345):=by rw[hX];exact(K9.new w _ _ _ _ _ _ _ _ _ _).kept ((qlv _).alloc _ _)
 have n0:X.cell? ⟨w.heap.size+1,0,none⟩=some (.bool r.neg):=by rw[hX];simp[go_sem]
 have n1:X.cell? ⟨w.heap.size+1,1,none⟩=some (.slice sa sn sc):=by rw[hX];simp[go_sem]
 have n2:X.cell? ⟨w.heap.size+1,2,none⟩=some (.int .i64 r.exp):=by rw[hX];simp[go_sem]
 have HS:Hid (∀u,Kept X u→Kept X u∧u.cell? ⟨w.heap.size,0,none⟩=some (.int .i64 32)∧u.cell? ⟨w.heap.size,1,none⟩=some (.int .i64 24)∧u.cell? ⟨w.heap.size,2,none⟩=some (.int .i64 8388608)∧u.cell? ⟨w.heap.size,3,none⟩=some (.int .i64 255)∧u.cell? ⟨w.heap.size,4,none⟩=some (.int .i64 (-149))∧u.cell? ⟨w.heap.size,5,none⟩=some (.int .i64 128)∧u.cell? ⟨w.heap.size,6,none⟩=some (.int .i64 2139095040)∧u.cell? ⟨w.heap.size,7,none⟩=some (.int .i64 2147483648)∧u.cell? ⟨w.heap.size,8,none⟩=some (.int .i64 2143289345)∧u.cell? ⟨w.heap.size+1,0,none⟩=some (.bool r.neg)∧u.cell? ⟨w.heap.size+1,1,none⟩=some (.slice sa sn sc)∧u.cell? ⟨w.heap.size+1,2,none⟩=some (.int .i64 r.exp)):=fun u ku=>by
  obtain⟨-,g0,g1,g2,g3,g4,g5,g6,g7,g8⟩:=h9.kept ku
  have hb1:w.heap.size+1<X.heap.size:=by rw[hX];simp[go_sem]
  exact⟨ku,g0,g1,g2,g3,g4,g5,g6,g7,g8,(ku.below.cell (p:=⟨w.heap.size+1,0,none⟩) hb1).trans n0,(ku.below.cell (p:=⟨w.heap.size+1,1,none⟩) hb1).trans n1,(ku.below.cell (p:=⟨w.heap.size+1,2,none⟩) hb1).trans n2⟩
 clear e3 hb hL h9 n0 n1 n2
 have kd:=(qlv X).drew
 generalize rzN 32 way r=RZ at *
 generalize oxN 32 way r=OX at *
 generalize r.neg=NG at *
 generalize r.exp=EX at *
 go_enter Tryz.func206,Tryz.ntmps206
 go_upto_region 1 with fail
 rw[←hX]
 clear hX
 go_region_held (fun u=>Kept X u∧u.cell? ⟨w.heap.size,0,none⟩=some (.int .i64 32)∧u.cell? ⟨w.heap.size,1,none⟩=some (.int .i64 24)∧u.cell? ⟨w.heap.size,2,none⟩=some (.int .i64 8388608)∧u.cell? ⟨w.heap.size,3,none⟩=some (.int .i64 255)∧u.cell? ⟨w.heap.size,4,none⟩=some (.int .i64 (-149))∧u.cell? ⟨w.heap.size,5,none⟩=some (.int .i64 128)∧u.cell? ⟨w.heap.size,6,none⟩=some (.int .i64 2139095040)∧u.cell? ⟨w.heap.size,7,none⟩=some (.int .i64 2147483648)∧u.cell? ⟨w.heap.size,8,none⟩=some (.int .i64 2143289345)∧u.cell? ⟨w.heap.size+1,0,none⟩=some (.bool NG)∧u.cell? ⟨w.heap.size+1,1,none⟩=some (.slice sa sn sc)∧u.cell? ⟨w.heap.size+1,2,none⟩=some (.int .i64 EX)) (first|assumption|exact HS.out _ kd|exact HS.out _ (by assumption)) (first|(go_at_call 121;refine(KCt.out _ (hK.trans (by first|exact kd|assumption))).mono ?_;rintro e w1 ⟨rfl,k1⟩;replace kd:=kd.trans k1)|(go_at_call 239;refine(KT.out _).mono ?_;rintro e w2 ⟨rfl,k2⟩;replace kd:=kd.trans k2))
 go_wp2_with fail
 go_ret2
 exact⟨rfl,hK.trans kd⟩
end Go.Proofs.YtelbefihigkhjaaGreatDoor

namespace Go.Proofs.YtelbefihigkhjaaGreatDoor
open Go.ChangeShapes Go.WideShapes Go.ChangeAt Go.RowKit
set_option maxHeartbeats 16000000
set_option maxRecDepth 100000
set_option linter.unusedVariables false
set_option linter.unusedSimpArgs false
theorem Y5 {c D V k Q H F k' Q' H' F':Nat}{od hf rt od' hf' rt':Bool}(h:Cutz c D V k Q H F od hf rt)(h':Cutz c D V k' Q' H' F' od' hf' rt')(hm:∀r s,r<s→rv c r<rv c s)(way:Int)(hw:way=0∨way=1∨way=2)(ng:Bool)(inf:Nat):mgz way ng inf F od hf rt=mgz way ng inf F' od' hf' rt'∧odz way ng inf F od hf rt=odz way ng inf F' od' hf' rt':=by
 have hF:F=F':=by
  obtain⟨a1,a2⟩:=h.floor
  obtain⟨b1,b2⟩:=h'.floor
  have mono:∀r s,r≤s→rv c r*D≤rv c s*D:=fun r s g=>by
   rcases Nat.lt_or_eq_of_le g with g|g
   ·exact Nat.mul_le_mul_right D (Nat.le_of_lt (hm r s g))
   ·rw[g];exact qlj _
  rcases Nat.lt_trichotomy F F' with g|g|g
  ·have:=mono (F+1) F' g;omega
  ·exact g
  ·have:=mono (F'+1) F g;omega
 subst hF
 have e1:=h.cut.trans h'.cut.symm
 have e2:=h.near.trans h'.near.symm
 have ea:awz way ng od hf rt=awz way ng od' hf' rt':=by
  unfold awz
  rw[e1,e2]
 unfold mgz odz
 rw[ea,e1]
 exact⟨rfl,rfl⟩
end Go.Proofs.YtelbefihigkhjaaGreatDoor
