/-  -/
import Derived.Test.YtaglkncdedeipaaGreatDoorWs04
import Derived.Test.YtaglkncdedeipaaGreatDoorWs03
namespace Go.Proofs.YtaglkncdedeipaaGreatDoor
open Go.ChangeShapes Go.WideShapes Go.ChangeAt Go.RowKit Ieee
set_option linter.unusedVariables false
set_option linter.unusedSimpArgs false
set_option maxHeartbeats 16000000
set_option maxRecDepth 100000
theorem yG (m k:Nat)(hm:m≠0):(m*2^k).log2=m.log2+k:=by
 have hp:0<2^k:=qht k
 rw[Nat.log2_eq_iff (Nat.ne_of_gt (Nat.mul_pos (Nat.pos_of_ne_zero hm) hp))]
 have l1:2^m.log2≤m:=Nat.log2_self_le hm
 have l2:m<2^(m.log2+1):=Nat.lt_log2_self
 constructor
 ·rw[qhv];exact Nat.mul_le_mul_right _ l1
 ·rw[show m.log2+k+1=(m.log2+1)+k by omega,qhv];exact Nat.mul_lt_mul_of_pos_right l2 hp
theorem K4 (neg:Bool)(m k d:Nat)(hm:m≠0)(hd:d≤k):Toward.even.cut neg (m*2^k) d=m*2^(k-d):=by
 have hn:(m*2^k).log2=m.log2+k:=yG m k hm
 have hmin:min d ((m*2^k).log2+2)=d:=by rw[hn];omega
 have hpd:0<2^d:=qht d
 have hs:m*2^k=m*2^(k-d)*2^d:=by rw[qhz,←qhv];congr 2;omega
 unfold Toward.cut
 simp only[hmin,Nat.shiftLeft_eq,Nat.one_mul]
 rw[hs,Nat.mul_div_cancel _ hpd,Nat.mul_mod_left]
 have h1:¬2^d<2*0:=by omega
 have h2:¬2^d=2*0:=by omega
 simp[h1,h2]
theorem kT (f:Format)(s:Bool)(m k:Nat)(p:Int)(hm:m≠0)(hl:m.log2≤f.fractionBits)(hp:f.leastPlace≤p+k):f.nearest s (m*2^k) p=f.nearest s m (p+k):=by
 have hp2:0<2^k:=qht k
 have hmk:m*2^k≠0:=Nat.ne_of_gt (Nat.mul_pos (Nat.pos_of_ne_zero hm) hp2)
 unfold Format.nearest
 rw[if_neg hm,if_neg hmk]
 simp only
 rw[yG m k hm]
 obtain⟨last,hlast⟩:∃last,last=max (p+(k:Int)+(m.log2:Int)-(f.fractionBits:Int)) f.leastPlace:=⟨_,rfl⟩
 rw[show p+((m.log2+k:Nat):Int)-(f.fractionBits:Int)=p+(k:Int)+(m.log2:Int)-(f.fractionBits:Int) by omega,←hlast]
 have hle:last≤p+k:=by omega
 rw[show(last-(p+(k:Int))).toNat=0 by omega,kI]
 congr 3
 by_cases h:last≤p
 ·rw[show(last-p).toNat=0 by omega,kI,Nat.shiftLeft_eq,Nat.shiftLeft_eq,qhz,←qhv]
  congr 2;omega
 ·rw[show(p-last).toNat=0 by omega,Nat.shiftLeft_zero,K4 s m k _ hm (by omega),Nat.shiftLeft_eq]
  congr 2;omega
theorem log2_lt (m n:Nat)(hm:m≠0)(h:m<2^(n+1)):m.log2≤n:=by
 have l1:2^m.log2≤m:=Nat.log2_self_le hm
 have:2^m.log2<2^(n+1):=Nat.lt_of_le_of_lt l1 h
 have:=(Nat.pow_lt_pow_iff_right (by decide:1<2)).1 this
 omega
theorem QX (b:Nat)(w:World):FloatKind.f32.format.infRung<qk FloatKind.f32.format (jp .f32 b w):=by
 unfold jp Question.cut qk
 simp only
 rw[qcq,qe6]
 generalize w.tape w.drawn (.nanConv .f32 b)=t
 have h1:t%2<2:=Nat.mod_lt _ (by decide)
 have h2:t/2%(2^23-1)<2^23-1:=Nat.mod_lt _ (by decide)
 generalize t%2=s at *
 generalize t/2%(2^23-1)=u at *
 omega
theorem Yu (x:Nat)(hx:x<4294967296):FloatKind.f32.format.word (below FloatKind.f32.format x) (qk FloatKind.f32.format x)=x:=by
 unfold Format.word below qk
 rw[qe6]
 have h1:=Nat.div_add_mod x 2147483648
 have h2:x/2147483648<2:=by omega
 rcases(show x/2147483648=0∨x/2147483648=1 by omega)with h|h
 ·simp[h];omega
 ·simp[h];omega
theorem XD (x:Nat)(h:qk FloatKind.f32.format x<FloatKind.f32.format.infRung):
  ∃m i,FloatKind.f64.decode (W x)=.number (below FloatKind.f32.format x) m i∧FloatKind.f32.format.nearest (below FloatKind.f32.format x) m i=FloatKind.f32.format.word (below FloatKind.f32.format x) (qk FloatKind.f32.format x):=by
 obtain⟨w1,w2,w3⟩:=QU x h
 obtain⟨m,i,e,hi,hv,hm⟩:=zG FloatKind.f64.format (W x) w1
 obtain⟨m0,i0,e0,hi0,hv0,hm0⟩:=zG FloatKind.f32.format x h
 have hlt:=za FloatKind.f32.format h
 rw[w3]at e
 rw[w2,←hv0]at hv
 rw[jB]at hlt
 rw[yE]at hi hv
 rw[xK]at hi0 hv hv0
 rw[Yg]at hm0
 generalize hR:qk FloatKind.f32.format x=R at *
 generalize below FloatKind.f32.format x=s at *
 refine⟨m,i,e,?_⟩
 have hve:m*2^(i- -1074).toNat=m0*2^(i0- -1074).toNat:=by
  rw[hv,qhz,←qhv]
  congr 2
  unfold jZ
  omega
 clear hv w2 e e0
 by_cases h0:m0=0
 ·subst h0
  rw[Nat.zero_mul]at hve hv0
  have hm00:m=0:=by
   rcases Nat.mul_eq_zero.1 hve with h|h
   ·exact h
   ·exact absurd h (Nat.ne_of_gt (qht _))
  subst hm00
  have:R=0:=xt FloatKind.f32.format (by rw[←hv0,zH])
  subst this
  unfold Format.nearest
  rw[if_pos rfl]
 ·have hfb:FloatKind.f32.format.fractionBits=23:=by decide+kernel
  have key:∀(m':Nat) (i':Int),m'≠0→m'<16777216→-149≤i'→m'*2^(i'- -149).toNat=m0*2^(i0- -149).toNat→FloatKind.f32.format.nearest s m' i'=FloatKind.f32.format.word s R:=by
   intro m' i' hm' hl' hi' hv'
   obtain⟨r,h1,h2,h3⟩:=xO FloatKind.f32.format s m' i' hm' (by rw[hfb];exact log2_lt m' 23 hm' hl') (by rw[xK];exact hi') (by rw[xK,hv',hv0,jB];exact hlt)
   rw[h1]
   congr 1
   exact xt FloatKind.f32.format (by rw[h3,xK,hv',hv0])
  by_cases hii:i≤i0
  ·have hmm:m=m0*2^(i0-i).toNat:=by
    have:m0*2^(i0- -1074).toNat=m0*2^(i0-i).toNat*2^(i- -1074).toNat:=by
     rw[qhz,←qhv]
     congr 2
     omega
    rw[this]at hve
    exact Nat.eq_of_mul_eq_mul_right (qht _) hve
   rw[hmm,kT FloatKind.f32.format s m0 (i0-i).toNat i h0 (by rw[hfb];exact log2_lt m0 23 h0 (by omega)) (by rw[xK];omega)]
   rw[show i+(((i0-i).toNat:Nat):Int)=i0 by omega]
   exact key m0 i0 h0 (by omega) hi0 rfl
  ·have hmm:m*2^(i-i0).toNat=m0:=by
    have:m*2^(i- -1074).toNat=m*2^(i-i0).toNat*2^(i0- -1074).toNat:=by
     rw[qhz,←qhv]
     congr 2
     omega
    rw[this]at hve
    exact Nat.eq_of_mul_eq_mul_right (qht _) hve
   have hm1:m≠0:=by
    intro h
    subst h
    rw[Nat.zero_mul]at hmm
    exact h0 hmm.symm
   have hle:m≤m0:=by
    rw[←hmm]
    exact Nat.le_mul_of_pos_right _ (qht _)
   refine key m i hm1 (by omega) (by omega) ?_
   rw[←hmm,qhz,←qhv]
   congr 2
   omega
theorem Z9 (x:Nat)(hx:x<4294967296)(h:qk FloatKind.f32.format x≤FloatKind.f32.format.infRung):floatToFloatBits .f64 (W x) .f32=some x:=by
 have hw:=Yu x hx
 unfold floatToFloatBits
 rw[if_neg (by decide)]
 by_cases hi:qk FloatKind.f32.format x=FloatKind.f32.format.infRung
 ·obtain⟨a1,a2⟩:=Xr x hi
  have e:FloatKind.f64.decode (W x)=.infinity (below FloatKind.f64.format (W x)):=jn FloatKind.f64.format (W x) a1 kK
  rw[e,a2]
  show some (FloatKind.f32.format.word (below FloatKind.f32.format x) FloatKind.f32.format.infRung)=some x
  rw[←hi,hw]
 ·obtain⟨m,i,e,hn⟩:=XD x (by omega)
  rw[e]
  have he:FloatKind.f32.encode (.number (below FloatKind.f32.format x) m i)=x:=by
   show FloatKind.f32.format.nearest (below FloatKind.f32.format x) m i=x
   rw[hn,hw]
  simp only
  rw[he,if_neg]
  obtain⟨m',i',e',-⟩:=zG FloatKind.f32.format x (by omega)
  show ¬(FloatKind.f32.format.read x).isInfinity=true
  rw[e']
  simp[Datum.isInfinity]
def cln (b n:Int):Int:=if cls b n=4 then (if n=64 then 9221120237041090561 else 2143289345)else b
theorem K5 (b:Int):qm b<4294967296:=by
 unfold qm
 split<;>omega
theorem vo (b:Int)(hb1:-9223372036854775808≤b)(hb2:b≤9223372036854775807)(w:World):Calls Tryz.prog 103 #[.int .i64 b,.int .i64 64,.int .i64 64] w fun e w'=>e=.returned (.int .i64 (cln b 64))∧Kept w w':=by
 have KL:Hid (∀u,Calls Tryz.prog 129 #[.int .i64 64] u fun e w'=>e=.returned (.tuple #[.agg #[.int .i64 (-9223372036854775808),.int .i64 9218868437227405312,.int .i64 9221120237041090561,.int .i64 52,.int .i64 (-1074)],.bool true])∧Kept u w'):=fun u=>qL u
 have KW:Hid (∀u,Calls Tryz.prog 131 #[.int .i64 b,.int .i64 64] u fun e w'=>e=.returned (.float .f64 (qQ b))∧u=w'):=fun u=>vi b u
 have KO:Hid (∀u,Calls Tryz.prog 104 #[.float .f64 (qQ b)] u fun e w'=>e=.returned (.int .i64 (cln b 64))∧u=w'):=fun u=>by
  have:=xs (qQ b) u
  rw[Xq b hb1 hb2]at this
  unfold cln
  rw[if_pos rfl]
  exact this
 generalize cln b 64=c at *
 generalize qQ b=p at *
 go_enter Tryz.func103,Tryz.ntmps103
 go_wp2_with (first|(go_at_call 129;refine(KL.out _).mono ?_;rintro e w1 ⟨rfl,k1⟩)|(go_at_call 131;refine(KW.out _).mono ?_;rintro e w2 ⟨rfl,rfl⟩)|(go_at_call 104;refine(KO.out _).mono ?_;rintro e w3 ⟨rfl,rfl⟩))
 go_ret
 exact⟨rfl,k1.alloc _ _⟩
theorem Qm (s:Bool)(r:Nat)(h:r<9223372036854775808):FloatKind.f64.format.word s r<18446744073709551616:=by
 unfold Format.word
 rw[ZW]
 cases s<;>simp<;>omega
theorem K6 (x:Nat)(h:qk FloatKind.f32.format x≤FloatKind.f32.format.infRung):W x<18446744073709551616:=by
 have hi:=xy
 rw[ZW]at hi
 by_cases e:qk FloatKind.f32.format x=FloatKind.f32.format.infRung
 ·have:=(kO x e).2
  unfold W
  rw[this]
  exact Qm _ _ hi
 ·obtain⟨r,e1,h1,-⟩:=kN x (by omega)
  unfold W
  rw[e1]
  exact Qm _ _ (by omega)
theorem yH (x:Nat)(h:x<18446744073709551616):qQ (wrap64 x)=x:=by
 have h1:=jo (wrap64 x)
 unfold wrap64 at h1 ⊢
 omega
def cvw (b:Int):Int:=if cls b 32=4 then 9221120237041090561 else wrap64 (wide b)
theorem K7 (y:Nat)(h:FloatKind.f64.format.infRung<qk FloatKind.f64.format y):qv y=9221120237041090561:=by
 unfold qv
 rw[ZX,if_pos (qh2 h)]
theorem yI (y:Nat)(h:qk FloatKind.f64.format y≤FloatKind.f64.format.infRung):qv y=wrap64 y:=by
 unfold qv
 rw[ZX,if_neg (by simp;omega)]
theorem yp (b:Int)(hc:cls b 32≠4):qQ (cvw b)=wide b∧qk FloatKind.f64.format (wide b)≤FloatKind.f64.format.infRung:=by
 have hr:qk FloatKind.f32.format (qm b)≤FloatKind.f32.format.infRung:=by have:=mt (zQ b).2 hc;omega
 unfold cvw
 rw[if_neg hc]
 exact⟨yH _ (K6 (qm b) hr),(Xs (qm b) hr).1⟩
theorem QY (b:Int)(w:World):Calls Tryz.prog 103 #[.int .i64 b,.int .i64 32,.int .i64 64] w fun e w'=>e=.returned (.int .i64 (cvw b))∧Kept w w':=by
 have KL:Hid (∀u,Calls Tryz.prog 129 #[.int .i64 32] u fun e w'=>e=.returned (.tuple #[.agg #[.int .i64 2147483648,.int .i64 2139095040,.int .i64 2143289345,.int .i64 23,.int .i64 (-149)],.bool true])∧Kept u w'):=fun u=>qM u
 have KW:Hid (∀u,Calls Tryz.prog 131 #[.int .i64 b,.int .i64 32] u fun e w'=>∃y,e=.returned (.float .f64 y)∧Kept u w'∧qv y=cvw b):=fun u=>by
  refine(Xt b 32 u).mono ?_
  rintro e w' ⟨y,rfl,k,hw|hw⟩
  ·refine⟨y,rfl,k,?_⟩
   have hc:cls b 32≠4:=fun h=>by have:=hw.1;simp[qh,h]at this
   obtain⟨h1,h2⟩:=yp b hc
   rw[hw.2.2.2 rfl,yI _ h2]
   unfold cvw
   rw[if_neg hc]
  ·refine⟨y,rfl,k,?_⟩
   have hc:cls b 32=4:=Classical.not_not.1 (fun h=>by have:=hw.1;simp[qh,h]at this)
   rw[K7 y hw.2]
   unfold cvw
   rw[if_pos hc]
 have KO:Hid (∀u y,qv y=cvw b→Calls Tryz.prog 104 #[.float .f64 y] u fun e w'=>e=.returned (.int .i64 (cvw b))∧u=w'):=fun u y hy=>by
  have:=xs y u
  rw[hy]at this
  exact this
 generalize cvw b=c at *
 go_enter Tryz.func103,Tryz.ntmps103
 go_wp2_with (first|(go_at_call 129;refine(KL.out _).mono ?_;rintro e w1 ⟨rfl,k1⟩)|(go_at_call 131;refine(KW.out _).mono ?_;rintro e w2 ⟨y,rfl,k2,hy⟩)|(go_at_call 104;refine(KO.out _ _ hy).mono ?_;rintro e w3 ⟨rfl,rfl⟩))
 go_ret
 exact⟨rfl,(k1.alloc _ _).trans k2⟩
theorem QZ (b:Int)(w:World):Calls Tryz.prog 103 #[.int .i64 (cvw b),.int .i64 64,.int .i64 32] w fun e w'=>e=.returned (.int .i64 (cln b 32))∧Kept w w':=by
 have KL:Hid (∀u,Calls Tryz.prog 129 #[.int .i64 64] u fun e w'=>e=.returned (.tuple #[.agg #[.int .i64 (-9223372036854775808),.int .i64 9218868437227405312,.int .i64 9221120237041090561,.int .i64 52,.int .i64 (-1074)],.bool true])∧Kept u w'):=fun u=>qL u
 have KW:Hid (∀u,Calls Tryz.prog 131 #[.int .i64 (cvw b),.int .i64 64] u fun e w'=>e=.returned (.float .f64 (qQ (cvw b)))∧u=w'):=fun u=>vi (cvw b) u
 by_cases hc:cls b 32=4
 ·have hcl:cln b 32=2143289345:=by unfold cln;rw[if_pos hc,if_neg (by decide)]
  have hcv:cvw b=9221120237041090561:=by unfold cvw;rw[if_pos hc]
  rw[hcl]
  have hn:FloatKind.f64.format.infRung<qk FloatKind.f64.format (qQ (cvw b)):=(vg (cvw b)).1 (by rw[hcv];decide+kernel)
  have hcr:∀wx:World,(convert 66 171 (.float .f64 (qQ (cvw b)))).run Tryz.prog wx=.ok (.float .f32 (jp .f32 (qQ (cvw b)) wx)) wx.drew:=fun wx=>by
   obtain⟨s,t,hd⟩:=xu FloatKind.f64.format (qQ (cvw b)) hn kK
   exact j8 wx 66 171 .f64 .f32 (qQ (cvw b)) (by kernel_rfl) (by kernel_rfl) (by decide) hd
  have KO:Hid (∀u y wx,Calls Tryz.prog 130 #[.float .f32 (jp .f32 y wx)] u fun e w'=>e=.returned (.int .i64 2143289345)∧u=w'):=fun u y wx=>by
   have:=Xn (jp .f32 y wx) u
   unfold Kh at this
   rw[Yh,if_pos (qh2 (QX y wx))]at this
   exact this
  clear hc hcl hcv hn
  generalize cvw b=c at *
  generalize qQ c=p at *
  go_enter Tryz.func103,Tryz.ntmps103
  go_wp2_with (first|(go_at_call 129;refine(KL.out _).mono ?_;rintro e w1 ⟨rfl,k1⟩)|(go_at_call 131;refine(KW.out _).mono ?_;rintro e w2 ⟨rfl,rfl⟩)|(go_at_call 130;refine(KO.out _ _ _).mono ?_;rintro e w3 ⟨rfl,rfl⟩))
  go_ret
  exact⟨rfl,(k1.alloc _ _).drew⟩
 ·have hcl:cln b 32=b:=by unfold cln;rw[if_neg hc]
  have hr:qk FloatKind.f32.format (qm b)≤FloatKind.f32.format.infRung:=by have:=mt (zQ b).2 hc;omega
  have hcr:∀wx:World,(convert 66 171 (.float .f64 (wide b))).run Tryz.prog wx=.ok (.float .f32 (qm b)) wx:=fun wx=>run_convert_float_float wx 66 171 .f64 .f32 (wide b) (qm b) (by kernel_rfl) (by kernel_rfl) (Z9 (qm b) (K5 b) hr)
  have KO:Hid (∀u,Calls Tryz.prog 130 #[.float .f32 (qm b)] u fun e w'=>e=.returned (.int .i64 b)∧u=w'):=fun u=>by
   have:=Xn (qm b) u
   rw[qcs,if_neg hc]at this
   exact this
  rw[(yp b hc).1]at KW
  rw[hcl]
  clear hc hcl hr
  generalize cvw b=c at *
  generalize qm b=p at *
  generalize wide b=q at *
  go_enter Tryz.func103,Tryz.ntmps103
  go_wp2_with (first|(go_at_call 129;refine(KL.out _).mono ?_;rintro e w1 ⟨rfl,k1⟩)|(go_at_call 131;refine(KW.out _).mono ?_;rintro e w2 ⟨rfl,rfl⟩)|(go_at_call 130;refine(KO.out _).mono ?_;rintro e w3 ⟨rfl,rfl⟩))
  go_ret
  exact⟨rfl,k1.alloc _ _⟩
def fl (b n:Int):Nat:=if n=64 then qQ b else wide b
def Fl (n:Int)(x:Nat)(k:Int):Prop:=∃b:Int,qh b n=true∧(-9223372036854775808≤b∧b≤9223372036854775807)∧qd b n=k∧x=fl b n
theorem qbv (b n:Int)(hn:qh b n=true):Wd b n (fl b n):=by
 left
 rcases qV b n hn with ⟨rfl,c⟩|⟨rfl,c⟩
 ·have h:=mt (vg b).2 c
  refine⟨hn,?_,fun _=>by simp[fl],fun h=>absurd h (by decide)⟩
  simp only[fl,if_pos]
  omega
 ·refine⟨hn,?_,fun h=>absurd h (by decide),fun _=>by simp[fl]⟩
  have:=(yp b c).2
  simpa [fl] using this
theorem Fl.of (b n:Int)(hn:qh b n=true)(h1:-9223372036854775808≤b)(h2:b≤9223372036854775807):Fl n (fl b n) (qd b n):=⟨b,hn,⟨h1,h2⟩,rfl,rfl⟩
theorem Fl.le {n:Int}{x:Nat}{k:Int}(h:Fl n x k):qk FloatKind.f64.format x≤FloatKind.f64.format.infRung:=by
 obtain⟨b,h1,h2,h3,rfl⟩:=h
 rcases qbv b n h1 with ⟨-,h,-⟩|⟨h,-⟩
 ·exact h
 ·rw[h1]at h;cases h
theorem Fl.ord {n:Int}{x y:Nat}{k j:Int}(h:Fl n x k)(g:Fl n y j):FloatKind.f64.format.order x y=some (compare k j):=by
 obtain⟨a,a1,a2,rfl,rfl⟩:=h
 obtain⟨b,b1,b2,rfl,rfl⟩:=g
 rw[qcw a b n _ _ a2.1 a2.2 b2.1 b2.2 (qbv a n a1) (qbv b n b1),if_pos (by rw[a1,b1];rfl)]
theorem qO (b n:Int)(h:qh b n=true):n=64∨n=32:=by
 rcases qV b n h with ⟨rfl,-⟩|⟨rfl,-⟩<;>simp
theorem zh (b n:Int)(h:qh b n=true)(h1:-9223372036854775808≤b)(h2:b≤9223372036854775807):-(ifn n:Int)≤qd b n∧qd b n≤(ifn n:Int):=by
 rcases qO b n h with rfl|rfl
 ·have:=(jg b).1 h
  unfold qd ifn
  simp only[if_pos]
  split<;>constructor<;>omega
 ·have:=(jh b).1 h
  unfold qd ifn
  rw[if_neg (by decide),if_neg (by decide)]
  split<;>constructor<;>omega
theorem Fl.rng {n:Int}{x:Nat}{k:Int}(h:Fl n x k):-(ifn n:Int)≤k∧k≤(ifn n:Int):=by
 obtain⟨b,h1,h2,rfl,-⟩:=h
 exact zh b n h1 h2.1 h2.2
theorem Fl.lt {n:Int}{x:Nat}{k:Int}(h:Fl n x k):x<18446744073709551616:=by
 obtain⟨b,h1,h2,-,rfl⟩:=h
 rcases qV b n h1 with ⟨rfl,c⟩|⟨rfl,c⟩
 ·have:=jo b
  simp only[fl,if_pos]
  omega
 ·have hr:qk FloatKind.f32.format (qm b)≤FloatKind.f32.format.infRung:=by have:=mt (zQ b).2 c;omega
  exact K6 (qm b) hr
theorem vH (x:Nat)(h:x<18446744073709551616):qQ (wrap64 x)=x∧-9223372036854775808≤wrap64 x∧wrap64 x≤9223372036854775807:=by
 refine⟨yH x h,?_,?_⟩<;>(unfold wrap64;omega)
theorem vI (x:Nat)(h:qk FloatKind.f64.format x≤FloatKind.f64.format.infRung)(hx:x<18446744073709551616):qh (wrap64 x) 64=true∧qd (wrap64 x) 64=sv (below FloatKind.f64.format x) (qk FloatKind.f64.format x):=by
 obtain⟨p1,p2,p3⟩:=vH x hx
 constructor
 ·rw[Jw,qh1]
  intro hc
  have:=(vg (wrap64 x)).1 hc
  rw[p1]at this
  omega
 ·rw[←z7 _ p2 p3,p1,qW]
theorem J0 (b:Int):qd b 64=if b<0 then -(b%9223372036854775808)else b:=by
 unfold qd
 rw[if_pos rfl]
theorem vJ (b:Int):qd b 32=if 2147483648≤b then -(b%2147483648)else b:=by
 unfold qd
 rw[if_neg (by decide:¬(32:Int)=64)]
theorem qel (k:Int):pz 32 k=if k<0 then -k+2147483648 else k:=by
 unfold pz
 rw[if_neg (by decide:¬(32:Int)=64)]
theorem jI (n:Int):0<ifn n:=by unfold ifn;split<;>decide
theorem Vn (b:Bool)(r m:Nat)(hm:0<m):(sv b r=(m:Int)↔(b=false∧r=m))∧(sv b r=-(m:Int)↔(b=true∧r=m))∧(0<sv b r↔(b=false∧0<r))∧(sv b r<0↔(b=true∧0<r)):=by
 cases b<;>simp[sv]<;>omega
theorem qbw:(ifn 64:Nat)=FloatKind.f64.format.infRung:=by rw[Xo];rfl
theorem qbx:(ifn 32:Nat)=FloatKind.f32.format.infRung:=by rw[qcq];rfl
structure K64 (n k q:Int):Prop where
 top:k=(ifn n:Int)↔q=(ifn 64:Int)
 bot:k=-(ifn n:Int)↔q=-(ifn 64:Int)
 pos:0<k↔0<q
 neg:k<0↔q<0
theorem Fl.wide {n:Int}{x:Nat}{k:Int}(h:Fl n x k):∃q,Fl 64 x q∧K64 n k q∧qv x=wrap64 x∧qh (qv x) 64=true∧qd (qv x) 64=q∧-9223372036854775808≤qv x∧qv x≤9223372036854775807∧qQ (qv x)=x:=by
 have hle:=h.le
 have hlt:=h.lt
 obtain⟨p1,p2,p3⟩:=vH x hlt
 obtain⟨i1,i2⟩:=vI x hle hlt
 have ho:qv x=wrap64 x:=yI x hle
 rw[ho]
 refine⟨_,⟨wrap64 x,i1,⟨p2,p3⟩,i2,?_⟩,?_,rfl,i1,i2,p2,p3,p1⟩
 ·simp[fl,p1]
 obtain⟨b,b1,b2,rfl,rfl⟩:=h
 rcases qV b n b1 with ⟨rfl,c⟩|⟨rfl,c⟩
 ·have e:sv (below FloatKind.f64.format (fl b 64)) (qk FloatKind.f64.format (fl b 64))=qd b 64:=by
   rw[←qW,←z7 b b2.1 b2.2]
   simp[fl]
  rw[e]
  exact⟨Iff.rfl,Iff.rfl,Iff.rfl,Iff.rfl⟩
 ·have hv:=qG b c
  have hr:qk FloatKind.f32.format (qm b)≤FloatKind.f32.format.infRung:=by have:=mt (zQ b).2 c;omega
  have e:qd b 32=sv (below FloatKind.f32.format (qm b)) (qk FloatKind.f32.format (qm b)):=by rw[←qW,ZY b hv]
  have ex:fl b 32=W (qm b):=by simp[fl];rfl
  rw[e,ex]
  obtain⟨w1,w2⟩:=Xs (qm b) hr
  rw[w2]
  have z:qk FloatKind.f32.format 0≤FloatKind.f32.format.infRung:=by decide+kernel
  have z0:qk FloatKind.f32.format 0=0:=by decide+kernel
  have h0:=VE 0 (qm b) z hr
  rw[qcu,z0]at h0
  have hinf:qk FloatKind.f32.format (qm b)=FloatKind.f32.format.infRung↔qk FloatKind.f64.format (W (qm b))=FloatKind.f64.format.infRung:=by
   constructor
   ·intro h;exact(Xr _ h).1
   ·intro h
    have:=QU (qm b)
    by_cases g:qk FloatKind.f32.format (qm b)<FloatKind.f32.format.infRung
    ·have:=(this g).1;omega
    ·omega
  rw[←qbx]at hinf
  rw[←qbw]at hinf
  generalize below FloatKind.f32.format (qm b)=sb at *
  generalize qk FloatKind.f32.format (qm b)=r32 at *
  generalize qk FloatKind.f64.format (W (qm b))=r64 at *
  have a32:=Vn sb r32 (ifn 32) (jI 32)
  have a64:=Vn sb r64 (ifn 64) (jI 64)
  refine⟨?_,?_,?_,?_⟩
  ·rw[a32.1,a64.1,hinf]
  ·rw[a32.2.1,a64.2.1,hinf]
  ·rw[a32.2.2.1,a64.2.2.1,h0]
  ·rw[a32.2.2.2,a64.2.2.2,h0]
theorem Y2 (a b:Int):(some (compare a b)==some Ordering.gt)=decide (b<a):=by
 rcases Int.lt_trichotomy a b with h|h|h
 ·rw[←jz h,qh3 (by omega)];rfl
 ·rw[←jX h,qh3 (by omega)];rfl
 ·rw[←jA h,qh2 h];rfl
theorem vY (x:Nat)(h:x<2^63):x^^^2^63=x+2^63:=by
 have e:2^63+x=2^63|||x:=by
  have:=Nat.two_pow_add_eq_or_of_lt h 1
  simpa using this
 rw[Nat.add_comm,e]
 apply Nat.eq_of_testBit_eq
 intro i
 rw[Nat.testBit_xor,Nat.testBit_or,Nat.testBit_two_pow]
 by_cases hi:63=i
 ·subst hi
  rw[Nat.testBit_lt_two_pow h]
  simp
 ·simp[hi]
theorem J3 (x:Nat)(h:x<18446744073709551616):Op.negFloat .f64 x=(x+9223372036854775808)%18446744073709551616:=by
 have e0:FloatKind.f64.format.exponentBits+FloatKind.f64.format.fractionBits=63:=by decide+kernel
 unfold Op.negFloat
 rw[e0]
 have e1:(2:Nat)^63=9223372036854775808:=by decide
 by_cases hx:x<2^63
 ·rw[vY x hx,e1]
  omega
 ·obtain⟨y,rfl⟩:∃y,x=y+2^63:=⟨x-2^63,by omega⟩
  have hy:y<2^63:=by omega
  rw[←vY y hy,Nat.xor_assoc,Nat.xor_self,Nat.xor_zero,vY y hy,e1]
  omega
theorem qem (b n:Int)(h:qh b n=true)(h1:-9223372036854775808≤b)(h2:b≤9223372036854775807):qh (ngt b n) n=true∧qd (ngt b n) n=-qd b n∧-9223372036854775808≤ngt b n∧ngt b n≤9223372036854775807:=by
 rcases qO b n h with rfl|rfl
 ·have hm:=(jg b).1 h
  have e:ngt b 64=if b<0 then b+9223372036854775808 else b-9223372036854775808:=by
   unfold ngt
   rw[if_pos h,if_pos rfl]
  rw[jg,e]
  unfold qd
  simp only[if_pos]
  by_cases hb:b<0
  ·rw[if_pos hb,if_pos hb,if_neg (by omega)]
   omega
  ·rw[if_neg hb,if_neg hb,if_pos (by omega)]
   omega
 ·have hm:=(jh b).1 h
  have e:ngt b 32=if b<2147483648 then b+2147483648 else b-2147483648:=by
   unfold ngt
   rw[if_pos h,if_neg (by decide)]
  rw[jh,e,vJ,vJ]
  by_cases hb:b<2147483648
  ·rw[if_pos hb,if_pos (by omega),if_neg (by omega)]
   omega
  ·rw[if_neg hb,if_neg (by omega),if_pos (by omega)]
   omega
theorem QL (x:Nat)(hx:x<18446744073709551616):x=qk FloatKind.f64.format x+(if below FloatKind.f64.format x=true then 9223372036854775808 else 0):=by
 unfold below qk
 rw[ZW]
 have h1:=Nat.div_add_mod x 9223372036854775808
 rcases(show x/9223372036854775808=0∨x/9223372036854775808=1 by omega)with h|h
 ·simp[h];omega
 ·simp[h];omega
theorem Fl.neg {n:Int}{x:Nat}{k:Int}(h:Fl n x k):Fl n (Op.negFloat .f64 x) (-k):=by
 have hlt:=h.lt
 obtain⟨b,b1,b2,rfl,rfl⟩:=h
 obtain⟨g1,g2,g3,g4⟩:=qem b n b1 b2.1 b2.2
 refine⟨ngt b n,g1,⟨g3,g4⟩,g2,?_⟩
 rw[J3 _ hlt]
 have hl2:fl (ngt b n) n<18446744073709551616:=(Fl.of _ n g1 g3 g4).lt
 rcases qV b n b1 with ⟨rfl,c⟩|⟨rfl,c⟩
 ·have e:ngt b 64=if b<0 then b+9223372036854775808 else b-9223372036854775808:=by
   unfold ngt
   rw[if_pos b1,if_pos rfl]
  simp only[fl,if_pos]at *
  have p1:=jo b
  have p2:=jo (ngt b 64)
  rw[e]at p2 ⊢
  split at p2<;>rename_i hb
  ·rw[if_pos hb];omega
  ·rw[if_neg hb];omega
 ·have c2:cls (ngt b 32) 32≠4:=by simpa [qh] using g1
  have v1:=qG b c
  have v2:=qG _ c2
  have e:ngt b 32=if b<2147483648 then b+2147483648 else b-2147483648:=by
   unfold ngt
   rw[if_pos b1,if_neg (by decide)]
  have hr1:qk FloatKind.f32.format (qm b)≤FloatKind.f32.format.infRung:=by have:=mt (zQ b).2 c;omega
  have hr2:qk FloatKind.f32.format (qm (ngt b 32))≤FloatKind.f32.format.infRung:=by have:=mt (zQ (ngt b 32)).2 c2;omega
  have q1:=jY b v1
  have q2:=jY _ v2
  have qe:qk FloatKind.f32.format (qm (ngt b 32))=qk FloatKind.f32.format (qm b):=by
   rw[e]at q2 ⊢
   split at q2<;>rename_i hb
   ·rw[if_pos hb];omega
   ·rw[if_neg hb];omega
  have s1:=xw b v1
  have s2:=xw _ v2
  have se:below FloatKind.f32.format (qm (ngt b 32))=!below FloatKind.f32.format (qm b):=by
   rw[s1,s2,e]
   by_cases hb:b<2147483648
   ·rw[if_pos hb,qh2 (by omega),qh3 (by omega)];rfl
   ·rw[if_neg hb,qh3 (by omega),qh2 (by omega)];rfl
  have x1:fl b 32=W (qm b):=by simp[fl];rfl
  have x2:fl (ngt b 32) 32=W (qm (ngt b 32)):=by simp[fl];rfl
  rw[x1]at hlt
  rw[x1,x2]
  obtain⟨w1,w2⟩:=Xs _ hr1
  obtain⟨u1,u2⟩:=Xs _ hr2
  have re:qk FloatKind.f64.format (W (qm (ngt b 32)))=qk FloatKind.f64.format (W (qm b)):=by
   have a1:=VE _ _ hr1 hr2
   have a2:=VE _ _ hr2 hr1
   omega
  have z1:=QL _ hlt
  have z2:=QL _ hl2
  rw[x2]at z2
  have rl:qk FloatKind.f64.format (W (qm b))<9223372036854775808:=by
   unfold qk
   rw[ZW]
   exact Nat.mod_lt _ (by decide)
  rw[re,u2,se,←w2]at z2
  generalize W (qm b)=X at *
  generalize W (qm (ngt b 32))=Y at *
  cases hbe:below FloatKind.f64.format X
  ·rw[hbe]at z1 z2
   simp at z1 z2
   omega
  ·rw[hbe]at z1 z2
   simp at z1 z2
   omega
theorem Vo {P:Program}(n:Int)(x y:Nat)(k j:Int)(hx:Fl n x k)(hy:Fl n y j):∃z,Fl n z (min k j)∧∀(ts:Array TypeId) (t:TypeId) (w:World),(Builtin.min_ ts t #[.float .f64 x,.float .f64 y]).run P w=.ok (.float .f64 z) w:=by
 have ho:=hx.ord hy
 rcases Int.lt_trichotomy k j with h|h|h
 ·rw[←jz h]at ho
  refine⟨x,by rw[show min k j=k by omega];exact hx,fun ts t w=>?_⟩
  simp[Builtin.min_,Builtin.min2,ho]
 ·rw[←jX h]at ho
  refine⟨if (FloatKind.f64.decode x).neg then x else y,?_,fun ts t w=>?_⟩
  ·split
   ·rw[show min k j=k by omega];exact hx
   ·rw[show min k j=j by omega];exact hy
  ·simp[Builtin.min_,Builtin.min2,ho]
 ·rw[←jA h]at ho
  refine⟨y,by rw[show min k j=j by omega];exact hy,fun ts t w=>?_⟩
  simp[Builtin.min_,Builtin.min2,ho]
theorem Vp {P:Program}(n:Int)(x y:Nat)(k j:Int)(hx:Fl n x k)(hy:Fl n y j):∃z,Fl n z (max k j)∧∀(ts:Array TypeId) (t:TypeId) (w:World),(Builtin.max_ ts t #[.float .f64 x,.float .f64 y]).run P w=.ok (.float .f64 z) w:=by
 have ho:=hx.ord hy
 rcases Int.lt_trichotomy k j with h|h|h
 ·rw[←jz h]at ho
  refine⟨y,by rw[show max k j=j by omega];exact hy,fun ts t w=>?_⟩
  simp[Builtin.max_,Builtin.max2,ho]
 ·rw[←jX h]at ho
  refine⟨if (FloatKind.f64.decode x).neg then y else x,?_,fun ts t w=>?_⟩
  ·split
   ·rw[show max k j=j by omega];exact hy
   ·rw[show max k j=k by omega];exact hx
  ·simp[Builtin.max_,Builtin.max2,ho]
 ·rw[←jA h]at ho
  refine⟨x,by rw[show max k j=k by omega];exact hx,fun ts t w=>?_⟩
  simp[Builtin.max_,Builtin.max2,ho]
theorem Vq (b n:Int)(h:qh b n=true)(h1:-9223372036854775808≤b)(h2:b≤9223372036854775807):can b n=pz n (qd b n):=by
 rcases qO b n h with rfl|rfl
 ·have hm:=(jg b).1 h
  unfold can pz qd
  rw[if_pos h]
  simp only[if_pos]
  by_cases hb:b<0
  ·simp only[hb,if_pos]
   by_cases e:b=-9223372036854775808
   ·subst e;decide
   ·rw[if_neg e,if_pos (by omega)];omega
  ·simp only[hb,if_neg,if_false]
   rw[if_neg (by omega)]
 ·have hm:=(jh b).1 h
  unfold can
  rw[if_pos h,if_neg (by decide:¬(32:Int)=64),qel,vJ]
  by_cases hb:2147483648≤b
  ·simp only[hb,if_pos]
   by_cases e:b=2147483648
   ·subst e;decide
   ·rw[if_neg e,if_pos (by omega)];omega
  ·simp only[hb,if_neg,if_false]
   rw[if_neg (by omega),if_neg (by omega)]
theorem Fl.pz (n k:Int)(hn:n=64∨n=32)(h1:-(ifn n:Int)≤k)(h2:k≤(ifn n:Int)):Fl n (fl (pz n k) n) k:=by
 have hr:=Xv n k hn h1 h2
 have:=Fl.of (Go.Proofs.YtaglkncdedeipaaGreatDoor.pz n k) n (qc0 n k hn h1 h2) hr.1 hr.2
 rw[qc1 n k hn h1 h2]at this
 exact this
theorem Fl.zero (n:Int)(hn:n=64∨n=32):Fl n 0 0:=by
 rcases hn with rfl|rfl
 ·exact⟨0,by decide,by decide,by decide,by decide+kernel⟩
 ·exact⟨0,by decide,by decide,by decide,by decide+kernel⟩
end Go.Proofs.YtaglkncdedeipaaGreatDoor
