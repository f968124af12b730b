/-  -/
import Derived.Test.YtaglkncdedeipaaGreatDoorWs02
import Derived.Test.YtaglkncdedeipaaGreatDoorWs03
import Derived.Laws.FloatArith
import Derived.Laws.Externs
import Ieee.Arith
namespace Go.Proofs.YtaglkncdedeipaaGreatDoor
open Go.ChangeShapes Go.WideShapes Go.ChangeAt Go.RowKit
set_option linter.unusedVariables false
set_option linter.unusedSimpArgs false
set_option maxHeartbeats 16000000
set_option maxRecDepth 100000
theorem z6 (x:Int)(w:World):(callFunc 136 #[.int .u64 x]).run Tryz.prog w=.ok (.value (.float .f64 x.toNat)) w:=by
 rw[run_callFunc_extern (fn:=Tryz.f136) (e:=Extern.MathFloatBits.float64frombits) (by kernel_rfl) (by kernel_rfl) (by kernel_rfl) (by kernel_rfl) (by kernel_rfl)]
 rfl
theorem yi (x:Nat)(w:World):(callFunc 132 #[.float .f64 x]).run Tryz.prog w=.ok (.value (.int .u64 x)) w:=by
 rw[run_callFunc_extern (fn:=Tryz.f132) (e:=Extern.MathFloatBits.float64bits) (by kernel_rfl) (by kernel_rfl) (by kernel_rfl) (by kernel_rfl) (by kernel_rfl)]
 rfl
theorem yo (x:Int)(w:World):(callFunc 175 #[.int .u32 x]).run Tryz.prog w=.ok (.value (.float .f32 x.toNat)) w:=by
 rw[run_callFunc_extern (fn:=Tryz.f175) (e:=Extern.MathFloatBits.float32frombits) (by kernel_rfl) (by kernel_rfl) (by kernel_rfl) (by kernel_rfl) (by kernel_rfl)]
 rfl
theorem Xm (x:Nat)(w:World):(callFunc 156 #[.float .f32 x]).run Tryz.prog w=.ok (.value (.int .u32 x)) w:=by
 rw[run_callFunc_extern (fn:=Tryz.f156) (e:=Extern.MathFloatBits.float32bits) (by kernel_rfl) (by kernel_rfl) (by kernel_rfl) (by kernel_rfl) (by kernel_rfl)]
 rfl
def qQ (b:Int):Nat:=(IntKind.u64.wrap b).toNat
def qm (b:Int):Nat:=if val b 32=true then (b%4294967296).toNat else 2143289345
def qv (x:Nat):Int:=if (FloatKind.f64.format.order x x != some .eq)=true then 9221120237041090561 else wrap64 x
def Kh (x:Nat):Int:=if (FloatKind.f32.format.order x x != some .eq)=true then 2143289345 else wrap64 x
theorem QR {k:FloatKind}{a b:Nat}(h:a=b):Ending.returned (.float k a)=.returned (.float k b):=by rw[h]
theorem QS (b:Int)(w:World):Calls Tryz.prog 115 #[.int .i64 b] w fun e w'=>e=.returned (.float .f64 (qQ b))∧w=w':=by
 have h1:=z6
 go_enter Tryz.func115,Tryz.ntmps115
 go_wp2
 go_ret
 exact⟨rfl,rfl⟩
theorem yj (b:Int)(w:World):Calls Tryz.prog 157 #[.int .i64 b] w fun e w'=>e=.returned (.float .f32 (qm b))∧w=w':=by
 have h1:=yo
 go_enter Tryz.func157,Tryz.ntmps157
 go_wp2_with (go_at_call 65;refine(jC _ _ _).mono ?_;rintro e w2 ⟨rfl,rfl⟩)
 ·go_ret
  exact⟨QR (by unfold qm;rw[if_neg (by simp_all)]),rfl⟩
 ·go_ret
  exact⟨QR (by unfold qm;rw[if_pos (by simp_all)]),rfl⟩
theorem xs (b:Nat)(w:World):Calls Tryz.prog 104 #[.float .f64 b] w fun e w'=>e=.returned (.int .i64 (qv b))∧w=w':=by
 have h1:=yi
 go_enter Tryz.func104,Tryz.ntmps104
 go_wp2
 ·go_ret
  exact⟨qn (by unfold qv;rw[if_pos (by assumption)]),rfl⟩
 ·go_ret
  exact⟨qn (by unfold qv;rw[if_neg (by simp_all)]),rfl⟩
theorem Xn (b:Nat)(w:World):Calls Tryz.prog 130 #[.float .f32 b] w fun e w'=>e=.returned (.int .i64 (Kh b))∧w=w':=by
 have h1:=Xm
 go_enter Tryz.func130,Tryz.ntmps130
 go_wp2
 ·go_ret
  exact⟨qn (by unfold Kh;rw[if_pos (by assumption)]),rfl⟩
 ·go_ret
  exact⟨qn (by unfold Kh;rw[if_neg (by simp_all)]),rfl⟩
end Go.Proofs.YtaglkncdedeipaaGreatDoor
namespace Go.Proofs.YtaglkncdedeipaaGreatDoor
set_option linter.unusedVariables false
set_option linter.unusedSimpArgs false
set_option maxHeartbeats 16000000
set_option maxRecDepth 100000
open Ieee
theorem jm (f:Format):0<f.binade:=qht _
def qt (f:Format)(r:Nat):Nat:=if r<f.binade then r else (f.binade+r%f.binade)*2^(r/f.binade-1)
theorem vO (f:Format)(r:Nat):qt f r<qt f (r+1):=by
 have hb:=jm f
 unfold qt
 by_cases h:r<f.binade
 ·rw[if_pos h]
  by_cases h1:r+1<f.binade
  ·rw[if_pos h1];omega
  ·have e:r+1=f.binade:=by omega
   rw[if_neg h1,e,Nat.mod_self,Nat.div_self hb]
   simp
   omega
 ·have h1:¬r+1<f.binade:=by omega
  rw[if_neg h,if_neg h1]
  have hd:=Nat.div_add_mod r f.binade
  have hm:=Nat.mod_lt r hb
  have hq:1≤r/f.binade:=(Nat.le_div_iff_mul_le hb).2 (by omega)
  by_cases hc:r%f.binade+1<f.binade
  ·have e1:(r+1)/f.binade=r/f.binade:=by
    rw[Nat.div_eq_iff hb]
    have:f.binade*(r/f.binade)=r/f.binade*f.binade:=qh0 _ _
    constructor<;>omega
   have e2:(r+1)%f.binade=r%f.binade+1:=by
    rw[Nat.add_mod,Nat.mod_eq_of_lt (show 1<f.binade by omega),Nat.mod_eq_of_lt hc]
   rw[e1,e2]
   exact Nat.mul_lt_mul_of_pos_right (by omega) (qht _)
  ·have e3:r+1=f.binade*(r/f.binade+1):=by rw[Nat.mul_add];omega
   rw[e3,Nat.mul_mod_right,Nat.mul_div_cancel_left _ hb]
   obtain⟨q,hq'⟩:∃q,r/f.binade=q+1:=⟨r/f.binade-1,by omega⟩
   rw[hq']
   simp only[Nat.add_sub_cancel,Nat.add_zero]
   have:2^(q+1)=2*2^q:=by rw[qh5,qh0]
   rw[this,←qhz]
   exact Nat.mul_lt_mul_of_pos_right (by omega) (qht _)
theorem za (f:Format){r s:Nat}(h:r<s):qt f r<qt f s:=by
 induction s with
 |zero=>omega
 |succ s ih=>
  by_cases hs:r=s
  ·subst hs;exact vO f r
  ·exact Nat.lt_trans (ih (by omega)) (vO f s)
theorem xt (f:Format){r s:Nat}(h:qt f r=qt f s):r=s:=by
 rcases Nat.lt_trichotomy r s with h1|h1|h1
 ·have:=za f h1;omega
 ·exact h1
 ·have:=za f h1;omega
theorem zl (f:Format){r s:Nat}:qt f r<qt f s↔r<s:=by
 constructor
 ·intro h
  rcases Nat.lt_trichotomy r s with h1|h1|h1
  ·exact h1
  ·subst h1;omega
  ·have:=za f h1;omega
 ·exact za f
def qk (f:Format)(x:Nat):Nat:=x%f.signWeight
def below (f:Format)(x:Nat):Bool:=x/f.signWeight%2==1
def key (f:Format)(x:Nat):Int:=if below f x=true then -(qk f x:Int)else (qk f x:Int)
theorem xu (f:Format)(x:Nat)(h:f.infRung<qk f x)(hb:f.binade≤f.infRung):∃s t,f.read x=.nan s t:=by
 unfold qk at h
 refine⟨x/f.signWeight%2==1,x%f.signWeight-f.infRung,?_⟩
 unfold Format.read
 simp only
 rw[if_neg (by omega),if_neg (by omega),if_neg (by omega)]
theorem jn (f:Format)(x:Nat)(h:qk f x=f.infRung)(hb:f.binade≤f.infRung):f.read x=.infinity (below f x):=by
 unfold qk at h
 unfold Format.read below
 simp only
 rw[if_neg (by omega),if_neg (by omega),if_pos h]
theorem zG (f:Format)(x:Nat)(h:qk f x<f.infRung):∃m i,f.read x=.number (below f x) m i∧f.leastPlace≤i∧m*2^(i-f.leastPlace).toNat=qt f (qk f x)∧m<2*f.binade:=by
 unfold qk at h
 unfold Format.read below qk qt
 simp only
 by_cases h1:x%f.signWeight<f.binade
 ·rw[if_pos h1,if_pos h1]
  exact⟨_,_,rfl,Int.le_refl _,by simp,by omega⟩
 ·rw[if_neg h1,if_neg h1,if_pos h]
  have:=Nat.mod_lt (x%f.signWeight) (jm f)
  refine⟨_,_,rfl,by omega,?_,by omega⟩
  congr 2
  omega
def sv (s:Bool)(v:Nat):Int:=if s=true then -(v:Int)else (v:Int)
theorem QT (s:Bool)(m u:Nat):signed s m u=sv s (m*2^u):=by
 unfold signed sv
 rw[Nat.shiftLeft_eq]
theorem qco (s:Bool)(v K:Nat):sv s v*((2^K:Nat):Int)=sv s (v*2^K):=by
 unfold sv
 cases s<;>simp[Int.natCast_mul,Int.neg_mul]
theorem xN {a b c d:Int}(h1:a<b↔c<d)(h2:a=b↔c=d):compare a b=compare c d:=by
 show compareOfLessAndEq a b=compareOfLessAndEq c d
 unfold compareOfLessAndEq
 by_cases h:a<b
 ·rw[if_pos h,if_pos (h1.1 h)]
 ·rw[if_neg h,if_neg (fun g=>h (h1.2 g))]
  by_cases e:a=b
  ·rw[if_pos e,if_pos (h2.1 e)]
  ·rw[if_neg e,if_neg (fun g=>e (h2.2 g))]
theorem zH (f:Format):qt f 0=0:=by
 unfold qt
 rw[if_pos (jm f)]
theorem qcp (f:Format)(s t:Bool)(r q:Nat):sv s (qt f r)<sv t (qt f q)↔sv s r<sv t q:=by
 have z:=zH f
 have h1:=zl f (r:=r) (s:=q)
 have h2:=zl f (r:=q) (s:=r)
 have h3:=zl f (r:=0) (s:=r)
 have h4:=zl f (r:=0) (s:=q)
 rw[z]at h3 h4
 unfold sv
 cases s<;>cases t<;>simp<;>omega
theorem qhi (f:Format)(s t:Bool)(r q:Nat):sv s (qt f r)=sv t (qt f q)↔sv s r=sv t q:=by
 have h1:=qcp f s t r q
 have h2:=qcp f t s q r
 omega
theorem qW (f:Format)(x:Nat):key f x=sv (below f x) (qk f x):=rfl
theorem jz {a b:Int}(h:a<b):some Ordering.lt=some (compare a b):=by
 simp only[compare,compareOfLessAndEq]
 rw[if_pos h]
theorem jX {a b:Int}(h:a=b):some Ordering.eq=some (compare a b):=by
 simp only[compare,compareOfLessAndEq]
 rw[if_neg (by omega),if_pos h]
theorem jA {a b:Int}(h:b<a):some Ordering.gt=some (compare a b):=by
 simp only[compare,compareOfLessAndEq]
 rw[if_neg (by omega),if_neg (by omega)]
theorem ZU (v:Nat):sv false v=(v:Int):=rfl
theorem ZV (v:Nat):sv true v=-(v:Int):=rfl
theorem xJ (f:Format)(x y:Nat)(hb:f.binade≤f.infRung)(hx:qk f x≤f.infRung)(hy:qk f y≤f.infRung):f.order x y=some (compare (key f x) (key f y)):=by
 unfold Format.order
 have hp:0<f.infRung:=qhu (jm f) hb
 by_cases h1:qk f x=f.infRung
 ·by_cases h2:qk f y=f.infRung
  ·rw[jn f x h1 hb,jn f y h2 hb,qW,qW,h1,h2]
   generalize below f x=s
   generalize below f y=t
   cases s<;>cases t<;>simp only[ZU,ZV]
   ·exact jX rfl
   ·exact jA (by omega)
   ·exact jz (by omega)
   ·exact jX rfl
  ·obtain⟨n,j,ey,-,-,-⟩:=zG f y (by omega)
   rw[jn f x h1 hb,ey,qW,qW,h1]
   generalize below f x=s
   generalize below f y=t
   cases s<;>cases t<;>simp only[ZU,ZV]
   ·exact jA (by omega)
   ·exact jA (by omega)
   ·exact jz (by omega)
   ·exact jz (by omega)
 ·obtain⟨m,i,ex,hi,vm,-⟩:=zG f x (by omega)
  by_cases h2:qk f y=f.infRung
  ·rw[ex,jn f y h2 hb,qW,qW,h2]
   generalize below f x=s
   generalize below f y=t
   cases s<;>cases t<;>simp only[ZU,ZV]
   ·exact jz (by omega)
   ·exact jA (by omega)
   ·exact jz (by omega)
   ·exact jA (by omega)
  ·obtain⟨n,j,ey,hj,vn,-⟩:=zG f y (by omega)
   rw[ex,ey]
   unfold Datum.order
   simp only
   congr 1
   obtain⟨K,hK⟩:∃K,K=(min i j-f.leastPlace).toNat:=⟨_,rfl⟩
   have a1:(i-min i j).toNat+K=(i-f.leastPlace).toNat:=by omega
   have a2:(j-min i j).toNat+K=(j-f.leastPlace).toNat:=by omega
   have e1:signed (below f x) m (i-min i j).toNat*((2^K:Nat):Int)=sv (below f x) (qt f (qk f x)):=by
    rw[QT,qco,qhz,←qhv,a1,vm]
   have e2:signed (below f y) n (j-min i j).toNat*((2^K:Nat):Int)=sv (below f y) (qt f (qk f y)):=by
    rw[QT,qco,qhz,←qhv,a2,vn]
   have hK0:(0:Int)<((2^K:Nat):Int):=by exact_mod_cast qht K
   refine xN ?_ ?_
   ·rw[qW,qW,←qcp f,←e1,←e2]
    exact(Int.mul_lt_mul_right hK0).symm
   ·rw[qW,qW,←qhi f,←e1,←e2]
    exact(Int.mul_eq_mul_right_iff (by omega)).symm
theorem zI (f:Format)(x y:Nat)(hb:f.binade≤f.infRung)(hx:f.infRung<qk f x):f.order x y=none:=by
 obtain⟨s,t,e⟩:=xu f x hx hb
 unfold Format.order
 rw[e]
 rfl
theorem j7 (f:Format)(x y:Nat)(hb:f.binade≤f.infRung)(hy:f.infRung<qk f y):f.order x y=none:=by
 obtain⟨s,t,e⟩:=xu f y hy hb
 unfold Format.order
 rw[e]
 cases f.read x<;>rfl
theorem kI (neg:Bool)(n:Nat):Toward.even.cut neg n 0=n:=by
 unfold Toward.cut
 simp[Nat.mod_one]
theorem xO (f:Format)(s:Bool)(m:Nat)(p:Int)(hm:m≠0)(hl:m.log2≤f.fractionBits)(hp:f.leastPlace≤p)(hV:m*2^(p-f.leastPlace).toNat<qt f f.infRung):
  ∃r,f.nearest s m p=f.word s r∧r<f.infRung∧qt f r=m*2^(p-f.leastPlace).toNat:=by
 have hb:=jm f
 have l1:2^m.log2≤m:=Nat.log2_self_le hm
 have l2:m<2^(m.log2+1):=Nat.lt_log2_self
 obtain⟨last,hlast⟩:∃last,last=max (p+(m.log2:Int)-(f.fractionBits:Int)) f.leastPlace:=⟨_,rfl⟩
 have hle:last≤p:=by omega
 have hd:(last-p).toNat=0:=by omega
 have hn:f.nearest s m p=f.word s (min ((last-f.leastPlace).toNat*f.binade+m*2^(p-last).toNat) f.infRung):=by
  unfold Format.nearest
  rw[if_neg hm]
  simp only
  rw[←hlast,hd,kI,Nat.shiftLeft_eq]
 suffices hr:qt f ((last-f.leastPlace).toNat*f.binade+m*2^(p-last).toNat)=m*2^(p-f.leastPlace).toNat by
  have hlt:(last-f.leastPlace).toNat*f.binade+m*2^(p-last).toNat<f.infRung:=by
   rw[←zl f,hr];exact hV
  exact⟨_,by rw[hn,Nat.min_eq_left (Nat.le_of_lt hlt)],hlt,hr⟩
 by_cases hc:f.leastPlace≤p+(m.log2:Int)-(f.fractionBits:Int)
 ·have e1:(p-last).toNat=f.fractionBits-m.log2:=by omega
  obtain⟨L,hL⟩:∃L,L=(last-f.leastPlace).toNat:=⟨_,rfl⟩
  have e2:(p-f.leastPlace).toNat=f.fractionBits-m.log2+L:=by omega
  rw[e1,e2,←hL]
  obtain⟨n,hn'⟩:∃n,n=m*2^(f.fractionBits-m.log2):=⟨_,rfl⟩
  have n1:f.binade≤n:=by
   rw[hn'];unfold Format.binade
   calc 2^f.fractionBits=2^m.log2*2^(f.fractionBits-m.log2):=by rw[←qhv];congr 1;omega
    _≤_:=Nat.mul_le_mul_right _ l1
  have n2:n<2*f.binade:=by
   rw[hn'];unfold Format.binade
   calc m*2^(f.fractionBits-m.log2)<2^(m.log2+1)*2^(f.fractionBits-m.log2):=Nat.mul_lt_mul_of_pos_right l2 (qht _)
    _=2*2^f.fractionBits:=by rw[←qhv,←Nat.pow_succ'];congr 1;omega
  rw[qhv,←qhz,←hn']
  obtain⟨g,rfl⟩:∃g,n=f.binade+g:=⟨n-f.binade,by omega⟩
  have hg:g<f.binade:=by omega
  have e3:L*f.binade+(f.binade+g)=f.binade*(L+1)+g:=by rw[Nat.mul_add,qh0 L];omega
  have hge:f.binade*(L+1)=L*f.binade+f.binade:=by rw[Nat.mul_add,qh0 L,Nat.mul_one]
  unfold qt
  rw[e3,if_neg (by omega),Nat.mul_add_mod,Nat.mod_eq_of_lt hg,Nat.mul_add_div hb,Nat.div_eq_of_lt hg]
  congr 2
 ·have e1:last=f.leastPlace:=by omega
  have e2:m*2^(p-f.leastPlace).toNat<f.binade:=by
   unfold Format.binade
   calc m*2^(p-f.leastPlace).toNat<2^(m.log2+1)*2^(p-f.leastPlace).toNat:=Nat.mul_lt_mul_of_pos_right l2 (qht _)
    _=2^(m.log2+1+(p-f.leastPlace).toNat):=by rw[←qhv]
    _≤2^f.fractionBits:=qhw (by decide) (by omega)
  rw[e1]
  simp only[Int.sub_self,Int.toNat_zero,Nat.zero_mul,Nat.zero_add]
  unfold qt
  rw[if_pos e2]
theorem v8 (f:Format)(s:Bool)(r:Nat)(h:r<f.signWeight):qk f (f.word s r)=r:=by
 unfold qk Format.word
 cases s
 ·simp[Nat.mod_eq_of_lt h]
 ·simp[Nat.mod_eq_of_lt h]
theorem kJ (f:Format)(s:Bool)(r:Nat)(h:r<f.signWeight):below f (f.word s r)=s:=by
 unfold below Format.word
 have hp:0<f.signWeight:=qht _
 cases s
 ·simp[Nat.div_eq_of_lt h]
 ·simp[Nat.add_div_left _ hp,Nat.div_eq_of_lt h]
open Ieee
theorem ZW:FloatKind.f64.format.signWeight=9223372036854775808:=by decide+kernel
theorem Xo:FloatKind.f64.format.infRung=9218868437227405312:=by decide+kernel
theorem qfp:FloatKind.f64.format.binade=4503599627370496:=by decide+kernel
theorem kK:FloatKind.f64.format.binade≤FloatKind.f64.format.infRung:=by decide+kernel
theorem qe6:FloatKind.f32.format.signWeight=2147483648:=by decide+kernel
theorem qcq:FloatKind.f32.format.infRung=2139095040:=by decide+kernel
theorem Yg:FloatKind.f32.format.binade=8388608:=by decide+kernel
theorem qe7:FloatKind.f32.format.binade≤FloatKind.f32.format.infRung:=by decide+kernel
theorem jo (b:Int):(qQ b:Int)=b%18446744073709551616:=by
 unfold qQ
 rw[IntKind.wrap_u64]
 omega
theorem kL (b:Int):(qk FloatKind.f64.format (qQ b):Int)=b%9223372036854775808:=by
 have h:=jo b
 unfold qk
 rw[ZW]
 omega
theorem Xp (b:Int)(hb1:-9223372036854775808≤b)(hb2:b≤9223372036854775807):below FloatKind.f64.format (qQ b)=decide (b<0):=by
 have h:=jo b
 unfold below
 rw[ZW,Bool.eq_iff_iff,beq_iff_eq,qh1]
 omega
theorem vg (b:Int):cls b 64=4↔FloatKind.f64.format.infRung<qk FloatKind.f64.format (qQ b):=by
 have h:=kL b
 rw[Xo]
 unfold cls zc
 rw[if_pos rfl]
 (repeat' split)<;>omega
theorem kM (b:Int)(hv:0≤b∧b<4294967296):(qm b:Int)=b:=by
 unfold qm
 rw[if_pos (by simp[val,hv])]
 omega
theorem qcr (b:Int)(hv:¬(0≤b∧b<4294967296)):qm b=2143289345:=by
 unfold qm
 rw[if_neg (by simp[val];omega)]
theorem jY (b:Int)(hv:0≤b∧b<4294967296):(qk FloatKind.f32.format (qm b):Int)=b%2147483648:=by
 have h:=kM b hv
 unfold qk
 rw[qe6]
 omega
theorem xw (b:Int)(hv:0≤b∧b<4294967296):below FloatKind.f32.format (qm b)=decide (2147483648≤b):=by
 have h:=kM b hv
 unfold below
 rw[qe6,Bool.eq_iff_iff,beq_iff_eq,qh1]
 omega
theorem zQ (b:Int):cls b 32=4↔FloatKind.f32.format.infRung<qk FloatKind.f32.format (qm b):=by
 by_cases hv:0≤b∧b<4294967296
 ·have h:=jY b hv
  rw[qcq]
  unfold cls zc
  rw[if_neg (by decide),if_pos rfl,if_pos hv]
  (repeat' split)<;>omega
 ·rw[qcr b hv]
  unfold cls
  rw[if_neg (by decide),if_pos rfl,if_neg hv]
  decide+kernel
theorem ZX (x:Nat):(FloatKind.f64.format.order x x != some .eq)=decide (FloatKind.f64.format.infRung<qk FloatKind.f64.format x):=by
 by_cases h:FloatKind.f64.format.infRung<qk FloatKind.f64.format x
 ·rw[zI _ _ _ kK h,qh2 h];rfl
 ·rw[xJ _ _ _ kK (by omega) (by omega),qh3 h,←jX rfl];rfl
theorem Yh (x:Nat):(FloatKind.f32.format.order x x != some .eq)=decide (FloatKind.f32.format.infRung<qk FloatKind.f32.format x):=by
 by_cases h:FloatKind.f32.format.infRung<qk FloatKind.f32.format x
 ·rw[zI _ _ _ qe7 h,qh2 h];rfl
 ·rw[xJ _ _ _ qe7 (by omega) (by omega),qh3 h,←jX rfl];rfl
theorem Xq (b:Int)(hb1:-9223372036854775808≤b)(hb2:b≤9223372036854775807):qv (qQ b)=if cls b 64=4 then 9221120237041090561 else b:=by
 have h:=jo b
 unfold qv
 rw[ZX]
 by_cases hc:cls b 64=4
 ·rw[if_pos (qh2 ((vg b).1 hc)),if_pos hc]
 ·rw[if_neg (by rw[qh1,←vg];exact hc),if_neg hc]
  unfold Go.RowKit.wrap64
  omega
theorem qcs (b:Int):Kh (qm b)=if cls b 32=4 then 2143289345 else b:=by
 unfold Kh
 rw[Yh]
 by_cases hc:cls b 32=4
 ·rw[if_pos (qh2 ((zQ b).1 hc)),if_pos hc]
 ·have h:=kM b (qG b hc)
  have hv:=qG b hc
  rw[if_neg (by rw[qh1,←zQ];exact hc),if_neg hc]
  unfold Go.RowKit.wrap64
  omega
end Go.Proofs.YtaglkncdedeipaaGreatDoor
namespace Go.Proofs.YtaglkncdedeipaaGreatDoor
open Go.ChangeShapes Go.WideShapes Go.ChangeAt Go.RowKit
set_option linter.unusedVariables false
set_option linter.unusedSimpArgs false
set_option maxHeartbeats 16000000
set_option maxRecDepth 100000
open Ieee
def jp (k:FloatKind)(b:Nat)(w:World):Nat:=Question.cut (.nanConv k b) (w.tape w.drawn (.nanConv k b))
theorem j8 {P:Program}(w:World)(src dst:TypeId)(s k:FloatKind)(b:Nat){sg:Bool}{t:Nat}(hs:(P.underlying src).isSome=true)(hd:P.underlying dst=some (.float k))(ne:s≠k)(he:s.decode b=.nan sg t):
  (convert src dst (.float s b)).run P w=.ok (.float k (jp k b w)) w.drew:=by
 obtain⟨u,hs'⟩:=Option.isSome_iff_exists.1 hs
 cases u<;>simp[convert,run_underlying hs',run_underlying hd,Conv.floatToFloat,ne,he,jp,go_sem]
theorem VC (b:Nat)(w:World):FloatKind.f64.format.infRung<qk FloatKind.f64.format (jp .f64 b w):=by
 unfold jp Question.cut qk
 simp only
 rw[Xo,ZW]
 generalize w.tape w.drawn (.nanConv .f64 b)=t
 have h1:t%2<2:=Nat.mod_lt _ (by decide)
 have h2:t/2%(2^52-1)<2^52-1:=Nat.mod_lt _ (by decide)
 generalize t%2=s at *
 generalize t/2%(2^52-1)=u at *
 omega
def jZ:Nat:=925
def qct:Nat:=2098
def VD:Nat:=277
def wide (b:Int):Nat:=FloatKind.f64.encode (FloatKind.f32.decode (qm b))
def Wd (b n:Int)(y:Nat):Prop:=
 (qh b n=true∧qk FloatKind.f64.format y≤FloatKind.f64.format.infRung∧(n=64→y=qQ b)∧(n=32→y=wide b))∨(qh b n=false∧FloatKind.f64.format.infRung<qk FloatKind.f64.format y)
theorem Qh:qt FloatKind.f64.format FloatKind.f64.format.infRung=2^qct:=by decide+kernel
theorem jB:qt FloatKind.f32.format FloatKind.f32.format.infRung=2^VD:=by decide+kernel
theorem yE:FloatKind.f64.format.leastPlace=-1074:=by decide+kernel
theorem xK:FloatKind.f32.format.leastPlace=-149:=by decide+kernel
theorem xy:FloatKind.f64.format.infRung<FloatKind.f64.format.signWeight:=by decide+kernel
theorem kN (x:Nat)(h:qk FloatKind.f32.format x<FloatKind.f32.format.infRung):
  ∃r,FloatKind.f64.encode (FloatKind.f32.decode x)=FloatKind.f64.format.word (below FloatKind.f32.format x) r∧r<FloatKind.f64.format.infRung∧qt FloatKind.f64.format r=qt FloatKind.f32.format (qk FloatKind.f32.format x)*2^jZ∧∃m i,FloatKind.f32.decode x=.number (below FloatKind.f32.format x) m i:=by
 obtain⟨m,i,e,hi,hv,hm⟩:=zG FloatKind.f32.format x h
 have hlt:=za FloatKind.f32.format h
 rw[jB,←hv]at hlt
 rw[xK]at hi hv hlt
 rw[Yg]at hm
 have e':FloatKind.f32.decode x=.number (below FloatKind.f32.format x) m i:=e
 rw[e']
 show ∃r,FloatKind.f64.format.nearest (below FloatKind.f32.format x) m i=_∧_
 by_cases h0:m=0
 ·subst h0
  refine⟨0,by unfold Format.nearest;rw[if_pos rfl],by rw[Xo];omega,?_,_,_,rfl⟩
  rw[zH,←hv,Nat.zero_mul,Nat.zero_mul]
 ·have hpow:m*2^(i- -1074).toNat=m*2^(i- -149).toNat*2^jZ:=by
   rw[qhz,←qhv]
   congr 2
   unfold jZ
   omega
  have hlog:m.log2≤52:=by
   have:m.log2<53:=by
    rw[Nat.log2_lt h0]
    omega
   omega
  obtain⟨r,h1,h2,h3⟩:=xO FloatKind.f64.format (below FloatKind.f32.format x) m i h0 hlog (by rw[yE];omega) (by
   rw[Qh,yE,hpow]
   calc m*2^(i- -149).toNat*2^jZ<2^VD*2^jZ:=Nat.mul_lt_mul_of_pos_right hlt (qht _)
    _=2^(VD+jZ):=by rw[←qhv]
    _<2^qct:=Nat.pow_lt_pow_right (by decide) (by decide+kernel))
  refine⟨r,h1,h2,?_,_,_,rfl⟩
  rw[h3,yE,hpow,hv]
theorem kO (x:Nat)(h:qk FloatKind.f32.format x=FloatKind.f32.format.infRung):FloatKind.f32.decode x=.infinity (below FloatKind.f32.format x)∧FloatKind.f64.encode (FloatKind.f32.decode x)=FloatKind.f64.format.word (below FloatKind.f32.format x) FloatKind.f64.format.infRung:=by
 have e:FloatKind.f32.decode x=.infinity (below FloatKind.f32.format x):=jn FloatKind.f32.format x h qe7
 exact⟨e,by rw[e];rfl⟩
def W (x:Nat):Nat:=FloatKind.f64.encode (FloatKind.f32.decode x)
theorem QU (x:Nat)(h:qk FloatKind.f32.format x<FloatKind.f32.format.infRung):qk FloatKind.f64.format (W x)<FloatKind.f64.format.infRung∧qt FloatKind.f64.format (qk FloatKind.f64.format (W x))=qt FloatKind.f32.format (qk FloatKind.f32.format x)*2^jZ∧below FloatKind.f64.format (W x)=below FloatKind.f32.format x:=by
 obtain⟨r,e,h1,h2,-⟩:=kN x h
 have hs:r<FloatKind.f64.format.signWeight:=Nat.lt_trans h1 xy
 unfold W
 rw[e,v8 _ _ _ hs,kJ _ _ _ hs]
 exact⟨h1,h2,rfl⟩
theorem Xr (x:Nat)(h:qk FloatKind.f32.format x=FloatKind.f32.format.infRung):qk FloatKind.f64.format (W x)=FloatKind.f64.format.infRung∧below FloatKind.f64.format (W x)=below FloatKind.f32.format x:=by
 have e:=(kO x h).2
 unfold W
 rw[e,v8 _ _ _ xy,kJ _ _ _ xy]
 exact⟨rfl,rfl⟩
theorem Xs (x:Nat)(h:qk FloatKind.f32.format x≤FloatKind.f32.format.infRung):qk FloatKind.f64.format (W x)≤FloatKind.f64.format.infRung∧below FloatKind.f64.format (W x)=below FloatKind.f32.format x:=by
 by_cases e:qk FloatKind.f32.format x=FloatKind.f32.format.infRung
 ·have:=Xr x e
  exact⟨by omega,this.2⟩
 ·have:=QU x (by omega)
  exact⟨by omega,this.2.2⟩
theorem VE (x y:Nat)(hx:qk FloatKind.f32.format x≤FloatKind.f32.format.infRung)(hy:qk FloatKind.f32.format y≤FloatKind.f32.format.infRung):qk FloatKind.f64.format (W x)<qk FloatKind.f64.format (W y)↔qk FloatKind.f32.format x<qk FloatKind.f32.format y:=by
 by_cases e1:qk FloatKind.f32.format x=FloatKind.f32.format.infRung
 ·have a1:=Xr x e1
  have a2:=Xs y hy
  omega
 ·have a1:=QU x (by omega)
  by_cases e2:qk FloatKind.f32.format y=FloatKind.f32.format.infRung
  ·have a2:=Xr y e2
   omega
  ·have a2:=QU y (by omega)
   rw[←zl FloatKind.f64.format,a1.2.1,a2.2.1,Nat.mul_lt_mul_right (qht _),zl]
theorem qcu:qk FloatKind.f64.format (W 0)=0:=by decide+kernel
theorem qcv {s t:Bool}{r q r' q':Nat}(h1:r<q↔r'<q')(h2:q<r↔q'<r')(h3:0<r↔0<r')(h4:0<q↔0<q'):(sv s r<sv t q↔sv s r'<sv t q')∧(sv s r=sv t q↔sv s r'=sv t q'):=by
 unfold sv
 cases s<;>cases t<;>simp<;>omega
theorem qhj (x y:Nat)(hx:qk FloatKind.f32.format x≤FloatKind.f32.format.infRung)(hy:qk FloatKind.f32.format y≤FloatKind.f32.format.infRung):compare (key FloatKind.f64.format (W x)) (key FloatKind.f64.format (W y))=compare (key FloatKind.f32.format x) (key FloatKind.f32.format y):=by
 have z:qk FloatKind.f32.format 0≤FloatKind.f32.format.infRung:=by decide+kernel
 have z0:qk FloatKind.f32.format 0=0:=by decide+kernel
 have h3:=VE 0 x z hx
 have h4:=VE 0 y z hy
 rw[qcu,z0]at h3 h4
 have hc:=qcv (s:=below FloatKind.f32.format x) (t:=below FloatKind.f32.format y) (VE x y hx hy) (VE y x hy hx) h3 h4
 rw[qW,qW,qW,qW,(Xs x hx).2,(Xs y hy).2]
 exact xN hc.1 hc.2
def qd (b n:Int):Int:=if n=64 then (if b<0 then -(b%9223372036854775808)else b)else (if 2147483648≤b then -(b%2147483648)else b)
theorem z7 (b:Int)(hb1:-9223372036854775808≤b)(hb2:b≤9223372036854775807):key FloatKind.f64.format (qQ b)=qd b 64:=by
 unfold key qd
 rw[Xp b hb1 hb2,kL,if_pos rfl]
 by_cases h:b<0
 ·simp[h]
 ·simp[h];omega
theorem ZY (b:Int)(hv:0≤b∧b<4294967296):key FloatKind.f32.format (qm b)=qd b 32:=by
 unfold key qd
 rw[xw b hv,jY b hv,if_neg (by decide:¬(32:Int)=64)]
 by_cases h:2147483648≤b
 ·simp[h]
 ·simp[h];omega
theorem qcw (a b n:Int)(y z:Nat)(ha1:-9223372036854775808≤a)(ha2:a≤9223372036854775807)(hb1:-9223372036854775808≤b)(hb2:b≤9223372036854775807)(hy:Wd a n y)(hz:Wd b n z):
  FloatKind.f64.format.order y z=if (qh a n&&qh b n)=true then some (compare (qd a n) (qd b n))else none:=by
 rcases hy with ⟨i1,r1,p1,q1⟩|⟨i1,r1⟩
 ·rcases hz with ⟨i2,r2,p2,q2⟩|⟨i2,r2⟩
  ·rw[if_pos (by simp[i1,i2]),xJ _ _ _ kK r1 r2]
   congr 1
   rcases qV a n i1 with ⟨rfl,c1⟩|⟨rfl,c1⟩
   ·rw[p1 rfl,p2 rfl,z7 a ha1 ha2,z7 b hb1 hb2]
   ·have c2:cls b 32≠4:=by simpa [qh] using i2
    have n1:qk FloatKind.f32.format (qm a)≤FloatKind.f32.format.infRung:=by have:=mt (zQ a).2 c1;omega
    have n2:qk FloatKind.f32.format (qm b)≤FloatKind.f32.format.infRung:=by have:=mt (zQ b).2 c2;omega
    rw[q1 rfl,q2 rfl]
    show compare (key FloatKind.f64.format (W (qm a))) (key FloatKind.f64.format (W (qm b)))=_
    rw[qhj _ _ n1 n2,ZY a (qG a c1),ZY b (qG b c2)]
  ·rw[if_neg (by simp[i2]),j7 _ _ _ kK r2]
 ·rw[if_neg (by simp[i1]),zI _ _ _ kK r1]
open Ieee
theorem vi (b:Int)(w:World):Calls Tryz.prog 131 #[.int .i64 b,.int .i64 64] w fun e w'=>e=.returned (.float .f64 (qQ b))∧w=w':=by
 go_enter Tryz.func131,Tryz.ntmps131
 go_wp2_with (first|(go_at_call 115;refine(QS _ _).mono ?_;rintro e w2 ⟨rfl,rfl⟩))
 go_ret
 exact⟨rfl,rfl⟩
theorem qe8 (w:World):Calls Tryz.prog 158 #[] w fun e w'=>e=.returned (.float .f64 9221120237041090561)∧w=w':=by
 have h1:=z6
 go_enter Tryz.func158,Tryz.ntmps158
 go_wp2
 go_ret
 exact⟨rfl,rfl⟩
theorem Ki (b n:Int)(h1:(n==32)=false)(h2:(n==64)=false)(w:World):Calls Tryz.prog 131 #[.int .i64 b,.int .i64 n] w fun e w'=>e=.returned (.float .f64 9221120237041090561)∧w=w':=by
 go_enter Tryz.func131,Tryz.ntmps131
 go_wp2_with (first|(go_at_call 158;refine(qe8 _).mono ?_;rintro e w2 ⟨rfl,rfl⟩))
 go_ret
 exact⟨rfl,rfl⟩
theorem kP (b:Int)(hr:qk FloatKind.f32.format (qm b)≤FloatKind.f32.format.infRung)(w:World):Calls Tryz.prog 131 #[.int .i64 b,.int .i64 32] w fun e w'=>e=.returned (.float .f64 (wide b))∧w=w':=by
 have hc:floatToFloatBits .f32 (qm b) .f64=some (wide b):=by
  unfold floatToFloatBits
  rw[if_neg (by decide)]
  by_cases hi:qk FloatKind.f32.format (qm b)=FloatKind.f32.format.infRung
  ·have e:=kO (qm b) hi
   unfold wide
   rw[e.1]
  ·obtain⟨r,e,h1,-,m,i,hd⟩:=kN (qm b) (by omega)
   unfold wide
   rw[hd]at e
   rw[hd]
   simp only
   rw[if_neg]
   have hs:r<FloatKind.f64.format.signWeight:=Nat.lt_trans h1 xy
   obtain⟨m',i',e',-⟩:=zG FloatKind.f64.format (FloatKind.f64.format.word (below FloatKind.f32.format (qm b)) r) (by rw[v8 _ _ _ hs];exact h1)
   rw[e]
   show ¬(FloatKind.f64.format.read _).isInfinity=true
   rw[e']
   simp[Datum.isInfinity]
 have hcv:∀wx:World,(convert 171 66 (.float .f32 (qm b))).run Tryz.prog wx=.ok (.float .f64 (wide b)) wx:=fun wx=>run_convert_float_float wx 171 66 .f32 .f64 (qm b) (wide b) (by kernel_rfl) (by kernel_rfl) hc
 clear hc hr
 go_enter Tryz.func131,Tryz.ntmps131
 go_wp2_with (first|(go_at_call 157;refine(yj _ _).mono ?_;rintro e w2 ⟨rfl,rfl⟩))
 go_ret
 exact⟨rfl,rfl⟩
theorem kQ (b:Int)(hr:FloatKind.f32.format.infRung<qk FloatKind.f32.format (qm b))(w:World):Calls Tryz.prog 131 #[.int .i64 b,.int .i64 32] w fun e w'=>e=.returned (.float .f64 (jp .f64 (qm b) w))∧Kept w w':=by
 obtain⟨s,t,hd⟩:=xu FloatKind.f32.format (qm b) hr qe7
 have hcv:∀wx:World,(convert 171 66 (.float .f32 (qm b))).run Tryz.prog wx=.ok (.float .f64 (jp .f64 (qm b) wx)) wx.drew:=fun wx=>j8 wx 171 66 .f32 .f64 (qm b) (by kernel_rfl) (by kernel_rfl) (by decide) hd
 clear hd hr
 go_enter Tryz.func131,Tryz.ntmps131
 go_wp2_with (first|(go_at_call 157;refine(yj _ _).mono ?_;rintro e w2 ⟨rfl,rfl⟩))
 go_ret
 exact⟨rfl,(qia _).drew⟩
theorem Xt (b n:Int)(w:World):Calls Tryz.prog 131 #[.int .i64 b,.int .i64 n] w fun e w'=>∃y,e=.returned (.float .f64 y)∧Kept w w'∧Wd b n y:=by
 by_cases h64:n=64
 ·subst h64
  refine(vi b w).mono ?_
  rintro e w' ⟨rfl,rfl⟩
  refine⟨_,rfl,qia _,?_⟩
  by_cases hc:cls b 64=4
  ·exact Or.inr ⟨by simp[qh,hc],(vg b).1 hc⟩
  ·exact Or.inl ⟨by simp[qh,hc],by have:=mt (vg b).2 hc;omega,fun _=>rfl,fun h=>absurd h (by decide)⟩
 ·by_cases h32:n=32
  ·subst h32
   by_cases hc:cls b 32=4
   ·refine(kQ b ((zQ b).1 hc) w).mono ?_
    rintro e w' ⟨rfl,hk⟩
    exact⟨_,rfl,hk,Or.inr ⟨by simp[qh,hc],VC _ _⟩⟩
   ·have hr:qk FloatKind.f32.format (qm b)≤FloatKind.f32.format.infRung:=by have:=mt (zQ b).2 hc;omega
    refine(kP b hr w).mono ?_
    rintro e w' ⟨rfl,rfl⟩
    exact⟨_,rfl,qia _,Or.inl ⟨by simp[qh,hc],(Xs _ hr).1,fun h=>absurd h (by decide),fun _=>rfl⟩⟩
  ·refine(Ki b n (by simpa using h32) (by simpa using h64) w).mono ?_
   rintro e w' ⟨rfl,rfl⟩
   exact⟨_,rfl,qia _,Or.inr ⟨ja b n h64 h32,by decide+kernel⟩⟩
theorem zR {a b:Bool}(h:a=b):Ending.returned (.bool a)=.returned (.bool b):=by rw[h]
def lss (a b n:Int):Bool:=qh a n&&qh b n&&decide (qd a n<qd b n)
theorem Kk (a b:Int):(some (compare a b)==some Ordering.lt)=decide (a<b):=by
 by_cases h:a<b
 ·rw[←jz h,qh2 h];rfl
 ·by_cases e:a=b
  ·rw[←jX e,qh3 h];rfl
  ·rw[←jA (by omega),qh3 h];rfl
theorem v9 (a b:Int):(some (compare a b)==some Ordering.eq)=decide (a=b):=by
 by_cases h:a<b
 ·rw[←jz h,qh3 (by omega)];rfl
 ·by_cases e:a=b
  ·rw[←jX e,qh2 e];rfl
  ·rw[←jA (by omega),qh3 e];rfl
end Go.Proofs.YtaglkncdedeipaaGreatDoor
namespace Go.Proofs.YtaglkncdedeipaaGreatDoor
set_option linter.unusedVariables false
set_option linter.unusedSimpArgs false
set_option maxHeartbeats 16000000
set_option maxRecDepth 100000
def rv (c r:Nat):Nat:=if r<c then r else (c+r%c)*2^(r/c-1)
theorem Yi (c j k:Nat)(hc:0<c)(hk:k≤2*c)(h:j=0∨c≤k):rv c (j*c+k)=k*2^j:=by
 unfold rv
 by_cases h1:k<c
 ·have hj:j=0:=by omega
  subst hj
  rw[Nat.zero_mul,Nat.zero_add,if_pos h1,Nat.pow_zero,Nat.mul_one]
 ·have hjc:¬j*c+k<c:=by have:=Nat.zero_le (j*c);omega
  rw[if_neg hjc]
  by_cases h2:k=2*c
  ·subst h2
   rw[show j*c+2*c=(j+2)*c by rw[Nat.add_mul],Nat.mul_mod_left,Nat.mul_div_cancel _ hc,Nat.add_zero,show j+2-1=j+1 by omega,qh5,qh0 (2^j) 2,←qhz,qh0 c 2]
  ·obtain⟨f,rfl⟩:∃f,k=c+f:=⟨k-c,by omega⟩
   have hf:f<c:=by omega
   rw[show j*c+(c+f)=f+c*(j+1) by rw[Nat.mul_add,Nat.mul_one,qh0 c j];omega,Nat.add_mul_mod_self_left,Nat.mod_eq_of_lt hf,Nat.add_mul_div_left _ _ hc,Nat.div_eq_of_lt hf,Nat.zero_add,Nat.add_sub_cancel]
def flo (v:Nat)(t:Int):Nat:=if 0≤t then v*2^t.toNat else v/2^(-t).toNat
def rst (v:Nat)(t:Int):Bool:=if 0≤t then false else v%2^(-t).toNat != 0
theorem Xu (v T L:Nat)(t:Int)(ht:t=60-(T:Int)-(L:Int)):v*2^60/2^T/2^L=flo v t:=by
 unfold flo
 rw[Nat.div_div_eq_div_mul,←qhv]
 split
 ·obtain⟨q,hq⟩:∃q:Nat,t.toNat=q:=⟨_,rfl⟩
  rw[hq,show(60:Nat)=q+(T+L) by omega,qhv,←qhz,Nat.mul_div_cancel _ (qht _)]
 ·obtain⟨q,hq⟩:∃q:Nat,(-t).toNat=q:=⟨_,rfl⟩
  rw[hq,show T+L=q+60 by omega,qhv,Nat.mul_div_mul_right _ _ (qht _)]
theorem qcx (v T m:Nat)(t:Int)(ht:t=60-(T:Int)-(m:Int))(hv:v%2=1)(hT:v<2^T):rst v t=(decide (60<(T:Int))||v*2^60/2^T%2^m != 0):=by
 by_cases h60:60<T
 ·rw[qh2 (by omega:60<(T:Int)),Bool.true_or]
  unfold rst
  rw[if_neg (by omega)]
  obtain⟨q,hq⟩:∃q:Nat,(-t).toNat=q+1:=⟨(-t).toNat-1,by omega⟩
  rw[hq]
  have:v%2^(q+1)%2=1:=by
   rw[Nat.mod_mod_of_dvd _ (by rw[qh5];exact Nat.dvd_mul_left _ _)]
   exact hv
  have h2:v%2^(q+1)≠0:=by
   intro h0;rw[h0]at this;simp at this
  simpa using h2
 ·rw [qh3 (by omega:¬60<(T:Int)),Bool.false_or]
  obtain⟨a,ha⟩:∃a:Nat,60=a+T:=⟨60-T,by omega⟩
  rw[ha,qhv,←qhz,Nat.mul_div_cancel _ (qht _)]
  unfold rst
  split
  ·have:a=(a-m)+m:=by omega
   rw[this,qhv,←qhz,Nat.mul_mod_left]
   rfl
  ·obtain⟨q,hq⟩:∃q:Nat,(-t).toNat=q:=⟨_,rfl⟩
   have hm:m=a+q:=by omega
   rw[hq,hm,qhv,qh0 v,Nat.mul_mod_mul_left]
   have hp:=qht a
   by_cases h0:v%2^q=0
   ·simp[h0]
   ·have:¬2^a*(v%2^q)=0:=by
     intro h;rcases Nat.mul_eq_zero.1 h with h|h<;>omega
    rw[show(v%2^q != 0)=true by simpa using h0,show(2^a*(v%2^q) != 0)=true by simpa [bne_iff_ne] using this]
theorem qcy (v:Nat)(x u s:Int)(hx:s≤x)(hu:s≤u):flo v (x-u)=v*2^(x-s).toNat/2^(u-s).toNat:=by
 unfold flo
 split
 ·rw[show(x-s).toNat=(x-u).toNat+(u-s).toNat by omega,qhv,←qhz,Nat.mul_div_cancel _ (qht _)]
 ·rw[show(u-s).toNat=(-(x-u)).toNat+(x-s).toNat by omega,qhv,Nat.mul_div_mul_right _ _ (qht _)]
theorem qgv (v:Nat)(x u s:Int)(hx:s≤x)(hu:s≤u):rst v (x-u)=(v*2^(x-s).toNat%2^(u-s).toNat != 0):=by
 unfold rst
 split
 ·rw[show(x-s).toNat=(x-u).toNat+(u-s).toNat by omega,qhv,←qhz,Nat.mul_mod_left]
  rfl
 ·rw[show(u-s).toNat=(x-s).toNat+(-(x-u)).toNat by omega,qhv,qh0 v,Nat.mul_mod_mul_left]
  have hp:=qht (x-s).toNat
  by_cases h0:v%2^(-(x-u)).toNat=0
  ·simp[h0]
  ·have:¬2^(x-s).toNat*(v%2^(-(x-u)).toNat)=0:=by
    intro h;rcases Nat.mul_eq_zero.1 h with h|h<;>omega
   rw[show(v%2^(-(x-u)).toNat != 0)=true by simpa using h0,show(2^(x-s).toNat*(v%2^(-(x-u)).toNat) != 0)=true by simpa [bne_iff_ne] using this]
def unz (p:Nat)(l:Int)(T:Nat)(x:Int):Int:=max (x+(T:Int)-(p:Int)) l
structure Cutz (c D V k Q H F:Nat) (od hf rt:Bool):Prop where
 two:Q=2*H
 pos:0<H
 kq:V/Q=k
 low:rv c F*D=k*Q
 high:rv c (F+1)*D=(k+1)*Q
 od:od=decide (k%2=1)
 fod:F%2=k%2
 hf:hf=decide (H≤V%Q)
 rt:rt=decide (V%Q%H≠0)
theorem jy (p:Nat)(l:Int)(v T:Nat)(x:Int)(hp:0<p)(hT1:2^(T-1)≤v)(hT2:v<2^T)(hT:0<T):flo v (x-unz p l T x)<2^p∧(unz p l T x=l∨2^(p-1)≤flo v (x-unz p l T x)):=by
 obtain⟨u,hu⟩:∃u,unz p l T x=u:=⟨_,rfl⟩
 rw[hu]
 unfold unz at hu
 unfold flo
 constructor
 ·split
  ·have hle:T+(x-u).toNat≤p:=by omega
   calc v*2^(x-u).toNat<2^T*2^(x-u).toNat:=Nat.mul_lt_mul_of_pos_right hT2 (qht _)
    _=2^(T+(x-u).toNat):=by rw[qhv]
    _≤2^p:=qhw (by decide) hle
  ·rw[Nat.div_lt_iff_lt_mul (qht _),←qhv]
   exact qhu hT2 (qhw (by decide) (by omega))
 ·by_cases hl:u=l
  ·exact Or.inl hl
  ·right
   split
   ·have:p-1=(T-1)+(x-u).toNat:=by omega
    rw[this,qhv]
    exact Nat.mul_le_mul_right _ hT1
   ·rw[Nat.le_div_iff_mul_le (qht _),←qhv]
    exact qh4 (qhw (by decide) (by omega)) hT1
theorem Qi (u l s:Int)(h1:s≤l)(h2:l≤u):2^(u-s).toNat=2^(u-l).toNat*2^(l-s).toNat:=by
 rw[←qhv];congr 1;omega
theorem qe9 (p c : Nat)(l : Int)(v T : Nat)(x s:Int)(hp:2≤p)(hc:c=2^(p-1))(hT1:2^(T-1)≤v)(hT2:v<2^T)(hT:0<T)(hx:s≤x)(hl:s<l)(u:Int)(hu:unz p l T x=u)(k F:Nat)(hk:flo v (x-u)=k)(hF:F=(u-l).toNat*c+k):
    Cutz c (2^(l-s).toNat) (v*2^(x-s).toNat) k (2^(u-s).toNat) (2^(u-1-s).toNat) F (decide (k%2=1)) (decide (flo v (x-u+1)%2=1)) (rst v (x-u+1)):=by
  obtain⟨hb1,hb2⟩:=jy p l v T x (by omega) hT1 hT2 hT
  have hlu:l≤u:=by unfold unz at hu;omega
  rw[hu,hk]at hb1 hb2
  have hc2:2^p=2*c:=by rw[hc,←Nat.pow_succ'];congr 1;omega
  have hcp:0<c:=by rw[hc];exact qht _
  have hQ:2^(u-s).toNat=2*2^(u-1-s).toNat:=by rw[←Nat.pow_succ'];congr 1;omega
  have hkq:v*2^(x-s).toNat/2^(u-s).toNat=k:=by rw[←qcy v x u s hx (by omega)];exact hk
  have hjk : (u - l).toNat = 0 ∨ c ≤ k := by rcases hb2 with h|h
                                             · left;omega
                                             · right;rw[hc];exact h
  have hsp:=Qi u l s (by omega) hlu
  have hhalf:flo v (x-u+1)=v*2^(x-s).toNat/2^(u-1-s).toNat:=by
    rw[show x-u+1=x-(u-1) by omega];exact qcy v x (u-1) s hx (by omega)
  have hrest:rst v (x-u+1)=(v*2^(x-s).toNat%2^(u-1-s).toNat != 0):=by
    rw[show x-u+1=x-(u-1) by omega];exact qgv v x (u-1) s hx (by omega)
  have hce:c%2=0:=by
    rw[hc,show p-1=(p-2)+1 by omega,qh5];omega
  have hHp:=qht (u-1-s).toNat
  generalize v*2^(x-s).toNat=V at *
  generalize 2^(u-1-s).toNat=H at *
  generalize 2^(u-s).toNat=Q at *
  generalize 2^(l-s).toNat=D at *
  generalize (u-l).toNat=j at *
  refine⟨hQ,hHp,hkq,?_,?_,rfl,?_,?_,?_⟩
  · rw[hF,Yi c j k hcp (by omega) hjk,qhz,←hsp]
  · rw[hF,Nat.add_assoc,Yi c j (k+1) hcp (by omega) (by omega),qhz,←hsp]
  · rw[hF,Nat.add_mod,Nat.mul_mod,hce];simp
  · rw [hhalf]
    congr 1
    have hdm:=Nat.div_add_mod V Q
    rw[hQ]at hdm ⊢
    apply propext
    have e1:V/H=2*(V/(2*H))+V%(2*H)/H:=by
      have:V=V%(2*H)+H*(2*(V/(2*H))):=by
        rw[←qhz,qh0 H 2];omega
      rw[show V/H=(V%(2*H)+H*(2*(V/(2*H))))/H by rw[←this],Nat.add_mul_div_left _ _ hHp];omega
    have e2:V%(2*H)<2*H:=Nat.mod_lt _ (by omega)
    rw[e1]
    constructor
    · intro h
      apply Decidable.byContradiction
      intro hn
      have hz:V%(2*H)/H=0:=Nat.div_eq_of_lt (by omega)
      omega
    · intro h
      have:V%(2*H)/H=1:=by
        rw[show V%(2*H)=(V%(2*H)-H)+H*1 by omega,Nat.add_mul_div_left _ _ hHp,Nat.div_eq_of_lt (by omega)]
      omega
  · rw[hrest,hQ,Nat.mod_mul_left_mod]
    by_cases h:V%H=0
    · simp[h]
    · simp[h]
theorem Cutz.floor {c D V k Q H F:Nat}{od hf rt:Bool}(h:Cutz c D V k Q H F od hf rt):rv c F*D≤V∧V<rv c (F+1)*D:=by
 have h1:=Nat.div_add_mod V Q
 have h2:V%Q<Q:=Nat.mod_lt _ (by have:=h.two;have:=h.pos;omega)
 rw[h.kq]at h1
 rw[h.low,h.high,Nat.add_mul,Nat.one_mul,qh0 k Q]
 omega
theorem Cutz.rem {c D V k Q H F:Nat}{od hf rt:Bool}(h:Cutz c D V k Q H F od hf rt):V=rv c F*D+V%Q∧rv c (F+1)*D=rv c F*D+Q∧V%Q<Q:=by
 have h1:=Nat.div_add_mod V Q
 have h2:V%Q<Q:=Nat.mod_lt _ (by have:=h.two;have:=h.pos;omega)
 rw[h.kq]at h1
 rw[h.low,h.high,Nat.add_mul,Nat.one_mul,qh0 k Q]
 omega
theorem Km (r H:Nat)(hH:0<H)(h2:r<2*H):(H≤r∨r%H≠0)↔r≠0:=by
 by_cases h:r<H
 ·rw[Nat.mod_eq_of_lt h];omega
 ·constructor
  ·intro _;omega
  ·intro _;left;omega
theorem Cutz.cut {c D V k Q H F:Nat}{od hf rt:Bool}(h:Cutz c D V k Q H F od hf rt):(hf||rt)=decide (V≠rv c F*D):=by
 obtain⟨h1,h2,h3⟩:=h.rem
 rw[h.hf,h.rt,←Bool.decide_or]
 congr 1
 apply propext
 rw[Km (V%Q) H h.pos (by rw[←h.two];exact h3)]
 omega
theorem Cutz.near {c D V k Q H F:Nat}{od hf rt:Bool}(h:Cutz c D V k Q H F od hf rt):(hf&&(rt||od))=decide (rv c F*D+rv c (F+1)*D<2*V∨(rv c F*D+rv c (F+1)*D=2*V∧F%2=1)):=by
 obtain⟨h1,h2,h3⟩:=h.rem
 have h4:=h.two
 have h5:=h.pos
 rw[h.hf,h.rt,h.od,←Bool.decide_or,←Bool.decide_and,h.fod]
 congr 1
 apply propext
 have hm:H≤V%Q→V%Q%H=V%Q-H:=by
  intro hh
  have:V%Q=(V%Q-H)+H*1:=by omega
  rw[this,Nat.add_mul_mod_self_left,Nat.mod_eq_of_lt (by omega)]
  omega
 constructor
 ·rintro⟨hh,ho⟩
  rw[hm hh]at ho
  omega
 ·intro ho
  have hh:H≤V%Q:=by omega
  rw[hm hh]
  omega
def awz (way:Int)(ng od hf rt:Bool):Bool:=if way=0 then hf&&(rt||od)else if way=1 then ng&&(hf||rt)else !ng&&(hf||rt)
def mgz (way:Int)(ng:Bool)(inf F:Nat)(od hf rt:Bool):Nat:=if F+(awz way ng od hf rt).toNat<inf then F+(awz way ng od hf rt).toNat else if awz way ng false true true=true then inf else inf-1
def odz (way:Int)(ng:Bool)(inf F:Nat)(od hf rt:Bool):Bool:=hf||rt||decide (inf≤F+(awz way ng od hf rt).toNat)
def mir (way:Int):Int:=if way=0 then 0 else 3-way
theorem Yj (way:Int)(hw:way=0∨way=1∨way=2)(ng od hf rt:Bool):awz (mir way) (!ng) od hf rt=awz way ng od hf rt:=by
 rcases hw with rfl|rfl|rfl<;>simp[awz,mir]
theorem Yk (way:Int)(hw:way=0∨way=1∨way=2)(ng:Bool)(inf F:Nat)(od hf rt:Bool):mgz (mir way) (!ng) inf F od hf rt=mgz way ng inf F od hf rt∧odz (mir way) (!ng) inf F od hf rt=odz way ng inf F od hf rt:=by
 unfold mgz odz
 rw[Yj way hw,Yj way hw]
 exact⟨rfl,rfl⟩
theorem qcz (way:Int)(ng:Bool)(inf F:Nat)(od hf rt:Bool):mgz way ng inf F od hf rt≤inf:=by
 unfold mgz;(repeat' split)<;>omega
structure Btw (c D V inf lo hi ne:Nat) (o:Bool):Prop where
 same:o=false→lo<inf∧hi=lo∧ne=lo∧V=rv c lo*D
 low:o=true→lo+1=hi∧lo<inf∧rv c lo*D<V∧(hi<inf→V<rv c hi*D)∧(ne=lo∨ne=hi)
 near:o=true→hi<inf→(2*V<rv c lo*D+rv c hi*D→ne=lo)∧(rv c lo*D+rv c hi*D<2*V→ne=hi)∧(rv c lo*D+rv c hi*D=2*V→ne%2=0)
theorem Cutz.btw {c D V k Q H F:Nat}{od hf rt:Bool}(h:Cutz c D V k Q H F od hf rt)(inf:Nat)(hi:0<inf)(hm:∀r s,r≤s→rv c r≤rv c s)(hm2:∀r s,r<s→rv c r<rv c s)(hD:0<D)(ng:Bool):Btw c D V inf (mgz 1 false inf F od hf rt) (mgz 2 false inf F od hf rt) (mgz 0 ng inf F od hf rt) (odz 1 false inf F od hf rt)∧odz 2 false inf F od hf rt=odz 1 false inf F od hf rt∧odz 0 ng inf F od hf rt=odz 1 false inf F od hf rt:=by
 obtain⟨a1,a2⟩:=h.floor
 obtain⟨N,hN⟩:∃N,(hf&&(rt||od))=N:=⟨_,rfl⟩
 obtain⟨C,hC⟩:∃C,(hf||rt)=C:=⟨_,rfl⟩
 have e1:awz 1 false od hf rt=false:=rfl
 have e2:awz 2 false od hf rt=C:=by rw[←hC];rfl
 have e3:awz 0 ng od hf rt=N:=hN
 have e4:awz 1 false false true true=false:=rfl
 have e5:awz 2 false false true true=true:=rfl
 have e6:awz 0 ng false true true=true:=rfl
 have hn:=h.near
 have hc:=h.cut
 rw[hN]at hn
 rw[hC]at hc
 have hNC:N=true→C=true:=by
  rw[←hN,←hC];cases hf<;>cases rt<;>simp
 unfold mgz odz
 rw[e1,e2,e3,e4,e5,e6,hC,if_pos rfl,if_neg (show ¬false=true by decide)]
 have hlow:¬F<inf→rv c (inf-1)*D<V:=fun hh=>qhu (Nat.mul_lt_mul_of_pos_right (hm2 (inf-1) F (by omega)) hD) a1
 clear hm hm2
 cases C
 ·have hN0:N=false:=by cases N;rfl;exact absurd (hNC rfl) (by decide)
  subst hN0
  have hV:V=rv c F*D:=by
   have:=of_decide_eq_false hc.symm
   omega
  simp only[Bool.toNat_false,Nat.add_zero,Bool.false_or]
  refine⟨⟨?_,?_,?_⟩,by simp,by simp⟩
  ·intro ho
   have hF:F<inf:=by have:=of_decide_eq_false ho;omega
   simp only[if_pos hF]
   exact⟨hF,by trivial,by trivial,hV⟩
  ·intro ho
   have hF:¬F<inf:=by have:=of_decide_eq_true ho;omega
   simp only[if_neg hF]
   refine⟨by omega,by omega,hlow hF,fun hh=>absurd hh (by omega),?_⟩
   first|omega|(right;trivial)|simp
  ·intro ho hh
   have hF:¬F<inf:=by have:=of_decide_eq_true ho;omega
   simp only[if_neg hF]at hh
   omega
 ·have hV:V≠rv c F*D:=of_decide_eq_true hc.symm
  simp only[Bool.toNat_false,Bool.toNat_true,Nat.add_zero,Bool.true_or]
  refine⟨⟨?_,?_,?_⟩,by simp,by simp⟩
  ·intro ho;cases ho
  ·intro _
   by_cases hF:F+1<inf
   ·have hF':F<inf:=by omega
    simp only[if_pos hF,if_pos hF']
    refine⟨by trivial,hF',by omega,fun _=>a2,?_⟩
    cases N
    ·left;simp[hF']
    ·right;simp[hF]
   ·by_cases hF':F<inf
    ·have hFi:F+1=inf:=by omega
     simp only[if_neg hF,if_pos hF']
     refine⟨by omega,hF',by omega,fun hh=>by omega,?_⟩
     cases N
     ·left;simp[hF']
     ·right;simp[hF]
    ·simp only[if_neg hF,if_neg hF']
     have hN2:¬F+N.toNat<inf:=by omega
     refine⟨by omega,by omega,hlow hF',fun hh=>by omega,?_⟩
     right;simp[hN2]
  ·intro _ hh
   have hF:F+1<inf:=by
    apply Decidable.byContradiction
    intro hx
    simp only[if_neg hx]at hh
    omega
   have hF':F<inf:=by omega
   simp only[if_pos hF,if_pos hF']
   cases N
   ·have hz:=of_decide_eq_false hn.symm
    simp only[Bool.toNat_false,Nat.add_zero,if_pos hF']
    refine⟨fun _=>?_,fun _=>?_,fun _=>?_⟩<;>first|trivial|omega
   ·have hz:=of_decide_eq_true hn.symm
    simp only[Bool.toNat_true,if_pos hF]
    refine⟨fun _=>?_,fun _=>?_,fun _=>?_⟩<;>first|trivial|omega
def ifn (n:Int):Nat:=if n=64 then 9218868437227405312 else 2139095040
def pz (n k:Int):Int:=if n=64 then (if k<0 then -k-9223372036854775808 else k)else (if k<0 then -k+2147483648 else k)
theorem jg (b:Int):qh b 64=true↔b%9223372036854775808≤9218868437227405312:=by
 unfold qh cls zc
 rw[qh1,if_pos rfl]
 (repeat' split)<;>omega
theorem jh (b:Int):qh b 32=true↔(0≤b∧b<4294967296)∧b%2147483648≤2139095040:=by
 unfold qh cls zc
 rw[qh1,if_neg (by decide),if_pos rfl]
 (repeat' split)<;>omega
theorem Xv (n k:Int)(hn:n=64∨n=32)(h1:-(ifn n:Int)≤k)(h2:k≤(ifn n:Int)):-9223372036854775808≤pz n k∧pz n k≤9223372036854775807:=by
 rcases hn with rfl|rfl
 ·simp only[ifn,pz,reduceIte]at *
  split<;>omega
 ·simp only[ifn,pz,show ¬((32:Int)=64) by decide,if_false]at *
  split<;>omega
theorem qc0 (n k:Int)(hn:n=64∨n=32)(h1:-(ifn n:Int)≤k)(h2:k≤(ifn n:Int)):qh (pz n k) n=true:=by
 rcases hn with rfl|rfl
 ·rw[jg]
  simp only[ifn,pz,reduceIte]at *
  split<;>omega
 ·rw[jh]
  simp only[ifn,pz,show ¬((32:Int)=64) by decide,if_false]at *
  split<;>omega
theorem qc1 (n k:Int)(hn:n=64∨n=32)(h1:-(ifn n:Int)≤k)(h2:k≤(ifn n:Int)):qd (pz n k) n=k:=by
 rcases hn with rfl|rfl
 ·simp only[ifn,pz,qd,reduceIte]at *
  (repeat' split)<;>omega
 ·simp only[ifn,pz,qd,show ¬((32:Int)=64) by decide,if_false]at *
  (repeat' split)<;>omega
theorem VF (n k:Int)(hn:n=64∨n=32)(h1:-(ifn n:Int)≤k)(h2:k≤(ifn n:Int)):cls (pz n k) n<3↔(-(ifn n:Int)<k∧k<(ifn n:Int)):=by
 rcases hn with rfl|rfl
 ·simp only[ifn,pz,cls,zc,reduceIte]at *
  (repeat' split)<;>omega
 ·simp only[ifn,pz,cls,zc,show ¬((32:Int)=64) by decide,if_false,reduceIte]at *
  (repeat' split)<;>omega
theorem qc2 (n k:Int)(hn:n=64∨n=32)(h1:-(ifn n:Int)<k)(h2:k<(ifn n:Int)):fin (pz n k) n=true:=by
 unfold fin
 rw[qh1]
 exact⟨hn,(VF n k hn (by omega) (by omega)).2 ⟨h1,h2⟩⟩
theorem qc3 (n k:Int)(hn:n=64∨n=32)(h1:-(ifn n:Int)<k)(h2:k<(ifn n:Int)):qS (pz n k) n=decide (k<0):=by
 unfold qS
 rw[qc2 n k hn h1 h2,Bool.true_and]
 rcases hn with rfl|rfl
 ·simp only[ifn,pz,sgn,reduceIte]at *
  congr 1
  apply propext
  split<;>omega
 ·simp only[ifn,pz,sgn,show ¬((32:Int)=64) by decide,if_false]at *
  congr 1
  apply propext
  split<;>omega
theorem qc4 (n k:Int)(hn:n=64∨n=32)(h1:-(ifn n:Int)<k)(h2:k<(ifn n:Int))(c:Int)(hc:c=if n=64 then 4503599627370496 else 8388608)(l:Int)(hl:l=if n=64 then -1074 else -149)(r:Int)(hr:r=if k<0 then -k else k):qw (pz n k) n=(if r<c then r else c+r%c)∧qA (pz n k) n=(if r<c then l else l+(r/c-1)):=by
 have hF:=qc2 n k hn h1 h2
 unfold qw qA
 rw[if_pos hF,if_pos hF]
 clear hF
 rcases hn with rfl|rfl
 ·have hm:pz 64 k%9223372036854775808=r:=by
   rw[hr]
   simp only[ifn,pz,reduceIte]at *
   (repeat' split)<;>omega
  rw[if_pos rfl]at hc hl
  rw[if_pos rfl,if_pos rfl,hm,hc,hl]
  clear hm
  simp only[ifn,reduceIte]at *
  constructor<;>(split<;>omega)
 ·have hm:pz 32 k%2147483648=r:=by
   rw[hr]
   simp only[ifn,pz,show ¬((32:Int)=64) by decide,if_false]at *
   (repeat' split)<;>omega
  rw[if_neg (show ¬((32:Int)=64) by decide)]at hc hl
  rw[if_neg (show ¬((32:Int)=64) by decide),if_neg (show ¬((32:Int)=64) by decide),hm,hc,hl]
  clear hm
  simp only[ifn,show ¬((32:Int)=64) by decide,if_false]at *
  constructor<;>(split<;>omega)
end Go.Proofs.YtaglkncdedeipaaGreatDoor
