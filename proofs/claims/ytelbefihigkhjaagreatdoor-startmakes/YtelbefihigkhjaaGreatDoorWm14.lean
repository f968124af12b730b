/-  -/
import Derived.Test.YtelbefihigkhjaaGreatDoorWm03
import Derived.Test.YtelbefihigkhjaaGreatDoorWm13
import Derived.Laws.FloatArith
import Derived.Laws.Externs
import Ieee.Arith
namespace Go.Proofs.YtelbefihigkhjaaGreatDoor
open Go.ChangeShapes Go.WideShapes Go.ChangeAt Go.RowKit
set_option maxHeartbeats 16000000
set_option maxRecDepth 100000
theorem xu (x:Int)(w:World):(callFunc 223 #[.int .u64 x]).run Tryz.prog w=.ok (.value (.float .f64 x.toNat)) w:=by
 rw[run_callFunc_extern (fn:=Tryz.f223) (e:=Extern.MathFloatBits.float64frombits) (by kernel_rfl) (by kernel_rfl) (by kernel_rfl) (by kernel_rfl) (by kernel_rfl)]
 rfl
theorem XU (x:Nat)(w:World):(callFunc 224 #[.float .f64 x]).run Tryz.prog w=.ok (.value (.int .u64 x)) w:=by
 rw[run_callFunc_extern (fn:=Tryz.f224) (e:=Extern.MathFloatBits.float64bits) (by kernel_rfl) (by kernel_rfl) (by kernel_rfl) (by kernel_rfl) (by kernel_rfl)]
 rfl
theorem kj (x:Int)(w:World):(callFunc 217 #[.int .u32 x]).run Tryz.prog w=.ok (.value (.float .f32 x.toNat)) w:=by
 rw[run_callFunc_extern (fn:=Tryz.f217) (e:=Extern.MathFloatBits.float32frombits) (by kernel_rfl) (by kernel_rfl) (by kernel_rfl) (by kernel_rfl) (by kernel_rfl)]
 rfl
theorem XV (x:Nat)(w:World):(callFunc 218 #[.float .f32 x]).run Tryz.prog w=.ok (.value (.int .u32 x)) w:=by
 rw[run_callFunc_extern (fn:=Tryz.f218) (e:=Extern.MathFloatBits.float32bits) (by kernel_rfl) (by kernel_rfl) (by kernel_rfl) (by kernel_rfl) (by kernel_rfl)]
 rfl
def xP (b:Int):Nat:=(IntKind.u64.wrap b).toNat
def qW (b:Int):Nat:=if val b 32=true then (b%4294967296).toNat else 2143289345
def qbn (x:Nat):Int:=if (FloatKind.f64.format.order x x != some .eq)=true then 9221120237041090561 else wrap64 x
def qhq (x:Nat):Int:=if (FloatKind.f32.format.order x x != some .eq)=true then 2143289345 else wrap64 x
theorem Zw {k:FloatKind}{a b:Nat}(h:a=b):Ending.returned (.float k a)=.returned (.float k b):=by rw[h]
theorem Zx (b:Int)(w:World):Calls Tryz.prog 149 #[.int .i64 b] w fun e w'=>e=.returned (.float .f64 (xP b))∧w=w':=by
 have h1:=xu
 go_enter Tryz.func149,Tryz.ntmps149
 go_wp2
 go_ret
 exact⟨rfl,rfl⟩
theorem yZ (b:Int)(w:World):Calls Tryz.prog 146 #[.int .i64 b] w fun e w'=>e=.returned (.float .f32 (qW b))∧w=w':=by
 have h1:=kj
 go_enter Tryz.func146,Tryz.ntmps146
 go_wp2_with (go_at_call 162;refine(ys _ _ _).mono ?_;rintro e w2 ⟨rfl,rfl⟩)
 ·go_ret
  exact⟨Zw (by unfold qW;rw[if_neg (by simp_all)]),rfl⟩
 ·go_ret
  exact⟨Zw (by unfold qW;rw[if_pos (by simp_all)]),rfl⟩
theorem XW (b:Nat)(w:World):Calls Tryz.prog 150 #[.float .f64 b] w fun e w'=>e=.returned (.int .i64 (qbn b))∧w=w':=by
 have h1:=XU
 go_enter Tryz.func150,Tryz.ntmps150
 go_wp2
 ·go_ret
  exact⟨qt (by unfold qbn;rw[if_pos (by assumption)]),rfl⟩
 ·go_ret
  exact⟨qt (by unfold qbn;rw[if_neg (by simp_all)]),rfl⟩
theorem qe2 (b:Nat)(w:World):Calls Tryz.prog 147 #[.float .f32 b] w fun e w'=>e=.returned (.int .i64 (qhq b))∧w=w':=by
 have h1:=XV
 go_enter Tryz.func147,Tryz.ntmps147
 go_wp2
 ·go_ret
  exact⟨qt (by unfold qhq;rw[if_pos (by assumption)]),rfl⟩
 ·go_ret
  exact⟨qt (by unfold qhq;rw[if_neg (by simp_all)]),rfl⟩
end Go.Proofs.YtelbefihigkhjaaGreatDoor
namespace Go.Proofs.YtelbefihigkhjaaGreatDoor
set_option maxHeartbeats 16000000
set_option maxRecDepth 100000
open Ieee
theorem jC (f:Format):0<f.binade:=qle _
def qs (f:Format)(r:Nat):Nat:=if r<f.binade then r else (f.binade+r%f.binade)*2^(r/f.binade-1)
theorem yp (f:Format)(r:Nat):qs f r<qs f (r+1):=by
 have hb:=jC f
 unfold qs
 by_cases h:r<f.binade
 ·rw[if_pos h]
  by_cases h1:r+1<f.binade
  ·rw[if_pos h1];omega
  ·have e:r+1=f.binade:=by omega
   rw[if_neg h1,e,Nat.mod_self,Nat.div_self hb]
   simp
   omega
 ·have h1:¬r+1<f.binade:=by omega
  rw[if_neg h,if_neg h1]
  have hd:=Nat.div_add_mod r f.binade
  have hm:=Nat.mod_lt r hb
  have hq:1≤r/f.binade:=(Nat.le_div_iff_mul_le hb).2 (by omega)
  by_cases hc:r%f.binade+1<f.binade
  ·have e1:(r+1)/f.binade=r/f.binade:=by
    rw[Nat.div_eq_iff hb]
    have:f.binade*(r/f.binade)=r/f.binade*f.binade:=qll _ _
    constructor<;>omega
   have e2:(r+1)%f.binade=r%f.binade+1:=by
    rw[Nat.add_mod,Nat.mod_eq_of_lt (show 1<f.binade by omega),Nat.mod_eq_of_lt hc]
   rw[e1,e2]
   exact Nat.mul_lt_mul_of_pos_right (by omega) (qle _)
  ·have e3:r+1=f.binade*(r/f.binade+1):=by rw[Nat.mul_add];omega
   rw[e3,Nat.mul_mod_right,Nat.mul_div_cancel_left _ hb]
   obtain⟨q,hq'⟩:∃q,r/f.binade=q+1:=⟨r/f.binade-1,by omega⟩
   rw[hq']
   simp only[Nat.add_sub_cancel,Nat.add_zero]
   have:2^(q+1)=2*2^q:=by rw[qlq,qll]
   rw[this,←qlk]
   exact Nat.mul_lt_mul_of_pos_right (by omega) (qle _)
theorem jD (f:Format){r s:Nat}(h:r<s):qs f r<qs f s:=by
 induction s with
 |zero=>omega
 |succ s ih=>
  by_cases hs:r=s
  ·subst hs;exact yp f r
  ·exact Nat.lt_trans (ih (by omega)) (yp f s)
theorem zJ (f:Format){r s:Nat}:qs f r<qs f s↔r<s:=by
 constructor
 ·intro h
  rcases Nat.lt_trichotomy r s with h1|h1|h1
  ·exact h1
  ·subst h1;omega
  ·have:=jD f h1;omega
 ·exact jD f
def qF (f:Format)(x:Nat):Nat:=x%f.signWeight
def below (f:Format)(x:Nat):Bool:=x/f.signWeight%2==1
def key (f:Format)(x:Nat):Int:=if below f x=true then -(qF f x:Int)else (qF f x:Int)
theorem QG (f:Format)(x:Nat)(h:f.infRung<qF f x)(hb:f.binade≤f.infRung):∃s t,f.read x=.nan s t:=by
 unfold qF at h
 refine⟨x/f.signWeight%2==1,x%f.signWeight-f.infRung,?_⟩
 unfold Format.read
 simp only
 rw[if_neg (by omega),if_neg (by omega),if_neg (by omega)]
theorem xQ (f:Format)(x:Nat)(h:qF f x=f.infRung)(hb:f.binade≤f.infRung):f.read x=.infinity (below f x):=by
 unfold qF at h
 unfold Format.read below
 simp only
 rw[if_neg (by omega),if_neg (by omega),if_pos h]
theorem ji (f:Format)(x:Nat)(h:qF f x<f.infRung):∃m i,f.read x=.number (below f x) m i∧f.leastPlace≤i∧m*2^(i-f.leastPlace).toNat=qs f (qF f x)∧m<2*f.binade:=by
 unfold qF at h
 unfold Format.read below qF qs
 simp only
 by_cases h1:x%f.signWeight<f.binade
 ·rw[if_pos h1,if_pos h1]
  exact⟨_,_,rfl,Int.le_refl _,by simp,by omega⟩
 ·rw[if_neg h1,if_neg h1,if_pos h]
  have:=Nat.mod_lt (x%f.signWeight) (jC f)
  refine⟨_,_,rfl,by omega,?_,by omega⟩
  congr 2
  omega
def sv (s:Bool)(v:Nat):Int:=if s=true then -(v:Int)else (v:Int)
theorem Zy (s:Bool)(m u:Nat):signed s m u=sv s (m*2^u):=by
 unfold signed sv
 rw[Nat.shiftLeft_eq]
theorem qe3 (s:Bool)(v K:Nat):sv s v*((2^K:Nat):Int)=sv s (v*2^K):=by
 unfold sv
 cases s<;>simp[Int.natCast_mul,Int.neg_mul]
theorem vy {a b c d:Int}(h1:a<b↔c<d)(h2:a=b↔c=d):compare a b=compare c d:=by
 show compareOfLessAndEq a b=compareOfLessAndEq c d
 unfold compareOfLessAndEq
 by_cases h:a<b
 ·rw[if_pos h,if_pos (h1.1 h)]
 ·rw[if_neg h,if_neg (fun g=>h (h1.2 g))]
  by_cases e:a=b
  ·rw[if_pos e,if_pos (h2.1 e)]
  ·rw[if_neg e,if_neg (fun g=>e (h2.2 g))]
theorem yq (f:Format):qs f 0=0:=by
 unfold qs
 rw[if_pos (jC f)]
theorem qe4 (f:Format)(s t:Bool)(r q:Nat):sv s (qs f r)<sv t (qs f q)↔sv s r<sv t q:=by
 have z:=yq f
 have h1:=zJ f (r:=r) (s:=q)
 have h2:=zJ f (r:=q) (s:=r)
 have h3:=zJ f (r:=0) (s:=r)
 have h4:=zJ f (r:=0) (s:=q)
 rw[z]at h3 h4
 unfold sv
 cases s<;>cases t<;>simp<;>omega
theorem qkr (f:Format)(s t:Bool)(r q:Nat):sv s (qs f r)=sv t (qs f q)↔sv s r=sv t q:=by
 have h1:=qe4 f s t r q
 have h2:=qe4 f t s q r
 omega
theorem zY (f:Format)(x:Nat):key f x=sv (below f x) (qF f x):=rfl
theorem yO {a b:Int}(h:a<b):some Ordering.lt=some (compare a b):=by
 simp only[compare,compareOfLessAndEq]
 rw[if_pos h]
theorem JD {a b:Int}(h:a=b):some Ordering.eq=some (compare a b):=by
 simp only[compare,compareOfLessAndEq]
 rw[if_neg (by omega),if_pos h]
theorem yP {a b:Int}(h:b<a):some Ordering.gt=some (compare a b):=by
 simp only[compare,compareOfLessAndEq]
 rw[if_neg (by omega),if_neg (by omega)]
theorem qjw (v:Nat):sv false v=(v:Int):=rfl
theorem qjx (v:Nat):sv true v=-(v:Int):=rfl
theorem Zz (f:Format)(x y:Nat)(hb:f.binade≤f.infRung)(hx:qF f x≤f.infRung)(hy:qF f y≤f.infRung):f.order x y=some (compare (key f x) (key f y)):=by
 unfold Format.order
 have hp:0<f.infRung:=qlf (jC f) hb
 by_cases h1:qF f x=f.infRung
 ·by_cases h2:qF f y=f.infRung
  ·rw[xQ f x h1 hb,xQ f y h2 hb,zY,zY,h1,h2]
   generalize below f x=s
   generalize below f y=t
   cases s<;>cases t<;>simp only[qjw,qjx]
   ·exact JD rfl
   ·exact yP (by omega)
   ·exact yO (by omega)
   ·exact JD rfl
  ·obtain⟨n,j,ey,-,-,-⟩:=ji f y (by omega)
   rw[xQ f x h1 hb,ey,zY,zY,h1]
   generalize below f x=s
   generalize below f y=t
   cases s<;>cases t<;>simp only[qjw,qjx]
   ·exact yP (by omega)
   ·exact yP (by omega)
   ·exact yO (by omega)
   ·exact yO (by omega)
 ·obtain⟨m,i,ex,hi,vm,-⟩:=ji f x (by omega)
  by_cases h2:qF f y=f.infRung
  ·rw[ex,xQ f y h2 hb,zY,zY,h2]
   generalize below f x=s
   generalize below f y=t
   cases s<;>cases t<;>simp only[qjw,qjx]
   ·exact yO (by omega)
   ·exact yP (by omega)
   ·exact yO (by omega)
   ·exact yP (by omega)
  ·obtain⟨n,j,ey,hj,vn,-⟩:=ji f y (by omega)
   rw[ex,ey]
   unfold Datum.order
   simp only
   congr 1
   obtain⟨K,hK⟩:∃K,K=(min i j-f.leastPlace).toNat:=⟨_,rfl⟩
   have a1:(i-min i j).toNat+K=(i-f.leastPlace).toNat:=by omega
   have a2:(j-min i j).toNat+K=(j-f.leastPlace).toNat:=by omega
   have e1:signed (below f x) m (i-min i j).toNat*((2^K:Nat):Int)=sv (below f x) (qs f (qF f x)):=by
    rw[Zy,qe3,qlk,←qlg,a1,vm]
   have e2:signed (below f y) n (j-min i j).toNat*((2^K:Nat):Int)=sv (below f y) (qs f (qF f y)):=by
    rw[Zy,qe3,qlk,←qlg,a2,vn]
   have hK0:(0:Int)<((2^K:Nat):Int):=by exact_mod_cast qle K
   refine vy ?_ ?_
   ·rw[zY,zY,←qe4 f,←e1,←e2]
    exact(Int.mul_lt_mul_right hK0).symm
   ·rw[zY,zY,←qkr f,←e1,←e2]
    exact(Int.mul_eq_mul_right_iff (by omega)).symm
theorem xS (f:Format)(x y:Nat)(hb:f.binade≤f.infRung)(hx:f.infRung<qF f x):f.order x y=none:=by
 obtain⟨s,t,e⟩:=QG f x hx hb
 unfold Format.order
 rw[e]
 rfl
theorem kl (f:Format)(x y:Nat)(hb:f.binade≤f.infRung)(hy:f.infRung<qF f y):f.order x y=none:=by
 obtain⟨s,t,e⟩:=QG f y hy hb
 unfold Format.order
 rw[e]
 cases f.read x<;>rfl
theorem QH (neg:Bool)(n:Nat):Toward.even.cut neg n 0=n:=by
 unfold Toward.cut
 simp[Nat.mod_one]
theorem jd (f:Format)(s:Bool)(m:Nat)(p:Int)(hm:m≠0)(hl:m.log2≤f.fractionBits)(hp:f.leastPlace≤p)(hV:m*2^(p-f.leastPlace).toNat<qs f f.infRung):
  ∃r,f.nearest s m p=f.word s r∧r<f.infRung∧qs f r=m*2^(p-f.leastPlace).toNat:=by
 have hb:=jC f
 have l1:2^m.log2≤m:=Nat.log2_self_le hm
 have l2:m<2^(m.log2+1):=Nat.lt_log2_self
 obtain⟨last,hlast⟩:∃last,last=max (p+(m.log2:Int)-(f.fractionBits:Int)) f.leastPlace:=⟨_,rfl⟩
 have hle:last≤p:=by omega
 have hd:(last-p).toNat=0:=by omega
 have hn:f.nearest s m p=f.word s (min ((last-f.leastPlace).toNat*f.binade+m*2^(p-last).toNat) f.infRung):=by
  unfold Format.nearest
  rw[if_neg hm]
  simp only
  rw[←hlast,hd,QH,Nat.shiftLeft_eq]
 suffices hr:qs f ((last-f.leastPlace).toNat*f.binade+m*2^(p-last).toNat)=m*2^(p-f.leastPlace).toNat by
  have hlt:(last-f.leastPlace).toNat*f.binade+m*2^(p-last).toNat<f.infRung:=by
   rw[←zJ f,hr];exact hV
  exact⟨_,by rw[hn,Nat.min_eq_left (Nat.le_of_lt hlt)],hlt,hr⟩
 by_cases hc:f.leastPlace≤p+(m.log2:Int)-(f.fractionBits:Int)
 ·have e1:(p-last).toNat=f.fractionBits-m.log2:=by omega
  obtain⟨L,hL⟩:∃L,L=(last-f.leastPlace).toNat:=⟨_,rfl⟩
  have e2:(p-f.leastPlace).toNat=f.fractionBits-m.log2+L:=by omega
  rw[e1,e2,←hL]
  obtain⟨n,hn'⟩:∃n,n=m*2^(f.fractionBits-m.log2):=⟨_,rfl⟩
  have n1:f.binade≤n:=by
   rw[hn'];unfold Format.binade
   calc 2^f.fractionBits=2^m.log2*2^(f.fractionBits-m.log2):=by rw[←qlg];congr 1;omega
    _≤_:=Nat.mul_le_mul_right _ l1
  have n2:n<2*f.binade:=by
   rw[hn'];unfold Format.binade
   calc m*2^(f.fractionBits-m.log2)<2^(m.log2+1)*2^(f.fractionBits-m.log2):=Nat.mul_lt_mul_of_pos_right l2 (qle _)
    _=2*2^f.fractionBits:=by rw[←qlg,←Nat.pow_succ'];congr 1;omega
  rw[qlg,←qlk,←hn']
  obtain⟨g,rfl⟩:∃g,n=f.binade+g:=⟨n-f.binade,by omega⟩
  have hg:g<f.binade:=by omega
  have e3:L*f.binade+(f.binade+g)=f.binade*(L+1)+g:=by rw[Nat.mul_add,qll L];omega
  have hge:f.binade*(L+1)=L*f.binade+f.binade:=by rw[Nat.mul_add,qll L,Nat.mul_one]
  unfold qs
  rw[e3,if_neg (by omega),Nat.mul_add_mod,Nat.mod_eq_of_lt hg,Nat.mul_add_div hb,Nat.div_eq_of_lt hg]
  congr 2
 ·have e1:last=f.leastPlace:=by omega
  have e2:m*2^(p-f.leastPlace).toNat<f.binade:=by
   unfold Format.binade
   calc m*2^(p-f.leastPlace).toNat<2^(m.log2+1)*2^(p-f.leastPlace).toNat:=Nat.mul_lt_mul_of_pos_right l2 (qle _)
    _=2^(m.log2+1+(p-f.leastPlace).toNat):=by rw[←qlg]
    _≤2^f.fractionBits:=qlh (by decide) (by omega)
  rw[e1]
  simp only[Int.sub_self,Int.toNat_zero,Nat.zero_mul,Nat.zero_add]
  unfold qs
  rw[if_pos e2]
theorem vj (f:Format)(s:Bool)(r:Nat)(h:r<f.signWeight):qF f (f.word s r)=r:=by
 unfold qF Format.word
 cases s
 ·simp[Nat.mod_eq_of_lt h]
 ·simp[Nat.mod_eq_of_lt h]
theorem vP (f:Format)(s:Bool)(r:Nat)(h:r<f.signWeight):below f (f.word s r)=s:=by
 unfold below Format.word
 have hp:0<f.signWeight:=qle _
 cases s
 ·simp[Nat.div_eq_of_lt h]
 ·simp[Nat.add_div_left _ hp,Nat.div_eq_of_lt h]
end Go.Proofs.YtelbefihigkhjaaGreatDoor
namespace Go.Proofs.YtelbefihigkhjaaGreatDoor
set_option maxHeartbeats 16000000
set_option maxRecDepth 100000
open Ieee
theorem qhr:FloatKind.f64.format.signWeight=9223372036854775808:=by decide+kernel
theorem YZ:FloatKind.f64.format.infRung=9218868437227405312:=by decide+kernel
theorem qia:FloatKind.f64.format.binade=4503599627370496:=by decide+kernel
theorem qe5:FloatKind.f64.format.binade≤FloatKind.f64.format.infRung:=by decide+kernel
theorem qks:FloatKind.f32.format.signWeight=2147483648:=by decide+kernel
theorem qkt:FloatKind.f32.format.infRung=2139095040:=by decide+kernel
theorem qib:FloatKind.f32.format.binade=8388608:=by decide+kernel
theorem qku:FloatKind.f32.format.binade≤FloatKind.f32.format.infRung:=by decide+kernel
theorem XX (b:Int):(xP b:Int)=b%18446744073709551616:=by
 unfold xP
 rw[IntKind.wrap_u64]
 omega
theorem QI (b:Int):(qF FloatKind.f64.format (xP b):Int)=b%9223372036854775808:=by
 have h:=XX b
 unfold qF
 rw[qhr]
 omega
theorem XY (b:Int)(hb1:-9223372036854775808≤b)(hb2:b≤9223372036854775807):below FloatKind.f64.format (xP b)=decide (b<0):=by
 have h:=XX b
 unfold below
 rw[qhr,Bool.eq_iff_iff,beq_iff_eq,qlm]
 omega
theorem qe6 (b:Int):cls b 64=4↔FloatKind.f64.format.infRung<qF FloatKind.f64.format (xP b):=by
 have h:=QI b
 rw[YZ]
 unfold cls zn
 rw[if_pos rfl]
 (repeat' split)<;>omega
theorem XZ (b:Int)(hv:0≤b∧b<4294967296):(qW b:Int)=b:=by
 unfold qW
 rw[if_pos (by simp[val,hv])]
 omega
theorem qe7 (b:Int)(hv:¬(0≤b∧b<4294967296)):qW b=2143289345:=by
 unfold qW
 rw[if_neg (by simp[val];omega)]
theorem QJ (b:Int)(hv:0≤b∧b<4294967296):(qF FloatKind.f32.format (qW b):Int)=b%2147483648:=by
 have h:=XZ b hv
 unfold qF
 rw[qks]
 omega
theorem X1 (b:Int)(hv:0≤b∧b<4294967296):below FloatKind.f32.format (qW b)=decide (2147483648≤b):=by
 have h:=XZ b hv
 unfold below
 rw[qks,Bool.eq_iff_iff,beq_iff_eq,qlm]
 omega
theorem JF (b:Int):cls b 32=4↔FloatKind.f32.format.infRung<qF FloatKind.f32.format (qW b):=by
 by_cases hv:0≤b∧b<4294967296
 ·have h:=QJ b hv
  rw[qkt]
  unfold cls zn
  rw[if_neg (by decide),if_pos rfl,if_pos hv]
  (repeat' split)<;>omega
 ·rw[qe7 b hv]
  unfold cls
  rw[if_neg (by decide),if_pos rfl,if_neg hv]
  decide+kernel
theorem qhs (x:Nat):(FloatKind.f64.format.order x x != some .eq)=decide (FloatKind.f64.format.infRung<qF FloatKind.f64.format x):=by
 by_cases h:FloatKind.f64.format.infRung<qF FloatKind.f64.format x
 ·rw[xS _ _ _ qe5 h,qln h];rfl
 ·rw[Zz _ _ _ qe5 (by omega) (by omega),qlo h,←JD rfl];rfl
end Go.Proofs.YtelbefihigkhjaaGreatDoor
namespace Go.Proofs.YtelbefihigkhjaaGreatDoor
open Go.ChangeShapes Go.WideShapes Go.ChangeAt Go.RowKit
set_option maxHeartbeats 16000000
set_option maxRecDepth 100000
open Ieee
def yQ (k:FloatKind)(b:Nat)(w:World):Nat:=Question.cut (.nanConv k b) (w.tape w.drawn (.nanConv k b))
theorem km {P:Program}(w:World)(src dst:TypeId)(s k:FloatKind)(b:Nat){sg:Bool}{t:Nat}(hs:(P.underlying src).isSome=true)(hd:P.underlying dst=some (.float k))(ne:s≠k)(he:s.decode b=.nan sg t):
  (convert src dst (.float s b)).run P w=.ok (.float k (yQ k b w)) w.drew:=by
 obtain⟨u,hs'⟩:=Option.isSome_iff_exists.1 hs
 cases u<;>simp[convert,run_underlying hs',run_underlying hd,Conv.floatToFloat,ne,he,yQ,go_sem]
theorem Yk (b:Nat)(w:World):FloatKind.f64.format.infRung<qF FloatKind.f64.format (yQ .f64 b w):=by
 unfold yQ Question.cut qF
 simp only
 rw[YZ,qhr]
 generalize w.tape w.drawn (.nanConv .f64 b)=t
 have h1:t%2<2:=Nat.mod_lt _ (by decide)
 have h2:t/2%(2^52-1)<2^52-1:=Nat.mod_lt _ (by decide)
 generalize t%2=s at *
 generalize t/2%(2^52-1)=u at *
 omega
def vQ:Nat:=925
def qe8:Nat:=2098
def Yl:Nat:=277
def X3 (b:Int):Nat:=FloatKind.f64.encode (FloatKind.f32.decode (qW b))
def Wd (b n:Int)(y:Nat):Prop:=
 (qv b n=true∧qF FloatKind.f64.format y≤FloatKind.f64.format.infRung∧(n=64→y=xP b)∧(n=32→y=X3 b))∨(qv b n=false∧FloatKind.f64.format.infRung<qF FloatKind.f64.format y)
theorem vA:qs FloatKind.f64.format FloatKind.f64.format.infRung=2^qe8:=by decide+kernel
theorem QY:qs FloatKind.f32.format FloatKind.f32.format.infRung=2^Yl:=by decide+kernel
theorem vk:FloatKind.f64.format.leastPlace=-1074:=by decide+kernel
theorem qht:FloatKind.f32.format.leastPlace=-149:=by decide+kernel
theorem yr:FloatKind.f64.format.infRung<FloatKind.f64.format.signWeight:=by decide+kernel
theorem X4 (x:Nat)(h:qF FloatKind.f32.format x<FloatKind.f32.format.infRung):
  ∃r,FloatKind.f64.encode (FloatKind.f32.decode x)=FloatKind.f64.format.word (below FloatKind.f32.format x) r∧r<FloatKind.f64.format.infRung∧qs FloatKind.f64.format r=qs FloatKind.f32.format (qF FloatKind.f32.format x)*2^vQ∧∃m i,FloatKind.f32.decode x=.number (below FloatKind.f32.format x) m i:=by
 obtain⟨m,i,e,hi,hv,hm⟩:=ji FloatKind.f32.format x h
 have hlt:=jD FloatKind.f32.format h
 rw[QY,←hv]at hlt
 rw[qht]at hi hv hlt
 rw[qib]at hm
 have e':FloatKind.f32.decode x=.number (below FloatKind.f32.format x) m i:=e
 rw[e']
 show ∃r,FloatKind.f64.format.nearest (below FloatKind.f32.format x) m i=_∧_
 by_cases h0:m=0
 ·subst h0
  refine⟨0,by unfold Format.nearest;rw[if_pos rfl],by rw[YZ];omega,?_,_,_,rfl⟩
  rw[yq,←hv,Nat.zero_mul,Nat.zero_mul]
 ·have hpow:m*2^(i- -1074).toNat=m*2^(i- -149).toNat*2^vQ:=by
   rw[qlk,←qlg]
   congr 2
   unfold vQ
   omega
  have hlog:m.log2≤52:=by
   have:m.log2<53:=by
    rw[Nat.log2_lt h0]
    omega
   omega
  obtain⟨r,h1,h2,h3⟩:=jd FloatKind.f64.format (below FloatKind.f32.format x) m i h0 hlog (by rw[vk];omega) (by
   rw[vA,vk,hpow]
   calc m*2^(i- -149).toNat*2^vQ<2^Yl*2^vQ:=Nat.mul_lt_mul_of_pos_right hlt (qle _)
    _=2^(Yl+vQ):=by rw[←qlg]
    _<2^qe8:=Nat.pow_lt_pow_right (by decide) (by decide+kernel))
  refine⟨r,h1,h2,?_,_,_,rfl⟩
  rw[h3,vk,hpow,hv]
theorem X5 (x:Nat)(h:qF FloatKind.f32.format x=FloatKind.f32.format.infRung):FloatKind.f32.decode x=.infinity (below FloatKind.f32.format x)∧FloatKind.f64.encode (FloatKind.f32.decode x)=FloatKind.f64.format.word (below FloatKind.f32.format x) FloatKind.f64.format.infRung:=by
 have e:FloatKind.f32.decode x=.infinity (below FloatKind.f32.format x):=xQ FloatKind.f32.format x h qku
 exact⟨e,by rw[e];rfl⟩
def W (x:Nat):Nat:=FloatKind.f64.encode (FloatKind.f32.decode x)
theorem qe9 (x:Nat)(h:qF FloatKind.f32.format x<FloatKind.f32.format.infRung):qF FloatKind.f64.format (W x)<FloatKind.f64.format.infRung∧qs FloatKind.f64.format (qF FloatKind.f64.format (W x))=qs FloatKind.f32.format (qF FloatKind.f32.format x)*2^vQ∧below FloatKind.f64.format (W x)=below FloatKind.f32.format x:=by
 obtain⟨r,e,h1,h2,-⟩:=X4 x h
 have hs:r<FloatKind.f64.format.signWeight:=Nat.lt_trans h1 yr
 unfold W
 rw[e,vj _ _ _ hs,vP _ _ _ hs]
 exact⟨h1,h2,rfl⟩
theorem qfa (x:Nat)(h:qF FloatKind.f32.format x=FloatKind.f32.format.infRung):qF FloatKind.f64.format (W x)=FloatKind.f64.format.infRung∧below FloatKind.f64.format (W x)=below FloatKind.f32.format x:=by
 have e:=(X5 x h).2
 unfold W
 rw[e,vj _ _ _ yr,vP _ _ _ yr]
 exact⟨rfl,rfl⟩
theorem qhu (x:Nat)(h:qF FloatKind.f32.format x≤FloatKind.f32.format.infRung):qF FloatKind.f64.format (W x)≤FloatKind.f64.format.infRung∧below FloatKind.f64.format (W x)=below FloatKind.f32.format x:=by
 by_cases e:qF FloatKind.f32.format x=FloatKind.f32.format.infRung
 ·have:=qfa x e
  exact⟨by omega,this.2⟩
 ·have:=qe9 x (by omega)
  exact⟨by omega,this.2.2⟩
theorem qhv (x y:Nat)(hx:qF FloatKind.f32.format x≤FloatKind.f32.format.infRung)(hy:qF FloatKind.f32.format y≤FloatKind.f32.format.infRung):qF FloatKind.f64.format (W x)<qF FloatKind.f64.format (W y)↔qF FloatKind.f32.format x<qF FloatKind.f32.format y:=by
 by_cases e1:qF FloatKind.f32.format x=FloatKind.f32.format.infRung
 ·have a1:=qfa x e1
  have a2:=qhu y hy
  omega
 ·have a1:=qe9 x (by omega)
  by_cases e2:qF FloatKind.f32.format y=FloatKind.f32.format.infRung
  ·have a2:=qfa y e2
   omega
  ·have a2:=qe9 y (by omega)
   rw[←zJ FloatKind.f64.format,a1.2.1,a2.2.1,Nat.mul_lt_mul_right (qle _),zJ]
theorem qjy:qF FloatKind.f64.format (W 0)=0:=by decide+kernel
theorem qfb {s t:Bool}{r q r' q':Nat}(h1:r<q↔r'<q')(h2:q<r↔q'<r')(h3:0<r↔0<r')(h4:0<q↔0<q'):(sv s r<sv t q↔sv s r'<sv t q')∧(sv s r=sv t q↔sv s r'=sv t q'):=by
 unfold sv
 cases s<;>cases t<;>simp<;>omega
theorem qkv (x y:Nat)(hx:qF FloatKind.f32.format x≤FloatKind.f32.format.infRung)(hy:qF FloatKind.f32.format y≤FloatKind.f32.format.infRung):compare (key FloatKind.f64.format (W x)) (key FloatKind.f64.format (W y))=compare (key FloatKind.f32.format x) (key FloatKind.f32.format y):=by
 have z:qF FloatKind.f32.format 0≤FloatKind.f32.format.infRung:=by decide+kernel
 have z0:qF FloatKind.f32.format 0=0:=by decide+kernel
 have h3:=qhv 0 x z hx
 have h4:=qhv 0 y z hy
 rw[qjy,z0]at h3 h4
 have hc:=qfb (s:=below FloatKind.f32.format x) (t:=below FloatKind.f32.format y) (qhv x y hx hy) (qhv y x hy hx) h3 h4
 rw[zY,zY,zY,zY,(qhu x hx).2,(qhu y hy).2]
 exact vy hc.1 hc.2
def jU (b n:Int):Int:=if n=64 then (if b<0 then -(b%9223372036854775808)else b)else (if 2147483648≤b then -(b%2147483648)else b)
theorem qfc (b:Int)(hb1:-9223372036854775808≤b)(hb2:b≤9223372036854775807):key FloatKind.f64.format (xP b)=jU b 64:=by
 unfold key jU
 rw[XY b hb1 hb2,QI,if_pos rfl]
 by_cases h:b<0
 ·simp[h]
 ·simp[h];omega
theorem qfd (b:Int)(hv:0≤b∧b<4294967296):key FloatKind.f32.format (qW b)=jU b 32:=by
 unfold key jU
 rw[X1 b hv,QJ b hv,if_neg (by decide:¬(32:Int)=64)]
 by_cases h:2147483648≤b
 ·simp[h]
 ·simp[h];omega
theorem qfe (a b n:Int)(y z:Nat)(ha1:-9223372036854775808≤a)(ha2:a≤9223372036854775807)(hb1:-9223372036854775808≤b)(hb2:b≤9223372036854775807)(hy:Wd a n y)(hz:Wd b n z):
  FloatKind.f64.format.order y z=if (qv a n&&qv b n)=true then some (compare (jU a n) (jU b n))else none:=by
 rcases hy with ⟨i1,r1,p1,q1⟩|⟨i1,r1⟩
 ·rcases hz with ⟨i2,r2,p2,q2⟩|⟨i2,r2⟩
  ·rw[if_pos (by simp[i1,i2]),Zz _ _ _ qe5 r1 r2]
   congr 1
   rcases vi a n i1 with ⟨rfl,c1⟩|⟨rfl,c1⟩
   ·rw[p1 rfl,p2 rfl,qfc a ha1 ha2,qfc b hb1 hb2]
   ·have c2:cls b 32≠4:=by simpa [qv] using i2
    have n1:qF FloatKind.f32.format (qW a)≤FloatKind.f32.format.infRung:=by have:=mt (JF a).2 c1;omega
    have n2:qF FloatKind.f32.format (qW b)≤FloatKind.f32.format.infRung:=by have:=mt (JF b).2 c2;omega
    rw[q1 rfl,q2 rfl]
    show compare (key FloatKind.f64.format (W (qW a))) (key FloatKind.f64.format (W (qW b)))=_
    rw[qkv _ _ n1 n2,qfd a (zd a c1),qfd b (zd b c2)]
  ·rw[if_neg (by simp[i2]),kl _ _ _ qe5 r2]
 ·rw[if_neg (by simp[i1]),xS _ _ _ qe5 r1]
end Go.Proofs.YtelbefihigkhjaaGreatDoor
namespace Go.Proofs.YtelbefihigkhjaaGreatDoor
open Go.ChangeShapes Go.WideShapes Go.ChangeAt Go.RowKit
set_option maxHeartbeats 16000000
set_option maxRecDepth 100000
open Ieee
theorem QK (b:Int)(w:World):Calls Tryz.prog 163 #[.int .i64 b,.int .i64 64] w fun e w'=>e=.returned (.float .f64 (xP b))∧w=w':=by
 go_enter Tryz.func163,Tryz.ntmps163
 go_wp2_with (first|(go_at_call 149;refine(Zx _ _).mono ?_;rintro e w2 ⟨rfl,rfl⟩))
 go_ret
 exact⟨rfl,rfl⟩
theorem qhw (w:World):Calls Tryz.prog 234 #[] w fun e w'=>e=.returned (.float .f64 9221120237041090561)∧w=w':=by
 have h1:=xu
 go_enter Tryz.func234,Tryz.ntmps234
 go_wp2
 go_ret
 exact⟨rfl,rfl⟩
theorem qbo (b n:Int)(h1:(n==32)=false)(h2:(n==64)=false)(w:World):Calls Tryz.prog 163 #[.int .i64 b,.int .i64 n] w fun e w'=>e=.returned (.float .f64 9221120237041090561)∧w=w':=by
 go_enter Tryz.func163,Tryz.ntmps163
 go_wp2_with (first|(go_at_call 234;refine(qhw _).mono ?_;rintro e w2 ⟨rfl,rfl⟩))
 go_ret
 exact⟨rfl,rfl⟩
theorem xT (b:Int)(hr:qF FloatKind.f32.format (qW b)≤FloatKind.f32.format.infRung)(w:World):Calls Tryz.prog 163 #[.int .i64 b,.int .i64 32] w fun e w'=>e=.returned (.float .f64 (X3 b))∧w=w':=by
 have hc:floatToFloatBits .f32 (qW b) .f64=some (X3 b):=by
  unfold floatToFloatBits
  rw[if_neg (by decide)]
  by_cases hi:qF FloatKind.f32.format (qW b)=FloatKind.f32.format.infRung
  ·have e:=X5 (qW b) hi
   unfold X3
   rw[e.1]
  ·obtain⟨r,e,h1,-,m,i,hd⟩:=X4 (qW b) (by omega)
   unfold X3
   rw[hd]at e
   rw[hd]
   simp only
   rw[if_neg]
   have hs:r<FloatKind.f64.format.signWeight:=Nat.lt_trans h1 yr
   obtain⟨m',i',e',-⟩:=ji FloatKind.f64.format (FloatKind.f64.format.word (below FloatKind.f32.format (qW b)) r) (by rw[vj _ _ _ hs];exact h1)
   rw[e]
   show ¬(FloatKind.f64.format.read _).isInfinity=true
   rw[e']
   simp[Datum.isInfinity]
 have hcv:∀wx:World,(convert 186 190 (.float .f32 (qW b))).run Tryz.prog wx=.ok (.float .f64 (X3 b)) wx:=fun wx=>run_convert_float_float wx 186 190 .f32 .f64 (qW b) (X3 b) (by kernel_rfl) (by kernel_rfl) hc
 clear hc hr
 go_enter Tryz.func163,Tryz.ntmps163
 go_wp2_with (first|(go_at_call 146;refine(yZ _ _).mono ?_;rintro e w2 ⟨rfl,rfl⟩))
 go_ret
 exact⟨rfl,rfl⟩
theorem QL (b:Int)(hr:FloatKind.f32.format.infRung<qF FloatKind.f32.format (qW b))(w:World):Calls Tryz.prog 163 #[.int .i64 b,.int .i64 32] w fun e w'=>e=.returned (.float .f64 (yQ .f64 (qW b) w))∧Kept w w':=by
 obtain⟨s,t,hd⟩:=QG FloatKind.f32.format (qW b) hr qku
 have hcv:∀wx:World,(convert 186 190 (.float .f32 (qW b))).run Tryz.prog wx=.ok (.float .f64 (yQ .f64 (qW b) wx)) wx.drew:=fun wx=>km wx 186 190 .f32 .f64 (qW b) (by kernel_rfl) (by kernel_rfl) (by decide) hd
 clear hd hr
 go_enter Tryz.func163,Tryz.ntmps163
 go_wp2_with (first|(go_at_call 146;refine(yZ _ _).mono ?_;rintro e w2 ⟨rfl,rfl⟩))
 go_ret
 exact⟨rfl,(qlv _).drew⟩
theorem kg (b n:Int)(w:World):Calls Tryz.prog 163 #[.int .i64 b,.int .i64 n] w fun e w'=>∃y,e=.returned (.float .f64 y)∧Kept w w'∧Wd b n y:=by
 by_cases h64:n=64
 ·subst h64
  refine(QK b w).mono ?_
  rintro e w' ⟨rfl,rfl⟩
  refine⟨_,rfl,qlv _,?_⟩
  by_cases hc:cls b 64=4
  ·exact Or.inr ⟨by simp[qv,hc],(qe6 b).1 hc⟩
  ·exact Or.inl ⟨by simp[qv,hc],by have:=mt (qe6 b).2 hc;omega,fun _=>rfl,fun h=>absurd h (by decide)⟩
 ·by_cases h32:n=32
  ·subst h32
   by_cases hc:cls b 32=4
   ·refine(QL b ((JF b).1 hc) w).mono ?_
    rintro e w' ⟨rfl,hk⟩
    exact⟨_,rfl,hk,Or.inr ⟨by simp[qv,hc],Yk _ _⟩⟩
   ·have hr:qF FloatKind.f32.format (qW b)≤FloatKind.f32.format.infRung:=by have:=mt (JF b).2 hc;omega
    refine(xT b hr w).mono ?_
    rintro e w' ⟨rfl,rfl⟩
    exact⟨_,rfl,qlv _,Or.inl ⟨by simp[qv,hc],(qhu _ hr).1,fun h=>absurd h (by decide),fun _=>rfl⟩⟩
  ·refine(qbo b n (by simpa using h32) (by simpa using h64) w).mono ?_
   rintro e w' ⟨rfl,rfl⟩
   exact⟨_,rfl,qlv _,Or.inr ⟨v8 b n h64 h32,by decide+kernel⟩⟩
theorem zK {a b:Bool}(h:a=b):Ending.returned (.bool a)=.returned (.bool b):=by rw[h]
def lss (a b n:Int):Bool:=qv a n&&qv b n&&decide (jU a n<jU b n)
theorem qbp (a b:Int):(some (compare a b)==some Ordering.lt)=decide (a<b):=by
 by_cases h:a<b
 ·rw[←yO h,qln h];rfl
 ·by_cases e:a=b
  ·rw[←JD e,qlo h];rfl
  ·rw[←yP (by omega),qlo h];rfl
theorem qff (a b n:Int)(ha1:-9223372036854775808≤a)(ha2:a≤9223372036854775807)(hb1:-9223372036854775808≤b)(hb2:b≤9223372036854775807)(w:World):Calls Tryz.prog 84 #[.int .i64 a,.int .i64 b,.int .i64 n] w fun e w'=>e=.returned (.bool (lss a b n))∧Kept w w':=by
 go_enter Tryz.func84,Tryz.ntmps84
 go_wp2_with fail
 refine(kg a n _).mono ?_
 rintro e w1 ⟨y,rfl,hk1,hy⟩
 have Hy:Hid (Wd a n y):=hy
 clear hy
 go_wp2_with fail
 refine(kg b n _).mono ?_
 rintro e w2 ⟨z,rfl,hk2,hz⟩
 have Hz:Hid (Wd b n z):=hz
 clear hz
 go_wp2
 go_ret
 refine⟨zK ?_,hk1.trans hk2⟩
 rw[qfe a b n y z ha1 ha2 hb1 hb2 Hy.out Hz.out]
 unfold lss
 by_cases h:(qv a n&&qv b n)=true
 ·rw[if_pos h,h,Bool.true_and,qbp]
 ·rw[if_neg h,Bool.eq_false_iff.2 h];rfl
end Go.Proofs.YtelbefihigkhjaaGreatDoor
namespace Go.Proofs.YtelbefihigkhjaaGreatDoor
set_option maxHeartbeats 16000000
set_option maxRecDepth 100000
set_option linter.unusedVariables false
set_option linter.unusedSimpArgs false
def rv (c r:Nat):Nat:=if r<c then r else (c+r%c)*2^(r/c-1)
theorem qfg (c j k:Nat)(hc:0<c)(hk:k≤2*c)(h:j=0∨c≤k):rv c (j*c+k)=k*2^j:=by
 unfold rv
 by_cases h1:k<c
 ·have hj:j=0:=by omega
  subst hj
  rw[Nat.zero_mul,Nat.zero_add,if_pos h1,Nat.pow_zero,Nat.mul_one]
 ·have hjc:¬j*c+k<c:=by have:=Nat.zero_le (j*c);omega
  rw[if_neg hjc]
  by_cases h2:k=2*c
  ·subst h2
   rw[show j*c+2*c=(j+2)*c by rw[Nat.add_mul],Nat.mul_mod_left,Nat.mul_div_cancel _ hc,Nat.add_zero,show j+2-1=j+1 by omega,qlq,qll (2^j) 2,←qlk,qll c 2]
  ·obtain⟨f,rfl⟩:∃f,k=c+f:=⟨k-c,by omega⟩
   have hf:f<c:=by omega
   rw[show j*c+(c+f)=f+c*(j+1) by rw[Nat.mul_add,Nat.mul_one,qll c j];omega,Nat.add_mul_mod_self_left,Nat.mod_eq_of_lt hf,Nat.add_mul_div_left _ _ hc,Nat.div_eq_of_lt hf,Nat.zero_add,Nat.add_sub_cancel]
def flo (v:Nat)(t:Int):Nat:=if 0≤t then v*2^t.toNat else v/2^(-t).toNat
def rst (v:Nat)(t:Int):Bool:=if 0≤t then false else v%2^(-t).toNat != 0
theorem X6 (v T L:Nat)(t:Int)(ht:t=60-(T:Int)-(L:Int)):v*2^60/2^T/2^L=flo v t:=by
 unfold flo
 rw[Nat.div_div_eq_div_mul,←qlg]
 split
 ·obtain⟨q,hq⟩:∃q:Nat,t.toNat=q:=⟨_,rfl⟩
  rw[hq,show(60:Nat)=q+(T+L) by omega,qlg,←qlk,Nat.mul_div_cancel _ (qle _)]
 ·obtain⟨q,hq⟩:∃q:Nat,(-t).toNat=q:=⟨_,rfl⟩
  rw[hq,show T+L=q+60 by omega,qlg,Nat.mul_div_mul_right _ _ (qle _)]
theorem qfh (v T m:Nat)(t:Int)(ht:t=60-(T:Int)-(m:Int))(hv:v%2=1)(hT:v<2^T):rst v t=(decide (60<(T:Int))||v*2^60/2^T%2^m != 0):=by
 by_cases h60:60<T
 ·rw[qln (by omega:60<(T:Int)),Bool.true_or]
  unfold rst
  rw[if_neg (by omega)]
  obtain⟨q,hq⟩:∃q:Nat,(-t).toNat=q+1:=⟨(-t).toNat-1,by omega⟩
  rw[hq]
  have:v%2^(q+1)%2=1:=by
   rw[Nat.mod_mod_of_dvd _ (by rw[qlq];exact Nat.dvd_mul_left _ _)]
   exact hv
  have h2:v%2^(q+1)≠0:=by
   intro h0;rw[h0]at this;simp at this
  simpa using h2
 ·rw [qlo (by omega:¬60<(T:Int)),Bool.false_or]
  obtain⟨a,ha⟩:∃a:Nat,60=a+T:=⟨60-T,by omega⟩
  rw[ha,qlg,←qlk,Nat.mul_div_cancel _ (qle _)]
  unfold rst
  split
  ·have:a=(a-m)+m:=by omega
   rw[this,qlg,←qlk,Nat.mul_mod_left]
   rfl
  ·obtain⟨q,hq⟩:∃q:Nat,(-t).toNat=q:=⟨_,rfl⟩
   have hm:m=a+q:=by omega
   rw[hq,hm,qlg,qll v,Nat.mul_mod_mul_left]
   have hp:=qle a
   by_cases h0:v%2^q=0
   ·simp[h0]
   ·have:¬2^a*(v%2^q)=0:=by
     intro h;rcases Nat.mul_eq_zero.1 h with h|h<;>omega
    rw[show(v%2^q != 0)=true by simpa using h0,show(2^a*(v%2^q) != 0)=true by simpa [bne_iff_ne] using this]
theorem qfi (v:Nat)(x u s:Int)(hx:s≤x)(hu:s≤u):flo v (x-u)=v*2^(x-s).toNat/2^(u-s).toNat:=by
 unfold flo
 split
 ·rw[show(x-s).toNat=(x-u).toNat+(u-s).toNat by omega,qlg,←qlk,Nat.mul_div_cancel _ (qle _)]
 ·rw[show(u-s).toNat=(-(x-u)).toNat+(x-s).toNat by omega,qlg,Nat.mul_div_mul_right _ _ (qle _)]
theorem qjz (v:Nat)(x u s:Int)(hx:s≤x)(hu:s≤u):rst v (x-u)=(v*2^(x-s).toNat%2^(u-s).toNat != 0):=by
 unfold rst
 split
 ·rw[show(x-s).toNat=(x-u).toNat+(u-s).toNat by omega,qlg,←qlk,Nat.mul_mod_left]
  rfl
 ·rw[show(u-s).toNat=(x-s).toNat+(-(x-u)).toNat by omega,qlg,qll v,Nat.mul_mod_mul_left]
  have hp:=qle (x-s).toNat
  by_cases h0:v%2^(-(x-u)).toNat=0
  ·simp[h0]
  ·have:¬2^(x-s).toNat*(v%2^(-(x-u)).toNat)=0:=by
    intro h;rcases Nat.mul_eq_zero.1 h with h|h<;>omega
   rw[show(v%2^(-(x-u)).toNat != 0)=true by simpa using h0,show(2^(x-s).toNat*(v%2^(-(x-u)).toNat) != 0)=true by simpa [bne_iff_ne] using this]
def unz (p:Nat)(l:Int)(T:Nat)(x:Int):Int:=max (x+(T:Int)-(p:Int)) l
structure Cutz (c D V k Q H F:Nat) (od hf rt:Bool):Prop where
 two:Q=2*H
 pos:0<H
 kq:V/Q=k
 low:rv c F*D=k*Q
 high:rv c (F+1)*D=(k+1)*Q
 od:od=decide (k%2=1)
 fod:F%2=k%2
 hf:hf=decide (H≤V%Q)
 rt:rt=decide (V%Q%H≠0)
theorem xU (p:Nat)(l:Int)(v T:Nat)(x:Int)(hp:0<p)(hT1:2^(T-1)≤v)(hT2:v<2^T)(hT:0<T):flo v (x-unz p l T x)<2^p∧(unz p l T x=l∨2^(p-1)≤flo v (x-unz p l T x)):=by
 obtain⟨u,hu⟩:∃u,unz p l T x=u:=⟨_,rfl⟩
 rw[hu]
 unfold unz at hu
 unfold flo
 constructor
 ·split
  ·have hle:T+(x-u).toNat≤p:=by omega
   calc v*2^(x-u).toNat<2^T*2^(x-u).toNat:=Nat.mul_lt_mul_of_pos_right hT2 (qle _)
    _=2^(T+(x-u).toNat):=by rw[qlg]
    _≤2^p:=qlh (by decide) hle
  ·rw[Nat.div_lt_iff_lt_mul (qle _),←qlg]
   exact qlf hT2 (qlh (by decide) (by omega))
 ·by_cases hl:u=l
  ·exact Or.inl hl
  ·right
   split
   ·have:p-1=(T-1)+(x-u).toNat:=by omega
    rw[this,qlg]
    exact Nat.mul_le_mul_right _ hT1
   ·rw[Nat.le_div_iff_mul_le (qle _),←qlg]
    exact qlp (qlh (by decide) (by omega)) hT1
theorem Cutz.floor {c D V k Q H F:Nat}{od hf rt:Bool}(h:Cutz c D V k Q H F od hf rt):rv c F*D≤V∧V<rv c (F+1)*D:=by
 have h1:=Nat.div_add_mod V Q
 have h2:V%Q<Q:=Nat.mod_lt _ (by have:=h.two;have:=h.pos;omega)
 rw[h.kq]at h1
 rw[h.low,h.high,Nat.add_mul,Nat.one_mul,qll k Q]
 omega
theorem Cutz.rem {c D V k Q H F:Nat}{od hf rt:Bool}(h:Cutz c D V k Q H F od hf rt):V=rv c F*D+V%Q∧rv c (F+1)*D=rv c F*D+Q∧V%Q<Q:=by
 have h1:=Nat.div_add_mod V Q
 have h2:V%Q<Q:=Nat.mod_lt _ (by have:=h.two;have:=h.pos;omega)
 rw[h.kq]at h1
 rw[h.low,h.high,Nat.add_mul,Nat.one_mul,qll k Q]
 omega
theorem qbq (r H:Nat)(hH:0<H)(h2:r<2*H):(H≤r∨r%H≠0)↔r≠0:=by
 by_cases h:r<H
 ·rw[Nat.mod_eq_of_lt h];omega
 ·constructor
  ·intro _;omega
  ·intro _;left;omega
theorem Cutz.cut {c D V k Q H F:Nat}{od hf rt:Bool}(h:Cutz c D V k Q H F od hf rt):(hf||rt)=decide (V≠rv c F*D):=by
 obtain⟨h1,h2,h3⟩:=h.rem
 rw[h.hf,h.rt,←Bool.decide_or]
 congr 1
 apply propext
 rw[qbq (V%Q) H h.pos (by rw[←h.two];exact h3)]
 omega
theorem Cutz.near {c D V k Q H F:Nat}{od hf rt:Bool}(h:Cutz c D V k Q H F od hf rt):(hf&&(rt||od))=decide (rv c F*D+rv c (F+1)*D<2*V∨(rv c F*D+rv c (F+1)*D=2*V∧F%2=1)):=by
 obtain⟨h1,h2,h3⟩:=h.rem
 have h4:=h.two
 have h5:=h.pos
 rw[h.hf,h.rt,h.od,←Bool.decide_or,←Bool.decide_and,h.fod]
 congr 1
 apply propext
 have hm:H≤V%Q→V%Q%H=V%Q-H:=by
  intro hh
  have:V%Q=(V%Q-H)+H*1:=by omega
  rw[this,Nat.add_mul_mod_self_left,Nat.mod_eq_of_lt (by omega)]
  omega
 constructor
 ·rintro⟨hh,ho⟩
  rw[hm hh]at ho
  omega
 ·intro ho
  have hh:H≤V%Q:=by omega
  rw[hm hh]
  omega
def awz (way:Int)(ng od hf rt:Bool):Bool:=if way=0 then hf&&(rt||od)else if way=1 then ng&&(hf||rt)else !ng&&(hf||rt)
def mgz (way:Int)(ng:Bool)(inf F:Nat)(od hf rt:Bool):Nat:=if F+(awz way ng od hf rt).toNat<inf then F+(awz way ng od hf rt).toNat else if awz way ng false true true=true then inf else inf-1
def odz (way:Int)(ng:Bool)(inf F:Nat)(od hf rt:Bool):Bool:=hf||rt||decide (inf≤F+(awz way ng od hf rt).toNat)
theorem qfj (way:Int)(ng:Bool)(inf F:Nat)(od hf rt:Bool):mgz way ng inf F od hf rt≤inf:=by
 unfold mgz;(repeat' split)<;>omega
def ifn (n:Int):Nat:=if n=64 then 9218868437227405312 else 2139095040
def pz (n k:Int):Int:=if n=64 then (if k<0 then -k-9223372036854775808 else k)else (if k<0 then -k+2147483648 else k)
theorem qbr (b:Int):qv b 64=true↔b%9223372036854775808≤9218868437227405312:=by
 unfold qv cls zn
 rw[qlm,if_pos rfl]
 (repeat' split)<;>omega
theorem qbs (b:Int):qv b 32=true↔(0≤b∧b<4294967296)∧b%2147483648≤2139095040:=by
 unfold qv cls zn
 rw[qlm,if_neg (by decide),if_pos rfl]
 (repeat' split)<;>omega
theorem X7 (n k:Int)(hn:n=64∨n=32)(h1:-(ifn n:Int)≤k)(h2:k≤(ifn n:Int)):-9223372036854775808≤pz n k∧pz n k≤9223372036854775807:=by
 rcases hn with rfl|rfl
 ·simp only[ifn,pz,reduceIte]at *
  split<;>omega
 ·simp only[ifn,pz,show ¬((32:Int)=64) by decide,if_false]at *
  split<;>omega
theorem qj0 (n k:Int)(hn:n=64∨n=32)(h1:-(ifn n:Int)≤k)(h2:k≤(ifn n:Int)):qv (pz n k) n=true:=by
 rcases hn with rfl|rfl
 ·rw[qbr]
  simp only[ifn,pz,reduceIte]at *
  split<;>omega
 ·rw[qbs]
  simp only[ifn,pz,show ¬((32:Int)=64) by decide,if_false]at *
  split<;>omega
theorem JG (n k:Int)(hn:n=64∨n=32)(h1:-(ifn n:Int)≤k)(h2:k≤(ifn n:Int)):cls (pz n k) n<3↔(-(ifn n:Int)<k∧k<(ifn n:Int)):=by
 rcases hn with rfl|rfl
 ·simp only[ifn,pz,cls,zn,reduceIte]at *
  (repeat' split)<;>omega
 ·simp only[ifn,pz,cls,zn,show ¬((32:Int)=64) by decide,if_false,reduceIte]at *
  (repeat' split)<;>omega
theorem qfk (n k:Int)(hn:n=64∨n=32)(h1:-(ifn n:Int)<k)(h2:k<(ifn n:Int)):fin (pz n k) n=true:=by
 unfold fin
 rw[qlm]
 exact⟨hn,(JG n k hn (by omega) (by omega)).2 ⟨h1,h2⟩⟩
theorem qj1 (n k:Int)(hn:n=64∨n=32)(h1:-(ifn n:Int)<k)(h2:k<(ifn n:Int)):qT (pz n k) n=decide (k<0):=by
 unfold qT
 rw[qfk n k hn h1 h2,Bool.true_and]
 rcases hn with rfl|rfl
 ·simp only[ifn,pz,sgn,reduceIte]at *
  congr 1
  apply propext
  split<;>omega
 ·simp only[ifn,pz,sgn,show ¬((32:Int)=64) by decide,if_false]at *
  congr 1
  apply propext
  split<;>omega
theorem qj2 (n k:Int)(hn:n=64∨n=32)(h1:-(ifn n:Int)<k)(h2:k<(ifn n:Int))(c:Int)(hc:c=if n=64 then 4503599627370496 else 8388608)(l:Int)(hl:l=if n=64 then -1074 else -149)(r:Int)(hr:r=if k<0 then -k else k):qx (pz n k) n=(if r<c then r else c+r%c)∧qE (pz n k) n=(if r<c then l else l+(r/c-1)):=by
 have hF:=qfk n k hn h1 h2
 unfold qx qE
 rw[if_pos hF,if_pos hF]
 clear hF
 rcases hn with rfl|rfl
 ·have hm:pz 64 k%9223372036854775808=r:=by
   rw[hr]
   simp only[ifn,pz,reduceIte]at *
   (repeat' split)<;>omega
  rw[if_pos rfl]at hc hl
  rw[if_pos rfl,if_pos rfl,hm,hc,hl]
  clear hm
  simp only[ifn,reduceIte]at *
  constructor<;>(split<;>omega)
 ·have hm:pz 32 k%2147483648=r:=by
   rw[hr]
   simp only[ifn,pz,show ¬((32:Int)=64) by decide,if_false]at *
   (repeat' split)<;>omega
  rw[if_neg (show ¬((32:Int)=64) by decide)]at hc hl
  rw[if_neg (show ¬((32:Int)=64) by decide),if_neg (show ¬((32:Int)=64) by decide),hm,hc,hl]
  clear hm
  simp only[ifn,show ¬((32:Int)=64) by decide,if_false]at *
  constructor<;>(split<;>omega)
end Go.Proofs.YtelbefihigkhjaaGreatDoor
