/-  -/
import Derived.Test.YtelbefihigkhjaaGreatDoorWm33
import Derived.Laws.Bits64b
import Derived.Test.YtelbefihigkhjaaGreatDoorRows
import Derived.Test.YtelbefihigkhjaaGreatDoorWm02
import Derived.Deep.RegionHeld
namespace Go.Proofs.YtelbefihigkhjaaGreatDoor
open Go.ChangeShapes Go.WideShapes Go.ChangeAt Go.RowKit Ieee
set_option maxHeartbeats 16000000
set_option maxRecDepth 100000
set_option linter.unusedVariables false
set_option linter.unusedSimpArgs false
theorem qc2 (x:Int)(h0:0<x)(h1:x≤9223372036854775807):∃k:Nat,∃L:Nat,∃o:Int,k=Lib.ctz 64 x.toNat∧L=Lib.bitLen o.toNat∧x/2^k=o∧x=o*2^k∧k<64∧0<o∧o≤9223372036854775807∧L≤64∧o%2=1:=by
 obtain⟨a1,a2,a3,a4⟩:=vW x.toNat (by omega) (by omega)
 obtain⟨k,hk⟩:∃k,k=Lib.ctz 64 x.toNat:=⟨_,rfl⟩
 rw[←hk]at a1 a2 a3 a4
 obtain⟨o,ho⟩:∃o,o=x.toNat/2^k:=⟨_,rfl⟩
 rw[←ho]at a2 a3 a4
 have hx:x=((o*2^k:Nat):Int):=by rw[←a2];omega
 have hp:(0:Nat)<2^k:=qle k
 have hle:o≤o*2^k:=Nat.le_mul_of_pos_right _ hp
 have ho1:o<2^64:=by omega
 refine⟨k,Lib.bitLen o,(o:Int),hk,by simp,?_,?_,a1,by omega,by omega,x9 64 o (by decide) ho1,by omega⟩
 ·rw[hx,Int.natCast_mul,Int.natCast_pow]
  exact Int.mul_ediv_cancel _ (Int.ne_of_gt (by exact_mod_cast hp))
 ·rw[hx,Int.natCast_mul,Int.natCast_pow]
  rfl
theorem qc3 (m:Nat)(hm:0<m)(hm2:m<9007199254740992)(S:Nat)(hS:S=1021):∃r:Nat,r<9218868437227405312∧qs FloatKind.f64.format r=m*2^S∧∀w:World,Calls Tryz.prog 124 #[.bool false,.int .i64 m,.int .i64 (-53),.int .i64 64] w fun e w'=>e=.returned (.tuple #[.int .i64 r,.bool true])∧Kept w w':=by
 obtain⟨k,L,o,hk,hL,hdiv,hxo,hk64,ho0,ho1,hL64,hodd⟩:=qc2 (m:Int) (by omega) (by omega)
 have hp1:(0:Int)<2^k:=Int.pow_pos (by decide)
 have hole:o≤m:=by
  rw[hxo]
  have:o*1≤o*2^k:=Int.mul_le_mul_of_nonneg_left (by omega) (by omega)
  omega
 have hLB:o<9007199254740992↔L≤53:=by
  have h:=ye o ho0 ho1 0 53 (by decide)
  rw[←hL,Int.pow_zero,Int.mul_one,Nat.zero_add]at h
  exact h
 have hL53:L≤53:=hLB.1 (by omega)
 have hL0:0<L:=by
  have h:=ye o ho0 ho1 0 0 (by decide)
  rw[←hL,Int.pow_zero,Int.mul_one,Nat.zero_add]at h
  have:¬o<2^0:=by rw[Int.pow_zero];omega
  have:¬L≤0:=fun hh=>this (h.2 hh)
  omega
 obtain⟨U,hU⟩:∃U:Nat,U=53-L:=⟨_,rfl⟩
 have hpos:0<o*2^U:=Int.mul_pos ho0 (Int.pow_pos (by decide))
 have hV1:o*2^U<9007199254740992:=by
  have h:=ye o ho0 ho1 U 53 (by decide)
  rw[←hL]at h
  exact h.2 (by omega)
 have hV2:4503599627370496≤o*2^U:=by
  have h:=ye o ho0 ho1 U 52 (by decide)
  rw[←hL]at h
  have h2:¬o*2^U<2^52:=fun hh=>by have:=h.1 hh;omega
  have h3:(2:Int)^52=4503599627370496:=by decide
  omega
 have hUb:∀i:Nat,i<U→o*2^i<4503599627370496∧-1074<(-53:Int)+(k:Int)-(i:Int):=by
  intro i hi
  have h:=ye o ho0 ho1 i 52 (by decide)
  rw[←hL]at h
  exact⟨h.2 (by omega),by omega⟩
 have Ks:∀w:World,Calls Tryz.prog 205 #[.agg #[.int .i64 64,.int .i64 53,.int .i64 4503599627370496,.int .i64 2047,.int .i64 (-1074),.int .i64 1024,.int .i64 9218868437227405312,.int .i64 (-9223372036854775808),.int .i64 9221120237041090561],.int .i64 (m:Int),.int .i64 (-53)] w fun r w'=>r=.returned (.tuple #[.int .i64 (o*2^U),.int .i64 ((-53:Int)+(k:Int)-(U:Int)),.bool true])∧Kept w w':=fun w=>
  jB m (-53) o k hxo (by omega) ho0 hodd hk64 (by omega) (by omega) (by omega) (by omega) U _ rfl hUb (by omega) (.inr ⟨by omega,hV2⟩) w
 obtain⟨V,hVn⟩:∃V:Nat,(V:Int)=o*2^U:=⟨(o*2^U).toNat,by omega⟩
 obtain⟨J,hJ⟩:∃J:Nat,J+U=S+k:=⟨S+k-U,by omega⟩
 have hk53:k≤52:=by
  rcases Nat.lt_or_ge 52 k with h|h
  ·have h1:(2:Int)^53≤2^k:=by exact_mod_cast qlh (by decide:0<2) h
   have h2:1*(2:Int)^k≤o*2^k:=Int.mul_le_mul_of_nonneg_right (by omega) (by omega)
   have h3:(2:Int)^53=9007199254740992:=by decide
   omega
  ·exact h
 refine⟨J*4503599627370496+V,?_,?_,fun w=>?_⟩
 ·have:J≤1073:=by omega
  have h4:J*4503599627370496≤1073*4503599627370496:=Nat.mul_le_mul_right _ this
  omega
 ·have e1:qs FloatKind.f64.format (J*4503599627370496+V)=rv 4503599627370496 (J*4503599627370496+V):=by unfold qs rv;rw[qia]
  rw[e1,qfg 4503599627370496 J V (by decide) (by omega) (.inr (by omega))]
  have h5:((V*2^J:Nat):Int)=((m*2^S:Nat):Int):=by
   rw[Int.natCast_mul,Int.natCast_mul,hVn,hxo,Int.natCast_pow,Int.natCast_pow,Int.mul_assoc,Int.mul_assoc]
   show o*(2^U*2^J)=o*(2^k*2^S)
   rw[←Int.pow_add,←Int.pow_add]
   congr 2
   omega
  exact_mod_cast h5
 ·refine yC false m (-53) _ _ _ (by omega) (by omega) (by omega) (by omega) (by omega) hpos hV1 (by omega) ?_ Ks w
  rw[if_neg (by decide),←hVn]
  omega
theorem qiz (r:Nat)(h:r<9218868437227405312):qbn r=(r:Int):=by
 have h2:qF FloatKind.f64.format r=r:=by unfold qF;rw[qhr];exact Nat.mod_eq_of_lt (by omega)
 unfold qbn
 rw[qhs,h2,YZ,qlo (by omega),if_neg (by decide)]
 unfold wrap64
 omega
end Go.Proofs.YtelbefihigkhjaaGreatDoor

namespace Go.Proofs.YtelbefihigkhjaaGreatDoor
set_option maxHeartbeats 16000000
set_option maxRecDepth 100000
set_option linter.unusedVariables false
def xsh (s z:Nat):Nat:=z^^^z/2^s
def qcz (z:Nat):Nat:=xsh 31 (xsh 27 (xsh 30 z*13787848793156543929%18446744073709551616)*10723151780598845931%18446744073709551616)
theorem qiw (s z:Nat)(h:z<18446744073709551616):xsh s z<18446744073709551616:=by
 have:z/2^s<2^64:=Nat.lt_of_le_of_lt (Nat.div_le_self _ _) (by simpa using h)
 have:=Nat.xor_lt_two_pow (n:=64) (x:=z) (y:=z/2^s) (by simpa using h) this
 simpa [xsh] using this
theorem ZQ (z:Nat):qcz z<18446744073709551616:=qiw _ _ (Nat.mod_lt _ (by decide))
def un (x:Int):Nat:=(x%18446744073709551616).toNat
theorem qh1 (x:Int):un x<18446744073709551616:=by unfold un;omega
theorem qgb (x:Int):(un x:Int)=x%18446744073709551616:=by unfold un;omega
theorem qix (x y:Int)(h:x%18446744073709551616=y%18446744073709551616):un x=un y:=by unfold un;rw[h]
def qiy (s t:Int):Nat:=qcz (un s^^^qcz ((un t+7146057691288625177)%18446744073709551616))
def wn (s t a:Int):Nat:=qcz ((qiy s t+(un a+1)%18446744073709551616*11400714819323198485%18446744073709551616)%18446744073709551616)
theorem qc0 (s t a:Int):wn s t a<18446744073709551616:=ZQ _
theorem qgc (s t a b:Int)(h:a%18446744073709551616=b%18446744073709551616):wn s t a=wn s t b:=by
 unfold wn;rw[qix a b h]
theorem qc1 {a b:Nat}(ha:a<18446744073709551616)(hb:b<18446744073709551616):a^^^b<18446744073709551616:=by
 have:=Nat.xor_lt_two_pow (n:=64) (x:=a) (y:=b) (by simpa using ha) (by simpa using hb)
 simpa using this
theorem qlb (P:Nat→Prop)(n:Nat)(h:P n):∃j,(∀i,i<j→¬P i)∧P j:=by
 induction n using Nat.strongRecOn with
 |ind n ih=>
  by_cases hx:∃i,i<n∧P i
  ·obtain⟨i,hi,hP⟩:=hx;exact ih i hi hP
  ·exact⟨n,fun i hi hp=>hx ⟨i,hi,hp⟩,h⟩
end Go.Proofs.YtelbefihigkhjaaGreatDoor

namespace Go.Proofs.YtelbefihigkhjaaGreatDoor
open Go.ChangeShapes Go.WideShapes Go.ChangeAt Go.RowKit
set_option maxHeartbeats 16000000
set_option maxRecDepth 100000
set_option linter.unusedVariables false
def qf8 (c:Int)(k:Int)(x:Int):Int:=IntKind.u64.wrap (bits .xor .u64 x (x/k)*c)
def qkd (x:Int):Int:=bits .xor .u64 x (x/2147483648)
def J3 (x:Int):Int:=qkd (qf8 10723151780598845931 134217728 (qf8 13787848793156543929 1073741824 x))
theorem Yy (z:Int)(w:World):Calls Tryz.prog 332 #[.int .u64 z] w fun e w'=>e=.returned (.int .u64 (J3 z))∧w=w':=by
 go_enter Tryz.func332,Tryz.ntmps332
 go_wp2
 go_ret
 exact⟨rfl,rfl⟩
theorem J4 (z:Int)(w:World):Calls Tryz.prog 255 #[.int .u64 z] w fun e w'=>e=.returned (.int .u64 (J3 z))∧w=w':=by
 go_enter Tryz.func255,Tryz.ntmps255
 go_wp2
 go_ret
 exact⟨rfl,rfl⟩
def J5 (s t:Int):Int:=J3 (bits .xor .u64 (IntKind.u64.wrap s) (J3 (IntKind.u64.wrap (IntKind.u64.wrap t+7146057691288625177))))
def Dr (w:World)(b:Nat)(s t a:Int):Prop:=w.cell? ⟨b,0,none⟩=some (.int .i64 s)∧w.cell? ⟨b,1,none⟩=some (.int .i64 t)∧w.cell? ⟨b,2,none⟩=some (.int .i64 a)
theorem Qf (w:World)(s t a:Int)(T:TypeId):Dr (w.alloc (.cells #[.int .i64 s,.int .i64 t,.int .i64 a] T)) w.heap.size s t a:=by
 refine⟨?_,?_,?_⟩<;>simp
theorem Dr.kept {w w':World}{b:Nat}{s t a:Int}(h:Dr w b s t a)(k:Kept w w'):Dr w' b s t a:=
 ⟨(k.below.cell (World.block_lt_of_cell? _ _ h.1)).trans h.1,(k.below.cell (World.block_lt_of_cell? _ _ h.2.1)).trans h.2.1,(k.below.cell (World.block_lt_of_cell? _ _ h.2.2)).trans h.2.2⟩
theorem qf9 (s t a:Int)(w:World):Calls Tryz.prog 324 #[.agg #[.int .i64 s,.int .i64 t,.int .i64 a]] w fun e w'=>e=.returned (.int .u64 (J5 s t))∧Kept w w':=by
 have hK:=(qlv w).alloc #[.int .i64 s,.int .i64 t,.int .i64 a] 72
 obtain⟨c0,c1,c2⟩:=Qf w s t a 72
 go_enter Tryz.func324,Tryz.ntmps324
 go_wp2_with fail
 go_region_held (fun u=>Kept w u∧u.cell? ⟨w.heap.size,0,none⟩=some (.int .i64 s)∧u.cell? ⟨w.heap.size,1,none⟩=some (.int .i64 t)) (first|exact⟨hK.drew,c0,c1⟩|assumption) (first|(go_at_call 332;refine(Yy _ _).mono ?_;rintro e w1 ⟨rfl,rfl⟩))
 go_wp2
 go_ret
 exact⟨rfl,hK.drew⟩
theorem qcu (s t a:Int)(w:World):Calls Tryz.prog 256 #[.agg #[.int .i64 s,.int .i64 t,.int .i64 a]] w fun e w'=>e=.returned (.int .u64 (J5 s t))∧Kept w w':=by
 have hK:=(qlv w).alloc #[.int .i64 s,.int .i64 t,.int .i64 a] 72
 obtain⟨c0,c1,c2⟩:=Qf w s t a 72
 go_enter Tryz.func256,Tryz.ntmps256
 go_wp2_with fail
 go_region_held (fun u=>Kept w u∧u.cell? ⟨w.heap.size,0,none⟩=some (.int .i64 s)∧u.cell? ⟨w.heap.size,1,none⟩=some (.int .i64 t)) (first|exact⟨hK.drew,c0,c1⟩|assumption) (first|(go_at_call 255;refine(J4 _ _).mono ?_;rintro e w1 ⟨rfl,rfl⟩))
 go_wp2
 go_ret
 exact⟨rfl,hK.drew⟩
def ZP (k a:Int):Int:=J3 (IntKind.u64.wrap (k+IntKind.u64.wrap (IntKind.u64.wrap (IntKind.u64.wrap a+1)*11400714819323198485)))
theorem Vs (k a:Int)(w:World):Calls Tryz.prog 323 #[.int .u64 k,.int .i64 a] w fun e w'=>e=.returned (.int .u64 (ZP k a))∧w=w':=by
 go_enter Tryz.func323,Tryz.ntmps323
 go_wp2_with (first|(go_at_call 332;refine(Yy _ _).mono ?_;rintro e w1 ⟨rfl,rfl⟩))
 go_ret
 exact⟨rfl,rfl⟩
theorem K4 (s t a i:Int)(w:World):Calls Tryz.prog 294 #[.agg #[.int .i64 s,.int .i64 t,.int .i64 a],.int .i64 i] w fun e w'=>e=.returned (.int .i64 (IntKind.i64.wrap (ZP (J5 s t) (IntKind.i64.wrap (a+i)))))∧Kept w w':=by
 have hK:=(qlv w).alloc #[.int .i64 s,.int .i64 t,.int .i64 a] 72
 have hD:=Qf w s t a 72
 have hS:∀u,Kept (w.alloc (.cells #[.int .i64 s,.int .i64 t,.int .i64 a] 72)) u→Kept w u∧Kept (w.alloc (.cells #[.int .i64 s,.int .i64 t,.int .i64 a] 72)) u∧u.cell? ⟨w.heap.size,0,none⟩=some (.int .i64 s)∧u.cell? ⟨w.heap.size,1,none⟩=some (.int .i64 t)∧u.cell? ⟨w.heap.size,2,none⟩=some (.int .i64 a):=fun u hu=>⟨hK.trans hu,hu,hD.kept hu⟩
 have HS:Hid (∀u,Kept (w.alloc (.cells #[.int .i64 s,.int .i64 t,.int .i64 a] 72)) u→_):=hS
 have HK:Hid (Kept (w.alloc (.cells #[.int .i64 s,.int .i64 t,.int .i64 a] 72)) (w.alloc (.cells #[.int .i64 s,.int .i64 t,.int .i64 a] 72)).drew):=(qlv _).drew
 clear hS hD hK
 go_enter Tryz.func294,Tryz.ntmps294
 go_wp2_with fail
 go_region_held (fun u=>Kept w u∧Kept (w.alloc (.cells #[.int .i64 s,.int .i64 t,.int .i64 a] 72)) u∧u.cell? ⟨w.heap.size,0,none⟩=some (.int .i64 s)∧u.cell? ⟨w.heap.size,1,none⟩=some (.int .i64 t)∧u.cell? ⟨w.heap.size,2,none⟩=some (.int .i64 a)) (first|exact HS.out _ HK.out|assumption) (first|(go_at_call 324;refine(qf9 _ _ _ _).mono ?_;rintro e w1 ⟨rfl,hk1⟩;have e0:=HS.out _ (Kept.trans (by assumption) hk1))|(go_at_call 323;refine(Vs _ _ _).mono ?_;rintro e w1 ⟨rfl,rfl⟩))
 go_wp2
 go_ret
 exact⟨rfl,by first|exact e0.1|(rename_i h;exact h.1)⟩
theorem Vt (s t a i:Int)(w:World):Calls Tryz.prog 204 #[.agg #[.int .i64 s,.int .i64 t,.int .i64 a],.int .i64 i] w fun e w'=>e=.returned (.int .i64 (IntKind.i64.wrap (J3 (IntKind.u64.wrap (J5 s t+IntKind.u64.wrap (IntKind.u64.wrap (IntKind.u64.wrap (IntKind.u64.wrap a+IntKind.u64.wrap i)+1)*11400714819323198485))))))∧Kept w w':=by
 have hK:=(qlv w).alloc #[.int .i64 s,.int .i64 t,.int .i64 a] 72
 have hD:=Qf w s t a 72
 have hS:∀u,Kept (w.alloc (.cells #[.int .i64 s,.int .i64 t,.int .i64 a] 72)) u→Kept w u∧Kept (w.alloc (.cells #[.int .i64 s,.int .i64 t,.int .i64 a] 72)) u∧u.cell? ⟨w.heap.size,0,none⟩=some (.int .i64 s)∧u.cell? ⟨w.heap.size,1,none⟩=some (.int .i64 t)∧u.cell? ⟨w.heap.size,2,none⟩=some (.int .i64 a):=fun u hu=>⟨hK.trans hu,hu,hD.kept hu⟩
 have HS:Hid (∀u,Kept (w.alloc (.cells #[.int .i64 s,.int .i64 t,.int .i64 a] 72)) u→_):=hS
 have HK:Hid (Kept (w.alloc (.cells #[.int .i64 s,.int .i64 t,.int .i64 a] 72)) (w.alloc (.cells #[.int .i64 s,.int .i64 t,.int .i64 a] 72)).drew):=(qlv _).drew
 clear hS hD hK
 go_enter Tryz.func204,Tryz.ntmps204
 go_wp2_with fail
 go_region_held (fun u=>Kept w u∧Kept (w.alloc (.cells #[.int .i64 s,.int .i64 t,.int .i64 a] 72)) u∧u.cell? ⟨w.heap.size,0,none⟩=some (.int .i64 s)∧u.cell? ⟨w.heap.size,1,none⟩=some (.int .i64 t)∧u.cell? ⟨w.heap.size,2,none⟩=some (.int .i64 a)) (first|exact HS.out _ HK.out|assumption) (first|(go_at_call 256;refine(qcu _ _ _ _).mono ?_;rintro e w1 ⟨rfl,hk1⟩;have e0:=HS.out _ (Kept.trans (by assumption) hk1))|(go_at_call 255;refine(J4 _ _).mono ?_;rintro e w1 ⟨rfl,rfl⟩))
 go_wp2
 go_ret
 exact⟨rfl,by first|exact e0.1|(rename_i h;exact h.1)⟩
def wz (s t a:Int):Int:=IntKind.i64.wrap (ZP (J5 s t) a)
theorem K5 (k a b:Int)(h:a%18446744073709551616=b%18446744073709551616):ZP k a=ZP k b:=by
 unfold ZP
 simp only[IntKind.wrap_u64]
 rw[h]
theorem qga (s t a b:Int)(h:a%18446744073709551616=b%18446744073709551616):wz s t a=wz s t b:=by
 unfold wz;rw[K5 _ a b h]
theorem qcv (s t a i:Int)(w:World):Calls Tryz.prog 294 #[.agg #[.int .i64 s,.int .i64 t,.int .i64 a],.int .i64 i] w fun e w'=>e=.returned (.int .i64 (wz s t (a+i)))∧Kept w w':=by
 refine(K4 s t a i w).mono ?_
 rintro e w' ⟨rfl,hk⟩
 refine⟨?_,hk⟩
 rw[qga s t (a+i) (IntKind.i64.wrap (a+i)) (by rw[qc];omega)];rfl
theorem K6 (s t a i:Int)(w:World):Calls Tryz.prog 204 #[.agg #[.int .i64 s,.int .i64 t,.int .i64 a],.int .i64 i] w fun e w'=>e=.returned (.int .i64 (wz s t (a+i)))∧Kept w w':=by
 refine(Vt s t a i w).mono ?_
 rintro e w' ⟨rfl,hk⟩
 refine⟨?_,hk⟩
 unfold wz ZP
 have e:IntKind.u64.wrap (IntKind.u64.wrap (IntKind.u64.wrap a+IntKind.u64.wrap i)+1)=IntKind.u64.wrap (IntKind.u64.wrap (a+i)+1):=by
  simp only[IntKind.wrap_u64];omega
 rw[e]
end Go.Proofs.YtelbefihigkhjaaGreatDoor

namespace Go.Proofs.YtelbefihigkhjaaGreatDoor
open Go.ChangeShapes Go.WideShapes Go.ChangeAt Go.RowKit
set_option maxHeartbeats 16000000
set_option maxRecDepth 100000
set_option linter.unusedVariables false
def Dw (w:World)(b:Nat)(s t a:Int):Prop:=Dr w b s t a∧∀o,w.frozen? ⟨b,o,none⟩=false
theorem j9 (w:World)(s t a:Int)(T:TypeId):Dw (w.alloc (.cells #[.int .i64 s,.int .i64 t,.int .i64 a] T)) w.heap.size s t a:=⟨Qf w s t a T,fun o=>by simp[go_sem]⟩
theorem Dw.kept {w w':World}{b:Nat}{s t a:Int}(h:Dw w b s t a)(k:Kept w w'):Dw w' b s t a:=⟨h.1.kept k,fun o=>(k.frozen _).trans (h.2 o)⟩
theorem Dw.set {w:World}{b:Nat}{s t a:Int}(h:Dw w b s t a)(x:Int):Dw (w.setCell ⟨b,2,none⟩ (.int .i64 x)) b s t x:=
 ⟨⟨(World.cell?_setCell_other _ _ _ _ (by simp)).trans h.1.1,(World.cell?_setCell_other _ _ _ _ (by simp)).trans h.1.2.1,World.cell?_setCell_same _ _ _ h.1.2.2⟩,fun o=>(World.frozen?_setCell _ _ _ _).trans (h.2 o)⟩
theorem Dw.far {w:World}{b:Nat}{s t a:Int}(h:Dw w b s t a)(p:Addr)(hp:p.block≠b)(v:Value):Dw (w.setCell p v) b s t a:=
 ⟨⟨(World.cell?_setCell_far _ _ _ _ hp).trans h.1.1,(World.cell?_setCell_far _ _ _ _ hp).trans h.1.2.1,(World.cell?_setCell_far _ _ _ _ hp).trans h.1.2.2⟩,fun o=>(World.frozen?_setCell _ _ _ _).trans (h.2 o)⟩
def put3 (w:World)(c:Nat)(x y z:Value):World:=((w.setCell ⟨c,0,none⟩ x).setCell ⟨c,1,none⟩ y).setCell ⟨c,2,none⟩ z
theorem qh0 {w X:World}{b c:Nat}{s t a:Int}(hw:Kept w X)(hb:w.heap.size≤c)(hne:c≠b)(d:Dr X b s t a)(x y z:Value):
  Kept w (put3 X c x y z)∧(put3 X c x y z).cell? ⟨b,0,none⟩=some (.int .i64 s)∧(put3 X c x y z).cell? ⟨b,1,none⟩=some (.int .i64 t)∧(put3 X c x y z).cell? ⟨b,2,none⟩=some (.int .i64 a):=by
 have e:∀o,(put3 X c x y z).cell? ⟨b,o,none⟩=X.cell? ⟨b,o,none⟩:=fun o=>
  ((World.cell?_setCell_far _ _ _ _ hne).trans (World.cell?_setCell_far _ _ _ _ hne)).trans (World.cell?_setCell_far _ _ _ _ hne)
 exact⟨((hw.setCell hb _).setCell hb _).setCell hb _,(e 0).trans d.1,(e 1).trans d.2.1,(e 2).trans d.2.2⟩
theorem xB {w X:World}{b c:Nat}{s t a:Int}(hw:Kept w X)(hb:w.heap.size≤c)(hne:c≠b)(d:Dr X b s t a)(x y z:Value):
  Kept w (put3 X c x y z).drew∧(put3 X c x y z).drew.cell? ⟨b,0,none⟩=some (.int .i64 s)∧(put3 X c x y z).drew.cell? ⟨b,1,none⟩=some (.int .i64 t)∧(put3 X c x y z).drew.cell? ⟨b,2,none⟩=some (.int .i64 a):=
 ⟨(qh0 hw hb hne d x y z).1.drew,(qh0 hw hb hne d x y z).2⟩
theorem K7 (s t a:Int)(w:World):Calls Tryz.prog 242 #[.agg #[.int .i64 s,.int .i64 t,.int .i64 a]] w fun e w'=>e=.returned (.tuple #[.int .i64 (wz s t a),.agg #[.int .i64 s,.int .i64 t,.int .i64 (wrap64 (a+1))]])∧Kept w w':=by
 have e1:a+0=a:=by omega
 have e2:IntKind.i64.wrap (IntKind.u64.wrap (IntKind.u64.wrap a+1))=wrap64 (a+1):=by
  rw[qc];simp only[IntKind.wrap_u64];unfold wrap64;omega
 go_enter Tryz.func242,Tryz.ntmps242
 go_wp2_with fail
 refine(qcv _ _ _ _ _).mono ?_
 rintro e w1 ⟨rfl,hk1⟩
 rw[e1]
 have hA:=(qlv w).alloc #[.int .i64 s,.int .i64 t,.int .i64 a] 72
 have hB:=(qlv (w.alloc (.cells #[.int .i64 s,.int .i64 t,.int .i64 a] 72))).alloc #[.int .i64 0,.int .i64 0,.int .i64 0] 72
 have hw1:=(hA.trans hB).trans hk1
 have hsz:=hw1.below.size
 have d1:=((j9 w s t a 72).kept hB).kept hk1
 have d2:=(j9 (w.alloc (.cells #[.int .i64 s,.int .i64 t,.int .i64 a] 72)) 0 0 0 72).kept hk1
 rw[show(w.alloc (.cells #[.int .i64 s,.int .i64 t,.int .i64 a] 72)).heap.size=w.heap.size+1 by simp]at d2
 have d3:=d1.set (wrap64 (a+1))
 have d4:=d2.far ⟨w.heap.size,2,none⟩ (by simp) (.int .i64 (wrap64 (a+1)))
 have hw2:=hw1.setCell (p:=⟨w.heap.size,2,none⟩) (qlj _) (.int .i64 (wrap64 (a+1)))
 obtain⟨⟨c0,c1,c2⟩,f1⟩:=d1
 clear hA hB hk1 d2
 go_upto_region 3 with fail
 obtain⟨X,hX⟩:∃X,X=w1.setCell ⟨w.heap.size,2,none⟩ (.int .i64 (wrap64 (a+1))):=⟨_,rfl⟩
 rw[←hX]at d3 d4 hw2 ⊢
 clear hX c0 c1 c2 f1 hw1
 obtain⟨⟨c0,c1,c2⟩,f1⟩:=d3
 obtain⟨⟨c3,c4,c5⟩,f2⟩:=d4
 go_region_held (fun u=>Kept w u∧u.cell? ⟨w.heap.size,0,none⟩=some (.int .i64 s)∧u.cell? ⟨w.heap.size,1,none⟩=some (.int .i64 t)∧u.cell? ⟨w.heap.size,2,none⟩=some (.int .i64 (wrap64 (a+1)))) (first|exact⟨hw2.drew,c0,c1,c2⟩|assumption|exact xB hw2 (by simp) (by simp) ⟨c0,c1,c2⟩ _ _ _) (fail)
 go_wp2
 exact qlu (v:=.tuple #[.int .i64 (wz s t a),.agg #[.int .i64 s,.int .i64 t,.int .i64 (wrap64 (a+1))]]) (by simp[results,Tryz.results242,go_sem, *]) rfl ⟨rfl,(xB hw2 (by simp) (by simp) ⟨c0,c1,c2⟩ _ _ _).1⟩
theorem Vu (s t a:Int)(w:World):Calls Tryz.prog 123 #[.agg #[.int .i64 s,.int .i64 t,.int .i64 a]] w fun e w'=>e=.returned (.tuple #[.int .i64 (wz s t a),.agg #[.int .i64 s,.int .i64 t,.int .i64 (wrap64 (a+1))]])∧Kept w w':=by
 have e1:a+0=a:=by omega
 have e2:IntKind.i64.wrap (IntKind.u64.wrap (IntKind.u64.wrap a+1))=wrap64 (a+1):=by
  rw[qc];simp only[IntKind.wrap_u64];unfold wrap64;omega
 go_enter Tryz.func123,Tryz.ntmps123
 go_wp2_with fail
 refine(K6 _ _ _ _ _).mono ?_
 rintro e w1 ⟨rfl,hk1⟩
 rw[e1]
 have hA:=(qlv w).alloc #[.int .i64 s,.int .i64 t,.int .i64 a] 72
 have hB:=(qlv (w.alloc (.cells #[.int .i64 s,.int .i64 t,.int .i64 a] 72))).alloc #[.int .i64 0,.int .i64 0,.int .i64 0] 72
 have hw1:=(hA.trans hB).trans hk1
 have hsz:=hw1.below.size
 have d1:=((j9 w s t a 72).kept hB).kept hk1
 have d2:=(j9 (w.alloc (.cells #[.int .i64 s,.int .i64 t,.int .i64 a] 72)) 0 0 0 72).kept hk1
 rw[show(w.alloc (.cells #[.int .i64 s,.int .i64 t,.int .i64 a] 72)).heap.size=w.heap.size+1 by simp]at d2
 have d3:=d1.set (wrap64 (a+1))
 have d4:=d2.far ⟨w.heap.size,2,none⟩ (by simp) (.int .i64 (wrap64 (a+1)))
 have hw2:=hw1.setCell (p:=⟨w.heap.size,2,none⟩) (qlj _) (.int .i64 (wrap64 (a+1)))
 obtain⟨⟨c0,c1,c2⟩,f1⟩:=d1
 clear hA hB hk1 d2
 go_upto_region 3 with fail
 obtain⟨X,hX⟩:∃X,X=w1.setCell ⟨w.heap.size,2,none⟩ (.int .i64 (wrap64 (a+1))):=⟨_,rfl⟩
 rw[←hX]at d3 d4 hw2 ⊢
 clear hX c0 c1 c2 f1 hw1
 obtain⟨⟨c0,c1,c2⟩,f1⟩:=d3
 obtain⟨⟨c3,c4,c5⟩,f2⟩:=d4
 go_region_held (fun u=>Kept w u∧u.cell? ⟨w.heap.size,0,none⟩=some (.int .i64 s)∧u.cell? ⟨w.heap.size,1,none⟩=some (.int .i64 t)∧u.cell? ⟨w.heap.size,2,none⟩=some (.int .i64 (wrap64 (a+1)))) (first|exact⟨hw2.drew,c0,c1,c2⟩|assumption|exact xB hw2 (by simp) (by simp) ⟨c0,c1,c2⟩ _ _ _) (fail)
 go_wp2
 exact qlu (v:=.tuple #[.int .i64 (wz s t a),.agg #[.int .i64 s,.int .i64 t,.int .i64 (wrap64 (a+1))]]) (by simp[results,Tryz.results123,go_sem, *]) rfl ⟨rfl,(xB hw2 (by simp) (by simp) ⟨c0,c1,c2⟩ _ _ _).1⟩
end Go.Proofs.YtelbefihigkhjaaGreatDoor

namespace Go.Proofs.YtelbefihigkhjaaGreatDoor
open Go.ChangeShapes Go.WideShapes Go.ChangeAt Go.RowKit
set_option maxHeartbeats 16000000
set_option maxRecDepth 100000
set_option linter.unusedVariables false
theorem Qg (z:Nat)(h:z<18446744073709551616):J3 (z:Int)=(qcz z:Nat):=by
 have e1:=mixStep_u64 z 1073741824 13787848793156543929 h
 have e2:=mixStep_u64 ((z^^^z/1073741824)*13787848793156543929%18446744073709551616) 134217728 10723151780598845931 (Nat.mod_lt _ (by decide))
 have e3:=xorShift_u64 (((z^^^z/1073741824)*13787848793156543929%18446744073709551616^^^(z^^^z/1073741824)*13787848793156543929%18446744073709551616/134217728)*10723151780598845931%18446744073709551616) 2147483648 (Nat.mod_lt _ (by decide))
 have f1:qf8 13787848793156543929 1073741824 (z:Int)=(((z^^^z/1073741824)*13787848793156543929%18446744073709551616:Nat):Int):=e1
 unfold J3
 rw[f1]
 have f2:qf8 10723151780598845931 134217728 (((z^^^z/1073741824)*13787848793156543929%18446744073709551616:Nat):Int)=_:=e2
 rw[f2]
 have f3:=e3
 unfold qkd
 rw[show(2147483648:Int)=((2147483648:Nat):Int)from rfl,f3]
 rfl
theorem uw (x:Int):IntKind.u64.wrap x=(un x:Int):=by rw[IntKind.wrap_u64,qgb]
theorem qcw (s t:Int):J5 s t=(qiy s t:Nat):=by
 unfold J5 qiy
 rw[uw s,uw t,show(un t:Int)+7146057691288625177=((un t+7146057691288625177:Nat):Int) by omega,IntKind.wrap_u64,
  show((un t+7146057691288625177:Nat):Int)%18446744073709551616=(((un t+7146057691288625177)%18446744073709551616:Nat):Int) by omega,
  Qg _ (Nat.mod_lt _ (by decide)),bits_xor_u64_nat _ _ (qh1 s) (ZQ _),Qg _ (qc1 (qh1 s) (ZQ _))]
theorem qiu (x c:Nat):IntKind.u64.wrap ((x:Int)*(c:Int))=((x*c%18446744073709551616:Nat):Int):=by
 rw[IntKind.wrap_u64];simp
theorem uwn (x:Nat):IntKind.u64.wrap (x:Int)=((x%18446744073709551616:Nat):Int):=by rw[IntKind.wrap_u64];omega
theorem qcx (s t a:Int):ZP (J5 s t) a=(wn s t a:Nat):=by
 unfold ZP wn
 rw[qcw,uw a,show(un a:Int)+1=((un a+1:Nat):Int) by omega,uwn (un a+1)]
 rw[show(11400714819323198485:Int)=((11400714819323198485:Nat):Int)from rfl,qiu]
 rw[←Int.natCast_add,uwn]
 exact Qg _ (Nat.mod_lt _ (by decide))
theorem qiv (s t a:Int):wz s t a=wrap64 (wn s t a:Nat):=by unfold wz;rw[qcx,qc];unfold wrap64;rfl
theorem qke (s t a:Int):IntKind.u64.wrap (wz s t a)=(wn s t a:Nat):=by
 rw[qiv,IntKind.wrap_u64]
 have:=qc0 s t a
 unfold wrap64
 omega
theorem Dw.put {w:World}{b:Nat}{x y z:Int}(h:Dw w b x y z)(s t a:Int):Dw (put3 w b (.int .i64 s) (.int .i64 t) (.int .i64 a)) b s t a:=by
 have h0:(w.setCell ⟨b,0,none⟩ (.int .i64 s)).cell? ⟨b,0,none⟩=some (.int .i64 s):=World.cell?_setCell_same _ _ _ h.1.1
 have h1:(w.setCell ⟨b,0,none⟩ (.int .i64 s)).cell? ⟨b,1,none⟩=some (.int .i64 y):=(World.cell?_setCell_other _ _ _ _ (by simp)).trans h.1.2.1
 have h2:((w.setCell ⟨b,0,none⟩ (.int .i64 s)).setCell ⟨b,1,none⟩ (.int .i64 t)).cell? ⟨b,2,none⟩=some (.int .i64 z):=(World.cell?_setCell_other _ _ _ _ (by simp)).trans ((World.cell?_setCell_other _ _ _ _ (by simp)).trans h.1.2.2)
 refine⟨⟨?_,?_,World.cell?_setCell_same _ _ _ h2⟩,fun o=>?_⟩
 ·exact(World.cell?_setCell_other _ _ _ _ (by simp)).trans ((World.cell?_setCell_other _ _ _ _ (by simp)).trans h0)
 ·exact(World.cell?_setCell_other _ _ _ _ (by simp)).trans (World.cell?_setCell_same _ _ _ h1)
 ·unfold put3
  rw[World.frozen?_setCell,World.frozen?_setCell,World.frozen?_setCell]
  exact h.2 o
theorem Dw.far3 {w:World}{b:Nat}{s t a:Int}(h:Dw w b s t a)(c:Nat)(hc:c≠b)(x y z:Value):Dw (put3 w c x y z) b s t a:=
 ((h.far ⟨c,0,none⟩ hc x).far ⟨c,1,none⟩ hc y).far ⟨c,2,none⟩ hc z
theorem Kept.put3 {w X:World}(h:Kept w X)(c:Nat)(hc:w.heap.size≤c)(x y z:Value):Kept w (put3 X c x y z):=((h.setCell hc _).setCell hc _).setCell hc _
theorem Dr.lt {w:World}{b:Nat}{s t a:Int}(h:Dr w b s t a):b<w.heap.size:=World.block_lt_of_cell? _ _ h.1
end Go.Proofs.YtelbefihigkhjaaGreatDoor
