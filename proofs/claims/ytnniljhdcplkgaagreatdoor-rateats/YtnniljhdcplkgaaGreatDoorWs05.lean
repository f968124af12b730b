/-  -/
import Derived.Test.YtnniljhdcplkgaaGreatDoorWs04
import Derived.Test.YtnniljhdcplkgaaGreatDoorWs02
import Derived.Test.YtnniljhdcplkgaaGreatDoorWs01
import Derived.Deep.RegionHeld
namespace Go.Proofs.YtnniljhdcplkgaaGreatDoor
open Go.ChangeShapes Go.WideShapes Go.ChangeAt Go.RowKit
set_option maxHeartbeats 16000000
set_option maxRecDepth 100000
set_option linter.unusedVariables false
set_option linter.unusedSimpArgs false
theorem ret_pair {a b:Int}{p:Bool}(h:a=b):Ending.returned (.tuple #[.int .i64 a,.bool p])=.returned (.tuple #[.int .i64 b,.bool p]):=by rw[h]
theorem rj_zero_64 (p:Bool)(e:Int)(w:World):Calls Tryz.prog 117 #[.bool p,.int .i64 0,.int .i64 e,.int .i64 64] w fun r w'=>r=.returned (.tuple #[.int .i64 (if p=true then -9223372036854775808 else 0),.bool true])∧Kept w w':=by
 by_cases h1:2000<e<;>by_cases h2:e< -2000
 ·omega
 all_goals
  cases p
  all_goals
   go_enter Tryz.func117,Tryz.ntmps117
   go_wp2_with (first|(go_at_call 45;refine(of_64 _).mono ?_;rintro e w1 ⟨rfl,hk1⟩))
   go_ret2
   exact⟨rfl,hk1.alloc _ _⟩
theorem rj_yes_64 (p:Bool)(x e V E q:Int)(hx:0<x)(he1:-2000≤e)(he2:e≤2000)(hE:E≤971)(hE0:-1074≤E)(hV0:0<V)(hV1:V<9007199254740992)(hs:V<4503599627370496→E=-1074)(hq:q=(E+1074)*4503599627370496+V+(if p=true then -9223372036854775808 else 0))(Ks:Hid (∀w:World,Calls Tryz.prog 139 #[.agg #[.int .i64 64,.int .i64 53,.int .i64 4503599627370496,.int .i64 2047,.int .i64 (-1074),.int .i64 1024,.int .i64 9218868437227405312,.int .i64 (-9223372036854775808),.int .i64 9221120237041090561],.int .i64 x,.int .i64 e] w fun e w'=>e=.returned (.tuple #[.int .i64 V,.int .i64 E,.bool true])∧Kept w w'))(w:World):Calls Tryz.prog 117 #[.bool p,.int .i64 x,.int .i64 e,.int .i64 64] w fun r w'=>r=.returned (.tuple #[.int .i64 q,.bool true])∧Kept w w':=by
 have hx0:(x==0)=false:=by rw[beq_eq_false_iff_ne];omega
 have HQ:Hid (q=(E+1074)*4503599627370496+V+(if p=true then -9223372036854775808 else 0)):=hq
 have HS:Hid (V<4503599627370496→E=-1074):=hs
 clear hq hs
 cases p
 all_goals
  by_cases hvs:V<4503599627370496
  all_goals
   go_enter Tryz.func117,Tryz.ntmps117
   go_wp2_with (first|(go_at_call 45;refine(of_64 _).mono ?_;rintro e w1 ⟨rfl,hk1⟩)|(go_at_call 139;refine(Ks.out _).mono ?_;rintro e w2 ⟨rfl,hk2⟩;have hcl:=laid_cell hk2))
   go_ret2
   refine⟨ret_pair ?_,(hk1.alloc _ _).trans hk2⟩
   have hq:=HQ.out
   have hs:=HS.out
   simp only[Bool.false_eq_true,if_true,if_false]at hq
   try unfold wrap64
   omega
theorem rj_zero_32 (p:Bool)(e:Int)(w:World):Calls Tryz.prog 117 #[.bool p,.int .i64 0,.int .i64 e,.int .i64 32] w fun r w'=>r=.returned (.tuple #[.int .i64 (if p=true then 2147483648 else 0),.bool true])∧Kept w w':=by
 by_cases h1:2000<e<;>by_cases h2:e< -2000
 ·omega
 all_goals
  cases p
  all_goals
   go_enter Tryz.func117,Tryz.ntmps117
   go_wp2_with (first|(go_at_call 45;refine(of_32 _).mono ?_;rintro e w1 ⟨rfl,hk1⟩))
   go_ret2
   exact⟨rfl,hk1.alloc _ _⟩
theorem rj_yes_32 (p:Bool)(x e V E q:Int)(hx:0<x)(he1:-2000≤e)(he2:e≤2000)(hE:E≤104)(hE0:-149≤E)(hV0:0<V)(hV1:V<16777216)(hs:V<8388608→E=-149)(hq:q=(E+149)*8388608+V+(if p=true then 2147483648 else 0))(Ks:Hid (∀w:World,Calls Tryz.prog 139 #[.agg #[.int .i64 32,.int .i64 24,.int .i64 8388608,.int .i64 255,.int .i64 (-149),.int .i64 128,.int .i64 2139095040,.int .i64 2147483648,.int .i64 2143289345],.int .i64 x,.int .i64 e] w fun e w'=>e=.returned (.tuple #[.int .i64 V,.int .i64 E,.bool true])∧Kept w w'))(w:World):Calls Tryz.prog 117 #[.bool p,.int .i64 x,.int .i64 e,.int .i64 32] w fun r w'=>r=.returned (.tuple #[.int .i64 q,.bool true])∧Kept w w':=by
 have hx0:(x==0)=false:=by rw[beq_eq_false_iff_ne];omega
 have HQ:Hid (q=(E+149)*8388608+V+(if p=true then 2147483648 else 0)):=hq
 have HS:Hid (V<8388608→E=-149):=hs
 clear hq hs
 cases p
 all_goals
  by_cases hvs:V<8388608
  all_goals
   go_enter Tryz.func117,Tryz.ntmps117
   go_wp2_with (first|(go_at_call 45;refine(of_32 _).mono ?_;rintro e w1 ⟨rfl,hk1⟩)|(go_at_call 139;refine(Ks.out _).mono ?_;rintro e w2 ⟨rfl,hk2⟩;have hcl:=laid_cell hk2))
   go_ret2
   refine⟨ret_pair ?_,(hk1.alloc _ _).trans hk2⟩
   have hq:=HQ.out
   have hs:=HS.out
   simp only[Bool.false_eq_true,if_true,if_false]at hq
   try unfold wrap64
   omega
end Go.Proofs.YtnniljhdcplkgaaGreatDoor

namespace Go.Proofs.YtnniljhdcplkgaaGreatDoor
open Go.ChangeShapes Go.WideShapes Go.ChangeAt Go.RowKit
set_option maxHeartbeats 16000000
set_option maxRecDepth 100000
def Reads (w:World)(b off:Nat)(L:List Int):Prop:=∀i,i<L.length→w.cell? ⟨b,off+i,none⟩=some (.int .i64 (L.getD i 0))
def Sl (w:World)(v:Value)(L:List Int):Prop:=
 ∃ao cap,v=.slice ao L.length cap∧L.length≤cap∧cap≤maxLen∧(L≠[]→∃b off,ao=some ⟨b,off,none⟩∧b<w.heap.size∧Reads w b off L)
theorem Reads.kept {w w':World}{b off:Nat}{L:List Int}(h:Reads w b off L)(hb:b<w.heap.size)(k:Kept w w'):Reads w' b off L:=
 fun i hi=>(k.below.cell (p:=⟨b,off+i,none⟩) hb).trans (h i hi)
theorem Sl.kept {w w':World}{v:Value}{L:List Int}(h:Sl w v L)(k:Kept w w'):Sl w' v L:=by
 obtain⟨ao,cap,e,hc,hm,hr⟩:=h
 refine⟨ao,cap,e,hc,hm,fun hne=>?_⟩
 obtain⟨b,off,e2,hb,hr⟩:=hr hne
 exact⟨b,off,e2,Nat.lt_of_lt_of_le hb k.below.size,hr.kept hb k⟩
def dig (L:List Int)(i:Int):Int:=if 0≤i then L.getD i.toNat 0 else 0
theorem digit_in (L:List Int)(b off cap:Nat)(i:Nat)(hi:i<L.length)(w:World)(hr:Reads w b off L):Calls Tryz.prog 137 #[.slice (some ⟨b,off,none⟩) L.length cap,.int .i64 (i:Int)] w fun e w'=>e=.returned (.int .i64 (L.getD i 0))∧w=w':=by
 have h1:=hr i hi
 have h2:((i:Int)<0)=False:=by simp
 have h3:((L.length:Int)≤(i:Int))=False:=by simp;omega
 generalize L.getD i 0=d at *
 generalize L.length=n at *
 clear hr
 go_enter Tryz.func137,Tryz.ntmps137
 go_wp2
 go_ret
 exact⟨rfl,rfl⟩
theorem digit_out (n:Nat)(ao:Option Addr)(cap:Nat)(i:Int)(hi:i<0∨(n:Int)≤i)(w:World):Calls Tryz.prog 137 #[.slice ao n cap,.int .i64 i] w fun e w'=>e=.returned (.int .i64 0)∧w=w':=by
 rcases(show i<0∨(0≤i∧(n:Int)≤i) by omega)with h|⟨h0,h⟩
 ·go_enter Tryz.func137,Tryz.ntmps137
  go_wp2
  go_ret
  exact⟨rfl,rfl⟩
 ·go_enter Tryz.func137,Tryz.ntmps137
  go_wp2
  go_ret
  exact⟨rfl,rfl⟩
theorem digit_any (L:List Int)(v:Value)(i:Int)(w:World)(h:Sl w v L):Calls Tryz.prog 137 #[v,.int .i64 i] w fun e w'=>e=.returned (.int .i64 (dig L i))∧w=w':=by
 obtain⟨ao,cap,rfl,hc,hm,hr⟩:=h
 by_cases hi:0≤i∧i<L.length
 ·obtain⟨b,off,rfl,-,hr⟩:=hr (by intro h;subst h;simp at hi;omega)
  have:=digit_in L b off cap i.toNat (by omega) w hr
  rw[Int.toNat_of_nonneg hi.1]at this
  rw[dig,if_pos hi.1]
  exact this
 ·have:dig L i=0:=by
   unfold dig
   split
   ·rw[List.getD_eq_getElem?_getD,List.getElem?_eq_none (by omega)];rfl
   ·rfl
  rw[this]
  exact digit_out _ _ _ _ (by omega) w
theorem dig_nat (L:List Int)(h:Dg L)(q:Nat):dig L (q:Int)=((nv L/2^(30*q)%1073741824:Nat):Int):=by
 have h1:=nv_getD L h q
 have h2:=h.getD q
 rw[dig,if_pos (by omega),Int.toNat_natCast]
 omega
theorem dig_neg (L:List Int)(q:Int)(h:q<0):dig L q=0:=by rw[dig,if_neg (by omega)]
def pcq (L:List Int)(q:Int)(s:Nat):Int:=bits .and .i64 (bits .or .i64 (dig L q/2^s) (IntKind.i64.wrap (dig L (q+1)*2^(30-s)))) 1073741823
theorem pcq_nat (x y s:Nat)(hs:s<30)(hx:x<1073741824)(hy:y<1073741824):bits .and .i64 (bits .or .i64 ((x:Int)/2^s) (IntKind.i64.wrap ((y:Int)*2^(30-s)))) 1073741823=(((x/2^s+y*2^(30-s))%1073741824:Nat):Int):=by
 obtain⟨p,q,hp,hq,e⟩:∃p q:Nat,2^s=p∧2^(30-s)=q∧p*q=1073741824:=⟨_,_,rfl,rfl,by rw[←Nat.pow_add,show s+(30-s)=30 by omega]⟩
 have hp0:0<p:=by rw[←hp];exact Nat.two_pow_pos _
 have hq0:0<q:=by rw[←hq];exact Nat.two_pow_pos _
 have hq1:q≤1073741824:=by rw[←e];exact Nat.le_mul_of_pos_left _ hp0
 have e1:(x:Int)/2^s=((x/2^s:Nat):Int):=by rw[Int.natCast_ediv,Int.natCast_pow];rfl
 have e2:(y:Int)*2^(30-s)=((y*2^(30-s):Nat):Int):=by rw[Int.natCast_mul,Int.natCast_pow];rfl
 have h1:x/2^s<2^(30-s):=by
  rw[hp,hq]
  exact(Nat.div_lt_iff_lt_mul hp0).2 (by rw[Nat.mul_comm];omega)
 have h2:y*2^(30-s)<1152921504606846976:=by
  rw[hq]
  calc y*q≤y*1073741824:=Nat.mul_le_mul_left _ hq1
   _<1152921504606846976:=by omega
 have e3:IntKind.i64.wrap ((y*2^(30-s):Nat):Int)=((y*2^(30-s):Nat):Int):=by
  rw[wrap_i64];omega
 rw[e1,e2,e3,or_sum _ _ _ h1 (by have:x/2^s≤x:=Nat.div_le_self _ _;omega),mask30]
 rfl
theorem pcq_eq (L:List Int)(h:Dg L)(q:Int)(s:Nat)(hs:s<30):pcq L q s=pcz (nv L) (30*q+s):=by
 unfold pcq pcz
 by_cases h0:0≤q
 ·obtain⟨n,rfl⟩:∃n:Nat,q=n:=⟨q.toNat,by omega⟩
  rw[if_pos (by omega),show((n:Int)+1)=((n+1:Nat):Int) by omega,dig_nat L h,dig_nat L h,pcq_nat _ _ s hs (Nat.mod_lt _ (by decide)) (Nat.mod_lt _ (by decide)),piece_nat _ s hs,show(30*(n:Int)+(s:Int)).toNat=30*n+s by omega]
 ·rw[if_neg (by omega),dig_neg L q (by omega)]
  by_cases h1:q=-1
  ·subst h1
   have e:=dig_nat L h 0
   rw[show(-1+1:Int)=((0:Nat):Int) by rfl,e,show(0:Int)=((0:Nat):Int)from rfl,pcq_nat 0 _ s hs (by decide) (Nat.mod_lt _ (by decide)),show(-(30*(-1)+(s:Int))).toNat=30-s by omega]
   simp[Nat.mod_mul_mod]
  ·rw[dig_neg L (q+1) (by omega),show(0:Int)=((0:Nat):Int)from rfl,pcq_nat 0 0 s hs (by decide) (by decide)]
   obtain⟨k,hk⟩:∃k,(-(30*q+(s:Int))).toNat=30+k:=⟨(-(30*q+(s:Int))).toNat-30,by omega⟩
   have e:nv L*(2^30*2^k)%1073741824=0:=by
    rw[Nat.mul_left_comm]
    exact Nat.mul_mod_right _ _
   rw[hk,Nat.pow_add,e]
   simp
theorem tdiv_at (p q s:Int)(h0:0≤s)(hs:s<30)(hp:p=30*q+s)(hc:0≤q∨s=0):p.tdiv 30=q∧p.tmod 30=s:=by
 by_cases h:0≤p
 ·rw[Int.tdiv_eq_ediv_of_nonneg (by omega),Int.tmod_eq_emod_of_nonneg (by omega)]
  omega
 ·have e:p.tdiv 30=-((-p).tdiv 30):=by rw[Int.neg_tdiv];omega
  have f:p.tmod 30=-((-p).tmod 30):=by rw[Int.neg_tmod];omega
  rw[e,f,Int.tdiv_eq_ediv_of_nonneg (by omega),Int.tmod_eq_emod_of_nonneg (by omega)]
  omega
theorem tdiv_below (p q s:Int)(h0:0<s)(hs:s<30)(hp:p=30*q+s)(hc:q<0):p.tdiv 30=q+1∧p.tmod 30=s-30:=by
 have e:p.tdiv 30=-((-p).tdiv 30):=by rw[Int.neg_tdiv];omega
 have f:p.tmod 30=-((-p).tmod 30):=by rw[Int.neg_tmod];omega
 rw[e,f,Int.tdiv_eq_ediv_of_nonneg (by omega),Int.tmod_eq_emod_of_nonneg (by omega)]
 omega
theorem piece_at (L:List Int)(v:Value)(q:Int)(s:Nat)(hs:s<30)(hq:q<100000000)(hq0:-100000000<q)(p:Int)(hp:p=30*(q:Int)+s)(hc:0≤q∨(s:Int)=0)(w:World)(h:Sl w v L):Calls Tryz.prog 114 #[v,.int .i64 p] w fun e w'=>e=.returned (.int .i64 (pcq L q s))∧Kept w w':=by
 have H:Hid (Sl w v L):=h
 clear h
 obtain⟨e1,e2⟩:=tdiv_at p q s (by omega) (by omega) hp hc
 clear hp hc
 have hK:=Kept.refl w
 have e3:IntKind.i64.wrap (q+1)=q+1:=by rw[wrap_i64];omega
 have e4:IntKind.i64.wrap (30-(s:Int))=((30-s:Nat):Int):=by rw[wrap_i64];omega
 go_enter Tryz.func114,Tryz.ntmps114
 go_wp2_with fail
 go_region_held (fun u=>Kept w u) (first|exact hK.drew|assumption) (first|(go_at_call 137;refine(digit_any L v _ _ (H.out.kept (by assumption))).mono ?_;rintro e w1 ⟨rfl,rfl⟩))
 go_wp2
 go_ret
 exact⟨rfl,hK.drew⟩
theorem piece_below (L:List Int)(v:Value)(q:Int)(s:Nat)(hs:s<30)(hq:q<0)(hq0:-100000000<q)(p:Int)(hp:p=30*(q:Int)+s)(hc:0<s)(w:World)(h:Sl w v L):Calls Tryz.prog 114 #[v,.int .i64 p] w fun e w'=>e=.returned (.int .i64 (pcq L q s))∧Kept w w':=by
 have H:Hid (Sl w v L):=h
 clear h
 obtain⟨e1,e2⟩:=tdiv_below p q s (by omega) (by omega) hp hq
 clear hp
 have hK:=Kept.refl w
 have e3:IntKind.i64.wrap (q+1)=q+1:=by rw[wrap_i64];omega
 have e5:IntKind.i64.wrap (q+1-1)=q:=by rw[wrap_i64];omega
 have e6:IntKind.i64.wrap ((s:Int)-30+30)=(s:Int):=by rw[wrap_i64];omega
 have e4:IntKind.i64.wrap (30-(s:Int))=((30-s:Nat):Int):=by rw[wrap_i64];omega
 go_enter Tryz.func114,Tryz.ntmps114
 go_wp2_with fail
 go_region_held (fun u=>Kept w u) (first|exact hK.drew|assumption) (first|(go_at_call 137;refine(digit_any L v _ _ (H.out.kept (by assumption))).mono ?_;rintro e w1 ⟨rfl,rfl⟩))
 go_wp2
 go_ret
 exact⟨rfl,hK.drew⟩
theorem piece_any (L:List Int)(hL:Dg L)(v:Value)(p:Int)(h1:-1000000000<p)(h2:p<1000000000)(w:World)(h:Sl w v L):Calls Tryz.prog 114 #[v,.int .i64 p] w fun e w'=>e=.returned (.int .i64 (pcz (nv L) p))∧Kept w w':=by
 obtain⟨s,hs⟩:∃s:Nat,p%30=s:=⟨(p%30).toNat,by omega⟩
 have e:30*(p/30)+(s:Int)=p:=by omega
 have:=pcq_eq L hL (p/30) s (by omega)
 rw[e]at this
 rw[←this]
 by_cases hc:0≤p/30∨(s:Int)=0
 ·exact piece_at L v (p/30) s (by omega) (by omega) (by omega) p e.symm hc w h
 ·exact piece_below L v (p/30) s (by omega) (by omega) (by omega) p e.symm (by omega) w h
end Go.Proofs.YtnniljhdcplkgaaGreatDoor

namespace Go.Proofs.YtnniljhdcplkgaaGreatDoor
open Go.ChangeShapes Go.WideShapes Go.ChangeAt Go.RowKit
set_option maxHeartbeats 16000000
set_option maxRecDepth 100000
set_option linter.unusedVariables false
theorem bitLen_bl (x:Nat)(h:x<2^63):Lib.bitLen x=bl x:=by
 by_cases h0:x=0
 ·subst h0;rfl
 ·have h1:=bl_pos x h0
  have h2:=bl_le x 63 h
  obtain⟨m,hm⟩:∃m,bl x=m+1:=⟨bl x-1,by omega⟩
  rw[hm]at h1 ⊢
  exact bitLen_top m x (by omega) (by simpa using h1.1) h1.2.1
def Cn (L:List Int):Prop:=Dg L∧(L≠[]→L.getD (L.length-1) 0≠0)
theorem Cn.digs (n:Nat):Cn (digs n):=⟨dg_digs n,fun h=>digs_last n (fun h0=>h (by rw[h0,digs_zero]))⟩
theorem bl_div (v n:Nat)(hd:v/2^n≠0):bl v=n+bl (v/2^n):=by
 have h6:=bl_pos _ hd
 obtain⟨d,hv⟩:∃d,v/2^n=d:=⟨_,rfl⟩
 rw[hv]at h6 ⊢
 obtain⟨m,hm⟩:∃m,bl d=m+1:=⟨bl d-1,by have:=h6.2.2;omega⟩
 rw[hm]at h6 ⊢
 rw[Nat.add_sub_cancel]at h6
 rw[←Nat.add_assoc]
 apply bl_eq
 ·rw[Nat.pow_add,Nat.mul_comm]
  exact(Nat.le_div_iff_mul_le (Nat.two_pow_pos _)).1 (by rw[hv];exact h6.1)
 ·rw[show n+m+1=(m+1)+n by omega,Nat.pow_add]
  exact(Nat.div_lt_iff_lt_mul (Nat.two_pow_pos _)).1 (by rw[hv];exact h6.2.1)
theorem length_math (L:List Int)(hL:Dg L)(n:Nat)(hn:L.length=n+1)(hl:L.getD n 0≠0):((n:Int)+1-1)*30+((bl (L.getD n 0).toNat:Nat):Int)=((bl (nv L):Nat):Int):=by
 have h1:=nv_getD L hL n
 have h2:=nv_lt L hL
 have h4:=hL.getD n
 rw[hn,pow30]at h2
 have h5:nv L/2^(30*n)<1073741824:=by
  rw[Nat.div_lt_iff_lt_mul (Nat.two_pow_pos _)];exact h2
 rw[Nat.mod_eq_of_lt h5]at h1
 have h6:nv L/2^(30*n)≠0:=by rw[←h1];omega
 have h7:=bl_div _ _ h6
 rw[←h1]at h7
 rw[h7]
 clear h1 h2 h5 h6 h7
 omega
theorem length_nil (ao:Option Addr)(cap:Nat)(w:World):Calls Tryz.prog 112 #[.slice ao 0 cap] w fun e w'=>e=.returned (.int .i64 0)∧w=w':=by
 go_enter Tryz.func112,Tryz.ntmps112
 go_wp2
 go_ret
 exact⟨rfl,rfl⟩
theorem length_some (n b off cap:Nat)(hn:n<100000000)(d:Int)(h0:0≤d)(h1:d<1073741824)(r:Nat)(hr:((n:Int)+1-1)*30+((bl d.toNat:Nat):Int)=(r:Int))(w:World)(hc:w.cell? ⟨b,off+n,none⟩=some (.int .i64 d)):Calls Tryz.prog 112 #[.slice (some ⟨b,off,none⟩) (n+1) cap] w fun e w'=>e=.returned (.int .i64 (r:Int))∧w=w':=by
 have K:Hid (∀w:World,Calls Tryz.prog 119 #[.int .u64 d] w fun e w'=>e=.returned (.int .i64 ((bl d.toNat:Nat):Int))∧w=w'):=by
  intro w
  have:=len d w h0 (by omega)
  rw[bitLen_bl _ (by omega)]at this
  exact this
 have hb:bl d.toNat≤30:=bl_le _ _ (by omega)
 generalize bl d.toNat=k at *
 have e1:IntKind.u64.wrap d=d:=by rw[IntKind.wrap_u64];omega
 go_enter Tryz.func112,Tryz.ntmps112
 go_wp2_with (first|(go_at_call 119;refine(K.out _).mono ?_;rintro e w1 ⟨rfl,rfl⟩))
 go_ret
 rw[←show(n:Int)*30+(k:Int)=(r:Int) by omega]
 exact⟨rfl,rfl⟩
theorem length_any (L:List Int)(hL:Cn L)(hlen:L.length<100000000)(v:Value)(w:World)(h:Sl w v L):Calls Tryz.prog 112 #[v] w fun e w'=>e=.returned (.int .i64 ((bl (nv L):Nat):Int))∧w=w':=by
 obtain⟨ao,cap,rfl,hc,hm,hr⟩:=h
 by_cases hne:L=[]
 ·subst hne;exact length_nil ao cap w
 ·obtain⟨b,off,rfl,hb,hr⟩:=hr hne
  have hpos:=List.length_pos_iff.2 hne
  obtain⟨n,hn⟩:∃n,L.length=n+1:=⟨L.length-1,by omega⟩
  have hd:=hL.1.getD n
  have hcell:=hr n (by omega)
  have hl:=hL.2 hne
  rw[hn,Nat.add_sub_cancel]at hl
  have hm:=length_math L hL.1 n hn hl
  rw[hn]
  exact length_some n b off cap (by omega) _ hd.1 hd.2 _ hm w hcell
theorem signOf_any (neg:Bool)(ao:Option Addr)(n cap:Nat)(x:Int)(w:World):Calls Tryz.prog 99 #[.agg #[.bool neg,.slice ao n cap,.int .i64 x]] w fun e w'=>e=.returned (.int .i64 (if n=0 then 0 else if neg=true then -1 else 1))∧Kept w w':=by
 cases neg<;>cases n
 all_goals
  go_enter Tryz.func99,Tryz.ntmps99
  go_wp2
  go_ret
  exact⟨by simp,(Kept.refl _).alloc _ _⟩
theorem and_high (X:Nat)(h:X<2^64):X&&& (2^64-2^30)=X/2^30*2^30:=by
 apply Nat.eq_of_testBit_eq
 intro j
 have f:(2^64-2^30:Nat)=2^30*(2^34-1)+0:=by decide
 have g:X/2^30*2^30=2^30*(X/2^30)+0:=by omega
 rw[Nat.testBit_and,f,g,Nat.testBit_two_pow_mul_add _ (by decide),Nat.testBit_two_pow_mul_add _ (by decide)]
 by_cases hj:j<30
 ·simp[hj]
 ·rw[if_neg hj,if_neg hj,Nat.testBit_two_pow_sub_one,Nat.testBit_div_two_pow]
  by_cases hk:j<64
  ·rw[show j-30+30=j by omega];simp;omega
  ·rw[show j-30+30=j by omega,Nat.testBit_lt_two_pow (i:=j) (x:=X) (Nat.lt_of_lt_of_le h (Nat.pow_le_pow_right (by decide) (by omega)))]
   simp
theorem andNot30 (d:Int)(h1:-9223372036854775808≤d)(h2:d≤9223372036854775807):bits .andNot .i64 d 1073741823=d/1073741824*1073741824:=by
 have e:(~~~ BitVec.ofInt 64 1073741823:BitVec 64).toNat=2^64-2^30:=by decide
 have h:=ofInt_toNat d
 rw[bits_andNot,BitVec.toNat_and,e,and_high _ (BitVec.isLt _),wrap_i64]
 omega
def Rg (L:List Int):Prop:=∀d∈L,-9223372036854775808≤d∧d≤9223372036854775807
theorem Rg.getD {L:List Int}(h:Rg L)(i:Nat):-9223372036854775808≤L.getD i 0∧L.getD i 0≤9223372036854775807:=by
 by_cases hi:i<L.length
 ·rw[List.getD_eq_getElem?_getD,List.getElem?_eq_getElem hi]
  exact h _ (List.getElem_mem hi)
 ·rw[List.getD_eq_getElem?_getD,List.getElem?_eq_none (by omega)]
  simp
theorem Dg.rg {L:List Int}(h:Dg L):Rg L:=fun d hd=>by have:=h d hd;omega
def dgb (L:List Int):Bool:=L.all fun d=>decide (0≤d∧d<1073741824)
theorem dgb_iff (L:List Int):dgb L=true↔Dg L:=by simp[dgb,Dg]
theorem dgb_true (L:List Int)(h:∀j,j<L.length→0≤L.getD j 0∧L.getD j 0<1073741824):dgb L=true:=(dgb_iff L).2 (Dg.of_getD h)
theorem dgb_false (L:List Int)(j:Nat)(hj:j<L.length)(h:¬(0≤L.getD j 0∧L.getD j 0<1073741824)):dgb L=false:=by
 cases hb:dgb L
 ·rfl
 ·exact absurd (((dgb_iff L).1 hb).getD j) h
theorem areDigits_some (L:List Int)(hR:Rg L)(b off cap:Nat)(w:World)(hlen:L.length<100000000)(hr:Reads w b off L):Calls Tryz.prog 155 #[.slice (some ⟨b,off,none⟩) L.length cap] w fun e w'=>e=.returned (.bool (dgb L))∧w=w':=by
 obtain⟨n,hn⟩:∃n,n=L.length:=⟨_,rfl⟩
 have HN:Hid (n=L.length):=hn
 have HR:Hid (Reads w b off L):=hr
 rw[←hn]at hlen ⊢
 clear hr hn
 go_enter Tryz.func155,Tryz.ntmps155
 go_wp2
 go_loop [6] (fun i=>∃k:Nat,k≤n∧i=.int .i64 k∧∀j,j<k→0≤L.getD j 0∧L.getD j 0<1073741824) (fun i=>n-(intOf i).toNat)
 case atStart=>exact⟨0,Nat.zero_le _,rfl,fun j h=>by omega⟩
 case round=>
  obtain⟨k,hk,rfl,hd⟩:=hrel
  have HD:Hid (∀j,j<k→0≤L.getD j 0∧L.getD j 0<1073741824):=hd
  clear hd
  by_cases hkn:k<n
  ·have hcell:=HR.out k (by rw[←HN.out];exact hkn)
   have hg:=hR.getD k
   have ha:=andNot30 _ hg.1 hg.2
   obtain⟨d,hd⟩:∃d,d=L.getD k 0:=⟨_,rfl⟩
   have HE:Hid (d=L.getD k 0):=hd
   rw[←hd]at hcell hg ha
   clear hd
   by_cases hz:0≤d∧d<1073741824
   ·have hz2:d/1073741824*1073741824=0:=by omega
    rw[hz2]at ha
    go_wp2
    go_round
    case rel=>
     refine⟨k+1,by omega,by go_num,fun j hj=>?_⟩
     by_cases hjk:j=k
     ·subst hjk;rw[←HE.out];exact hz
     ·exact HD.out j (by omega)
    case measure=>simp[intOf];omega
   ·have hz2:(d/1073741824*1073741824 != 0)=true:=by simp;omega
    go_wp2
    go_ret
    refine⟨?_,rfl⟩
    rw[dgb_false L k (by rw[←HN.out];exact hkn) (by rw[←HE.out];exact hz)]
    rfl
  ·go_wp2
   go_ret
   refine⟨?_,rfl⟩
   rw[dgb_true L (fun j hj=>HD.out j (by have:=HN.out;omega))]
   rfl
end Go.Proofs.YtnniljhdcplkgaaGreatDoor
namespace Go.Proofs.YtnniljhdcplkgaaGreatDoor
open Go.ChangeShapes Go.WideShapes Go.ChangeAt Go.RowKit
set_option maxHeartbeats 16000000
set_option maxRecDepth 100000
set_option linter.unusedVariables false
def vldN (n:Nat)(g:Bool)(d d0 x:Int):Bool:=decide ((n:Int)≤2000)&&g&&(d != 0)&&(bits .and .i64 d0 1==1)&&decide (-1048576≤x)&&decide (x≤1048576)
theorem valid_some (neg:Bool)(n b off cap:Nat)(hn:n<100000000)(d d0 x:Int)(g:Bool)(w:World)(hb:b<w.heap.size)(h0:w.cell? ⟨b,off,none⟩=some (.int .i64 d0))(h1:w.cell? ⟨b,off+n,none⟩=some (.int .i64 d))
  (K:Hid (∀w':World,Kept w w'→Calls Tryz.prog 155 #[.slice (some ⟨b,off,none⟩) (n+1) cap] w' fun e w''=>e=.returned (.bool g)∧w'=w'')):
  Calls Tryz.prog 134 #[.agg #[.bool neg,.slice (some ⟨b,off,none⟩) (n+1) cap,.int .i64 x]] w fun e w'=>e=.returned (.bool (vldN (n+1) g d d0 x))∧Kept w w':=by
 have hK:=(Kept.refl w).alloc #[.bool neg,.slice (some ⟨b,off,none⟩) (n+1) cap,.int .i64 x] 43
 have c0:=(hK.below.cell (p:=⟨b,off,none⟩) hb).trans h0
 have c1:=(hK.below.cell (p:=⟨b,off+n,none⟩) hb).trans h1
 clear h0 h1
 obtain⟨r,hr⟩:∃r,r=vldN (n+1) g d d0 x:=⟨_,rfl⟩
 rw[←hr]
 have HR:Hid (r=vldN (n+1) g d d0 x):=hr
 clear hr
 go_enter Tryz.func134,Tryz.ntmps134
 go_wp2_with (first|(go_at_call 155;refine(K.out _ hK).mono ?_;rintro e w1 ⟨rfl,rfl⟩))
 all_goals
  go_ret
  refine⟨?_,hK⟩
  rw[HR.out]
  clear HR c0 c1 K hK
  unfold vldN
  simp_all
  try omega
theorem valid_nil (neg:Bool)(ao:Option Addr)(cap:Nat)(x:Int)(w:World):Calls Tryz.prog 134 #[.agg #[.bool neg,.slice ao 0 cap,.int .i64 x]] w fun e w'=>e=.returned (.bool (!neg&&x==0))∧Kept w w':=by
 cases neg
 all_goals
  go_enter Tryz.func134,Tryz.ntmps134
  go_wp2
  go_ret
  exact⟨by simp,(Kept.refl _).alloc _ _⟩
structure Nm where
 neg:Bool
 mag:List Int
 exp:Int
def vld (x:Nm):Bool:=if x.mag=[]then (!x.neg&&x.exp==0)else vldN x.mag.length (dgb x.mag) (x.mag.getD (x.mag.length-1) 0) (x.mag.getD 0 0) x.exp
def NumAt (w:World)(v:Value)(x:Nm):Prop:=∃s,v=.agg #[.bool x.neg,s,.int .i64 x.exp]∧Sl w s x.mag
theorem NumAt.kept {w w':World}{v:Value}{x:Nm}(h:NumAt w v x)(k:Kept w w'):NumAt w' v x:=by
 obtain⟨s,e,hs⟩:=h
 exact⟨s,e,hs.kept k⟩
theorem xvalid_any (x:Nm)(hR:Rg x.mag)(hlen:x.mag.length<100000000)(v:Value)(w:World)(h:NumAt w v x):Calls Tryz.prog 134 #[v] w fun e w'=>e=.returned (.bool (vld x))∧Kept w w':=by
 obtain⟨neg,L,ex⟩:=x
 dsimp only at hR hlen
 obtain⟨s,rfl,ao,cap,rfl,hc,hm,hr⟩:=h
 dsimp only at hc hr
 unfold vld
 by_cases hne:L=[]
 ·subst hne;exact valid_nil neg ao cap ex w
 ·obtain⟨b,off,rfl,hb,hr⟩:=hr hne
  have hpos:=List.length_pos_iff.2 hne
  simp only[hne,if_false]
  have K:Hid (∀w':World,Kept w w'→Calls Tryz.prog 155 #[.slice (some ⟨b,off,none⟩) L.length cap] w' fun e w''=>e=.returned (.bool (dgb L))∧w'=w''):=fun w' k=>areDigits_some L hR b off cap w' hlen (hr.kept hb k)
  have h0:=hr 0 hpos
  have h1:=hr (L.length-1) (by omega)
  obtain⟨n,hn⟩:∃n,L.length=n+1:=⟨L.length-1,by omega⟩
  rw[hn]at K h1 hlen ⊢
  rw[Nat.add_sub_cancel]at h1 ⊢
  exact valid_some neg n b off cap (by omega) _ _ ex _ w hb h0 h1 K
end Go.Proofs.YtnniljhdcplkgaaGreatDoor
