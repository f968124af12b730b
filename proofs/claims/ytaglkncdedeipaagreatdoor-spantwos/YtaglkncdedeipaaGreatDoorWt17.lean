/-  -/
import Derived.Test.YtaglkncdedeipaaGreatDoorWt03
import Derived.Deep.RegionHeld
import Derived.Test.YtaglkncdedeipaaGreatDoorWt16
import Derived.Test.YtaglkncdedeipaaGreatDoorWt02
import Derived.Laws.Shifts
namespace Go.Proofs.YtaglkncdedeipaaGreatDoor
open Go.ChangeShapes Go.WideShapes Go.ChangeAt Go.RowKit
set_option linter.unusedVariables false
set_option linter.unusedSimpArgs false
set_option maxHeartbeats 16000000
set_option maxRecDepth 100000
theorem qg1 {w X u:World}(B:Nat)(vs:Array Value)(t:TypeId)(hB:B=w.heap.size)(hX:Kept (w.alloc (.cells vs t)) X)(k:Kept X u)(i:Nat):u.cell? ⟨B,i,none⟩=(w.alloc (.cells vs t)).cell? ⟨B,i,none⟩:=by
 subst hB
 exact(hX.trans k).below.cell (p:=⟨w.heap.size,i,none⟩) (by simp)
theorem qbd (K:Nat)(hcall:∀a w,(callFunc K #[a]).run Tryz.prog w=.ok (.enter K #[a]) w)(n pr le fi h ex Bh s1 s2 un kept kp1 k2 b:Int)(m:Nat)(ng od hf rt rs aw sb ok:Bool)(hh0:(h==0)=false)(hk0:0≤kept∧0<kp1)(hk1:IntKind.i64.wrap (kept+1)=kp1)(hk2:(if aw=true then kp1 else kept)=k2)(hsb:(ng&&decide (0<k2))=sb)(z0:IntKind.u64.wrap h=h)(z1:IntKind.i64.wrap (ex+Bh)=s1)(z2:IntKind.i64.wrap (s1-pr)=s2)(z3:max s2 le=un)(z4:IntKind.i64.wrap (un-ex)=(m:Int)+1)(w:World)
    (KL:Hid (∀u,Calls Tryz.prog 145 #[.int .u64 h] u fun e w'=>e=.returned (.int .i64 Bh)∧u=w'))
    (KS:Hid (∀u,Calls Tryz.prog 146 #[.agg #[.bool ng,.int .i64 h,.int .i64 ex,.bool rs],.int .i64 ((m:Int)+1)] u fun e w'=>e=.returned (.tuple #[.int .i64 kept,.agg #[.bool ng,.bool od,.bool hf,.bool rt]])∧Kept u w'))
    (KA:Hid (∀u,Calls Tryz.prog K #[.agg #[.bool ng,.bool od,.bool hf,.bool rt]] u fun e w'=>e=.returned (.bool aw)∧Kept u w'))
    (KJ:Hid (∀u,Kept w u→Calls Tryz.prog 147 #[.bool sb,.int .i64 k2,.int .i64 un,.int .i64 n] u fun e w'=>e=.returned (if ok=true then .tuple #[.int .i64 b,.bool true]else .tuple #[.int .i64 0,.bool false])∧Kept u w'))
    (KB:Hid (ok=false→∀u,Calls Tryz.prog 148 #[.agg #[.int .i64 n,.int .i64 pr,.int .i64 le,.int .i64 fi,.func (.func K) #[] #[]],.bool ng] u fun e w'=>e=.returned (.int .i64 b)∧Kept u w')):
    Calls Tryz.prog 113 #[.agg #[.int .i64 n,.int .i64 pr,.int .i64 le,.int .i64 fi,.func (.func K) #[] #[]],.agg #[.bool ng,.int .i64 h,.int .i64 ex,.bool rs]] w fun e w'=>e=.returned (.tuple #[.int .i64 b,.bool (if ok=true then (hf||rt)else true)])∧Kept w w':=by
  obtain⟨X,hX⟩:∃X,X=(w.alloc (.cells #[.int .i64 n,.int .i64 pr,.int .i64 le,.int .i64 fi,.func (.func K) #[] #[]] 149)).alloc (.cells #[.bool ng,.int .i64 h,.int .i64 ex,.bool rs] 155):=⟨_,rfl⟩
  have hK:Kept w X:=by rw[hX];exact((qo0 w).alloc _ _).alloc _ _
  have HS:Hid (∀u,Kept X u→Kept X u∧u.cell? ⟨w.heap.size,0,none⟩=some (.int .i64 n)∧u.cell? ⟨w.heap.size,1,none⟩=some (.int .i64 pr)∧u.cell? ⟨w.heap.size,2,none⟩=some (.int .i64 le)∧u.cell? ⟨w.heap.size,3,none⟩=some (.int .i64 fi)∧u.cell? ⟨w.heap.size,4,none⟩=some (.func (.func K) #[] #[])∧u.cell? ⟨w.heap.size+1,0,none⟩=some (.bool ng)∧u.cell? ⟨w.heap.size+1,1,none⟩=some (.int .i64 h)∧u.cell? ⟨w.heap.size+1,2,none⟩=some (.int .i64 ex)∧u.cell? ⟨w.heap.size+1,3,none⟩=some (.bool rs)):=fun u k=>by
    have h5:=qg1 (w:=w) (X:=X) (u:=u) w.heap.size #[.int .i64 n,.int .i64 pr,.int .i64 le,.int .i64 fi,.func (.func K) #[] #[]] 149 rfl (by rw[hX];exact(qo0 _).alloc _ _) k
    have h4:=qg1 (w:=w.alloc (.cells #[.int .i64 n,.int .i64 pr,.int .i64 le,.int .i64 fi,.func (.func K) #[] #[]] 149)) (X:=X) (u:=u) (w.heap.size+1) #[.bool ng,.int .i64 h,.int .i64 ex,.bool rs] 155 (by simp) (by rw[hX];exact qo0 _) k
    exact⟨k,(h5 0).trans (by simp[go_sem]),(h5 1).trans (by simp[go_sem]),(h5 2).trans (by simp[go_sem]),(h5 3).trans (by simp[go_sem]),(h5 4).trans (by simp[go_sem]),(h4 0).trans (by simp[go_sem]),(h4 1).trans (by simp[go_sem]),(h4 2).trans (by simp[go_sem]),(h4 3).trans (by simp[go_sem])⟩
  have HK2:Hid ((if aw=true then kp1 else kept)=k2):=hk2
  have HSB:Hid ((ng&&decide (0<k2))=sb):=hsb
  clear hk2 hsb hk0
  have kd:=qo0 X
  obtain⟨-,x0,x1,x2,x3,x4,y0,y1,y2,y3⟩:=HS.out _ kd
  go_enter Tryz.func113,Tryz.ntmps113
  go_upto_region 1 with fail
  rw[←hX]
  clear hX
  go_upto_region 3 with fail
  clear x0 x1 x2 x3 x4 y0 y1 y2 y3
  replace kd:=kd.drew
  go_region_held (fun u=>Kept X u∧u.cell? ⟨w.heap.size,0,none⟩=some (.int .i64 n)∧u.cell? ⟨w.heap.size,1,none⟩=some (.int .i64 pr)∧u.cell? ⟨w.heap.size,2,none⟩=some (.int .i64 le)∧u.cell? ⟨w.heap.size,3,none⟩=some (.int .i64 fi)∧u.cell? ⟨w.heap.size,4,none⟩=some (.func (.func K) #[] #[])∧u.cell? ⟨w.heap.size+1,0,none⟩=some (.bool ng)∧u.cell? ⟨w.heap.size+1,1,none⟩=some (.int .i64 h)∧u.cell? ⟨w.heap.size+1,2,none⟩=some (.int .i64 ex)∧u.cell? ⟨w.heap.size+1,3,none⟩=some (.bool rs)) (first|assumption|exact HS.out _ kd|exact HS.out _ (by assumption)) (first|(go_at_call 145;refine(KL.out _).mono ?_;rintro e w1 ⟨rfl,rfl⟩))
  obtain⟨-,x0,x1,x2,x3,x4,y0,y1,y2,y3⟩:=HS.out _ kd
  go_wp2_with fail
  refine(KS.out _).mono ?_
  rintro e w2 ⟨rfl,k2'⟩
  replace kd:=kd.trans k2'
  clear x0 x1 x2 x3 x4 y0 y1 y2 y3 k2' KS KL
  go_upto_region 5 with fail
  obtain⟨X2,hX2⟩:∃Y,Y=w2.alloc (.cells #[.bool ng,.bool od,.bool hf,.bool rt] 186):=⟨_,rfl⟩
  obtain⟨p8,hp8⟩:∃p,p=w2.heap.size:=⟨_,rfl⟩
  have k22:Kept w2 X2:=by rw[hX2];exact(qo0 _).alloc _ _
  have HC:Hid (∀u,Kept X2 u→Kept X2 u∧u.cell? ⟨p8,0,none⟩=some (.bool ng)∧u.cell? ⟨p8,1,none⟩=some (.bool od)∧u.cell? ⟨p8,2,none⟩=some (.bool hf)∧u.cell? ⟨p8,3,none⟩=some (.bool rt)):=fun u k=>by
    have h4:=qg1 (w:=w2) (X:=X2) (u:=u) p8 #[.bool ng,.bool od,.bool hf,.bool rt] 186 hp8 (by rw[hX2];exact qo0 _) k
    subst hp8
    exact⟨k,(h4 0).trans (by simp[go_sem]),(h4 1).trans (by simp[go_sem]),(h4 2).trans (by simp[go_sem]),(h4 3).trans (by simp[go_sem])⟩
  rw[←hX2,←hp8]
  clear hX2 hp8
  replace kd:=kd.trans k22
  have kc:=qo0 X2
  clear k22
  obtain⟨-,x0,x1,x2,x3,x4,y0,y1,y2,y3⟩:=HS.out _ kd
  obtain⟨-,v0,v1,v2,v3⟩:=HC.out _ kc
  go_wp2_with fail
  refine(KA.out _).mono ?_
  rintro e w3 ⟨rfl,k3⟩
  replace kd:=kd.trans k3
  replace kc:=kc.trans k3
  clear x0 x1 x2 x3 x4 y0 y1 y2 y3 v0 v1 v2 v3 k3 KA
  obtain⟨-,x0,x1,x2,x3,x4,y0,y1,y2,y3⟩:=HS.out _ kd
  cases ok with
  | false=>
    (cases aw<;>cases ng)<;>
    (first|(obtain rfl:kp1=k2:=HK2.out)|(obtain rfl:kept=k2:=HK2.out)
     obtain rfl:=HSB.out
     simp only[Bool.false_and,Bool.true_and]at KJ
     go_wp2_with fail
     refine(KJ.out _ (hK.trans kd)).mono ?_
     rintro e w4 ⟨rfl,k4⟩
     replace kd:=kd.trans k4
     clear x0 x1 x2 x3 x4 y0 y1 y2 y3 k4
     obtain⟨-,x0,x1,x2,x3,x4,y0,y1,y2,y3⟩:=HS.out _ kd
     go_wp2_with fail
     refine(KB.out (by trivial) _).mono ?_
     rintro e w5 ⟨rfl,k5⟩
     go_wp2_with fail
     go_ret2
     exact⟨rfl,hK.trans (kd.trans k5)⟩)
  | true=>
    (cases aw<;>cases ng<;>cases hf)<;>
    (first|(obtain rfl:kp1=k2:=HK2.out)|(obtain rfl:kept=k2:=HK2.out)
     obtain rfl:=HSB.out
     simp only[Bool.false_and,Bool.true_and]at KJ
     go_wp2_with fail
     refine(KJ.out _ (hK.trans kd)).mono ?_
     rintro e w4 ⟨rfl,k4⟩
     replace kd:=kd.trans k4
     replace kc:=(kc.trans k4).drew
     clear x0 x1 x2 x3 x4 y0 y1 y2 y3 k4
     obtain⟨-,v0,v1,v2,v3⟩:=HC.out _ kc
     go_upto_region 10 with fail
     go_region
     go_wp2_with fail
     go_ret2
     exact⟨rfl,hK.trans kd.drew⟩)
theorem qc5 (h m:Nat):h&&& 2^m=(h/2^m%2)*2^m:=by
 apply Nat.eq_of_testBit_eq
 intro i
 rw[Nat.testBit_and,Nat.testBit_two_pow]
 by_cases hi:m=i
 ·subst hi
  rw[Nat.testBit_mul_two_pow]
  simp[Nat.testBit_eq_decide_div_mod_eq]
 ·rw [Nat.testBit_mul_two_pow]
  rcases Nat.mod_two_eq_zero_or_one (h/2^m)with h0|h0
  ·simp[h0,hi]
  ·rw[h0]
   by_cases hl:m≤i
   ·have h1:(1:Nat).testBit (i-m)=false:=by
     rw[Nat.testBit_eq_decide_div_mod_eq,Nat.div_eq_of_lt (Nat.one_lt_two_pow (by omega))]
     rfl
    simp[hi,h1]
   ·simp[hi,hl]
theorem qkw (h m:Nat)(hh:h<2^62)(hm:m<62):(bits .and .i64 (h:Int) (wrap64 (2^m)) != 0)=decide (h/2^m%2=1)∧(bits .and .i64 (h:Int) (IntKind.i64.wrap (wrap64 (2^m)-1)) != 0)=(h%2^m != 0):=by
 have h60:(2:Nat)^62=4611686018427387904:=by decide
 have h1:(2:Nat)^m≤2^61:=qom (by decide) (by omega)
 have h61:(2:Nat)^61=2305843009213693952:=by decide
 have hpos:=qoj m
 have hw:wrap64 (2^m)=((2^m:Nat):Int):=by
  rw[show((2:Int)^m)=((2^m:Nat):Int) by push_cast;rfl]
  unfold wrap64
  omega
 rw[hw]
 constructor
 ·rw[Zs h (2^m) (by omega) (by omega),qc5]
  by_cases hb:h/2^m%2=1
  ·rw[qos hb,hb,Nat.one_mul]
   have:¬((2^m:Nat):Int)=0:=by omega
   simpa [bne_iff_ne] using this
  ·rw[qot hb,show h/2^m%2=0 by omega,Nat.zero_mul]
   rfl
 ·have hw2:IntKind.i64.wrap (((2^m:Nat):Int)-1)=((2^m-1:Nat):Int):=by rw[qg];omega
  rw[hw2,qh3 h m (by omega) hm]
  by_cases hb:h%2^m=0
  ·simp[hb]
  ·rw[show(h%2^m != 0)=true by simpa using hb]
   have:¬((h%2^m:Nat):Int)=0:=by omega
   simpa [bne_iff_ne] using this
theorem Kc (h m:Nat)(hh:h<2^62)(hm:62≤m)(hm2:m≤63):bits .and .i64 (h:Int) ((2^m-1:Nat):Int)=(h:Int):=by
 have h60:(2:Nat)^62=4611686018427387904:=by decide
 have h63:(2:Nat)^63=9223372036854775808:=by decide
 have h1:(2:Nat)^m≤2^63:=qom (by decide) hm2
 have h2:(2:Nat)^62≤2^m:=qom (by decide) hm
 rw[Zs h (2^m-1) (by omega) (by omega),Nat.and_two_pow_sub_one_eq_mod,Nat.mod_eq_of_lt (by omega)]
theorem qkx (m:Nat)(hm:62≤m):∃P,Op.shift .shl .i64 1 .i64 (m:Int)=pure (.int .i64 P)∧∀h:Nat,h<2^62→bits .and .i64 (h:Int) P=0∧bits .and .i64 (h:Int) (IntKind.i64.wrap (P-1))=(h:Int):=by
 have h60:(2:Nat)^62=4611686018427387904:=by decide
 have hs:=shift_shl_any .i64 .i64 1 (m:Int) (by omega)
 rw[Int.one_mul,Int.toNat_natCast]at hs
 by_cases h62:m=62
 ·refine⟨_,hs,fun h hh=>?_⟩
  subst h62
  rw[show IntKind.i64.wrap (2^min 62 IntKind.i64.bits)=((2^62:Nat):Int) by decide]
  constructor
  ·rw[Zs h (2^62) (by omega) (by decide),qc5,Nat.div_eq_of_lt (by omega),Nat.zero_mod,Nat.zero_mul]
   rfl
  ·rw[show IntKind.i64.wrap (((2^62:Nat):Int)-1)=((2^62-1:Nat):Int) by decide]
   exact Kc h 62 hh (by decide) (by decide)
 ·by_cases h63:m=63
  ·refine⟨_,hs,fun h hh=>?_⟩
   subst h63
   rw[show IntKind.i64.wrap (2^min 63 IntKind.i64.bits)=-9223372036854775808 by decide]
   constructor
   ·rw[Vn (h:Int) (by omega) (by omega),if_neg (by omega)]
   ·rw[show IntKind.i64.wrap ((-9223372036854775808:Int)-1)=((2^63-1:Nat):Int) by decide]
    exact Kc h 63 hh (by decide) (by decide)
  ·refine⟨_,hs,fun h hh=>?_⟩
   rw[show min m IntKind.i64.bits=64 by show min m 64=64;omega,show IntKind.i64.wrap (2^64)=0 by decide]
   constructor
   ·rw[ji];simp[qg]
   ·rw[show IntKind.i64.wrap ((0:Int)-1)=-1 by decide,ji,show BitVec.ofInt 64 (-1)=BitVec.allOnes 64 by decide,BitVec.and_allOnes,qD,qg]
    omega
theorem qc6 (h m:Nat)(hh:h<2^62)(hm:62≤m):Op.shift .shr .i64 (h:Int) .i64 ((m:Int)+1)=pure (.int .i64 0):=by
 rw[shift_shr_any .i64 .i64 (h:Int) ((m:Int)+1) (by omega)]
 have h1:(2:Nat)^62≤2^min ((m:Int)+1).toNat IntKind.i64.bits:=qom (by decide) (by show 62≤min ((m:Int)+1).toNat 64;omega)
 have h2:(h:Int)/2^min ((m:Int)+1).toNat IntKind.i64.bits=((h/2^min ((m:Int)+1).toNat IntKind.i64.bits:Nat):Int):=by push_cast;rfl
 rw[h2,Nat.div_eq_of_lt (by omega)]
 rfl
def kyz (ng:Bool)(m:Nat):Int:=if ng=true then -(m:Int)else (m:Int)
theorem xz (n:Int)(hn:n=64∨n=32):((qM n).toNat:Int)=qM n∧(qM n=53∨qM n=24)∧(qk n=-1074∨qk n=-149):=by
 rcases hn with rfl|rfl<;>decide
theorem qky (n:Int)(hn:n=64∨n=32)(ng:Bool)(k2 F:Nat)(un:Int)(hE:qk n≤un)(hk:un=qk n∨cbn n≤k2)(hk3:k2≤2*cbn n)(hF:(un-qk n).toNat*cbn n+k2=F)(hlt:F<ifn n)(w:World)(hT:Tab w):Calls Tryz.prog 147 #[.bool (ng&&decide (0<(k2:Int))),.int .i64 (k2:Int),.int .i64 un,.int .i64 n] w fun e w'=>e=.returned (.tuple #[.int .i64 (pz n (kyz ng F)),.bool true])∧Kept w w':=by
 rcases hn with rfl|rfl
 ·simp only[show qk 64=-1074 by rfl,show cbn 64=4503599627370496 by rfl,show ifn 64=9218868437227405312 by rfl]at *
  refine qeo _ (k2:Int) un (F:Int) _ (by omega) (by omega) hE (by omega) (by omega) (by omega) ?_ w hT
  unfold pz kyz
  have hF0:k2=0↔F=0:=by omega
  cases ng
  ·simp only[Bool.false_and,Bool.false_eq_true,if_false,reduceIte]
   rw[if_neg (by omega)]
  ·simp only[Bool.true_and,if_true,qor,reduceIte]
   by_cases h0:k2=0
   ·rw[if_neg (by omega),if_neg (by omega)];omega
   ·rw[if_pos (by omega),if_pos (by omega)];omega
 ·simp only[show qk 32=-149 by rfl,show cbn 32=8388608 by rfl,show ifn 32=2139095040 by rfl]at *
  refine qep _ (k2:Int) un (F:Int) _ (by omega) (by omega) hE (by omega) (by omega) (by omega) ?_ w hT
  unfold pz kyz
  have hF0:k2=0↔F=0:=by omega
  cases ng
  ·simp only[Bool.false_and,Bool.false_eq_true,if_false,show ¬((32:Int)=64) by decide,if_false]
   rw[if_neg (by omega)]
  ·simp only[Bool.true_and,if_true,qor,show ¬((32:Int)=64) by decide,if_false]
   by_cases h0:k2=0
   ·rw[if_neg (by omega),if_neg (by omega)];omega
   ·rw[if_pos (by omega),if_pos (by omega)];omega
theorem qh4 (n:Int)(hn:n=64∨n=32)(p:Bool)(k2 F:Nat)(un:Int)(hE:qk n≤un)(hk:un=qk n∨cbn n≤k2)(hk3:k2≤2*cbn n)(hF:(un-qk n).toNat*cbn n+k2=F)(hlt:ifn n≤F)(w:World)(hT:Tab w):Calls Tryz.prog 147 #[.bool p,.int .i64 (k2:Int),.int .i64 un,.int .i64 n] w fun e w'=>e=.returned (.tuple #[.int .i64 0,.bool false])∧Kept w w':=by
 rcases hn with rfl|rfl
 ·simp only[show qk 64=-1074 by rfl,show cbn 64=4503599627370496 by rfl,show ifn 64=9218868437227405312 by rfl]at *
  exact qa9 _ (k2:Int) un (F:Int) (by omega) (by omega) hE (by omega) (by omega) (by omega) w hT
 ·simp only[show qk 32=-149 by rfl,show cbn 32=8388608 by rfl,show ifn 32=2139095040 by rfl]at *
  exact qba _ (k2:Int) un (F:Int) (by omega) (by omega) hE (by omega) (by omega) (by omega) w hT
theorem qe8 (n:Int)(hn:n=64∨n=32)(K:Nat)(hcall:∀a w,(callFunc K #[a]).run Tryz.prog w=.ok (.enter K #[a]) w)(pr le:Int)(ng aw:Bool)(w:World)
  (KA:Hid (∀u,Calls Tryz.prog K #[.agg #[.bool ng,.bool false,.bool true,.bool true]] u fun e w'=>e=.returned (.bool aw)∧Kept u w')):
  Calls Tryz.prog 148 #[.agg #[.int .i64 n,.int .i64 pr,.int .i64 le,.int .i64 (jg n),.func (.func K) #[] #[]],.bool ng] w fun e w'=>e=.returned (.int .i64 (pz n (kyz ng (if aw=true then ifn n else ifn n-1))))∧Kept w w':=by
 have KP:Hid (∀u,Calls Tryz.prog 169 #[.int .i64 (jg n),.int .i64 n] u fun e w'=>e=.returned (.int .i64 (prv (jg n) n))∧Kept u w'):=fun u=>qix (jg n) n (by rcases hn with rfl|rfl<;>decide) (by rcases hn with rfl|rfl<;>decide) u
 cases ng
 ·cases aw
  ·have e:pz n (kyz false (ifn n-1))=prv (jg n) n:=by rcases hn with rfl|rfl<;>decide
   rw[if_neg (by decide),e]
   exact kH K hcall n pr le (jg n) _ _ w KA KP (fun u=>yV (prv (jg n) n) n (by rcases hn with rfl|rfl<;>decide) (by rcases hn with rfl|rfl<;>decide) u)
  ·have e:pz n (kyz false (ifn n))=jg n:=by rcases hn with rfl|rfl<;>decide
   rw[if_pos rfl,e]
   exact Qn K hcall n pr le (jg n) _ _ w KA KP (fun u=>yV (jg n) n (by rcases hn with rfl|rfl<;>decide) (by rcases hn with rfl|rfl<;>decide) u)
 ·cases aw
  ·have e:pz n (kyz true (ifn n-1))=ngt (prv (jg n) n) n:=by rcases hn with rfl|rfl<;>decide
   rw[if_neg (by decide),e]
   exact Qo K hcall n pr le (jg n) _ _ w KA KP (fun u=>yV (prv (jg n) n) n (by rcases hn with rfl|rfl<;>decide) (by rcases hn with rfl|rfl<;>decide) u)
  ·have e:pz n (kyz true (ifn n))=ngt (jg n) n:=by rcases hn with rfl|rfl<;>decide
   rw[if_pos rfl,e]
   exact QJ K hcall n pr le (jg n) _ _ w KA KP (fun u=>yV (jg n) n (by rcases hn with rfl|rfl<;>decide) (by rcases hn with rfl|rfl<;>decide) u)
theorem qh5 (ng:Bool)(h:Nat)(ex:Int)(rs:Bool)(m:Nat)(hh:h<2^62)(h0:h≠0)(hm9:m<8000000)(w:World):Calls Tryz.prog 146 #[.agg #[.bool ng,.int .i64 (h:Int),.int .i64 ex,.bool rs],.int .i64 ((m:Int)+1)] w fun e w'=>e=.returned (.tuple #[.int .i64 ((h/2^(m+1):Nat):Int),.agg #[.bool ng,.bool (decide (h/2^(m+1)%2=1)),.bool (decide (h/2^m%2=1)),.bool (rs||h%2^m != 0)]])∧Kept w w':=by
 by_cases hm:m<62
 ·obtain⟨b1,b2⟩:=qkw h m hh hm
  have hk:(h:Int)/2^(m+1)=((h/2^(m+1):Nat):Int):=by push_cast;rfl
  have ho:(bits .and .i64 ((h/2^(m+1):Nat):Int) 1==1)=decide (h/2^(m+1)%2=1):=by
   rw[Qa]
   by_cases hb:h/2^(m+1)%2=1
   ·rw[qos hb,beq_iff_eq];omega
   ·rw[qot hb,beq_eq_false_iff_ne];omega
  cases rs
  ·exact YP ng (h:Int) ex _ _ _ m hm _ _ _ hk rfl rfl _ _ _ rfl rfl rfl ho b1 (by rw[b2,Bool.false_or]) w
  ·exact qbh ng (h:Int) ex _ _ _ m hm _ _ _ hk rfl rfl _ _ _ rfl rfl rfl ho b1 (by rw[Bool.true_or]) w
 ·have hb1:h<2^m:=qok hh (qom (by decide) (by omega))
  have hb2:h<2^(m+1):=qok hh (qom (by decide) (by omega))
  obtain⟨P,hsl,hP⟩:=qkx m (by omega)
  obtain⟨q1,q2⟩:=hP h hh
  rw[Nat.div_eq_of_lt hb1,Nat.div_eq_of_lt hb2,Nat.mod_eq_of_lt hb1]
  have hr:((h:Int) != 0)=(rs||h != 0):=by
   have:(h != 0)=true:=by simpa using h0
   rw[this,Bool.or_true]
   have:¬(h:Int)=0:=by omega
   simpa [bne_iff_ne] using this
  cases rs
  ·exact VL ng (h:Int) ex 0 P _ ((m:Int)+1) (m:Int) (by omega) (by omega) (qc6 h m hh (by omega)) (by rw[qg];omega) hsl _ _ _ rfl _ _ _ rfl q1 q2 rfl rfl hr w
  ·exact Y9 ng (h:Int) ex 0 P _ ((m:Int)+1) (m:Int) (by omega) (by omega) (qc6 h m hh (by omega)) (by rw[qg];omega) hsl _ _ _ rfl _ _ _ rfl q1 q2 rfl rfl (by rw[Bool.true_or]) w
structure Ldz (n:Int) (h B:Nat) (ex un:Int) (m k F:Nat):Prop where
 hun:un=max (ex+(B:Int)-qM n) (qk n)
 hm:un-ex=(m:Int)+1
 hk:k=h/2^(m+1)
 hF:F=(un-qk n).toNat*cbn n+k
theorem XC {n:Int}(hn:n=64∨n=32){h B:Nat}{ex un:Int}{m k F:Nat}(H:Ldz n h B ex un m k F)(h1:2^(B-1)≤h)(h2:h<2^B)(hB:54≤B):qk n≤un∧k<2*cbn n∧(un=qk n∨cbn n≤k):=by
 obtain⟨e1,e2,e3,e4⟩:=H
 obtain⟨c1,c2⟩:=Zt n hn
 obtain⟨p1,p2,p3⟩:=xz n hn
 have hp:2*cbn n=2^(qM n).toNat:=by rw[c1,←Nat.pow_succ'];congr 1;omega
 refine⟨by omega,?_,?_⟩
 ·rw[hp,e3,Nat.div_lt_iff_lt_mul (qoj _),←qol]
  exact qok h2 (qom (by decide) (by omega))
 ·by_cases hu:un=qk n
  ·exact Or.inl hu
  ·right
   rw[c1,e3,Nat.le_div_iff_mul_le (qoj _),←qol]
   exact qou (qom (by decide) (by omega)) h1
theorem Ke (way:Int)(hw:way=0∨way=1∨way=2)(ng od hf rt:Bool)(w:World):Calls Tryz.prog (wfv way) #[.agg #[.bool ng,.bool od,.bool hf,.bool rt]] w fun e w'=>e=.returned (.bool (awz way ng od hf rt))∧Kept w w':=by
 rcases hw with rfl|rfl|rfl
 ·exact qmr ng od hf rt w
 ·exact qms ng od hf rt w
 ·exact qmt ng od hf rt w
theorem qc7 (way:Int)(hw:way=0∨way=1∨way=2)(n:Int)(hn:n=64∨n=32)(ng:Bool)(h B:Nat)(ex:Int)(rs:Bool)(un:Int)(m k F:Nat)(H:Ldz n h B ex un m k F)(h1:2^(B-1)≤h)(h2:h<2^B)(hB:54≤B)(hB2:B≤62)(x1:-3000000≤ex)(x2:ex≤3000000)(od hf rt:Bool)(hod:od=decide (k%2=1))(hhf:hf=decide (h/2^m%2=1))(hrt:rt=(rs||h%2^m != 0))(w:World)(hT:Tab w):
  Calls Tryz.prog 113 #[.agg #[.int .i64 n,.int .i64 (qM n),.int .i64 (qk n),.int .i64 (jg n),.func (.func (wfv way)) #[] #[]],.agg #[.bool ng,.int .i64 (h:Int),.int .i64 ex,.bool rs]] w fun e w'=>e=.returned (.tuple #[.int .i64 (pz n (kyz ng (mgz way ng (ifn n) F od hf rt))),.bool (odz way ng (ifn n) F od hf rt)])∧Kept w w':=by
 obtain⟨u1,u2,u3⟩:=XC hn H h1 h2 hB
 obtain⟨e1,e2,e3,e4⟩:=H
 obtain⟨p1,p2,p3⟩:=xz n hn
 have hc:cbn n≤4503599627370496:=by unfold cbn;split<;>decide
 have h62:h<2^62:=qok h2 (qom (by decide) hB2)
 have hpp:(2:Nat)^62=4611686018427387904:=by decide
 have h0:0<h:=qok (qoj _) h1
 obtain⟨aw,haw⟩:∃aw,awz way ng od hf rt=aw:=⟨_,rfl⟩
 have hcall:=qhk way hw
 have KL:Hid (∀u,Calls Tryz.prog 145 #[.int .u64 (h:Int)] u fun e w'=>e=.returned (.int .i64 (B:Int))∧u=w'):=fun u=>by
  have:=len (h:Int) u (by omega) (by omega)
  rw[Int.toNat_natCast,show Lib.bitLen h=B by have:=vK (B-1) h (by omega) h1 (by rw[show B-1+1=B by omega];exact h2);omega]at this
  exact this
 have hk2:(if aw=true then (k:Int)+1 else (k:Int))=((k+aw.toNat:Nat):Int):=by cases aw<;>simp
 have hal:aw.toNat≤1:=Bool.toNat_le _
 have hFa:(un-qk n).toNat*cbn n+(k+aw.toNat)=F+aw.toNat:=by omega
 obtain⟨ok,hok⟩:∃ok,decide (F+aw.toNat<ifn n)=ok:=⟨_,rfl⟩
 have hmg:mgz way ng (ifn n) F od hf rt=if ok=true then F+aw.toNat else if awz way ng false true true=true then ifn n else ifn n-1:=by
  unfold mgz
  rw[haw,←hok]
  simp only[qor]
 have hoz:odz way ng (ifn n) F od hf rt=if ok=true then (hf||rt)else true:=by
  unfold odz
  rw[haw,←hok]
  by_cases hl:F+aw.toNat<ifn n
  ·rw[qos hl,if_pos rfl,qot (by omega),Bool.or_false]
  ·rw[qot hl,if_neg (by decide),qos (by omega),Bool.or_true]
 rw[hmg,hoz]
 refine qbd (wfv way) hcall n (qM n) (qk n) (jg n) (h:Int) ex (B:Int) (ex+(B:Int)) (ex+(B:Int)-qM n) un (k:Int) ((k:Int)+1) ((k+aw.toNat:Nat):Int) _ m ng od hf rt rs aw _ ok (by rw[beq_eq_false_iff_ne];omega) (by omega) (by rw[qg];omega) hk2 rfl (by rw[qgr _ (by omega) (by omega)]) (by rw[qg];omega) (by rw[qg];omega) e1.symm (by rw[qg];omega) w KL (fun u=>?_) (fun u=>?_) (fun u ku=>?_) (fun ho u=>?_)
 ·rw[hod,hhf,hrt,e3]
  exact qh5 ng h ex rs m h62 (by omega) (by omega) u
 ·refine(Ke way hw ng od hf rt u).mono fun _ _ hh=>⟨?_,hh.2⟩
  rw[hh.1,haw]
 ·cases ok
  ·rw[if_neg (by decide)]
   exact qh4 n hn _ (k+aw.toNat) (F+aw.toNat) un u1 (by omega) (by omega) hFa (by have:=of_decide_eq_false hok;omega) u (hT.kept ku)
  ·rw[if_pos rfl,if_pos rfl]
   exact qky n hn ng (k+aw.toNat) (F+aw.toNat) un u1 (by omega) (by omega) hFa (of_decide_eq_true hok) u (hT.kept ku)
 ·rw[ho,if_neg (by decide)]
  refine qe8 n hn (wfv way) hcall _ _ ng _ u (fun u=>(Ke way hw ng false true true u).mono fun _ _ hh=>⟨?_,hh.2⟩)
  rw[hh.1]
theorem qmy (n:Int)(hn:n=64∨n=32)(r:Nm)(hv:vld r=true)(hne:r.mag≠[]):∃m:Nat,Ldz n (hd (nv r.mag)) 60 (r.exp+((bl (nv r.mag):Int)-60)) (unN n r) m (kpN n r) (flN n r)∧odN n r=decide (kpN n r%2=1)∧hfN n r=decide (hd (nv r.mag)/2^m%2=1)∧rtN n r=(decide (60<(bl (nv r.mag):Int))||hd (nv r.mag)%2^m != 0)∧2^(60-1)≤hd (nv r.mag)∧hd (nv r.mag)<2^60∧-3000000≤r.exp+((bl (nv r.mag):Int)-60)∧r.exp+((bl (nv r.mag):Int)-60)≤3000000:=by
 obtain⟨p1,p2,p3,p4,p5,p6⟩:=qT r.neg r.mag r.exp hne hv
 have hodd:=kz r.mag p2 p4
 have h0:nv r.mag≠0:=by omega
 have hbl:=zg _ _ (zJ r.mag p2)
 obtain⟨b1,b2,b3⟩:=qO (nv r.mag) h0
 have hb:=yO _ h0
 obtain⟨q1,q2,q3⟩:=xz n hn
 obtain⟨u,hu⟩:∃u,unN n r=u:=⟨_,rfl⟩
 have hu2:=hu
 unfold unN unz at hu2
 obtain⟨m,hm⟩:∃m:Nat,u-(r.exp+((bl (nv r.mag):Int)-60))=(m:Int)+1:=⟨(u-(r.exp+((bl (nv r.mag):Int)-60))-1).toNat,by omega⟩
 refine⟨m,⟨?_,?_,?_,rfl⟩,rfl,?_,?_,hb.1,hb.2,by omega,by omega⟩
 ·rw[hu];omega
 ·rw[hu];exact hm
 ·unfold kpN hd
  rw[hu]
  exact(qas (nv r.mag) (bl (nv r.mag)) (m+1) (r.exp-u) (by omega)).symm
 ·unfold hfN hd
  rw[hu,qas (nv r.mag) (bl (nv r.mag)) m (r.exp-u+1) (by omega)]
 ·unfold rtN hd
  rw[hu]
  exact qje (nv r.mag) (bl (nv r.mag)) m (r.exp-u+1) (by omega) hodd b2
theorem qc8 (way:Int)(fv:Nat)(n pr le fi:Int)(ng:Bool)(ao:Option Addr)(l c:Nat)(x res:Int)(ox:Bool)(ld:Array Value)(l0 l1 l2 l3:Value)(w:World)
  (KR:Hid (∀u,Kept ((w.alloc (.cells #[.bool ng,.slice ao l c,.int .i64 x] 31)).alloc (.cells #[.bool ng,.slice ao l c,.int .i64 x] 31)) u→Calls Tryz.prog 112 #[.int .i64 n,.int .i64 way,.slice (some ⟨w.heap.size+1,0,none⟩) 1 1] u fun e w'=>e=.returned (.tuple #[.agg #[.int .i64 n,.int .i64 pr,.int .i64 le,.int .i64 fi,.func (.func fv) #[] #[]],.int .i64 0])∧Kept u w'))
  (KD:Hid (∀u,Kept w u→Calls Tryz.prog 114 #[.agg #[.bool ng,.slice ao l c,.int .i64 x]] u fun e w'=>e=.returned (.agg #[l0,l1,l2,l3])∧Kept u w'))
  (KO:Hid (∀u,Kept w u→Calls Tryz.prog 113 #[.agg #[.int .i64 n,.int .i64 pr,.int .i64 le,.int .i64 fi,.func (.func fv) #[] #[]],.agg #[l0,l1,l2,l3]] u fun e w'=>e=.returned (.tuple #[.int .i64 res,.bool ox])∧Kept u w')):
  Calls Tryz.prog 84 #[.agg #[.bool ng,.slice ao l c,.int .i64 x],.int .i64 n,.int .i64 way] w fun e w'=>e=.returned (.tuple #[.int .i64 res,.bool ox,.int .i64 0])∧Kept w w':=by
 have hK:Kept w ((w.alloc (.cells #[.bool ng,.slice ao l c,.int .i64 x] 31)).alloc (.cells #[.bool ng,.slice ao l c,.int .i64 x] 31)):=((qo0 w).alloc _ _).alloc _ _
 go_enter Tryz.func84,Tryz.ntmps84
 go_wp2_with fail
 refine(KR.out _ (qo0 _)).mono ?_
 rintro e w1 ⟨rfl,k1⟩
 have k1':=k1.alloc #[.int .i64 n,.int .i64 pr,.int .i64 le,.int .i64 fi,.func (.func fv) #[] #[]] 149
 have hs1:=k1.below.size
 simp only[World.size_alloc]at hs1
 have kX:Kept (w.alloc (.cells #[.bool ng,.slice ao l c,.int .i64 x] 31)) (w1.alloc (.cells #[.int .i64 n,.int .i64 pr,.int .i64 le,.int .i64 fi,.func (.func fv) #[] #[]] 149)):=((qo0 _).alloc _ _).trans k1'
 have HS:Hid (∀u,Kept (w1.alloc (.cells #[.int .i64 n,.int .i64 pr,.int .i64 le,.int .i64 fi,.func (.func fv) #[] #[]] 149)) u→(u.cell? ⟨w1.heap.size,0,none⟩=some (.int .i64 n)∧u.cell? ⟨w1.heap.size,1,none⟩=some (.int .i64 pr)∧u.cell? ⟨w1.heap.size,2,none⟩=some (.int .i64 le)∧u.cell? ⟨w1.heap.size,3,none⟩=some (.int .i64 fi)∧u.cell? ⟨w1.heap.size,4,none⟩=some (.func (.func fv) #[] #[]))∧u.cell? ⟨w.heap.size,0,none⟩=some (.bool ng)∧u.cell? ⟨w.heap.size,1,none⟩=some (.slice ao l c)∧u.cell? ⟨w.heap.size,2,none⟩=some (.int .i64 x)):=fun u k=>⟨⟨(qh k 0).trans (by simp[go_sem]),(qh k 1).trans (by simp[go_sem]),(qh k 2).trans (by simp[go_sem]),(qh k 3).trans (by simp[go_sem]),(qh k 4).trans (by simp[go_sem])⟩,(qh (kX.trans k) 0).trans (by simp[go_sem]),(qh (kX.trans k) 1).trans (by simp[go_sem]),(qh (kX.trans k) 2).trans (by simp[go_sem])⟩
 have kD:Kept (w1.alloc (.cells #[.int .i64 n,.int .i64 pr,.int .i64 le,.int .i64 fi,.func (.func fv) #[] #[]] 149)) (w1.alloc (.cells #[.int .i64 n,.int .i64 pr,.int .i64 le,.int .i64 fi,.func (.func fv) #[] #[]] 149)).drew:=(qo0 _).drew
 go_wp2_with fail
 go_region_held (fun u=>(u.cell? ⟨w1.heap.size,0,none⟩=some (.int .i64 n)∧u.cell? ⟨w1.heap.size,1,none⟩=some (.int .i64 pr)∧u.cell? ⟨w1.heap.size,2,none⟩=some (.int .i64 le)∧u.cell? ⟨w1.heap.size,3,none⟩=some (.int .i64 fi)∧u.cell? ⟨w1.heap.size,4,none⟩=some (.func (.func fv) #[] #[]))∧u.cell? ⟨w.heap.size,0,none⟩=some (.bool ng)∧u.cell? ⟨w.heap.size,1,none⟩=some (.slice ao l c)∧u.cell? ⟨w.heap.size,2,none⟩=some (.int .i64 x)) (first|exact HS.out _ kD|assumption) (first|(go_at_call 114;refine(KD.out _ (hK.trans (k1'.trans kD))).mono ?_;rintro e w2 ⟨rfl,k2⟩;have e0:=HS.out _ (kD.trans k2))|(go_at_call 113;refine(KO.out _ (hK.trans (k1'.trans (kD.trans k2)))).mono ?_;rintro e w3 ⟨rfl,k3⟩;have e0:=HS.out _ (kD.trans (k2.trans k3))))
 all_goals
  go_wp2_with fail
  exact qoz (v:=.tuple #[.int .i64 res,.bool ox,.int .i64 0]) (by simp[results,Tryz.results84,go_sem]) rfl ⟨rfl,hK.trans (k1'.trans (kD.trans (k2.trans k3)))⟩
theorem qbr (n way:Int)(hn:n=64∨n=32)(hw:way=0∨way=1∨way=2)(r:Nm)(hv:vld r=true)(ao:Option Addr)(c:Nat)(w:World)(hT:Tab w)(h:Sl w (.slice ao r.mag.length c) r.mag):
  Calls Tryz.prog 84 #[.agg #[.bool r.neg,.slice ao r.mag.length c,.int .i64 r.exp],.int .i64 n,.int .i64 way] w fun e w'=>e=.returned (.tuple #[.int .i64 (rzN n way r),.bool (oxN n way r),.int .i64 0])∧Kept w w':=by
 obtain⟨hlen,hDg⟩:=ya r.neg r.mag r.exp hv
 have KR:Hid (∀u,Kept ((w.alloc (.cells #[.bool r.neg,.slice ao r.mag.length c,.int .i64 r.exp] 31)).alloc (.cells #[.bool r.neg,.slice ao r.mag.length c,.int .i64 r.exp] 31)) u→Calls Tryz.prog 112 #[.int .i64 n,.int .i64 way,.slice (some ⟨w.heap.size+1,0,none⟩) 1 1] u fun e w'=>e=.returned (.tuple #[.agg #[.int .i64 n,.int .i64 (qM n),.int .i64 (qk n),.int .i64 (jg n),.func (.func (wfv way)) #[] #[]],.int .i64 0])∧Kept u w'):=fun u k=>by
  refine xX n way hn hw _ u ?_
  have hb:w.heap.size+1<((w.alloc (.cells #[.bool r.neg,.slice ao r.mag.length c,.int .i64 r.exp] 31)).alloc (.cells #[.bool r.neg,.slice ao r.mag.length c,.int .i64 r.exp] 31)).heap.size:=by simp
  exact QS (w.heap.size+1) (qok hb k.below.size) r.neg r.mag hDg.rg (by omega) ao c r.exp (h.kept ((((qo0 w).alloc _ _).alloc _ _).trans k)) ((k.below.cell (p:=⟨w.heap.size+1,0,none⟩) hb).trans (by simp[go_sem])) ((k.below.cell (p:=⟨w.heap.size+1,1,none⟩) hb).trans (by simp[go_sem])) ((k.below.cell (p:=⟨w.heap.size+1,2,none⟩) hb).trans (by simp[go_sem])) true hv
 by_cases hne:r.mag=[]
 ·have hng:=((jb 0 r hv).2.2 hne).1
  have e1:rzN n way r=0:=by
   unfold rzN kyN mgN
   rw[if_pos hne,hng]
   rcases hn with rfl|rfl<;>decide
  have e2:oxN n way r=false:=by unfold oxN;rw[if_pos hne]
  rw[e1,e2]
  have hl0:r.mag.length=0:=by rw[hne];rfl
  rw[hl0]at KR h ⊢
  exact qc8 way _ n _ _ _ r.neg ao 0 c r.exp 0 false #[] _ _ _ _ w KR (fun u k=>Y8 r.neg ao c r.exp u) (fun u k=>Z8 n _ _ _ _ 0 false false u)
 ·obtain⟨m,H,o1,o2,o3,b1,b2,x1,x2⟩:=qmy n hn r hv hne
  have e1:rzN n way r=pz n (kyz r.neg (mgz way r.neg (ifn n) (flN n r) (odN n r) (hfN n r) (rtN n r))):=by
   unfold rzN kyN kyz mgN
   rw[if_neg hne]
  have e2:oxN n way r=odz way r.neg (ifn n) (flN n r) (odN n r) (hfN n r) (rtN n r):=by unfold oxN;rw[if_neg hne]
  rw[e1,e2]
  exact qc8 way _ n _ _ _ r.neg ao r.mag.length c r.exp _ _ #[] _ _ _ _ w KR (fun u k=>YR r.neg r.mag r.exp hne hv ao c u (h.kept k)) (fun u k=>qc7 way hw n hn r.neg _ 60 _ _ _ m _ _ H b1 b2 (by decide) (by decide) x1 x2 _ _ _ o1 o2 o3 u (hT.kept k))
end Go.Proofs.YtaglkncdedeipaaGreatDoor
namespace Go.Proofs.YtaglkncdedeipaaGreatDoor
open Go.ChangeShapes Go.WideShapes Go.ChangeAt Go.RowKit Ieee
set_option linter.unusedVariables false
set_option linter.unusedSimpArgs false
set_option maxHeartbeats 16000000
set_option maxRecDepth 100000
theorem P2.grw {w w':World}{b c:Nat}{u v:Value}(h:P2 w b u v)(g:Grw c w w')(hne:b≠c):P2 w' b u v:=by
 have hb:=g.grown.block b h.lt (by simpa using hne)
 refine⟨?_,?_,fun o=>(g.frozen _).trans (h.fz o)⟩
 ·have:=h.c0
  simpa [World.cell?,hb] using this
 ·have:=h.c1
  simpa [World.cell?,hb] using this
theorem Jv (n way:Int)(hn:n=64∨n=32)(r:Nm):RB (rzN n way r):=by
 have h:=xd n way r
 exact yK n _ hn h.1 h.2
theorem qma (n way:Int)(hn:n=64∨n=32)(r:Nm):Fl n (flv (rzN n way r) n) (kyN n way r):=by
 have h:=xd n way r
 have hr:=Jv n way hn r
 have:=Fl.flv (JP n _ hn h.1 h.2) hr.1 hr.2
 rw[JQ n _ hn h.1 h.2]at this
 exact this
theorem jD {w w':World}{vn:Bool}{va:Option Addr}{vl vc:Nat}{vx:Int}{r:Nm}(h:New w w' (.agg #[.bool vn,.slice va vl vc,.int .i64 vx]) r):vn=r.neg∧vl=r.mag.length∧vx=r.exp∧Sl w' (.slice va vl vc) r.mag:=by
 have hs:=h.numAt
 obtain⟨s,e,hsl⟩:=hs
 simp only[Value.agg.injEq,Array.mk.injEq,List.cons.injEq,Value.bool.injEq,Value.int.injEq,true_and,and_true]at e
 obtain⟨e1,rfl,e3⟩:=e
 have hl:vl=r.mag.length:=by
  obtain⟨ao,cap,e,-⟩:=hsl
  injection e
 exact⟨e1,hl,e3,hsl⟩
theorem K4 (n way:Int)(hn:n=64∨n=32)(hw:way=0∨way=1∨way=2)(w:World)(hT:Tab w)(b:Nat)(C:List Int)(hC:∀j,-9223372036854775807≤C.getD j 0∧C.getD j 0≤9223372036854775807)(h:TotAt w b C 0)(r:Nm)(hr:cfm (cv C) (-1074)=some r):
  Calls Tryz.prog 78 #[.pointer (some ⟨b,0,none⟩),.int .i64 n,.int .i64 way] w fun e w'=>e=.returned (.float .f64 (flv (rzN n way r) n))∧Kept w w':=by
 have hlen:=h.len
 have hv:=(yP _ _ _ _ hr).1
 have hL:=(yP _ _ _ _ hr).2.2
 have KI:Hid (∀u,Calls Tryz.prog 81 #[.float .f64 0,.int .i64 0] u fun e w'=>e=.returned (.bool false)∧u=w'):=fun u=>by
  have:=jZ (Fl.zero 64 (.inl rfl)) u
  rw[show decide ((0:Int)=(ifn 64:Int)∨(0:Int)=-(ifn 64:Int))=false by decide]at this
  exact this
 have KC:Hid (∀u,Kept w u→Calls Tryz.prog 106 #[.slice (some ⟨b,0,none⟩) 71 71,.int .i64 (-1074)] u fun e w'=>∃v,e=.returned (.tuple #[v,.int .i64 0])∧New u w' v r∧Kept u w'):=fun u k=>by
  have hu:=h.kept k
  have:=ZG u (hT.kept k) b 0 71 hu.lt C (by omega) hC (-1074) (fun j hj=>by rw[Nat.zero_add];exact hu.col j (by omega)) r hr
  rw[hlen]at this
  exact this
 have KR:Hid (∀u (a0:Option Addr) (c:Nat),Kept w u→Sl u (.slice a0 r.mag.length c) r.mag→Calls Tryz.prog 84 #[.agg #[.bool r.neg,.slice a0 r.mag.length c,.int .i64 r.exp],.int .i64 n,.int .i64 way] u fun e w'=>e=.returned (.tuple #[.int .i64 (rzN n way r),.bool (oxN n way r),.int .i64 0])∧Kept u w'):=fun u a0 c k hs=>qbr n way hn hw r hv a0 c u (hT.kept k) hs
 have KF:Hid (∀u,Calls Tryz.prog 85 #[.int .i64 (rzN n way r),.int .i64 n] u fun e w'=>e=.returned (.float .f64 (flv (rzN n way r) n))∧Kept u w'):=fun u=>jC _ n (Jv n way hn r).1 (Jv n way hn r).2 u
 have hinf:=h.inf
 generalize rzN n way r=z at *
 generalize oxN n way r=ox at *
 generalize flv z n=y at *
 go_enter Tryz.func78,Tryz.ntmps78
 go_upto_region 4 with (first|(go_at_call 81;refine(KI.out _).mono ?_;rintro e w1 ⟨rfl,rfl⟩)|(go_at_call 106;refine(KC.out _ (qo0 _)).mono ?_;rintro e w2 ⟨v,rfl,hN,k2⟩;obtain⟨vn,va,vl,vc,vx,rfl⟩:=hN.shape))
 obtain⟨rfl,rfl,rfl,hsl⟩:=jD hN
 have HS:Hid (Sl w2 (.slice va r.mag.length vc) r.mag):=hsl
 have HK:Hid (Kept w w2):=k2
 clear hsl hN hinf KC KI hC h hT hr
 go_wp2_with (first|(go_at_call 84;refine(KR.out _ _ _ (HK.out.alloc _ _) (HS.out.kept ((qo0 _).alloc _ _))).mono ?_;rintro e w3 ⟨rfl,k3⟩)|(go_at_call 85;refine(KF.out _).mono ?_;rintro e w4 ⟨rfl,k4⟩))
 go_ret
 exact⟨rfl,((HK.out.alloc _ _).trans k3).trans k4⟩
theorem Q7 (n way:Int)(w:World)(b:Nat)(C:List Int)(f:Nat)(q:Int)(hf:Fl 64 f q)(hq:q=(ifn 64:Int)∨q=-(ifn 64:Int))(h:TotAt w b C f):
  Calls Tryz.prog 78 #[.pointer (some ⟨b,0,none⟩),.int .i64 n,.int .i64 way] w fun e w'=>e=.returned (.float .f64 f)∧Kept w w':=by
 have KI:Hid (∀u,Calls Tryz.prog 81 #[.float .f64 f,.int .i64 0] u fun e w'=>e=.returned (.bool true)∧u=w'):=fun u=>by
  have:=jZ hf u
  rw[qos hq]at this
  exact this
 have hinf:=h.inf
 clear h hf
 go_enter Tryz.func78,Tryz.ntmps78
 go_wp2_with (first|(go_at_call 81;refine(KI.out _).mono ?_;rintro e w1 ⟨rfl,rfl⟩))
 go_ret
 exact⟨rfl,qo0 _⟩
abbrev xH (q:Int):Prop:=q=(ifn 64:Int)∨q=-(ifn 64:Int)
def sV (f:Nat→Nat)(q:Nat→Int):Nat→Int
 |0=>0
 |m+1=>sV f q m+(if xH (q m)then 0 else zw (f m))
def iW (f:Nat→Nat)(q:Nat→Int):Nat→Nat
 |0=>0
 |m+1=>if xH (q m)then f m else iW f q m
def iQ (q:Nat→Int):Nat→Int
 |0=>0
 |m+1=>if xH (q m)then q m else iQ q m
theorem qmb (f:Nat→Nat)(q:Nat→Int)(m:Nat)(h:∀i,i<m→Fl 64 (f i) (q i)):Fl 64 (iW f q m) (iQ q m):=by
 induction m with
 |zero=>exact Fl.zero 64 (.inl rfl)
 |succ m ih=>
  unfold iW iQ
  split
  ·exact h m (by omega)
  ·exact ih (fun i hi=>h i (by omega))
theorem qdg (q:Nat→Int)(m:Nat):xH (iQ q m)∨(iQ q m=0∧∀i,i<m→¬xH (q i)):=by
 induction m with
 |zero=>exact .inr ⟨rfl,fun i h=>by omega⟩
 | succ m ih=>
  unfold iQ
  split
  ·rename_i h;exact .inl h
  ·rename_i h
   rcases ih with g|⟨g1,g2⟩
   ·exact .inl g
   ·refine .inr ⟨g1,fun i hi=>?_⟩
    by_cases hm:i=m
    ·subst hm;exact h
    ·exact g2 i (by omega)
theorem qdh (f:Nat→Nat)(q:Nat→Int)(m:Nat)(h:∀i,i<m→¬xH (q i)):iW f q m=0:=by
 induction m with
 |zero=>rfl
 |succ m ih=>
  unfold iW
  rw[if_neg (h m (by omega))]
  exact ih (fun i hi=>h i (by omega))
theorem qmc (x:Nat)(hc:cls (qw x) 64<3):(zw x).natAbs<2^2099:=by
 obtain⟨p1,p2,p3,p4⟩:=vD _ hc
 unfold zw
 have e:∀(s:Bool) (a:Int),(sg s a).natAbs=a.natAbs:=fun s a=>by cases s<;>simp[sg]
 rw[e,Int.natAbs_mul,Int.natAbs_pow]
 obtain⟨e,he⟩:∃e,e=(qK (qw x) 64+1074).toNat:=⟨_,rfl⟩
 rw[←he]
 have h3:(qI (qw x) 64).natAbs<2^53:=by
  have:(2:Nat)^53=9007199254740992:=by decide
  omega
 have h4:(2:Int).natAbs=2:=rfl
 rw[h4]
 have hp:0<2^e:=qoj e
 have h5:(qI (qw x) 64).natAbs*2^e<2^(53+e):=by
  rw[qol]
  exact Nat.mul_lt_mul_of_pos_right h3 hp
 obtain⟨K,hK⟩:∃K:Nat,K=2099:=⟨_,rfl⟩
 rw[←hK]
 have h6:(2:Nat)^(53+e)≤2^K:=qom (by decide) (by omega)
 omega
def Rd (n way:Int)(f:Nat→Nat)(q:Nat→Int)(m:Nat)(x:Nat):Prop:=
 (xH (iQ q m)∧x=iW f q m)∨((∀i,i<m→¬xH (q i))∧∃r,cfm (sV f q m) (-1074)=some r∧x=flv (rzN n way r) n)
theorem qn0 (f:Nat→Nat)(q:Nat→Int)(m:Nat)(h:∀i,i<m→Fl 64 (f i) (q i)):∀K,K=2099→(sV f q m).natAbs≤m*2^K:=by
 intro K hK
 induction m with
 |zero=>simp[sV]
 | succ m ih=>
  have i1:=ih (fun i hi=>h i (by omega))
  unfold sV
  by_cases hq:xH (q m)
  ·rw[if_pos hq,Int.add_zero,Nat.add_mul]
   omega
  ·rw[if_neg hq]
   obtain⟨q',hq',hKK,o1,o2,o3,o4,o5,o6⟩:=(h m (by omega)).wide
   have hqq:qc (qw (f m)) 64=q m:=by
    obtain⟨c,c1,c2,c3,c4⟩:=h m (by omega)
    have e:zn c=f m:=by rw[c4];simp[fl]
    rw[←c3,←jS _ o4 o5,←jS _ c2.1 c2.2,o6,e]
   have hf:=Qs (qw (f m)) 64 (.inl rfl) o2 ⟨o4,o5⟩
   rw[hqq]at hf
   have hq2:¬(q m=(ifn 64:Int)∨q m=-(ifn 64:Int)):=hq
   rw[qos hq2]at hf
   have hc:cls (qw (f m)) 64<3:=by
    unfold fin at hf
    rw[qor]at hf
    exact hf.2
   have h2:=qmc (f m) hc
   rw[←hK]at h2
   rw[Nat.add_mul]
   omega
theorem qb6 (f:Nat→Nat)(q:Nat→Int)(m:Nat)(hm:m≤65536)(h:∀i,i<m→Fl 64 (f i) (q i)):∃r,cfm (sV f q m) (-1074)=some r∧Lies (-1074) 2200 r∧vz (-1074) r=sV f q m:=by
  obtain⟨K,hK⟩:∃K:Nat,K=2099:=⟨_,rfl⟩
  have h1:=qn0 f q m h K hK
  refine xC (-1074) 2200 (by decide) (by decide) (by decide) _ ?_
  obtain⟨N,hN⟩:∃N:Nat,N=2200:=⟨_,rfl⟩
  rw[←hN]
  have hp:0<2^K:=qoj K
  have h2 : m * 2 ^ K ≤ 2 ^ 16 * 2 ^ K := Nat.mul_le_mul_right _ (by have:(2:Nat)^16=65536:=by decide
                                                                     omega)
  rw[←qol]at h2
  have h3:(2:Nat)^(16+K)<2^N:=Nat.pow_lt_pow_right (by decide) (by omega)
  omega
theorem kI (n:Int)(hn:n=64∨n=32)(m:Nat)(hm:m≤65536)(fx fy:Nat→Nat)(qx qy:Nat→Int)(hF:∀i,i<m→Fl 64 (fx i) (qx i)∧Fl 64 (fy i) (qy i))(ao:Option Addr)(c:Nat)(w:World)(hT:Tab w)(hI:Ivs w ao m fx fy):
  Calls Tryz.prog 47 #[.int .i64 n,.slice ao m c] w fun e w'=>∃x y,e=.returned (fv2 x y)∧Rd n 1 fx qx m x∧Rd n 2 fy qy m y∧Kept w w':=by
 have HI:Hid (Ivs w ao m fx fy):=hI
 have HF:Hid (∀i,i<m→Fl 64 (fx i) (qx i)∧Fl 64 (fy i) (qy i)):=hF
 have HT:Hid (Tab w):=hT
 clear hI hF hT
 have hSF:=jx
 obtain⟨X,hX⟩:∃X,X=((w.alloc (.cells #[.float .f64 0,.float .f64 0] 68)).alloc (.cells Tryz.zeroCells103 103)).alloc (.cells Tryz.zeroCells103 103):=⟨_,rfl⟩
 have hP:P2 X w.heap.size (.float .f64 0) (.float .f64 0):=by
  rw[hX]
  exact((P2.new w _ _ _).alloc _ _).alloc _ _
 have hL:TotAt X (w.heap.size+1) T0L 0:=by
  rw[hX]
  have:=(TotAt.new (w.alloc (.cells #[.float .f64 0,.float .f64 0] 68))).kept ((qo0 _).alloc Tryz.zeroCells103 103)
  simpa using this
 have hH:TotAt X (w.heap.size+1+1) T0L 0:=by
  rw[hX]
  have:=TotAt.new ((w.alloc (.cells #[.float .f64 0,.float .f64 0] 68)).alloc (.cells Tryz.zeroCells103 103))
  simpa using this
 have hK:Kept w X:=by
  rw[hX]
  exact(((qo0 w).alloc _ _).alloc _ _).alloc _ _
 obtain⟨H0,hH0⟩:∃H,H=w.heap.size:=⟨_,rfl⟩
 obtain⟨H1,hH1⟩:∃H,H=H0+1:=⟨_,rfl⟩
 obtain⟨H2,hH2⟩:∃H,H=H1+1:=⟨_,rfl⟩
 rw[←hH0]at hP hL hH
 rw[←hH1]at hL hH
 rw[←hH2]at hH
 have o0:w.heap.size≤H0:=by omega
 have o1:w.heap.size≤H1:=by omega
 have o2:w.heap.size≤H2:=by omega
 have n01:¬H0=H1:=by omega
 have n02:¬H0=H2:=by omega
 have n12:¬H1=H2:=by omega
 have n21:¬H2=H1:=by omega
 have hcv0:cv T0L=0:=by decide
 go_enter Tryz.func47,Tryz.ntmps47
 go_upto_region 2 with fail
 rw[←hX,←hH0,←hH1,←hH2]
 clear hX hH1 hH0 hH2
 go_wp2_with fail
 go_loopw [11] (fun i wr=>∃(k:Nat) (Cl Ch:List Int),k≤m∧i=.int .i64 k∧TotAt wr H1 Cl (iW fx qx k)∧TotAt wr H2 Ch (iW fy qy k)∧cv Cl=sV fx qx k∧cv Ch=sV fy qy k∧(∀j,-((k:Int)*1073741824)≤Cl.getD j 0∧Cl.getD j 0≤(k:Int)*1073741824)∧(∀j,-((k:Int)*1073741824)≤Ch.getD j 0∧Ch.getD j 0≤(k:Int)*1073741824)∧P2 wr H0 (.float .f64 0) (.float .f64 0)∧Kept w wr) (fun i _=>m-(intOf i).toNat)
 case atStart=>
  have hz:∀j,T0L.getD j 0=0:=fun j=>by
   unfold T0L
   rw[qon,List.getElem?_replicate]
   split<;>rfl
  exact⟨0,T0L,T0L,Nat.zero_le _,rfl,hL,hH,hcv0,hcv0,fun j=>by rw[hz];omega,fun j=>by rw[hz];omega,hP,hK⟩
 case round=>
  clear hP hL hH hK
  obtain⟨k,Cl,Ch,hk,rfl,hL,hH,vl,vh,bl1,bh1,hP,hK⟩:=hrel
  by_cases hkm:k<m
  ·obtain⟨b,off,rfl,ci0,ci1⟩:=HI.out _ hK k hkm
   obtain⟨g1,g2⟩:=HF.out k hkm
   have HG:Hid (Fl 64 (fx k) (qx k)∧Fl 64 (fy k) (qy k)):=⟨g1,g2⟩
   have HR:Hid (cv Cl=sV fx qx k∧cv Ch=sV fy qy k∧(∀j,-((k:Int)*1073741824)≤Cl.getD j 0∧Cl.getD j 0≤(k:Int)*1073741824)∧(∀j,-((k:Int)*1073741824)≤Ch.getD j 0∧Ch.getD j 0≤(k:Int)*1073741824)):=⟨vl,vh,bl1,bh1⟩
   clear g1 g2 vl vh bl1 bh1
   have hltK:(k:Int)≤65536:=by omega
   have KA1:Hid (∀u,TotAt u H1 Cl (iW fx qx k)→Calls Tryz.prog 77 #[.pointer (some ⟨H1,0,none⟩),.float .f64 (fx k)] u fun e w'=>e=.returned (.tuple #[])∧(∃C',Clm Cl C' (if xH (qx k)then 0 else zw (fx k))∧TotAt w' H1 C' (iW fx qx (k+1)))∧Grw H1 u w'):=fun u h=>Qt u H1 Cl _ h (fun j=>by have:=HR.out.2.2.1 j;omega) _ _ HG.out.1
   have KA2:Hid (∀u,TotAt u H2 Ch (iW fy qy k)→Calls Tryz.prog 77 #[.pointer (some ⟨H2,0,none⟩),.float .f64 (fy k)] u fun e w'=>e=.returned (.tuple #[])∧(∃C',Clm Ch C' (if xH (qy k)then 0 else zw (fy k))∧TotAt w' H2 C' (iW fy qy (k+1)))∧Grw H2 u w'):=fun u h=>Qt u H2 Ch _ h (fun j=>by have:=HR.out.2.2.2 j;omega) _ _ HG.out.2
   go_upto_region 5 with fail
   obtain⟨Y,hY⟩:∃Y,Y=wr.alloc (.cells #[.float .f64 (fx k),.float .f64 (fy k)] 68):=⟨_,rfl⟩
   have hB:P2 Y wr.heap.size (.float .f64 (fx k)) (.float .f64 (fy k)):=by rw[hY];exact P2.new _ _ _ _
   have kY:Kept wr Y:=by rw[hY];exact(qo0 wr).alloc _ _
   have hl1:=hL.lt
   have hl2:=hH.lt
   have hl0:=hP.lt
   obtain⟨B,hBB⟩:∃B,B=wr.heap.size:=⟨_,rfl⟩
   rw[←hBB]at hB
   rw[←hY,←hBB]
   have nB1:¬B=H1:=by omega
   have nB2:¬B=H2:=by omega
   clear hY hBB
   have hLY:=hL.kept kY
   have hHY:=hH.kept kY
   have hPY:=hP.kept kY
   have hKY:=hK.trans kY
   have b0:=hB.c0
   have b1:=hB.c1
   clear hL hH hP hK kY ci0 ci1
   go_upto_region 6 with (first|(go_at_call 77;refine(KA1.out _ hLY).mono ?_;rintro e w1 ⟨rfl,⟨C1,cl1,hL1⟩,gr1⟩))
   have hH1':=hHY.other gr1 n21
   have hB1:=hB.grw gr1 nB1
   have hP1:=hPY.grw gr1 n01
   have hK1:=hKY.grw o1 gr1
   have b01:=hB1.c0
   have b11:=hB1.c1
   clear hLY hHY hB b0 b1 hPY
   go_upto_region 7 with (first|(go_at_call 77;refine(KA2.out _ hH1').mono ?_;rintro e w2 ⟨rfl,⟨C2,cl2,hH2'⟩,gr2⟩))
   have hL2:=hL1.other gr2 n12
   have hP2:=hP1.grw gr2 n02
   have hK2:=hK1.grw o2 gr2
   clear b01 b11 hB1 hL1 hH1' hP1 hK1 gr1 gr2 KA1 KA2
   go_wp2_with fail
   go_roundw
   case rel=>
    refine⟨k+1,C1,C2,by omega,by go_num,hL2,hH2',?_,?_,fun j=>?_,fun j=>?_,hP2,hK2⟩
    ·rw[cl1.val,HR.out.1];rfl
    ·rw[cl2.val,HR.out.2.1];rfl
    ·have h1:=cl1.near j
     have h2:=HR.out.2.2.1 j
     rw[Int.natCast_add,Int.add_mul]
     omega
    ·have h1:=cl2.near j
     have h2:=HR.out.2.2.2 j
     rw[Int.natCast_add,Int.add_mul]
     omega
   case measure=>simp[intOf];omega
  ·have hkm':k=m:=by omega
   subst hkm'
   have hRd:∀(way:Int) (hw:way=0∨way=1∨way=2) (f:Nat→Nat) (q:Nat→Int) (C:List Int) (b:Nat),(∀i,i<k→Fl 64 (f i) (q i))→cv C=sV f q k→(∀j,-((k:Int)*1073741824)≤C.getD j 0∧C.getD j 0≤(k:Int)*1073741824)→∀u,Kept w u→TotAt u b C (iW f q k)→∃x,Rd n way f q k x∧Calls Tryz.prog 78 #[.pointer (some ⟨b,0,none⟩),.int .i64 n,.int .i64 way] u fun e w'=>e=.returned (.float .f64 x)∧Kept u w':=fun way hw f q C b hf hc hb u ku hu=>by
    rcases qdg q k with hq|⟨hq0,hq⟩
    ·exact⟨_,.inl ⟨hq,rfl⟩,Q7 n way u b C _ _ (qmb f q k hf) hq hu⟩
    ·rw[qdh f q k hq]at hu
     obtain⟨r,hr,-,-⟩:=qb6 f q k hm hf
     refine⟨_,.inr ⟨hq,r,hr,rfl⟩,K4 n way hn hw u (HT.out.kept ku) b C (fun j=>by have:=hb j;omega) hu r (by rw[hc];exact hr)⟩
   obtain⟨x,hx,KX⟩:=hRd 1 (by simp) fx qx Cl H1 (fun i hi=>(HF.out i hi).1) vl bl1 wr hK hL
   have KY:∀u,Kept wr u→∃y,Rd n 2 fy qy k y∧Calls Tryz.prog 78 #[.pointer (some ⟨H2,0,none⟩),.int .i64 n,.int .i64 2] u fun e w'=>e=.returned (.float .f64 y)∧Kept u w':=fun u ku=>hRd 2 (by simp) fy qy Ch H2 (fun i hi=>(HF.out i hi).2) vh bh1 u (hK.trans ku) (hH.kept ku)
   have HX:Hid (Calls Tryz.prog 78 #[.pointer (some ⟨H1,0,none⟩),.int .i64 n,.int .i64 1] wr fun e w'=>e=.returned (.float .f64 x)∧Kept wr w'):=KX
   have HY:Hid (∀u,Kept wr u→∃y,Rd n 2 fy qy k y∧Calls Tryz.prog 78 #[.pointer (some ⟨H2,0,none⟩),.int .i64 n,.int .i64 2] u fun e w'=>e=.returned (.float .f64 y)∧Kept u w'):=KY
   clear KX KY hRd vl vh bl1 bh1 hL hH
   go_wp2_with fail
   refine HX.out.mono ?_
   rintro e w1 ⟨rfl,k1⟩
   obtain⟨y,hy,KY⟩:=HY.out _ k1
   have HYY:Hid (Calls Tryz.prog 78 #[.pointer (some ⟨H2,0,none⟩),.int .i64 n,.int .i64 2] w1 fun e w'=>e=.returned (.float .f64 y)∧Kept w1 w'):=KY
   have HRy:Hid (Rd n 2 fy qy k y):=hy
   have HRx:Hid (Rd n 1 fx qx k x):=hx
   clear KY hy hx
   go_wp2_with fail
   refine HYY.out.mono ?_
   rintro e w2 ⟨rfl,k2⟩
   have hP2:=(hP.kept k1).kept k2
   have hz:=hP2.put (.float .f64 x) (.float .f64 y)
   obtain⟨d0,d1,df⟩:=hP2
   obtain⟨e0,e1,ef⟩:=hz
   go_wp2_with fail
   exact qoz (v:=fv2 x y) (by simp[results,Tryz.results47,go_sem,e0,e1]) rfl ⟨x,y,rfl,HRx.out,HRy.out,(((hK.trans k1).trans k2).setCell o0 _).setCell o0 _⟩
end Go.Proofs.YtaglkncdedeipaaGreatDoor
