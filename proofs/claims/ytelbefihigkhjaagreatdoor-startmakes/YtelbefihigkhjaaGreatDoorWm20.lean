/-  -/
import Derived.Test.YtelbefihigkhjaaGreatDoorWm19
import Derived.Test.YtelbefihigkhjaaGreatDoorWm07
import Derived.Test.YtelbefihigkhjaaGreatDoorWm16
namespace Go.Proofs.YtelbefihigkhjaaGreatDoor
open Go.ChangeShapes Go.WideShapes Go.ChangeAt Go.RowKit
set_option maxHeartbeats 16000000
set_option maxRecDepth 100000
set_option linter.unusedVariables false
set_option linter.unusedSimpArgs false
theorem Xj (ng:Bool)(h ex kept P Q1:Int)(m:Nat)(hm:m<62)(od hf rt:Bool)(hk:h/2^(m+1)=kept)(hP:wrap64 (2^m)=P)(hQ:IntKind.i64.wrap (P-1)=Q1)(c1 c2 c3:Int)(hc1:bits .and .i64 kept 1=c1)(hc2:bits .and .i64 h P=c2)(hc3:bits .and .i64 h Q1=c3)(hod:(c1==1)=od)(hhf:(c2 != 0)=hf)(hrt:(c3 != 0)=rt)(w:World):Calls Tryz.prog 285 #[.agg #[.bool ng,.int .i64 h,.int .i64 ex,.bool false],.int .i64 ((m:Int)+1)] w fun e w'=>e=.returned (.tuple #[.int .i64 kept,.agg #[.bool ng,.bool od,.bool hf,.bool rt]])∧Kept w w':=by
 have hK:Kept w ((w.alloc (.cells #[.bool ng,.int .i64 h,.int .i64 ex,.bool false] 280)).alloc (.cells #[.bool false,.bool false,.bool false,.bool false] 319)):=((qlv w).alloc _ _).alloc _ _
 go_enter Tryz.func285,Tryz.ntmps285
 go_wp2
 go_quiet (fail)
 go_wp2
 obtain⟨W0,hW0⟩:∃W0,((w.alloc (.cells #[.bool ng,.int .i64 h,.int .i64 ex,.bool false] 280)).alloc (.cells #[.bool false,.bool false,.bool false,.bool false] 319)).drewN nq=W0:=⟨_,rfl⟩
 have q0:W0.cell? ⟨w.heap.size,0,none⟩=some (.bool ng):=by rw[←hW0];simp[go_sem]
 have q1:W0.cell? ⟨w.heap.size,1,none⟩=some (.int .i64 h):=by rw[←hW0];simp[go_sem]
 have q3:W0.cell? ⟨w.heap.size,3,none⟩=some (.bool false):=by rw[←hW0];simp[go_sem]
 have s0:W0.cell? ⟨w.heap.size+1,0,none⟩=some (.bool false):=by rw[←hW0];simp[go_sem]
 have s1:W0.cell? ⟨w.heap.size+1,1,none⟩=some (.bool false):=by rw[←hW0];simp[go_sem]
 have s2:W0.cell? ⟨w.heap.size+1,2,none⟩=some (.bool false):=by rw[←hW0];simp[go_sem]
 have s3:W0.cell? ⟨w.heap.size+1,3,none⟩=some (.bool false):=by rw[←hW0];simp[go_sem]
 have sf:∀o,W0.frozen? ⟨w.heap.size+1,o,none⟩=false:=fun o=>by rw[←hW0];simp[go_sem]
 have hK0:Kept w W0:=by rw[←hW0];exact hK.drewN nq
 rw[hW0]
 clear hW0 hK
 refine qlw (S:=fun u=>u.cell? ⟨w.heap.size,0,none⟩=some (.bool ng)∧u.cell? ⟨w.heap.size,1,none⟩=some (.int .i64 h)∧u.cell? ⟨w.heap.size,3,none⟩=some (.bool false)) (by kernel_rfl) ⟨q0,q1,q3⟩ (fun hHeld=>?_)
 refine tk (i:=0) (v:=?_) rfl ?_
 try simp only[zz]
 refine tk (i:=1) (v:=?_) rfl ?_
 try simp only[zz]
 refine tk (i:=2) (v:=?_) rfl ?_
 try simp only[zz]
 refine tk (i:=3) (v:=?_) rfl ?_
 try simp only[zz]
 refine tk (i:=4) (v:=?_) rfl ?_
 try simp only[zz]
 refine tk (i:=5) (v:=?_) rfl ?_
 try simp only[zz]
 refine tk (i:=6) (v:=?_) rfl ?_
 try simp only[zz]
 refine tk (i:=7) (v:=?_) rfl ?_
 try simp only[zz]
 refine tk (i:=8) (v:=?_) rfl ?_
 try simp only[zz]
 refine tk (i:=9) (v:=?_) rfl ?_
 try simp only[zz]
 refine tk (i:=10) (v:=?_) rfl ?_
 try simp only[zz]
 refine tk (i:=11) (v:=?_) rfl ?_
 try simp only[zz]
 refine tk (i:=12) (v:=?_) rfl ?_
 try simp only[zz]
 refine tk (i:=13) (v:=?_) rfl ?_
 try simp only[zz]
 refine tk (i:=14) (v:=?_) rfl ?_
 try simp only[zz]
 refine tk (i:=15) (v:=?_) rfl ?_
 try simp only[zz]
 refine tk (i:=16) (v:=?_) rfl ?_
 try simp only[zz]
 refine tk (i:=17) (v:=?_) rfl ?_
 try simp only[zz]
 refine tk (i:=18) (v:=?_) rfl ?_
 try simp only[zz]
 refine tk (i:=19) (v:=?_) rfl ?_
 try simp only[zz]
 refine tk (i:=20) (v:=?_) rfl ?_
 try simp only[zz]
 refine tk (i:=21) (v:=?_) rfl ?_
 try simp only[zz]
 refine tk (i:=22) (v:=?_) rfl ?_
 try simp only[zz]
 refine qlt (rs:=[23]) (by kernel_rfl) (by simp) ?_
 refine qlr rfl (fun K hK9=>?_) qls
 go_simp
 refine hK9.out _ _ ⟨(set4 _ _ _ _ (by omega) _ _ _ _).trans q0,(set4 _ _ _ _ (by omega) _ _ _ _).trans q1,(set4 _ _ _ _ (by omega) _ _ _ _).trans q3⟩ (fun hHeld3=>?_)
 clear hK9 K hHeld
 refine qlx (by kernel_rfl) ?_ _
 clear hHeld3
 go_wp2
 refine qlu (v:=.tuple #[.int .i64 kept,.agg #[.bool ng,.bool od,.bool hf,.bool rt]]) (by simp[results,Tryz.results285,go_sem,s0,s1,s2,s3]) rfl ⟨rfl,?_⟩
 first
 |exact(hK0.drew.setCell (by simp) _|>.setCell (by simp) _|>.setCell (by simp) _|>.setCell (by simp) _)
 |exact(hK0.setCell (by simp) _|>.setCell (by simp) _|>.setCell (by simp) _|>.setCell (by simp) _).drew
theorem VF (ng:Bool)(h ex kept P Q1:Int)(m:Nat)(hm:m<62)(od hf rt:Bool)(hk:h/2^(m+1)=kept)(hP:wrap64 (2^m)=P)(hQ:IntKind.i64.wrap (P-1)=Q1)(c1 c2 c3:Int)(hc1:bits .and .i64 kept 1=c1)(hc2:bits .and .i64 h P=c2)(hc3:bits .and .i64 h Q1=c3)(hod:(c1==1)=od)(hhf:(c2 != 0)=hf)(hrt:rt=true)(w:World):Calls Tryz.prog 285 #[.agg #[.bool ng,.int .i64 h,.int .i64 ex,.bool true],.int .i64 ((m:Int)+1)] w fun e w'=>e=.returned (.tuple #[.int .i64 kept,.agg #[.bool ng,.bool od,.bool hf,.bool rt]])∧Kept w w':=by
 have hK:Kept w ((w.alloc (.cells #[.bool ng,.int .i64 h,.int .i64 ex,.bool true] 280)).alloc (.cells #[.bool false,.bool false,.bool false,.bool false] 319)):=((qlv w).alloc _ _).alloc _ _
 subst hrt
 go_enter Tryz.func285,Tryz.ntmps285
 go_wp2
 go_quiet (fail)
 go_wp2
 obtain⟨W0,hW0⟩:∃W0,((w.alloc (.cells #[.bool ng,.int .i64 h,.int .i64 ex,.bool true] 280)).alloc (.cells #[.bool false,.bool false,.bool false,.bool false] 319)).drewN nq=W0:=⟨_,rfl⟩
 have q0:W0.cell? ⟨w.heap.size,0,none⟩=some (.bool ng):=by rw[←hW0];simp[go_sem]
 have q1:W0.cell? ⟨w.heap.size,1,none⟩=some (.int .i64 h):=by rw[←hW0];simp[go_sem]
 have q3:W0.cell? ⟨w.heap.size,3,none⟩=some (.bool true):=by rw[←hW0];simp[go_sem]
 have s0:W0.cell? ⟨w.heap.size+1,0,none⟩=some (.bool false):=by rw[←hW0];simp[go_sem]
 have s1:W0.cell? ⟨w.heap.size+1,1,none⟩=some (.bool false):=by rw[←hW0];simp[go_sem]
 have s2:W0.cell? ⟨w.heap.size+1,2,none⟩=some (.bool false):=by rw[←hW0];simp[go_sem]
 have s3:W0.cell? ⟨w.heap.size+1,3,none⟩=some (.bool false):=by rw[←hW0];simp[go_sem]
 have sf:∀o,W0.frozen? ⟨w.heap.size+1,o,none⟩=false:=fun o=>by rw[←hW0];simp[go_sem]
 have hK0:Kept w W0:=by rw[←hW0];exact hK.drewN nq
 rw[hW0]
 clear hW0 hK
 refine qlw (S:=fun u=>u.cell? ⟨w.heap.size,0,none⟩=some (.bool ng)∧u.cell? ⟨w.heap.size,1,none⟩=some (.int .i64 h)∧u.cell? ⟨w.heap.size,3,none⟩=some (.bool true)) (by kernel_rfl) ⟨q0,q1,q3⟩ (fun hHeld=>?_)
 refine tk (i:=0) (v:=?_) rfl ?_
 try simp only[zz]
 refine tk (i:=1) (v:=?_) rfl ?_
 try simp only[zz]
 refine tk (i:=2) (v:=?_) rfl ?_
 try simp only[zz]
 refine tk (i:=3) (v:=?_) rfl ?_
 try simp only[zz]
 refine tk (i:=4) (v:=?_) rfl ?_
 try simp only[zz]
 refine tk (i:=5) (v:=?_) rfl ?_
 try simp only[zz]
 refine tk (i:=6) (v:=?_) rfl ?_
 try simp only[zz]
 refine tk (i:=7) (v:=?_) rfl ?_
 try simp only[zz]
 refine tk (i:=8) (v:=?_) rfl ?_
 try simp only[zz]
 refine tk (i:=9) (v:=?_) rfl ?_
 try simp only[zz]
 refine tk (i:=10) (v:=?_) rfl ?_
 try simp only[zz]
 refine tk (i:=11) (v:=?_) rfl ?_
 try simp only[zz]
 refine tk (i:=12) (v:=?_) rfl ?_
 try simp only[zz]
 refine tk (i:=13) (v:=?_) rfl ?_
 try simp only[zz]
 refine wpAnyH_take (i:=14) (v:=undef) rfl (by kernel_rfl) (by kernel_rfl) (by kernel_rfl) (fun _ _ _ h=>h) (Or.inr ⟨by rfl,rfl⟩) (by assumption) ?_
 try simp only[zz]
 refine wpAnyH_take (i:=15) (v:=undef) rfl (by kernel_rfl) (by kernel_rfl) (by kernel_rfl) (fun _ _ _ h=>h) (Or.inr ⟨by rfl,rfl⟩) (by assumption) ?_
 try simp only[zz]
 refine wpAnyH_take (i:=16) (v:=undef) rfl (by kernel_rfl) (by kernel_rfl) (by kernel_rfl) (fun _ _ _ h=>h) (Or.inr ⟨by rfl,rfl⟩) (by assumption) ?_
 try simp only[zz]
 refine wpAnyH_take (i:=17) (v:=undef) rfl (by kernel_rfl) (by kernel_rfl) (by kernel_rfl) (fun _ _ _ h=>h) (Or.inr ⟨by rfl,rfl⟩) (by assumption) ?_
 try simp only[zz]
 refine wpAnyH_take (i:=18) (v:=undef) rfl (by kernel_rfl) (by kernel_rfl) (by kernel_rfl) (fun _ _ _ h=>h) (Or.inr ⟨by rfl,rfl⟩) (by assumption) ?_
 try simp only[zz]
 refine wpAnyH_take (i:=19) (v:=undef) rfl (by kernel_rfl) (by kernel_rfl) (by kernel_rfl) (fun _ _ _ h=>h) (Or.inr ⟨by rfl,rfl⟩) (by assumption) ?_
 try simp only[zz]
 refine tk (i:=20) (v:=?_) rfl ?_
 try simp only[zz]
 refine tk (i:=21) (v:=?_) rfl ?_
 try simp only[zz]
 refine tk (i:=22) (v:=?_) rfl ?_
 try simp only[zz]
 refine qlt (rs:=[23]) (by kernel_rfl) (by simp) ?_
 refine qlr rfl (fun K hK9=>?_) qls
 go_simp
 refine hK9.out _ _ ⟨(set4 _ _ _ _ (by omega) _ _ _ _).trans q0,(set4 _ _ _ _ (by omega) _ _ _ _).trans q1,(set4 _ _ _ _ (by omega) _ _ _ _).trans q3⟩ (fun hHeld3=>?_)
 clear hK9 K hHeld
 refine qlx (by kernel_rfl) ?_ _
 clear hHeld3
 go_wp2
 refine qlu (v:=.tuple #[.int .i64 kept,.agg #[.bool ng,.bool od,.bool hf,.bool true]]) (by simp[results,Tryz.results285,go_sem,s0,s1,s2,s3]) rfl ⟨rfl,?_⟩
 first
 |exact(hK0.drew.setCell (by simp) _|>.setCell (by simp) _|>.setCell (by simp) _|>.setCell (by simp) _)
 |exact(hK0.setCell (by simp) _|>.setCell (by simp) _|>.setCell (by simp) _|>.setCell (by simp) _).drew
theorem qi4 (ng od hf rt:Bool)(w:World):Calls Tryz.prog 312 #[.agg #[.bool ng,.bool od,.bool hf,.bool rt]] w fun e w'=>e=.returned (.bool (hf&&(rt||od)))∧Kept w w':=by
 cases ng<;>cases od<;>cases hf<;>cases rt
 all_goals
  go_enter Tryz.func312,Tryz.ntmps312
  go_wp2
  go_ret
  exact⟨rfl,(qlv _).alloc _ _⟩
theorem qi5 (ng od hf rt:Bool)(w:World):Calls Tryz.prog 313 #[.agg #[.bool ng,.bool od,.bool hf,.bool rt]] w fun e w'=>e=.returned (.bool (ng&&(hf||rt)))∧Kept w w':=by
 cases ng<;>cases od<;>cases hf<;>cases rt
 all_goals
  go_enter Tryz.func313,Tryz.ntmps313
  go_wp2
  go_ret
  exact⟨rfl,(qlv _).alloc _ _⟩
theorem qi6 (ng od hf rt:Bool)(w:World):Calls Tryz.prog 314 #[.agg #[.bool ng,.bool od,.bool hf,.bool rt]] w fun e w'=>e=.returned (.bool (!ng&&(hf||rt)))∧Kept w w':=by
 cases ng<;>cases od<;>cases hf<;>cases rt
 all_goals
  go_enter Tryz.func314,Tryz.ntmps314
  go_wp2
  go_ret
  exact⟨rfl,(qlv _).alloc _ _⟩
end Go.Proofs.YtelbefihigkhjaaGreatDoor

namespace Go.Proofs.YtelbefihigkhjaaGreatDoor
open Go.ChangeShapes Go.WideShapes Go.ChangeAt Go.RowKit
set_option maxHeartbeats 16000000
set_option maxRecDepth 100000
set_option linter.unusedVariables false
set_option linter.unusedSimpArgs false
def hd (v:Nat):Nat:=v*2^60/2^bl v
theorem vg (v:Nat)(hv:v≠0):2^59≤hd v∧hd v<2^60:=by
 obtain⟨h1,h2,h3⟩:=qu v hv
 unfold hd
 obtain⟨k,hk⟩:∃k,bl v=k+1:=⟨bl v-1,by omega⟩
 rw[hk,Nat.add_sub_cancel]at h1
 rw[hk]at h2 ⊢
 have hp:=qle k
 constructor
 ·rw[Nat.le_div_iff_mul_le (qle _)]
  have:2^59*2^(k+1)=2^k*2^60:=by rw[←qlg,←qlg];congr 1;omega
  rw[this]
  exact Nat.mul_le_mul_right _ h1
 ·rw[Nat.div_lt_iff_lt_mul (qle _),qll (2^60)]
  exact Nat.mul_lt_mul_of_pos_right h2 (qle _)
theorem Zk (v:Nat)(p:Int)(hp:-60≤p):pcz v p=((v*2^60/2^(60+p).toNat%1073741824:Nat):Int):=by
 unfold pcz
 split
 ·obtain⟨q,rfl⟩:∃q:Nat,p=q:=⟨p.toNat,by omega⟩
  rw[Int.toNat_natCast,show(60+(q:Int)).toNat=q+60 by omega,qlg,Nat.mul_div_mul_right _ _ (qle _)]
 ·obtain⟨q,hq⟩:∃q:Nat,(60+p).toNat=q:=⟨_,rfl⟩
  obtain⟨j,hj⟩:∃j:Nat,(-p).toNat=j:=⟨_,rfl⟩
  rw[hq,hj]
  have:(2:Nat)^60=2^j*2^q:=by rw[←qlg];congr 1;omega
  rw[this,←qlk,Nat.mul_div_cancel _ (qle _)]
theorem qgl (v:Nat)(hv:v≠0):pcz v ((bl v:Int)-60)=((hd v%1073741824:Nat):Int):=by
 have:=(qu v hv).2.2
 rw[Zk v _ (by omega),show(60+((bl v:Int)-60)).toNat=bl v by omega]
 rfl
theorem qdr (v:Nat)(hv:v≠0):pcz v ((bl v:Int)-60+30)=((hd v/1073741824:Nat):Int):=by
 have:=(qu v hv).2.2
 rw[Zk v _ (by omega),show(60+((bl v:Int)-60+30)).toNat=bl v+30 by omega,qlg,←Nat.div_div_eq_div_mul]
 have hb:=(vg v hv).2
 unfold hd at hb ⊢
 rw[Nat.mod_eq_of_lt]
 rw[Nat.div_lt_iff_lt_mul (by decide)]
 exact hb
theorem qgm (a b:Int):bits .or .i64 a b=bits .or .i64 b a:=by
 unfold bits
 simp[BitVec.or_comm]
theorem qgn (v:Nat)(hv:v≠0):bits .or .i64 (((hd v/1073741824:Nat):Int)*1073741824) ((hd v%1073741824:Nat):Int)=((hd v:Nat):Int):=by
 have hb:=(vg v hv).2
 rw[qgm,show(((hd v/1073741824:Nat):Int)*1073741824)=((hd v/1073741824*2^30:Nat):Int) by rw[show(2:Nat)^30=1073741824 by rfl];omega,VA (hd v%1073741824) (hd v/1073741824) 30 (Nat.mod_lt _ (by decide)) (by rw[show(2:Nat)^30=1073741824 by rfl];omega)]
 congr 1
 rw[show(2:Nat)^30=1073741824 by rfl]
 omega
theorem Xk (ng:Bool)(ao:Option Addr)(n c:Nat)(hn:0<n)(x:Int)(hx1:-1048576≤x)(hx2:x≤1048576)(B:Nat)(hB:B≤60000)(p1 p0 q1 h:Int)(rs:Bool)(hq:IntKind.i64.wrap (p1*1073741824)=q1)(hor:bits .or .i64 q1 p0=h)(hrs:decide (60<(B:Int))=rs)(w:World)
  (KL:Hid (∀u,Kept w u→Calls Tryz.prog 293 #[.slice ao n c] u fun e w'=>e=.returned (.int .i64 (B:Int))∧u=w'))
  (K1:Hid (∀u,Kept w u→Calls Tryz.prog 289 #[.slice ao n c,.int .i64 ((B:Int)-60+30)] u fun e w'=>e=.returned (.int .i64 p1)∧Kept u w'))
  (K0:Hid (∀u,Kept w u→Calls Tryz.prog 289 #[.slice ao n c,.int .i64 ((B:Int)-60)] u fun e w'=>e=.returned (.int .i64 p0)∧Kept u w')):
  Calls Tryz.prog 241 #[.agg #[.bool ng,.slice ao n c,.int .i64 x]] w fun e w'=>e=.returned (.agg #[.bool ng,.int .i64 h,.int .i64 (x+((B:Int)-60)),.bool rs])∧Kept w w':=by
 have hK:Kept w ((w.alloc (.cells #[.bool ng,.slice ao n c,.int .i64 x] 78)).alloc (.cells #[.bool false,.int .i64 0,.int .i64 0,.bool false] 280)):=((qlv w).alloc _ _).alloc _ _
 have HS:Hid (∀u,Kept ((w.alloc (.cells #[.bool ng,.slice ao n c,.int .i64 x] 78)).alloc (.cells #[.bool false,.int .i64 0,.int .i64 0,.bool false] 280)) u→(u.cell? ⟨w.heap.size,0,none⟩=some (.bool ng)∧u.cell? ⟨w.heap.size,1,none⟩=some (.slice ao n c)∧u.cell? ⟨w.heap.size,2,none⟩=some (.int .i64 x))∧u.cell? ⟨w.heap.size+1,0,none⟩=some (.bool false)∧u.cell? ⟨w.heap.size+1,1,none⟩=some (.int .i64 0)∧u.cell? ⟨w.heap.size+1,2,none⟩=some (.int .i64 0)∧u.cell? ⟨w.heap.size+1,3,none⟩=some (.bool false)∧∀o,u.frozen? ⟨w.heap.size+1,o,none⟩=false):=fun u k=>⟨⟨(k.below.cell (p:=⟨w.heap.size,0,none⟩) (by simp;omega)).trans (by simp[go_sem]),(k.below.cell (p:=⟨w.heap.size,1,none⟩) (by simp;omega)).trans (by simp[go_sem]),(k.below.cell (p:=⟨w.heap.size,2,none⟩) (by simp;omega)).trans (by simp[go_sem])⟩,(k.below.cell (p:=⟨w.heap.size+1,0,none⟩) (by simp)).trans (by simp[go_sem]),(k.below.cell (p:=⟨w.heap.size+1,1,none⟩) (by simp)).trans (by simp[go_sem]),(k.below.cell (p:=⟨w.heap.size+1,2,none⟩) (by simp)).trans (by simp[go_sem]),(k.below.cell (p:=⟨w.heap.size+1,3,none⟩) (by simp)).trans (by simp[go_sem]),fun o=>(k.frozen _).trans (by simp[go_sem])⟩
 have kD:Kept ((w.alloc (.cells #[.bool ng,.slice ao n c,.int .i64 x] 78)).alloc (.cells #[.bool false,.int .i64 0,.int .i64 0,.bool false] 280)) (((w.alloc (.cells #[.bool ng,.slice ao n c,.int .i64 x] 78)).alloc (.cells #[.bool false,.int .i64 0,.int .i64 0,.bool false] 280))).drew:=(qlv _).drew
 have z1:IntKind.i64.wrap ((B:Int)-60)=(B:Int)-60:=by rw[qc];omega
 have z2:IntKind.i64.wrap ((B:Int)-60+30)=(B:Int)-60+30:=by rw[qc];omega
 have z3:IntKind.i64.wrap (x+((B:Int)-60))=x+((B:Int)-60):=by rw[qc];omega
 have hn0:((n:Int)==0)=false:=by simp;omega
 go_enter Tryz.func241,Tryz.ntmps241
 go_wp2_with (first|(go_at_call 293;refine(KL.out _ hK).mono ?_;rintro e w1 ⟨rfl,rfl⟩))
 have e00:=(HS.out _ kD).1
 refine qlw (S:=fun u=>u.cell? ⟨w.heap.size,0,none⟩=some (.bool ng)∧u.cell? ⟨w.heap.size,1,none⟩=some (.slice ao n c)∧u.cell? ⟨w.heap.size,2,none⟩=some (.int .i64 x)) (by kernel_rfl) e00 (fun hHeld=>?_)
 refine tk (i:=0) (v:=?_) rfl ?_
 try simp only[zz]
 refine tk (i:=1) (v:=?_) rfl ?_
 try simp only[zz]
 refine tk (i:=2) (v:=?_) rfl ?_
 try simp only[zz]
 refine tk (i:=3) (v:=?_) rfl ?_
 try simp only[zz]
 refine tk (i:=4) (v:=?_) rfl ?_
 try simp only[zz]
 refine tk (i:=5) (v:=?_) rfl ?_
 try simp only[zz]
 refine tk (i:=8) (v:=?_) rfl ?_
 try simp only[zz]
 refine tk (i:=9) (v:=?_) rfl ?_
 try simp only[zz]
 refine tk (i:=10) (v:=?_) rfl ?_
 try simp only[zz]
 refine tk (i:=13) (v:=?_) rfl ?_
 try simp only[zz]
 refine tk (i:=14) (v:=?_) rfl ?_
 try simp only[zz]
 refine tk (i:=15) (v:=?_) rfl ?_
 try simp only[zz]
 refine tk (i:=16) (v:=?_) rfl ?_
 try simp only[zz]
 refine tk (i:=17) (v:=?_) rfl ?_
 try simp only[zz]
 refine tk (i:=18) (v:=?_) rfl ?_
 try simp only[zz]
 refine qlt (rs:=[6]) (by kernel_rfl) (by simp) ?_
 refine qlr rfl (fun K hK9=>?_) qls
 go_simp
 go_wp2_with fail
 refine(K1.out _ (hK.trans (kD))).mono ?_
 rintro e u1 ⟨rfl,k1⟩
 have eu1:=(HS.out _ ((kD).trans k1)).1
 refine hK9.out _ _ eu1 (fun hHeldu1=>?_)
 clear hK9 K
 refine tk (i:=7) (v:=?_) rfl ?_
 try simp only[zz]
 refine qlt (rs:=[11]) (by kernel_rfl) (by simp) ?_
 refine qlr rfl (fun K hK9=>?_) qls
 go_simp
 go_wp2_with fail
 refine(K0.out _ (hK.trans (kD.trans k1))).mono ?_
 rintro e u2 ⟨rfl,k2⟩
 have eu2:=(HS.out _ ((kD.trans k1).trans k2)).1
 refine hK9.out _ _ eu2 (fun hHeldu2=>?_)
 clear hK9 K
 refine tk (i:=12) (v:=?_) rfl ?_
 try simp only[zz]
 refine tk (i:=19) (v:=?_) rfl ?_
 try simp only[zz]
 refine qlt (rs:=[20]) (by kernel_rfl) (by simp) ?_
 refine qlr rfl (fun K hK9=>?_) qls
 obtain⟨e1,s0,s1,s2,s3,sf⟩:=HS.out _ ((kD.trans k1).trans k2)
 go_simp
 refine hK9.out _ _ ⟨(set4 _ _ _ _ (by omega) _ _ _ _).trans e1.1,(set4 _ _ _ _ (by omega) _ _ _ _).trans e1.2.1,(set4 _ _ _ _ (by omega) _ _ _ _).trans e1.2.2⟩ (fun hHeld9=>?_)
 clear hK9 K
 refine qlx (by kernel_rfl) ?_ _
 clear hHeld9
 go_wp2
 refine qlu (v:=.agg #[.bool ng,.int .i64 h,.int .i64 (x+((B:Int)-60)),.bool rs]) (by simp[results,Tryz.results241,go_sem,s0,s1,s2,s3]) rfl ⟨rfl,?_⟩
 exact(hK.trans ((kD.trans k1).trans k2)).setCell (by simp) _|>.setCell (by simp) _|>.setCell (by simp) _|>.setCell (by simp) _
theorem Xl (ng:Bool)(L:List Int)(x:Int)(hne:L≠[])(hv:vld ⟨ng,L,x⟩=true)(ao:Option Addr)(c:Nat)(w:World)(h:Sl w (.slice ao L.length c) L):
  Calls Tryz.prog 241 #[.agg #[.bool ng,.slice ao L.length c,.int .i64 x]] w fun e w'=>e=.returned (.agg #[.bool ng,.int .i64 ((hd (nv L):Nat):Int),.int .i64 (x+((bl (nv L):Int)-60)),.bool (decide (60<(bl (nv L):Int)))])∧Kept w w':=by
 obtain⟨p1,p2,p3,p4,p5,p6⟩:=qw ng L x hne hv
 have hpos:=List.length_pos_iff.2 hne
 have hv0:nv L≠0:=fun h0=>by have:=xz L p2 p4;omega
 have hbl:=qN _ _ (qV L p2)
 have hb:=vg _ hv0
 refine Xk ng ao L.length c hpos x p5 p6 (bl (nv L)) (by omega) ((hd (nv L)/1073741824:Nat):Int) ((hd (nv L)%1073741824:Nat):Int) (((hd (nv L)/1073741824:Nat):Int)*1073741824) _ _ ?_ (qgn (nv L) hv0) rfl w (fun u k=>zg L ⟨p2,fun _=>p3⟩ (by omega) _ u (h.kept k)) (fun u k=>?_) (fun u k=>?_)
 ·rw[qc]
  omega
 ·have:=xW L p2 (.slice ao L.length c) ((bl (nv L):Int)-60+30) (by omega) (by omega) u (h.kept k)
  rw[qdr _ hv0]at this
  exact this
 ·have:=xW L p2 (.slice ao L.length c) ((bl (nv L):Int)-60) (by omega) (by omega) u (h.kept k)
  rw[qgl _ hv0]at this
  exact this
end Go.Proofs.YtelbefihigkhjaaGreatDoor

namespace Go.Proofs.YtelbefihigkhjaaGreatDoor
open Go.ChangeShapes Go.WideShapes Go.ChangeAt Go.RowKit
set_option maxHeartbeats 16000000
set_option maxRecDepth 100000
set_option linter.unusedVariables false
set_option linter.unusedSimpArgs false
theorem VG (n pr le fi:Int)(f:Value)(ex:Int)(ng rs:Bool)(w:World):Calls Tryz.prog 232 #[.agg #[.int .i64 n,.int .i64 pr,.int .i64 le,.int .i64 fi,f],.agg #[.bool ng,.int .i64 0,.int .i64 ex,.bool rs]] w fun e w'=>e=.returned (.tuple #[.int .i64 0,.bool false])∧Kept w w':=by
 go_enter Tryz.func232,Tryz.ntmps232
 go_wp2
 go_ret2
 exact⟨rfl,((qlv _).alloc _ _).alloc _ _⟩
end Go.Proofs.YtelbefihigkhjaaGreatDoor

namespace Go.Proofs.YtelbefihigkhjaaGreatDoor
open Go.ChangeShapes Go.WideShapes Go.ChangeAt Go.RowKit
set_option maxHeartbeats 16000000
set_option maxRecDepth 100000
set_option linter.unusedVariables false
set_option linter.unusedSimpArgs false
def ofN (b n:Int):Nm:=(frm (qT b n) (qx b n).toNat (qE b n)).getD ⟨false,[],0⟩
theorem Jc (b n:Int)(hn:n=64∨n=32)(hc:cls b n<3):fin b n=true:=by simp[fin,hn,hc]
theorem qkj (b:Int)(hc:cls b 64<3):0≤qx b 64∧qx b 64<9007199254740992∧-1074≤qE b 64∧qE b 64≤971∧(qx b 64<4503599627370496→qE b 64=-1074):=by
 have hf:=Jc b 64 (.inl rfl) hc
 have hs:b%9223372036854775808<9218868437227405312:=by
  unfold cls zn at hc
  simp only[if_true]at hc
  (repeat' split at hc)<;>omega
 unfold qx qE
 rw[if_pos hf,if_pos rfl,if_pos hf,if_pos rfl]
 (repeat' split)<;>omega
theorem qkk (b:Int)(hc:cls b 32<3):0≤qx b 32∧qx b 32<16777216∧-149≤qE b 32∧qE b 32≤104∧(qx b 32<8388608→qE b 32=-149):=by
 have hf:=Jc b 32 (.inr rfl) hc
 have hs:b%2147483648<2139095040:=by
  unfold cls zn at hc
  rw[if_neg (by decide),if_pos rfl]at hc
  (repeat' split at hc)<;>omega
 unfold qx qE
 simp only[hf,if_true,show ¬((32:Int)=64) by decide,if_false]
 (repeat' split)<;>omega
theorem yA (b n:Int)(hn:n=64∨n=32)(hc:cls b n<3):0≤qx b n∧qx b n<2^(qH n).toNat∧qn n≤qE b n∧qE b n≤1000∧-1074≤qE b n∧(qx b n<2^((qH n).toNat-1)→qE b n=qn n):=by
 rcases hn with rfl|rfl
 ·obtain⟨h1,h2,h3,h4,h5⟩:=qkj b hc
  refine⟨h1,?_,h3,by omega,h3,fun h=>h5 ?_⟩
  ·exact h2
  ·exact h
 ·obtain⟨h1,h2,h3,h4,h5⟩:=qkk b hc
  refine⟨h1,?_,h3,by omega,by omega,fun h=>h5 ?_⟩
  ·exact h2
  ·exact h
theorem VH (b n:Int)(hn:n=64∨n=32)(hc:cls b n<3):bl (qx b n).toNat≤(qH n).toNat∧bl (qx b n).toNat≤53:=by
 obtain⟨h1,h2,-⟩:=yA b n hn hc
 have:=qN (qx b n).toNat (qH n).toNat (by
  have e:(((qx b n).toNat:Nat):Int)<((2^(qH n).toNat:Nat):Int):=by push_cast;rw[Int.toNat_of_nonneg h1];exact h2
  exact_mod_cast e)
 refine⟨this,?_⟩
 rcases hn with rfl|rfl
 ·exact this
 ·exact qlp this (by decide)
theorem qgo (b n:Int)(h:qx b n=0):frm (qT b n) (qx b n).toNat (qE b n)=some ⟨false,[],0⟩∧ofN b n=⟨false,[],0⟩:=by
 have:frm (qT b n) (qx b n).toNat (qE b n)=some ⟨false,[],0⟩:=by rw[h];simp[frm]
 exact⟨this,by unfold ofN;rw[this];rfl⟩
theorem qak (v:Nat)(hv:v≠0):tzn v<bl v:=by
 have h:=z8 v hv
 have:=(qu _ h.2).2.2
 omega
theorem qgp (b n:Int)(hn:n=64∨n=32)(hc:cls b n<3)(h0:qx b n≠0):frm (qT b n) (qx b n).toNat (qE b n)=some (ofN b n)∧ofN b n=⟨qT b n,digs ((qx b n).toNat/2^tzn (qx b n).toNat),qE b n+(tzn (qx b n).toNat:Int)⟩:=by
 obtain⟨h1,h2,h3,h4,h5,h6⟩:=yA b n hn hc
 have hb:=(VH b n hn hc).2
 have hv:(qx b n).toNat≠0:=by omega
 have ht:=qak _ hv
 have hw:wrap64 (qE b n+(tzn (qx b n).toNat:Int))=qE b n+(tzn (qx b n).toNat:Int):=by unfold wrap64;omega
 have:frm (qT b n) (qx b n).toNat (qE b n)=some ⟨qT b n,digs ((qx b n).toNat/2^tzn (qx b n).toNat),qE b n+(tzn (qx b n).toNat:Int)⟩:=by
  unfold frm
  rw[if_neg hv,hw,if_pos ⟨by omega,by omega,by omega⟩]
 exact⟨by rw[this];unfold ofN;rw[this];rfl,by unfold ofN;rw[this];rfl⟩
theorem Jd (b n:Int)(hn:n=64∨n=32)(hc:cls b n<3):frm (qT b n) (qx b n).toNat (qE b n)=some (ofN b n):=by
 by_cases h:qx b n=0
 ·obtain⟨h1,h2⟩:=qgo b n h
  rw[h1,h2]
 ·exact(qgp b n hn hc h).1
theorem qi7 (b n:Int)(hb1:-9223372036854775808≤b)(hb2:b≤9223372036854775807)(hn:n=64∨n=32)(hc:cls b n<3)(w:World)(hT:Tab w):Calls Tryz.prog 184 #[.int .i64 b,.int .i64 n] w fun e w'=>∃v,e=.returned (.tuple #[v,.int .i64 0])∧New w w' v (ofN b n)∧Kept w w':=by
 have hK:Kept w (qh w):=(qlv w).alloc _ _
 obtain⟨h1,h2,h3,h4,h5,h6⟩:=yA b n hn hc
 have hbl:=(VH b n hn hc).2
 have hlt:=Ql (qx b n).toNat
 have hm53:(qx b n).toNat<2^53:=qlf hlt (qlh (by decide) hbl)
 have hm:qx b n<9007199254740992:=by
  have:(2:Nat)^53=9007199254740992:=by decide
  omega
 have KK:Hid (∀u,Calls Tryz.prog 244 #[.int .i64 n] u fun e w'=>e=.returned (.tuple #[.agg #[.int .i64 n,.int .i64 (qH n),.int .i64 (qn n),.int .i64 (z9 n)],.bool true])∧Kept u w'):=fun u=>vf n hn u
 have KP:Hid (∀u,Calls Tryz.prog 245 #[.int .i64 b,.int .i64 n] u fun e w'=>e=.returned (.tuple #[.bool (qT b n),.int .i64 (qx b n),.int .i64 (qE b n),.bool true])∧Kept u w'):=fun u=>by
  have:=qad b n hb1 hb2 u
  rw[Jc b n hn hc]at this
  exact this
 have hf:=Jd b n hn hc
 generalize qx b n=s at *
 have hw1:IntKind.u64.wrap s=s:=by rw[IntKind.wrap_u64];omega
 have KD:Hid (∀u,Calls Tryz.prog 247 #[.int .u64 s] u fun e w'=>e=.returned (.slice (some ⟨u.heap.size,0,none⟩) 3 3)∧w'=u.alloc (.cells #[.int .i64 (s%1073741824),.int .i64 (s/1073741824%1073741824),.int .i64 (s/1152921504606846976)] 3)):=fun u=>jY s h1 (by omega) u
 have hDg:Dg [s%1073741824,s/1073741824%1073741824,s/1152921504606846976]:=Dg.cons (by omega) (by omega) (Dg.cons (by omega) (by omega) (Dg.cons (by omega) (by omega) Dg.nil))
 have hnv:nv [s%1073741824,s/1073741824%1073741824,s/1152921504606846976]=s.toNat:=by
  show(s%1073741824).toNat+1073741824*((s/1073741824%1073741824).toNat+1073741824*((s/1152921504606846976).toNat+1073741824*0))=s.toNat
  omega
 have KF:Hid (∀u,Kept (qh w) u→Calls Tryz.prog 246 #[.bool (qT b n),.slice (some ⟨u.heap.size,0,none⟩) 3 3,.int .i64 (qE b n)] (u.alloc (.cells #[.int .i64 (s%1073741824),.int .i64 (s/1073741824%1073741824),.int .i64 (s/1152921504606846976)] 3)) fun e w'=>(∃v,e=.returned v∧New (qh w) w' v (ofN b n))∧Kept (qh w) w'):=fun u k=>x6 _ _ hDg (by simp) _ 3 (qE b n) (qh w) _ (k.alloc _ _) k.below.size (yu u _ _ _) (hT.kept (hK.trans (k.alloc _ _))) _ (by rw[hnv];exact hf)
 generalize qH n=pr at *
 generalize qn n=le at *
 generalize z9 n=fi at *
 generalize qT b n=ng at *
 generalize qE b n=ex at *
 generalize ofN b n=r at *
 clear hDg hnv hf hT h1 h2 h3 h4 h5 h6 hbl hlt hm53 hm
 go_enter Tryz.func184,Tryz.ntmps184
 go_wp2_with fail
 refine(KK.out _).mono ?_
 rintro e w1 ⟨rfl,k1⟩
 have k1':=k1.alloc #[.int .i64 n,.int .i64 pr,.int .i64 le,.int .i64 fi] 270
 go_wp2_with fail
 refine(KP.out _).mono ?_
 rintro e w2 ⟨rfl,k2⟩
 have kk:=k1'.trans k2
 go_wp2_with fail
 refine(KD.out _).mono ?_
 rintro e w3 ⟨rfl,rfl⟩
 go_wp2_with fail
 refine(KF.out _ kk).mono ?_
 rintro e w4 ⟨⟨v,rfl,hN⟩,k4⟩
 obtain⟨vn,va,vl,vc,vx,rfl⟩:=hN.shape
 obtain⟨f0,f1,f2,f3⟩:=qI k4
 go_wp2_with fail
 have:=zj hN k4 (.bool vn) (.slice va vl vc) (.int .i64 vx)
 exact qlu (v:=.tuple #[.agg #[.bool vn,.slice va vl vc,.int .i64 vx],.int .i64 0]) (by simp[results,Tryz.results184,go_sem,f0,f1,f2]) rfl ⟨_,rfl,this.1,this.2⟩
end Go.Proofs.YtelbefihigkhjaaGreatDoor
namespace Go.Proofs.YtelbefihigkhjaaGreatDoor
open Go.ChangeShapes Go.WideShapes Go.ChangeAt Go.RowKit
set_option maxHeartbeats 16000000
set_option maxRecDepth 100000
set_option linter.unusedVariables false
set_option linter.unusedSimpArgs false
theorem kE (a b:Nat)(ha:a<9223372036854775808)(hb:b<9223372036854775808):bits .and .i64 (a:Int) (b:Int)=((a&&& b:Nat):Int):=by
 rw[zm,BitVec.toNat_and]
 have h1:=qr (a:Int)
 have h2:=qr (b:Int)
 have e1:(BitVec.ofInt 64 (a:Int)).toNat=a:=by omega
 have e2:(BitVec.ofInt 64 (b:Int)).toNat=b:=by omega
 have h3:a&&& b≤a:=Nat.and_le_left
 rw[e1,e2,qc]
 omega
theorem qds (a m:Nat)(ha:a<9223372036854775808)(hm:m<62):bits .and .i64 (a:Int) (((2^m-1:Nat)):Int)=((a%2^m:Nat):Int):=by
 have hp:(2:Nat)^m≤2^62:=qlh (by decide) (by omega)
 have h62:(2:Nat)^62=4611686018427387904:=by decide
 rw[kE _ _ ha (by omega),Nat.and_two_pow_sub_one_eq_mod]
theorem Xm (ng:Bool)(ao:Option Addr)(c:Nat)(x:Int)(w:World):Calls Tryz.prog 241 #[.agg #[.bool ng,.slice ao 0 c,.int .i64 x]] w fun e w'=>e=.returned (.agg #[.bool false,.int .i64 0,.int .i64 0,.bool false])∧Kept w w':=by
 go_enter Tryz.func241,Tryz.ntmps241
 go_wp2
 exact qlu (v:=.agg #[.bool false,.int .i64 0,.int .i64 0,.bool false]) (by simp[results,Tryz.results241,go_sem]) rfl ⟨rfl,((qlv w).alloc _ _).alloc _ _⟩
end Go.Proofs.YtelbefihigkhjaaGreatDoor
namespace Go.Proofs.YtelbefihigkhjaaGreatDoor
open Go.ChangeShapes Go.WideShapes Go.ChangeAt Go.RowKit
set_option maxHeartbeats 16000000
set_option maxRecDepth 100000
set_option linter.unusedVariables false
set_option linter.unusedSimpArgs false
theorem YA (neg:Bool)(v:Nat)(x:Int)(r:Nm)(h:frm neg v x=some r):vld r=true∧Rg r.mag∧r.mag.length≤2000:=by
 unfold frm at h
 split at h
 ·cases h
  exact⟨rfl,fun d hd=>(by cases hd),by simp⟩
 ·rename_i hv
  split at h
  ·rename_i hy
   cases h
   have hs:=z8 v hv
   have hq:=(qu _ hs.2).2.2
   have hl:=vV _ hs.2
   have hne:digs (v/2^tzn v)≠[]:=by
    intro he
    rw[he]at hl
    simp only[List.length_nil]at hl
    omega
   have hdg:=qL (v/2^tzn v)
   have hodd:(digs (v/2^tzn v)).getD 0 0%2=1:=by
    have h1:=(ve v hv).1
    have h2:=zI _ hdg 0
    rw[qC,Nat.mul_zero,Nat.pow_zero,Nat.div_one]at h2
    have h3:=hdg.getD 0
    omega
   refine⟨?_,hdg.rg,by dsimp only;omega⟩
   unfold vld
   dsimp only
   rw[if_neg hne]
   unfold QO
   rw[(xZ _).2 hdg,vS]
   simp only[Bool.and_eq_true,qlm,bne_iff_ne,beq_iff_eq]
   exact⟨⟨⟨⟨⟨by omega,trivial⟩,jO _ hs.2⟩,hodd⟩,hy.2.1⟩,hy.2.2⟩
  ·cases h
end Go.Proofs.YtelbefihigkhjaaGreatDoor
