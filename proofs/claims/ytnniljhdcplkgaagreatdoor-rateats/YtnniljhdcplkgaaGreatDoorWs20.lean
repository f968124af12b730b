/-  -/
import Derived.Test.YtnniljhdcplkgaaGreatDoorWs19
import Derived.Test.YtnniljhdcplkgaaGreatDoorWs07
namespace Go.Proofs.YtnniljhdcplkgaaGreatDoor
open Go.ChangeShapes Go.WideShapes Go.ChangeAt Go.RowKit
set_option maxHeartbeats 16000000
set_option maxRecDepth 100000
set_option linter.unusedVariables false
set_option linter.unusedSimpArgs false
theorem split_false (ng:Bool)(h ex kept P Q1:Int)(m:Nat)(hm:m<62)(od hf rt:Bool)(hk:h/2^(m+1)=kept)(hP:wrap64 (2^m)=P)(hQ:IntKind.i64.wrap (P-1)=Q1)(c1 c2 c3:Int)(hc1:bits .and .i64 kept 1=c1)(hc2:bits .and .i64 h P=c2)(hc3:bits .and .i64 h Q1=c3)(hod:(c1==1)=od)(hhf:(c2 != 0)=hf)(hrt:(c3 != 0)=rt)(w:World):Calls Tryz.prog 126 #[.agg #[.bool ng,.int .i64 h,.int .i64 ex,.bool false],.int .i64 ((m:Int)+1)] w fun e w'=>e=.returned (.tuple #[.int .i64 kept,.agg #[.bool ng,.bool od,.bool hf,.bool rt]])∧Kept w w':=by
 have hK:Kept w ((w.alloc (.cells #[.bool ng,.int .i64 h,.int .i64 ex,.bool false] 117)).alloc (.cells #[.bool false,.bool false,.bool false,.bool false] 142)):=((Kept.refl w).alloc _ _).alloc _ _
 go_enter Tryz.func126,Tryz.ntmps126
 go_wp2
 go_quiet (fail)
 go_wp2
 obtain⟨W0,hW0⟩:∃W0,((w.alloc (.cells #[.bool ng,.int .i64 h,.int .i64 ex,.bool false] 117)).alloc (.cells #[.bool false,.bool false,.bool false,.bool false] 142)).drewN nq=W0:=⟨_,rfl⟩
 have q0:W0.cell? ⟨w.heap.size,0,none⟩=some (.bool ng):=by rw[←hW0];simp[go_sem]
 have q1:W0.cell? ⟨w.heap.size,1,none⟩=some (.int .i64 h):=by rw[←hW0];simp[go_sem]
 have q3:W0.cell? ⟨w.heap.size,3,none⟩=some (.bool false):=by rw[←hW0];simp[go_sem]
 have s0:W0.cell? ⟨w.heap.size+1,0,none⟩=some (.bool false):=by rw[←hW0];simp[go_sem]
 have s1:W0.cell? ⟨w.heap.size+1,1,none⟩=some (.bool false):=by rw[←hW0];simp[go_sem]
 have s2:W0.cell? ⟨w.heap.size+1,2,none⟩=some (.bool false):=by rw[←hW0];simp[go_sem]
 have s3:W0.cell? ⟨w.heap.size+1,3,none⟩=some (.bool false):=by rw[←hW0];simp[go_sem]
 have sf:∀o,W0.frozen? ⟨w.heap.size+1,o,none⟩=false:=fun o=>by rw[←hW0];simp[go_sem]
 have hK0:Kept w W0:=by rw[←hW0];exact hK.drewN nq
 rw[hW0]
 clear hW0 hK
 refine wp_region_held_drew (S:=fun u=>u.cell? ⟨w.heap.size,0,none⟩=some (.bool ng)∧u.cell? ⟨w.heap.size,1,none⟩=some (.int .i64 h)∧u.cell? ⟨w.heap.size,3,none⟩=some (.bool false)) (by kernel_rfl) ⟨q0,q1,q3⟩ (fun hHeld=>?_)
 refine tk (i:=0) (v:=?_) rfl ?_
 try simp only[Act.put,zA,zB,zC,zD,zE,zF]
 refine tk (i:=1) (v:=?_) rfl ?_
 try simp only[Act.put,zA,zB,zC,zD,zE,zF]
 refine tk (i:=2) (v:=?_) rfl ?_
 try simp only[Act.put,zA,zB,zC,zD,zE,zF]
 refine tk (i:=3) (v:=?_) rfl ?_
 try simp only[Act.put,zA,zB,zC,zD,zE,zF]
 refine tk (i:=4) (v:=?_) rfl ?_
 try simp only[Act.put,zA,zB,zC,zD,zE,zF]
 refine tk (i:=5) (v:=?_) rfl ?_
 try simp only[Act.put,zA,zB,zC,zD,zE,zF]
 refine tk (i:=6) (v:=?_) rfl ?_
 try simp only[Act.put,zA,zB,zC,zD,zE,zF]
 refine tk (i:=7) (v:=?_) rfl ?_
 try simp only[Act.put,zA,zB,zC,zD,zE,zF]
 refine tk (i:=8) (v:=?_) rfl ?_
 try simp only[Act.put,zA,zB,zC,zD,zE,zF]
 refine tk (i:=9) (v:=?_) rfl ?_
 try simp only[Act.put,zA,zB,zC,zD,zE,zF]
 refine tk (i:=10) (v:=?_) rfl ?_
 try simp only[Act.put,zA,zB,zC,zD,zE,zF]
 refine tk (i:=11) (v:=?_) rfl ?_
 try simp only[Act.put,zA,zB,zC,zD,zE,zF]
 refine tk (i:=12) (v:=?_) rfl ?_
 try simp only[Act.put,zA,zB,zC,zD,zE,zF]
 refine tk (i:=13) (v:=?_) rfl ?_
 try simp only[Act.put,zA,zB,zC,zD,zE,zF]
 refine tk (i:=14) (v:=?_) rfl ?_
 try simp only[Act.put,zA,zB,zC,zD,zE,zF]
 refine tk (i:=15) (v:=?_) rfl ?_
 try simp only[Act.put,zA,zB,zC,zD,zE,zF]
 refine tk (i:=16) (v:=?_) rfl ?_
 try simp only[Act.put,zA,zB,zC,zD,zE,zF]
 refine tk (i:=17) (v:=?_) rfl ?_
 try simp only[Act.put,zA,zB,zC,zD,zE,zF]
 refine tk (i:=18) (v:=?_) rfl ?_
 try simp only[Act.put,zA,zB,zC,zD,zE,zF]
 refine tk (i:=19) (v:=?_) rfl ?_
 try simp only[Act.put,zA,zB,zC,zD,zE,zF]
 refine tk (i:=20) (v:=?_) rfl ?_
 try simp only[Act.put,zA,zB,zC,zD,zE,zF]
 refine tk (i:=21) (v:=?_) rfl ?_
 try simp only[Act.put,zA,zB,zC,zD,zE,zF]
 refine tk (i:=22) (v:=?_) rfl ?_
 try simp only[Act.put,zA,zB,zC,zD,zE,zF]
 refine wpAnyH_ready (rs:=[23]) (by kernel_rfl) (by simp) ?_
 refine AllReadyH.cons rfl (fun K hK9=>?_) AllReadyH.nil
 go_simp
 refine hK9.out _ _ ⟨(set4 _ _ _ _ (by omega) _ _ _ _).trans q0,(set4 _ _ _ _ (by omega) _ _ _ _).trans q1,(set4 _ _ _ _ (by omega) _ _ _ _).trans q3⟩ (fun hHeld3=>?_)
 clear hK9 K hHeld
 refine wpAnyH_done (by kernel_rfl) ?_ _
 clear hHeld3
 go_wp2
 refine bodyPost_ret (v:=.tuple #[.int .i64 kept,.agg #[.bool ng,.bool od,.bool hf,.bool rt]]) (by simp[results,Tryz.results126,go_sem,s0,s1,s2,s3]) rfl ⟨rfl,?_⟩
 first
 |exact(hK0.drew.setCell (by simp) _|>.setCell (by simp) _|>.setCell (by simp) _|>.setCell (by simp) _)
 |exact(hK0.setCell (by simp) _|>.setCell (by simp) _|>.setCell (by simp) _|>.setCell (by simp) _).drew
theorem split_true (ng:Bool)(h ex kept P Q1:Int)(m:Nat)(hm:m<62)(od hf rt:Bool)(hk:h/2^(m+1)=kept)(hP:wrap64 (2^m)=P)(hQ:IntKind.i64.wrap (P-1)=Q1)(c1 c2 c3:Int)(hc1:bits .and .i64 kept 1=c1)(hc2:bits .and .i64 h P=c2)(hc3:bits .and .i64 h Q1=c3)(hod:(c1==1)=od)(hhf:(c2 != 0)=hf)(hrt:rt=true)(w:World):Calls Tryz.prog 126 #[.agg #[.bool ng,.int .i64 h,.int .i64 ex,.bool true],.int .i64 ((m:Int)+1)] w fun e w'=>e=.returned (.tuple #[.int .i64 kept,.agg #[.bool ng,.bool od,.bool hf,.bool rt]])∧Kept w w':=by
 have hK:Kept w ((w.alloc (.cells #[.bool ng,.int .i64 h,.int .i64 ex,.bool true] 117)).alloc (.cells #[.bool false,.bool false,.bool false,.bool false] 142)):=((Kept.refl w).alloc _ _).alloc _ _
 subst hrt
 go_enter Tryz.func126,Tryz.ntmps126
 go_wp2
 go_quiet (fail)
 go_wp2
 obtain⟨W0,hW0⟩:∃W0,((w.alloc (.cells #[.bool ng,.int .i64 h,.int .i64 ex,.bool true] 117)).alloc (.cells #[.bool false,.bool false,.bool false,.bool false] 142)).drewN nq=W0:=⟨_,rfl⟩
 have q0:W0.cell? ⟨w.heap.size,0,none⟩=some (.bool ng):=by rw[←hW0];simp[go_sem]
 have q1:W0.cell? ⟨w.heap.size,1,none⟩=some (.int .i64 h):=by rw[←hW0];simp[go_sem]
 have q3:W0.cell? ⟨w.heap.size,3,none⟩=some (.bool true):=by rw[←hW0];simp[go_sem]
 have s0:W0.cell? ⟨w.heap.size+1,0,none⟩=some (.bool false):=by rw[←hW0];simp[go_sem]
 have s1:W0.cell? ⟨w.heap.size+1,1,none⟩=some (.bool false):=by rw[←hW0];simp[go_sem]
 have s2:W0.cell? ⟨w.heap.size+1,2,none⟩=some (.bool false):=by rw[←hW0];simp[go_sem]
 have s3:W0.cell? ⟨w.heap.size+1,3,none⟩=some (.bool false):=by rw[←hW0];simp[go_sem]
 have sf:∀o,W0.frozen? ⟨w.heap.size+1,o,none⟩=false:=fun o=>by rw[←hW0];simp[go_sem]
 have hK0:Kept w W0:=by rw[←hW0];exact hK.drewN nq
 rw[hW0]
 clear hW0 hK
 refine wp_region_held_drew (S:=fun u=>u.cell? ⟨w.heap.size,0,none⟩=some (.bool ng)∧u.cell? ⟨w.heap.size,1,none⟩=some (.int .i64 h)∧u.cell? ⟨w.heap.size,3,none⟩=some (.bool true)) (by kernel_rfl) ⟨q0,q1,q3⟩ (fun hHeld=>?_)
 refine tk (i:=0) (v:=?_) rfl ?_
 try simp only[Act.put,zA,zB,zC,zD,zE,zF]
 refine tk (i:=1) (v:=?_) rfl ?_
 try simp only[Act.put,zA,zB,zC,zD,zE,zF]
 refine tk (i:=2) (v:=?_) rfl ?_
 try simp only[Act.put,zA,zB,zC,zD,zE,zF]
 refine tk (i:=3) (v:=?_) rfl ?_
 try simp only[Act.put,zA,zB,zC,zD,zE,zF]
 refine tk (i:=4) (v:=?_) rfl ?_
 try simp only[Act.put,zA,zB,zC,zD,zE,zF]
 refine tk (i:=5) (v:=?_) rfl ?_
 try simp only[Act.put,zA,zB,zC,zD,zE,zF]
 refine tk (i:=6) (v:=?_) rfl ?_
 try simp only[Act.put,zA,zB,zC,zD,zE,zF]
 refine tk (i:=7) (v:=?_) rfl ?_
 try simp only[Act.put,zA,zB,zC,zD,zE,zF]
 refine tk (i:=8) (v:=?_) rfl ?_
 try simp only[Act.put,zA,zB,zC,zD,zE,zF]
 refine tk (i:=9) (v:=?_) rfl ?_
 try simp only[Act.put,zA,zB,zC,zD,zE,zF]
 refine tk (i:=10) (v:=?_) rfl ?_
 try simp only[Act.put,zA,zB,zC,zD,zE,zF]
 refine tk (i:=11) (v:=?_) rfl ?_
 try simp only[Act.put,zA,zB,zC,zD,zE,zF]
 refine tk (i:=12) (v:=?_) rfl ?_
 try simp only[Act.put,zA,zB,zC,zD,zE,zF]
 refine tk (i:=13) (v:=?_) rfl ?_
 try simp only[Act.put,zA,zB,zC,zD,zE,zF]
 refine wpAnyH_take (i:=14) (v:=undef) rfl (by kernel_rfl) (by kernel_rfl) (by kernel_rfl) (fun _ _ _ h=>h) (Or.inr ⟨by rfl,rfl⟩) (by assumption) ?_
 try simp only[Act.put,zA,zB,zC,zD,zE,zF]
 refine wpAnyH_take (i:=15) (v:=undef) rfl (by kernel_rfl) (by kernel_rfl) (by kernel_rfl) (fun _ _ _ h=>h) (Or.inr ⟨by rfl,rfl⟩) (by assumption) ?_
 try simp only[Act.put,zA,zB,zC,zD,zE,zF]
 refine wpAnyH_take (i:=16) (v:=undef) rfl (by kernel_rfl) (by kernel_rfl) (by kernel_rfl) (fun _ _ _ h=>h) (Or.inr ⟨by rfl,rfl⟩) (by assumption) ?_
 try simp only[Act.put,zA,zB,zC,zD,zE,zF]
 refine wpAnyH_take (i:=17) (v:=undef) rfl (by kernel_rfl) (by kernel_rfl) (by kernel_rfl) (fun _ _ _ h=>h) (Or.inr ⟨by rfl,rfl⟩) (by assumption) ?_
 try simp only[Act.put,zA,zB,zC,zD,zE,zF]
 refine wpAnyH_take (i:=18) (v:=undef) rfl (by kernel_rfl) (by kernel_rfl) (by kernel_rfl) (fun _ _ _ h=>h) (Or.inr ⟨by rfl,rfl⟩) (by assumption) ?_
 try simp only[Act.put,zA,zB,zC,zD,zE,zF]
 refine wpAnyH_take (i:=19) (v:=undef) rfl (by kernel_rfl) (by kernel_rfl) (by kernel_rfl) (fun _ _ _ h=>h) (Or.inr ⟨by rfl,rfl⟩) (by assumption) ?_
 try simp only[Act.put,zA,zB,zC,zD,zE,zF]
 refine tk (i:=20) (v:=?_) rfl ?_
 try simp only[Act.put,zA,zB,zC,zD,zE,zF]
 refine tk (i:=21) (v:=?_) rfl ?_
 try simp only[Act.put,zA,zB,zC,zD,zE,zF]
 refine tk (i:=22) (v:=?_) rfl ?_
 try simp only[Act.put,zA,zB,zC,zD,zE,zF]
 refine wpAnyH_ready (rs:=[23]) (by kernel_rfl) (by simp) ?_
 refine AllReadyH.cons rfl (fun K hK9=>?_) AllReadyH.nil
 go_simp
 refine hK9.out _ _ ⟨(set4 _ _ _ _ (by omega) _ _ _ _).trans q0,(set4 _ _ _ _ (by omega) _ _ _ _).trans q1,(set4 _ _ _ _ (by omega) _ _ _ _).trans q3⟩ (fun hHeld3=>?_)
 clear hK9 K hHeld
 refine wpAnyH_done (by kernel_rfl) ?_ _
 clear hHeld3
 go_wp2
 refine bodyPost_ret (v:=.tuple #[.int .i64 kept,.agg #[.bool ng,.bool od,.bool hf,.bool true]]) (by simp[results,Tryz.results126,go_sem,s0,s1,s2,s3]) rfl ⟨rfl,?_⟩
 first
 |exact(hK0.drew.setCell (by simp) _|>.setCell (by simp) _|>.setCell (by simp) _|>.setCell (by simp) _)
 |exact(hK0.setCell (by simp) _|>.setCell (by simp) _|>.setCell (by simp) _|>.setCell (by simp) _).drew
theorem away_1 (ng od hf rt:Bool)(w:World):Calls Tryz.prog 146 #[.agg #[.bool ng,.bool od,.bool hf,.bool rt]] w fun e w'=>e=.returned (.bool (hf&&(rt||od)))∧Kept w w':=by
 cases ng<;>cases od<;>cases hf<;>cases rt
 all_goals
  go_enter Tryz.func146,Tryz.ntmps146
  go_wp2
  go_ret
  exact⟨rfl,(Kept.refl _).alloc _ _⟩
theorem away_2 (ng od hf rt:Bool)(w:World):Calls Tryz.prog 147 #[.agg #[.bool ng,.bool od,.bool hf,.bool rt]] w fun e w'=>e=.returned (.bool (ng&&(hf||rt)))∧Kept w w':=by
 cases ng<;>cases od<;>cases hf<;>cases rt
 all_goals
  go_enter Tryz.func147,Tryz.ntmps147
  go_wp2
  go_ret
  exact⟨rfl,(Kept.refl _).alloc _ _⟩
theorem away_3 (ng od hf rt:Bool)(w:World):Calls Tryz.prog 148 #[.agg #[.bool ng,.bool od,.bool hf,.bool rt]] w fun e w'=>e=.returned (.bool (!ng&&(hf||rt)))∧Kept w w':=by
 cases ng<;>cases od<;>cases hf<;>cases rt
 all_goals
  go_enter Tryz.func148,Tryz.ntmps148
  go_wp2
  go_ret
  exact⟨rfl,(Kept.refl _).alloc _ _⟩
end Go.Proofs.YtnniljhdcplkgaaGreatDoor

namespace Go.Proofs.YtnniljhdcplkgaaGreatDoor
open Go.ChangeShapes Go.WideShapes Go.ChangeAt Go.RowKit
set_option maxHeartbeats 16000000
set_option maxRecDepth 100000
set_option linter.unusedVariables false
set_option linter.unusedSimpArgs false
def hd (v:Nat):Nat:=v*2^60/2^bl v
theorem hd_bounds (v:Nat)(hv:v≠0):2^59≤hd v∧hd v<2^60:=by
 obtain⟨h1,h2,h3⟩:=bl_pos v hv
 unfold hd
 obtain⟨k,hk⟩:∃k,bl v=k+1:=⟨bl v-1,by omega⟩
 rw[hk,Nat.add_sub_cancel]at h1
 rw[hk]at h2 ⊢
 have hp:=Nat.two_pow_pos k
 constructor
 ·rw[Nat.le_div_iff_mul_le (Nat.two_pow_pos _)]
  have:2^59*2^(k+1)=2^k*2^60:=by rw[←Nat.pow_add,←Nat.pow_add];congr 1;omega
  rw[this]
  exact Nat.mul_le_mul_right _ h1
 ·rw[Nat.div_lt_iff_lt_mul (Nat.two_pow_pos _),Nat.mul_comm (2^60)]
  exact Nat.mul_lt_mul_of_pos_right h2 (Nat.two_pow_pos _)
theorem pcz_shift (v:Nat)(p:Int)(hp:-60≤p):pcz v p=((v*2^60/2^(60+p).toNat%1073741824:Nat):Int):=by
 unfold pcz
 split
 ·obtain⟨q,rfl⟩:∃q:Nat,p=q:=⟨p.toNat,by omega⟩
  rw[Int.toNat_natCast,show(60+(q:Int)).toNat=q+60 by omega,Nat.pow_add,Nat.mul_div_mul_right _ _ (Nat.two_pow_pos _)]
 ·obtain⟨q,hq⟩:∃q:Nat,(60+p).toNat=q:=⟨_,rfl⟩
  obtain⟨j,hj⟩:∃j:Nat,(-p).toNat=j:=⟨_,rfl⟩
  rw[hq,hj]
  have:(2:Nat)^60=2^j*2^q:=by rw[←Nat.pow_add];congr 1;omega
  rw[this,←Nat.mul_assoc,Nat.mul_div_cancel _ (Nat.two_pow_pos _)]
theorem pcz_low (v:Nat)(hv:v≠0):pcz v ((bl v:Int)-60)=((hd v%1073741824:Nat):Int):=by
 have:=(bl_pos v hv).2.2
 rw[pcz_shift v _ (by omega),show(60+((bl v:Int)-60)).toNat=bl v by omega]
 rfl
theorem pcz_high (v:Nat)(hv:v≠0):pcz v ((bl v:Int)-60+30)=((hd v/1073741824:Nat):Int):=by
 have:=(bl_pos v hv).2.2
 rw[pcz_shift v _ (by omega),show(60+((bl v:Int)-60+30)).toNat=bl v+30 by omega,Nat.pow_add,←Nat.div_div_eq_div_mul]
 have hb:=(hd_bounds v hv).2
 unfold hd at hb ⊢
 rw[Nat.mod_eq_of_lt]
 rw[Nat.div_lt_iff_lt_mul (by decide)]
 exact hb
theorem or_swap (a b:Int):bits .or .i64 a b=bits .or .i64 b a:=by
 unfold bits
 simp[BitVec.or_comm]
theorem head_or (v:Nat)(hv:v≠0):bits .or .i64 (((hd v/1073741824:Nat):Int)*1073741824) ((hd v%1073741824:Nat):Int)=((hd v:Nat):Int):=by
 have hb:=(hd_bounds v hv).2
 rw[or_swap,show(((hd v/1073741824:Nat):Int)*1073741824)=((hd v/1073741824*2^30:Nat):Int) by rw[show(2:Nat)^30=1073741824 by rfl];omega,or_sum (hd v%1073741824) (hd v/1073741824) 30 (Nat.mod_lt _ (by decide)) (by rw[show(2:Nat)^30=1073741824 by rfl];omega)]
 congr 1
 rw[show(2:Nat)^30=1073741824 by rfl]
 omega
theorem leading_gen (ng:Bool)(ao:Option Addr)(n c:Nat)(hn:0<n)(x:Int)(hx1:-1048576≤x)(hx2:x≤1048576)(B:Nat)(hB:B≤60000)(p1 p0 q1 h:Int)(rs:Bool)(hq:IntKind.i64.wrap (p1*1073741824)=q1)(hor:bits .or .i64 q1 p0=h)(hrs:decide (60<(B:Int))=rs)(w:World)
  (KL:Hid (∀u,Kept w u→Calls Tryz.prog 112 #[.slice ao n c] u fun e w'=>e=.returned (.int .i64 (B:Int))∧u=w'))
  (K1:Hid (∀u,Kept w u→Calls Tryz.prog 114 #[.slice ao n c,.int .i64 ((B:Int)-60+30)] u fun e w'=>e=.returned (.int .i64 p1)∧Kept u w'))
  (K0:Hid (∀u,Kept w u→Calls Tryz.prog 114 #[.slice ao n c,.int .i64 ((B:Int)-60)] u fun e w'=>e=.returned (.int .i64 p0)∧Kept u w')):
  Calls Tryz.prog 140 #[.agg #[.bool ng,.slice ao n c,.int .i64 x]] w fun e w'=>e=.returned (.agg #[.bool ng,.int .i64 h,.int .i64 (x+((B:Int)-60)),.bool rs])∧Kept w w':=by
 have hK:Kept w ((w.alloc (.cells #[.bool ng,.slice ao n c,.int .i64 x] 43)).alloc (.cells #[.bool false,.int .i64 0,.int .i64 0,.bool false] 117)):=((Kept.refl w).alloc _ _).alloc _ _
 have HS:Hid (∀u,Kept ((w.alloc (.cells #[.bool ng,.slice ao n c,.int .i64 x] 43)).alloc (.cells #[.bool false,.int .i64 0,.int .i64 0,.bool false] 117)) u→(u.cell? ⟨w.heap.size,0,none⟩=some (.bool ng)∧u.cell? ⟨w.heap.size,1,none⟩=some (.slice ao n c)∧u.cell? ⟨w.heap.size,2,none⟩=some (.int .i64 x))∧u.cell? ⟨w.heap.size+1,0,none⟩=some (.bool false)∧u.cell? ⟨w.heap.size+1,1,none⟩=some (.int .i64 0)∧u.cell? ⟨w.heap.size+1,2,none⟩=some (.int .i64 0)∧u.cell? ⟨w.heap.size+1,3,none⟩=some (.bool false)∧∀o,u.frozen? ⟨w.heap.size+1,o,none⟩=false):=fun u k=>⟨⟨(k.below.cell (p:=⟨w.heap.size,0,none⟩) (by simp;omega)).trans (by simp[go_sem]),(k.below.cell (p:=⟨w.heap.size,1,none⟩) (by simp;omega)).trans (by simp[go_sem]),(k.below.cell (p:=⟨w.heap.size,2,none⟩) (by simp;omega)).trans (by simp[go_sem])⟩,(k.below.cell (p:=⟨w.heap.size+1,0,none⟩) (by simp)).trans (by simp[go_sem]),(k.below.cell (p:=⟨w.heap.size+1,1,none⟩) (by simp)).trans (by simp[go_sem]),(k.below.cell (p:=⟨w.heap.size+1,2,none⟩) (by simp)).trans (by simp[go_sem]),(k.below.cell (p:=⟨w.heap.size+1,3,none⟩) (by simp)).trans (by simp[go_sem]),fun o=>(k.frozen _).trans (by simp[go_sem])⟩
 have kD:Kept ((w.alloc (.cells #[.bool ng,.slice ao n c,.int .i64 x] 43)).alloc (.cells #[.bool false,.int .i64 0,.int .i64 0,.bool false] 117)) (((w.alloc (.cells #[.bool ng,.slice ao n c,.int .i64 x] 43)).alloc (.cells #[.bool false,.int .i64 0,.int .i64 0,.bool false] 117))).drew:=(Kept.refl _).drew
 have z1:IntKind.i64.wrap ((B:Int)-60)=(B:Int)-60:=by rw[wrap_i64];omega
 have z2:IntKind.i64.wrap ((B:Int)-60+30)=(B:Int)-60+30:=by rw[wrap_i64];omega
 have z3:IntKind.i64.wrap (x+((B:Int)-60))=x+((B:Int)-60):=by rw[wrap_i64];omega
 have hn0:((n:Int)==0)=false:=by simp;omega
 go_enter Tryz.func140,Tryz.ntmps140
 go_wp2_with (first|(go_at_call 112;refine(KL.out _ hK).mono ?_;rintro e w1 ⟨rfl,rfl⟩))
 have e00:=(HS.out _ kD).1
 refine wp_region_held_drew (S:=fun u=>u.cell? ⟨w.heap.size,0,none⟩=some (.bool ng)∧u.cell? ⟨w.heap.size,1,none⟩=some (.slice ao n c)∧u.cell? ⟨w.heap.size,2,none⟩=some (.int .i64 x)) (by kernel_rfl) e00 (fun hHeld=>?_)
 refine tk (i:=0) (v:=?_) rfl ?_
 try simp only[Act.put,zA,zB,zC,zD,zE,zF]
 refine tk (i:=1) (v:=?_) rfl ?_
 try simp only[Act.put,zA,zB,zC,zD,zE,zF]
 refine tk (i:=2) (v:=?_) rfl ?_
 try simp only[Act.put,zA,zB,zC,zD,zE,zF]
 refine tk (i:=3) (v:=?_) rfl ?_
 try simp only[Act.put,zA,zB,zC,zD,zE,zF]
 refine tk (i:=4) (v:=?_) rfl ?_
 try simp only[Act.put,zA,zB,zC,zD,zE,zF]
 refine tk (i:=5) (v:=?_) rfl ?_
 try simp only[Act.put,zA,zB,zC,zD,zE,zF]
 refine tk (i:=8) (v:=?_) rfl ?_
 try simp only[Act.put,zA,zB,zC,zD,zE,zF]
 refine tk (i:=9) (v:=?_) rfl ?_
 try simp only[Act.put,zA,zB,zC,zD,zE,zF]
 refine tk (i:=10) (v:=?_) rfl ?_
 try simp only[Act.put,zA,zB,zC,zD,zE,zF]
 refine tk (i:=13) (v:=?_) rfl ?_
 try simp only[Act.put,zA,zB,zC,zD,zE,zF]
 refine tk (i:=14) (v:=?_) rfl ?_
 try simp only[Act.put,zA,zB,zC,zD,zE,zF]
 refine tk (i:=15) (v:=?_) rfl ?_
 try simp only[Act.put,zA,zB,zC,zD,zE,zF]
 refine tk (i:=16) (v:=?_) rfl ?_
 try simp only[Act.put,zA,zB,zC,zD,zE,zF]
 refine tk (i:=17) (v:=?_) rfl ?_
 try simp only[Act.put,zA,zB,zC,zD,zE,zF]
 refine tk (i:=18) (v:=?_) rfl ?_
 try simp only[Act.put,zA,zB,zC,zD,zE,zF]
 refine wpAnyH_ready (rs:=[6]) (by kernel_rfl) (by simp) ?_
 refine AllReadyH.cons rfl (fun K hK9=>?_) AllReadyH.nil
 go_simp
 go_wp2_with fail
 refine(K1.out _ (hK.trans (kD))).mono ?_
 rintro e u1 ⟨rfl,k1⟩
 have eu1:=(HS.out _ ((kD).trans k1)).1
 refine hK9.out _ _ eu1 (fun hHeldu1=>?_)
 clear hK9 K
 refine tk (i:=7) (v:=?_) rfl ?_
 try simp only[Act.put,zA,zB,zC,zD,zE,zF]
 refine wpAnyH_ready (rs:=[11]) (by kernel_rfl) (by simp) ?_
 refine AllReadyH.cons rfl (fun K hK9=>?_) AllReadyH.nil
 go_simp
 go_wp2_with fail
 refine(K0.out _ (hK.trans (kD.trans k1))).mono ?_
 rintro e u2 ⟨rfl,k2⟩
 have eu2:=(HS.out _ ((kD.trans k1).trans k2)).1
 refine hK9.out _ _ eu2 (fun hHeldu2=>?_)
 clear hK9 K
 refine tk (i:=12) (v:=?_) rfl ?_
 try simp only[Act.put,zA,zB,zC,zD,zE,zF]
 refine tk (i:=19) (v:=?_) rfl ?_
 try simp only[Act.put,zA,zB,zC,zD,zE,zF]
 refine wpAnyH_ready (rs:=[20]) (by kernel_rfl) (by simp) ?_
 refine AllReadyH.cons rfl (fun K hK9=>?_) AllReadyH.nil
 obtain⟨e1,s0,s1,s2,s3,sf⟩:=HS.out _ ((kD.trans k1).trans k2)
 go_simp
 refine hK9.out _ _ ⟨(set4 _ _ _ _ (by omega) _ _ _ _).trans e1.1,(set4 _ _ _ _ (by omega) _ _ _ _).trans e1.2.1,(set4 _ _ _ _ (by omega) _ _ _ _).trans e1.2.2⟩ (fun hHeld9=>?_)
 clear hK9 K
 refine wpAnyH_done (by kernel_rfl) ?_ _
 clear hHeld9
 go_wp2
 refine bodyPost_ret (v:=.agg #[.bool ng,.int .i64 h,.int .i64 (x+((B:Int)-60)),.bool rs]) (by simp[results,Tryz.results140,go_sem,s0,s1,s2,s3]) rfl ⟨rfl,?_⟩
 exact(hK.trans ((kD.trans k1).trans k2)).setCell (by simp) _|>.setCell (by simp) _|>.setCell (by simp) _|>.setCell (by simp) _
theorem leading_any (ng:Bool)(L:List Int)(x:Int)(hne:L≠[])(hv:vld ⟨ng,L,x⟩=true)(ao:Option Addr)(c:Nat)(w:World)(h:Sl w (.slice ao L.length c) L):
  Calls Tryz.prog 140 #[.agg #[.bool ng,.slice ao L.length c,.int .i64 x]] w fun e w'=>e=.returned (.agg #[.bool ng,.int .i64 ((hd (nv L):Nat):Int),.int .i64 (x+((bl (nv L):Int)-60)),.bool (decide (60<(bl (nv L):Int)))])∧Kept w w':=by
 obtain⟨p1,p2,p3,p4,p5,p6⟩:=vld_some ng L x hne hv
 have hpos:=List.length_pos_iff.2 hne
 have hv0:nv L≠0:=fun h0=>by have:=nv_odd L p2 p4;omega
 have hbl:=bl_le _ _ (nv_lt L p2)
 have hb:=hd_bounds _ hv0
 refine leading_gen ng ao L.length c hpos x p5 p6 (bl (nv L)) (by omega) ((hd (nv L)/1073741824:Nat):Int) ((hd (nv L)%1073741824:Nat):Int) (((hd (nv L)/1073741824:Nat):Int)*1073741824) _ _ ?_ (head_or (nv L) hv0) rfl w (fun u k=>length_any L ⟨p2,fun _=>p3⟩ (by omega) _ u (h.kept k)) (fun u k=>?_) (fun u k=>?_)
 ·rw[wrap_i64]
  omega
 ·have:=piece_any L p2 (.slice ao L.length c) ((bl (nv L):Int)-60+30) (by omega) (by omega) u (h.kept k)
  rw[pcz_high _ hv0]at this
  exact this
 ·have:=piece_any L p2 (.slice ao L.length c) ((bl (nv L):Int)-60) (by omega) (by omega) u (h.kept k)
  rw[pcz_low _ hv0]at this
  exact this
end Go.Proofs.YtnniljhdcplkgaaGreatDoor

namespace Go.Proofs.YtnniljhdcplkgaaGreatDoor
open Go.ChangeShapes Go.WideShapes Go.ChangeAt Go.RowKit
set_option maxHeartbeats 16000000
set_option maxRecDepth 100000
set_option linter.unusedVariables false
set_option linter.unusedSimpArgs false
theorem round_zero (n pr le fi:Int)(f:Value)(ex:Int)(ng rs:Bool)(w:World):Calls Tryz.prog 100 #[.agg #[.int .i64 n,.int .i64 pr,.int .i64 le,.int .i64 fi,f],.agg #[.bool ng,.int .i64 0,.int .i64 ex,.bool rs]] w fun e w'=>e=.returned (.tuple #[.int .i64 0,.bool false])∧Kept w w':=by
 go_enter Tryz.func100,Tryz.ntmps100
 go_wp2
 go_ret2
 exact⟨rfl,((Kept.refl _).alloc _ _).alloc _ _⟩
end Go.Proofs.YtnniljhdcplkgaaGreatDoor
