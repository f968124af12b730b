/-  -/
import Derived.Test.YtnniljhdcplkgaaGreatDoorWs10
import Derived.Test.YtnniljhdcplkgaaGreatDoorWs17
namespace Go.Proofs.YtnniljhdcplkgaaGreatDoor
open Go.ChangeShapes Go.WideShapes Go.ChangeAt Go.RowKit
set_option maxHeartbeats 16000000
set_option maxRecDepth 100000
set_option linter.unusedVariables false
set_option linter.unusedSimpArgs false
theorem product_walk (n1 n2:Bool)(a1 a2:Option Addr)(l1 c1 l2 c2:Nat)(x1 x2:Int)(b1 b2 n:Nat)(hn:l1+l2=n)(hx1:-1048576≤x1∧x1≤1048576)(hx2:-1048576≤x2∧x2≤1048576)(hb1:b1≤60000)(hb2:b2≤60000)(hy1:(b1:Int)+b2-1≤60000)(hy2:-1048576≤x1+x2)(hy3:x1+x2≤1048576)(w:World)
  (hl1:l1≤2000) (hl2:l2≤2000) (L1 L2:List Int) (HL1:Hid (L1.length=l1)) (HL2:Hid (L2.length=l2)) (D1:Dg L1) (D2:Dg L2)
  (K1:Hid (∀u,Kept w u→Calls Tryz.prog 112 #[.slice a1 l1 c1] u fun e w'=>e=.returned (.int .i64 (b1:Int))∧u=w')) (K2:Hid (∀u,Kept w u→Calls Tryz.prog 112 #[.slice a2 l2 c2] u fun e w'=>e=.returned (.int .i64 (b2:Int))∧u=w'))
  (HA:Hid (∀u,Kept w u→∀i,i<l1→∃b off,a1=some ⟨b,off,none⟩∧u.cell? ⟨b,off+i,none⟩=some (.int .i64 (L1.getD i 0))))
  (HB:Hid (∀u,Kept w u→∀i,i<l2→∃b off,a2=some ⟨b,off,none⟩∧u.cell? ⟨b,off+i,none⟩=some (.int .i64 (L2.getD i 0))))
  (Res:Option Nm) (KF:Hid (∀u0 u g D,Kept w u0→Kept u0 u→u0.heap.size≤g→Own u g n D→Dg D→D.length=n→nv D=nv L1*nv L2→Calls Tryz.prog 74 #[.bool (!(n1==n2)),.slice (some ⟨g,0,none⟩) n n,.int .i64 (x1+x2)] u fun e w'=>ToldR Res u0 w' e∧Kept u0 w')):
  Calls Tryz.prog 108 #[.agg #[.bool n1,.slice a1 l1 c1,.int .i64 x1],.agg #[.bool n2,.slice a2 l2 c2,.int .i64 x2]] w fun e w'=>ToldR Res w w' e∧Kept w w':=by
 have hK:Kept w (((w.alloc (.cells #[.bool n1,.slice a1 l1 c1,.int .i64 x1] 43)).alloc (.cells #[.bool n2,.slice a2 l2 c2,.int .i64 x2] 43)).alloc nilNum):=(((Kept.refl w).alloc _ _).alloc _ _).alloc _ _
 have z1:IntKind.i64.wrap ((b1:Int)+(b2:Int))=(b1:Int)+(b2:Int):=by rw[wrap_i64];omega
 have z2:IntKind.i64.wrap ((b1:Int)+(b2:Int)-1)=(b1:Int)+(b2:Int)-1:=by rw[wrap_i64];omega
 have z3:IntKind.i64.wrap (x1+x2)=x1+x2:=by rw[wrap_i64];omega
 have z4:IntKind.i64.wrap ((l1:Int)+(l2:Int))=(n:Int):=by rw[wrap_i64];omega
 have HS:Hid (∀u,Kept (((w.alloc (.cells #[.bool n1,.slice a1 l1 c1,.int .i64 x1] 43)).alloc (.cells #[.bool n2,.slice a2 l2 c2,.int .i64 x2] 43)).alloc nilNum) u→((u.cell? ⟨w.heap.size,0,none⟩=some (.bool n1)∧u.cell? ⟨w.heap.size,1,none⟩=some (.slice a1 l1 c1))∧u.cell? ⟨w.heap.size,2,none⟩=some (.int .i64 x1))∧(u.cell? ⟨w.heap.size+1,0,none⟩=some (.bool n2)∧u.cell? ⟨w.heap.size+1,1,none⟩=some (.slice a2 l2 c2))∧u.cell? ⟨w.heap.size+1,2,none⟩=some (.int .i64 x2)):=fun u k=>⟨⟨⟨(k.below.cell (p:=⟨w.heap.size,0,none⟩) (by simp<;>omega)).trans (by simp[go_sem]),(k.below.cell (p:=⟨w.heap.size,1,none⟩) (by simp<;>omega)).trans (by simp[go_sem])⟩,(k.below.cell (p:=⟨w.heap.size,2,none⟩) (by simp<;>omega)).trans (by simp[go_sem])⟩,⟨(k.below.cell (p:=⟨w.heap.size+1,0,none⟩) (by simp<;>omega)).trans (by simp[go_sem]),(k.below.cell (p:=⟨w.heap.size+1,1,none⟩) (by simp<;>omega)).trans (by simp[go_sem])⟩,(k.below.cell (p:=⟨w.heap.size+1,2,none⟩) (by simp<;>omega)).trans (by simp[go_sem])⟩
 have HW:=make_run n (by omega)
 have HZ:(n:Int)<5000:=by omega
 obtain⟨W,hW⟩:∃W,W=(((w.alloc (.cells #[.bool n1,.slice a1 l1 c1,.int .i64 x1] 43)).alloc (.cells #[.bool n2,.slice a2 l2 c2,.int .i64 x2] 43)).alloc nilNum):=⟨_,rfl⟩
 have hWs:W.heap.size=w.heap.size+3:=by rw[hW];simp
 have HC:Hid (W.cell? ⟨w.heap.size+1+1,0,none⟩=some (.bool false)∧W.cell? ⟨w.heap.size+1+1,1,none⟩=some (.slice none 0 0)∧W.cell? ⟨w.heap.size+1+1,2,none⟩=some (.int .i64 0)∧∀o,W.frozen? ⟨w.heap.size+1+1,o,none⟩=false):=by rw[hW];exact⟨by simp[go_sem],by simp[go_sem],by simp[go_sem],fun o=>by simp[go_sem]⟩
 rw[←hW]at hK HS
 go_enter Tryz.func108,Tryz.ntmps108
 go_wp2_with fail
 rw[←hW]
 clear hW
 have e0:=HS.out _ (Kept.refl _).drew
 refine wp_region_held_drew (S:=fun u=>((u.cell? ⟨w.heap.size,0,none⟩=some (.bool n1)∧u.cell? ⟨w.heap.size,1,none⟩=some (.slice a1 l1 c1))∧u.cell? ⟨w.heap.size,2,none⟩=some (.int .i64 x1))∧(u.cell? ⟨w.heap.size+1,0,none⟩=some (.bool n2)∧u.cell? ⟨w.heap.size+1,1,none⟩=some (.slice a2 l2 c2))∧u.cell? ⟨w.heap.size+1,2,none⟩=some (.int .i64 x2)) (by kernel_rfl) e0 (fun hHeld=>?_)
 refine tk (i:=0) (v:=?_) rfl ?_
 simp only[Act.put,zA,zB,zC,zD,zE,zF]
 refine tk (i:=1) (v:=?_) rfl ?_
 simp only[Act.put,zA,zB,zC,zD,zE,zF]
 refine tk (i:=3) (v:=?_) rfl ?_
 simp only[Act.put,zA,zB,zC,zD,zE,zF]
 refine tk (i:=4) (v:=?_) rfl ?_
 simp only[Act.put,zA,zB,zC,zD,zE,zF]
 refine tk (i:=8) (v:=?_) rfl ?_
 simp only[Act.put,zA,zB,zC,zD,zE,zF]
 refine tk (i:=9) (v:=?_) rfl ?_
 simp only[Act.put,zA,zB,zC,zD,zE,zF]
 refine tk (i:=10) (v:=?_) rfl ?_
 simp only[Act.put,zA,zB,zC,zD,zE,zF]
 refine tk (i:=11) (v:=?_) rfl ?_
 simp only[Act.put,zA,zB,zC,zD,zE,zF]
 refine tk (i:=12) (v:=?_) rfl ?_
 simp only[Act.put,zA,zB,zC,zD,zE,zF]
 refine wpAnyH_ready (rs:=[2]) (by kernel_rfl) (by simp) ?_
 refine AllReadyH.cons rfl (fun K hK9=>?_) AllReadyH.nil
 go_simp
 go_wp2_with fail
 refine(K1.out _ hK.drew).mono ?_
 rintro e u1 ⟨rfl,rfl⟩
 refine hK9.out _ _ e0 (fun hHeld2=>?_)
 clear hK9 K
 refine wpAnyH_ready (rs:=[5]) (by kernel_rfl) (by simp) ?_
 refine AllReadyH.cons rfl (fun K hK9=>?_) AllReadyH.nil
 go_simp
 go_wp2_with fail
 refine(K2.out _ hK.drew).mono ?_
 rintro e u1 ⟨rfl,rfl⟩
 refine hK9.out _ _ e0 (fun hHeld3=>?_)
 clear hK9 K
 refine tk (i:=6) (v:=?_) rfl ?_
 simp only[Act.put,zA,zB,zC,zD,zE,zF]
 refine tk (i:=7) (v:=?_) rfl ?_
 simp only[Act.put,zA,zB,zC,zD,zE,zF]
 refine wpAnyH_ready (rs:=[13]) (by kernel_rfl) (by simp) ?_
 refine AllReadyH.cons rfl (fun K hK9=>?_) AllReadyH.nil
 go_simp
 go_wp2_with fail
 refine(fit_yes _ _ hy1 hy2 hy3 _).mono ?_
 rintro e u1 ⟨rfl,rfl⟩
 refine hK9.out _ _ e0 (fun hHeld4=>?_)
 clear hK9 K
 refine wpAnyH_done (by kernel_rfl) ?_ _
 clear hHeld hHeld2 hHeld3 hHeld4
 have k1:Kept W (W.alloc (.cells (madeCells #[.int .i64 0] n) 3)).drew:=((Kept.refl W).alloc _ _).drew
 have e1:=HS.out _ k1
 have o1:=(own_made n (by omega) W).kept (Kept.refl _).drew
 rw[hWs]at o1
 obtain⟨W1,hW1⟩:∃W1,W1=(W.alloc (.cells (madeCells #[.int .i64 0] n) 3)).drew:=⟨_,rfl⟩
 rw[←hW1]at k1 e1 o1
 have HR:Hid (∀u,Grw (w.heap.size+3) W1 u→Kept W u):=fun u hu=>k1.grw (by omega) hu
 have HP0:Hid (PRow L1 L2 n 0 0 (List.replicate n 0) 0):=.start (by simp) (fun d hd=>by rw[List.eq_of_mem_replicate hd];decide) (by rw[nv_replicate];simp[cv]) (fun k _=>getD_replicate n k)
 have HO1:Hid (Own W1 (w.heap.size+3) n (List.replicate n 0)):=o1
 clear o1
 rw[hW1]at e1
 go_wp2_with fail
 rw[←hW1]
 clear hW1 e1 e0 k1
 go_loopw [34] (fun iv wr=>∃(i:Nat) (D:List Int),i≤l1∧iv=.int .i64 i∧Own wr (w.heap.size+3) n D∧Grw (w.heap.size+3) W1 wr∧PRow L1 L2 n i 0 D 0) (fun iv _=>l1-(intOf iv).toNat)
 case atStart=>exact⟨0,_,Nat.zero_le _,rfl,HO1.out,Grw.refl _ _,HP0.out⟩
 case round=>
  obtain⟨i,D,hi,rfl,hO,hG,hP⟩:=hrel
  have kr:=HR.out _ hG
  have er:=HS.out _ kr
  have HO:Hid (Own wr (w.heap.size+3) n D):=hO
  have HG:Hid (Grw (w.heap.size+3) W1 wr):=hG
  have HP:Hid (PRow L1 L2 n i 0 D 0):=hP
  clear hO hG hP HO1 HP0
  by_cases hil:i<l1
  ·obtain⟨p1,o1,rfl,-⟩:=HA.out _ (hK.trans kr) i hil
   go_wp2_with fail
   go_loopw [40,7] (fun jv ov wr=>∃(j:Nat) (o:Int) (D:List Int),j≤l2∧jv=.int .i64 j∧ov=.int .i64 o∧Own wr (w.heap.size+3) n D∧Grw (w.heap.size+3) W1 wr∧PRow L1 L2 n i j D o) (fun jv _ _=>l2-(intOf jv).toNat)
   case atStart=>exact⟨0,0,D,Nat.zero_le _,rfl,rfl,HO.out,HG.out,HP.out⟩
   case round=>
    clear HO HG HP kr er D
    obtain⟨j,o,D,hj,rfl,rfl,hO,hG,hP⟩:=hrel
    have kr:=HR.out _ hG
    have er:=HS.out _ kr
    by_cases hjl:j<l2
    ·obtain⟨p2,o2,rfl,cb⟩:=HB.out _ (hK.trans kr) j hjl
     obtain⟨p1',o1',he,ca⟩:=HA.out _ (hK.trans kr) i hil
     cases he
     have hl:D.length=n:=hP.len
     have cd:=hO.cell (i+j) (by rw[hl];omega)
     have hf:=hO.free (i+j)
     have hdd:=hP.dg.getD (i+j)
     have ha:=D1.getD i
     have hb:=D2.getD j
     have hm:=mul_lt_60 _ _ ha.1 ha.2 hb.1 hb.2
     have q0:=hP.o0
     have q1:=hP.o1
     obtain⟨T,hT⟩:∃T,o+D.getD (i+j) 0+L1.getD i 0*L2.getD j 0=T:=⟨_,rfl⟩
     have hst:=hP.step D1 D2 (by rw[HL2.out];exact hjl) (by omega) T hT
     have HST:Hid (PRow L1 L2 n i (j+1) (D.set (i+j) (T%1073741824)) (T/1073741824)):=hst
     have HO:Hid (Own wr (w.heap.size+3) n D):=hO
     have HG:Hid (Grw (w.heap.size+3) W1 wr):=hG
     have hmask:=mask30 T
     have y1:IntKind.i64.wrap (L1.getD i 0*L2.getD j 0)=L1.getD i 0*L2.getD j 0:=by rw[wrap_i64];omega
     have y2:IntKind.i64.wrap (D.getD (i+j) 0+L1.getD i 0*L2.getD j 0)=D.getD (i+j) 0+L1.getD i 0*L2.getD j 0:=by rw[wrap_i64];omega
     have y3:IntKind.i64.wrap (o+(D.getD (i+j) 0+L1.getD i 0*L2.getD j 0))=T:=by rw[wrap_i64];omega
     have y4:IntKind.i64.wrap ((i:Int)+(j:Int))=(i:Int)+(j:Int):=by rw[wrap_i64];omega
     have HT2:Hid (wrap64 (o+wrap64 (D.getD (i+j) 0+wrap64 (L1.getD i 0*L2.getD j 0)))=T):=by
      show wrap64 (o+wrap64 (D.getD (i+j) 0+wrap64 (L1.getD i 0*L2.getD j 0)))=T
      unfold wrap64
      omega
     clear hP hst hO hG hT hl y1 y2 y3 hmask hm
     generalize hda:L1.getD i 0=da at *
     generalize hdb:L2.getD j 0=db at *
     generalize hdc:D.getD (i+j) 0=dc at *
     have hG0:=HG.out
     have eS:((((wr.drew.cell? ⟨w.heap.size,0,none⟩=some (.bool n1)∧wr.drew.cell? ⟨w.heap.size,1,none⟩=some (.slice (some ⟨p1,o1,none⟩) l1 c1))∧wr.drew.cell? ⟨w.heap.size,2,none⟩=some (.int .i64 x1))∧(wr.drew.cell? ⟨w.heap.size+1,0,none⟩=some (.bool n2)∧wr.drew.cell? ⟨w.heap.size+1,1,none⟩=some (.slice (some ⟨p2,o2,none⟩) l2 c2))∧wr.drew.cell? ⟨w.heap.size+1,2,none⟩=some (.int .i64 x2))∧wr.drew.cell? ⟨w.heap.size+3,i+j,none⟩=some (.int .i64 dc)∧wr.drew.cell? ⟨p1,o1+i,none⟩=some (.int .i64 da)∧wr.drew.cell? ⟨p2,o2+j,none⟩=some (.int .i64 db)):=by
      have q:=HS.out _ kr.drew
      exact⟨q,cd,ca,cb⟩
     have hidx:0≤(i:Int)+(j:Int)∧(i:Int)+(j:Int)<(n:Int):=by omega
     have hnat:((i:Int)+(j:Int)).toNat=i+j:=by omega
     go_wp2_with fail
     refine wp_region_held_drew (S:=fun u=>(((u.cell? ⟨w.heap.size,0,none⟩=some (.bool n1)∧u.cell? ⟨w.heap.size,1,none⟩=some (.slice (some ⟨p1,o1,none⟩) l1 c1))∧u.cell? ⟨w.heap.size,2,none⟩=some (.int .i64 x1))∧(u.cell? ⟨w.heap.size+1,0,none⟩=some (.bool n2)∧u.cell? ⟨w.heap.size+1,1,none⟩=some (.slice (some ⟨p2,o2,none⟩) l2 c2))∧u.cell? ⟨w.heap.size+1,2,none⟩=some (.int .i64 x2))∧u.cell? ⟨w.heap.size+3,i+j,none⟩=some (.int .i64 dc)∧u.cell? ⟨p1,o1+i,none⟩=some (.int .i64 da)∧u.cell? ⟨p2,o2+j,none⟩=some (.int .i64 db)) (by kernel_rfl) eS (fun hHeld=>?_)
     refine tk (i:=0) (v:=?_) rfl ?_
     simp only[Act.put,zA,zB,zC,zD,zE,zF]
     refine tk (i:=1) (v:=?_) rfl ?_
     simp only[Act.put,zA,zB,zC,zD,zE,zF]
     refine tk (i:=2) (v:=?_) rfl ?_
     simp only[Act.put,zA,zB,zC,zD,zE,zF]
     refine tk (i:=3) (v:=?_) rfl ?_
     simp only[Act.put,zA,zB,zC,zD,zE,zF]
     refine tk (i:=4) (v:=?_) rfl ?_
     simp only[Act.put,zA,zB,zC,zD,zE,zF]
     refine tk (i:=5) (v:=?_) rfl ?_
     simp only[Act.put,zA,zB,zC,zD,zE,zF]
     refine tk (i:=6) (v:=?_) rfl ?_
     simp only[Act.put,zA,zB,zC,zD,zE,zF]
     refine tk (i:=7) (v:=?_) rfl ?_
     simp only[Act.put,zA,zB,zC,zD,zE,zF]
     refine tk (i:=8) (v:=?_) rfl ?_
     simp only[Act.put,zA,zB,zC,zD,zE,zF]
     refine tk (i:=9) (v:=?_) rfl ?_
     simp only[Act.put,zA,zB,zC,zD,zE,zF]
     refine tk (i:=10) (v:=?_) rfl ?_
     simp only[Act.put,zA,zB,zC,zD,zE,zF]
     refine tk (i:=11) (v:=?_) rfl ?_
     simp only[Act.put,zA,zB,zC,zD,zE,zF]
     refine tk (i:=12) (v:=?_) rfl ?_
     simp only[Act.put,zA,zB,zC,zD,zE,zF]
     refine tk (i:=13) (v:=?_) rfl ?_
     simp only[Act.put,zA,zB,zC,zD,zE,zF]
     refine tk (i:=14) (v:=?_) rfl ?_
     simp only[Act.put,zA,zB,zC,zD,zE,zF]
     refine tk (i:=15) (v:=?_) rfl ?_
     simp only[Act.put,zA,zB,zC,zD,zE,zF]
     refine tk (i:=16) (v:=?_) rfl ?_
     simp only[Act.put,zA,zB,zC,zD,zE,zF]
     refine tk (i:=17) (v:=?_) rfl ?_
     simp only[Act.put,zA,zB,zC,zD,zE,zF]
     refine tk (i:=18) (v:=?_) rfl ?_
     simp only[Act.put,zA,zB,zC,zD,zE,zF]
     refine tk (i:=19) (v:=?_) rfl ?_
     simp only[Act.put,zA,zB,zC,zD,zE,zF]
     refine tk (i:=20) (v:=?_) rfl ?_
     simp only[Act.put,zA,zB,zC,zD,zE,zF]
     refine wpAnyH_done (by kernel_rfl) ?_ _
     clear hHeld eS
     have hf2:wr.drew.frozen? ⟨w.heap.size+3,i+j,none⟩=false:=hf
     have cd2:wr.drew.cell? ⟨w.heap.size+3,i+j,none⟩=some (.int .i64 dc):=cd
     go_wp2
     go_roundw
     case rel=>exact⟨j+1,_,_,by omega,by go_num,rfl,(HO.out.kept (Kept.refl _).drew).set _ _,(HG.out.trans (Kept.toGrw _ (Kept.refl _).drew)).setCell _ _,by rw[HT2.out,mask30];exact HST.out⟩
     case measure=>simp[intOf];omega
    ·obtain rfl:j=l2:=by omega
     have hl:D.length=n:=hP.len
     have cd:=hO.cell (i+j) (by rw[hl];omega)
     have hf:=hO.free (i+j)
     have hL2:=HL2.out
     subst hL2
     have hfin:=hP.finish (by rw[HL1.out];exact hil) (by omega)
     have HF:Hid (PRow L1 L2 n (i+1) 0 (D.set (i+L2.length) o) 0):=hfin
     have HO:Hid (Own wr (w.heap.size+3) n D):=hO
     have HG:Hid (Grw (w.heap.size+3) W1 wr):=hG
     have y4:IntKind.i64.wrap ((i:Int)+(L2.length:Int))=((i+L2.length:Nat):Int):=by rw[wrap_i64];omega
     clear hP hfin hO hG hl
     generalize D.getD (i+L2.length) 0=dc at *
     go_wp2
     go_roundw
     case rel=>exact⟨i+1,_,by omega,by go_num,HO.out.set _ _,HG.out.setCell _ _,HF.out⟩
     case measure=>simp[intOf];omega
  ·obtain rfl:i=l1:=by omega
   have hL1:=HL1.out
   subst hL1
   have hl:D.length=n:=HP.out.len
   obtain⟨hDg,hnv⟩:=HP.out.last rfl D1 D2
   go_wp2_with fail
   refine(KF.out W wr (w.heap.size+3) D hK kr (by omega) HO.out hDg hl hnv).mono ?_
   rintro e w1 ⟨hr,hk1⟩
   have hc:=HC.out
   obtain⟨f0,f1,f2,f3⟩:=res_cells (w.heap.size+1+1) (by omega) hk1 hc.1 hc.2.1 hc.2.2.1 hc.2.2.2
   clear KF HS HA HB K1 K2 HW
   cases Res with
   |none=>
    obtain rfl:e=.panicked gaveUp:=hr
    exact⟨rfl,rfl,hK.trans hk1⟩
   |some r=>
    obtain⟨v,rfl,hN⟩:=hr
    obtain⟨vn,va,vl,vc,vx,rfl⟩:=hN.shape
    go_wp2
    have:=res_done (w.heap.size+1+1) (by omega) (by omega) hK hN hk1 (.bool vn) (.slice va vl vc) (.int .i64 vx)
    exact bodyPost_ret (v:=.agg #[.bool vn,.slice va vl vc,.int .i64 vx]) (by simp[results,Tryz.results108,go_sem,f0,f1,f2]) rfl ⟨⟨_,rfl,this.1⟩,this.2⟩
end Go.Proofs.YtnniljhdcplkgaaGreatDoor
namespace Go.Proofs.YtnniljhdcplkgaaGreatDoor
open Go.ChangeShapes Go.WideShapes Go.ChangeAt Go.RowKit
set_option maxHeartbeats 16000000
set_option maxRecDepth 100000
set_option linter.unusedVariables false
set_option linter.unusedSimpArgs false
end Go.Proofs.YtnniljhdcplkgaaGreatDoor
namespace Go.Proofs.YtnniljhdcplkgaaGreatDoor
open Go.ChangeShapes Go.WideShapes Go.ChangeAt Go.RowKit
set_option maxHeartbeats 16000000
set_option maxRecDepth 100000
set_option linter.unusedVariables false
set_option linter.unusedSimpArgs false
end Go.Proofs.YtnniljhdcplkgaaGreatDoor
namespace Go.Proofs.YtnniljhdcplkgaaGreatDoor
open Go.ChangeShapes Go.WideShapes Go.ChangeAt Go.RowKit
set_option maxHeartbeats 16000000
set_option maxRecDepth 100000
set_option linter.unusedVariables false
set_option linter.unusedSimpArgs false
def ng (a:Nm):Nm:=⟨!a.neg,a.mag,a.exp⟩
theorem vld_ng (n:Bool)(L:List Int)(x:Int)(h:vld ⟨n,L,x⟩=true):L≠[]→vld ⟨!n,L,x⟩=true:=by
 intro hne
 unfold vld at h ⊢
 dsimp only at h ⊢
 rw[if_neg hne]at h ⊢
 exact h
end Go.Proofs.YtnniljhdcplkgaaGreatDoor
namespace Go.Proofs.YtnniljhdcplkgaaGreatDoor
open Go.ChangeShapes Go.WideShapes Go.ChangeAt Go.RowKit
set_option maxHeartbeats 16000000
set_option maxRecDepth 100000
set_option linter.unusedVariables false
set_option linter.unusedSimpArgs false
theorem sl_reads {w u:World}{a:Option Addr}{L:List Int}{c:Nat}(h:Sl w (.slice a L.length c) L)(k:Kept w u)(i:Nat)(hi:i<L.length):∃b off,a=some ⟨b,off,none⟩∧u.cell? ⟨b,off+i,none⟩=some (.int .i64 (L.getD i 0)):=by
 obtain⟨ao,cap,e,hc,hm,hr⟩:=h.kept k
 cases e
 have hne:L≠[]:=by
  intro e
  subst e
  simp at hi
 obtain⟨b,off,rfl,hb,hr⟩:=hr hne
 exact⟨b,off,rfl,hr i hi⟩
theorem product_any (w:World)(hT:Tab w)(n1:Bool)(L1:List Int)(x1:Int)(hv1:vld ⟨n1,L1,x1⟩=true)(a1:Option Addr)(c1:Nat)(n2:Bool)(L2:List Int)(x2:Int)(hv2:vld ⟨n2,L2,x2⟩=true)(a2:Option Addr)(c2:Nat)(h1:Sl w (.slice a1 L1.length c1) L1)(h2:Sl w (.slice a2 L2.length c2) L2)(Res:Option Nm)(hRes:mulN ⟨n1,L1,x1⟩ ⟨n2,L2,x2⟩=Res):Calls Tryz.prog 108 #[.agg #[.bool n1,.slice a1 L1.length c1,.int .i64 x1],.agg #[.bool n2,.slice a2 L2.length c2,.int .i64 x2]] w fun e w'=>ToldR Res w w' e∧Kept w w':=by
 have hb:∀(n:Bool) (L:List Int) (x:Int),vld ⟨n,L,x⟩=true→Dg L∧Cn L∧bl (nv L)≤60000∧L.length≤2000∧-1048576≤x∧x≤1048576:=by
  intro n L x h
  by_cases e:L=[]
  ·subst e
   obtain⟨-,rfl⟩:=vld_nil _ _ h
   exact⟨Dg.nil,⟨Dg.nil,fun h=>absurd rfl h⟩,by simp[nv,bl],by simp,by omega,by omega⟩
  ·obtain⟨p1,p2,p3,p4,p5,p6⟩:=vld_some n L x e h
   have:=len_bl L p2 e p3
   exact⟨p2,⟨p2,fun _=>p3⟩,by omega,p1,p5,p6⟩
 obtain⟨d1,k1,b1,l1,p1,q1⟩:=hb n1 L1 x1 hv1
 obtain⟨d2,k2,b2,l2,p2,q2⟩:=hb n2 L2 x2 hv2
 unfold mulN at hRes
 dsimp only at hRes
 by_cases hfit:(bl (nv L1):Int)+(bl (nv L2):Int)-1≤60000∧-1048576≤x1+x2∧x1+x2≤1048576
 ·rw[if_pos hfit]at hRes
  refine product_walk n1 n2 a1 a2 L1.length c1 L2.length c2 x1 x2 (bl (nv L1)) (bl (nv L2)) _ rfl ⟨p1,q1⟩ ⟨p2,q2⟩ b1 b2 hfit.1 hfit.2.1 hfit.2.2 w l1 l2 L1 L2 rfl rfl d1 d2 (fun u k=>length_any L1 k1 (by omega) _ u (h1.kept k)) (fun u k=>length_any L2 k2 (by omega) _ u (h2.kept k)) (fun u k i hi=>sl_reads h1 k i hi) (fun u k i hi=>sl_reads h2 k i hi) Res ?_
  intro u0 u g D k0 k hg ho hD hl hnv
  have hf:frm (!(n1==n2)) (nv D) (x1+x2)=Res:=by rw[hnv];exact hRes
  rw[←hl]at ho ⊢
  cases Res with
  |some r=>
   refine(form_ok _ D hD (by omega) g D.length _ u0 u k hg ho ((hT.kept k0).kept k) r hf).mono ?_
   rintro e w' ⟨⟨v,rfl,hN⟩,kk⟩
   exact⟨⟨v,rfl,hN⟩,kk⟩
  |none=>
   refine(form_no _ D hD (by omega) g D.length _ u ho ((hT.kept k0).kept k) hf).mono ?_
   rintro e w' ⟨rfl,kk⟩
   exact⟨rfl,k.trans kk⟩
 ·rw[if_neg hfit]at hRes
  subst hRes
  refine(product_far n1 n2 a1 a2 L1.length c1 L2.length c2 x1 x2 _ _ ⟨p1,q1⟩ ⟨p2,q2⟩ b1 b2 (by omega) w (fun u k=>length_any L1 k1 (by omega) _ u (h1.kept k)) (fun u k=>length_any L2 k2 (by omega) _ u (h2.kept k))).mono ?_
  rintro e w' ⟨rfl,kk⟩
  exact⟨rfl,kk⟩
theorem mulz_in_ok (w:World)(hT:Tab w)(n1:Bool)(L1:List Int)(x1:Int)(hv1:vld ⟨n1,L1,x1⟩=true)(a1:Option Addr)(c1:Nat)(n2:Bool)(L2:List Int)(x2:Int)(hv2:vld ⟨n2,L2,x2⟩=true)(a2:Option Addr)(c2:Nat)(h1:Sl w (.slice a1 L1.length c1) L1)(h2:Sl w (.slice a2 L2.length c2) L2)(r:Nm)(hf:mulN ⟨n1,L1,x1⟩ ⟨n2,L2,x2⟩=some r)(p q:Nat)(hp:p<w.heap.size)(hq:q<w.heap.size)(cp0:w.cell? ⟨p,0,none⟩=some (.bool n1))(cp1:w.cell? ⟨p,1,none⟩=some (.slice a1 L1.length c1))(cp2:w.cell? ⟨p,2,none⟩=some (.int .i64 x1))(cq0:w.cell? ⟨q,0,none⟩=some (.bool n2))(cq1:w.cell? ⟨q,1,none⟩=some (.slice a2 L2.length c2))(cq2:w.cell? ⟨q,2,none⟩=some (.int .i64 x2)):Calls Tryz.prog 107 #[.pointer (some ⟨p,0,none⟩),.pointer (some ⟨q,0,none⟩)] w fun e w'=>(∃v,e=.returned v∧New w w' v r)∧Kept w w':=by
 have hK:Kept w (numW w):=(Kept.refl w).alloc _ _
 have KS:Hid (Calls Tryz.prog 108 #[.agg #[.bool n1,.slice a1 L1.length c1,.int .i64 x1],.agg #[.bool n2,.slice a2 L2.length c2,.int .i64 x2]] (numW w) fun e w'=>ToldR (some r) (numW w) w' e∧Kept (numW w) w'):=product_any (numW w) (hT.kept hK) n1 L1 x1 hv1 a1 c1 n2 L2 x2 hv2 a2 c2 (h1.kept hK) (h2.kept hK) (some r) hf
 have ep0:(numW w).cell? ⟨p,0,none⟩=some (.bool n1):=(hK.below.cell (p:=⟨p,0,none⟩) hp).trans cp0
 have ep1:(numW w).cell? ⟨p,1,none⟩=some (.slice a1 L1.length c1):=(hK.below.cell (p:=⟨p,1,none⟩) hp).trans cp1
 have ep2:(numW w).cell? ⟨p,2,none⟩=some (.int .i64 x1):=(hK.below.cell (p:=⟨p,2,none⟩) hp).trans cp2
 have eq0:(numW w).cell? ⟨q,0,none⟩=some (.bool n2):=(hK.below.cell (p:=⟨q,0,none⟩) hq).trans cq0
 have eq1:(numW w).cell? ⟨q,1,none⟩=some (.slice a2 L2.length c2):=(hK.below.cell (p:=⟨q,1,none⟩) hq).trans cq1
 have eq2:(numW w).cell? ⟨q,2,none⟩=some (.int .i64 x2):=(hK.below.cell (p:=⟨q,2,none⟩) hq).trans cq2
 clear h1 h2 hT hf hv1 hv2 cp0 cp1 cp2 cq0 cq1 cq2
 generalize L1.length=l1 at *
 generalize L2.length=l2 at *
 go_enter Tryz.func107,Tryz.ntmps107
 go_wp2_with (first|(go_at_call 108;refine KS.out.mono ?_;rintro e w1 ⟨⟨v,rfl,hN⟩,hk1⟩;obtain⟨vn,va,vl,vc,vx,rfl⟩:=hN.shape;obtain⟨f0,f1,f2,f3⟩:=num_cells hk1))
 have:=num_done hN hk1 (.bool vn) (.slice va vl vc) (.int .i64 vx)
 exact bodyPost_ret (v:=.agg #[.bool vn,.slice va vl vc,.int .i64 vx]) (by simp[results,Tryz.results107,go_sem,f0,f1,f2]) rfl ⟨⟨_,rfl,this.1⟩,this.2⟩
theorem mulz_in_no (w:World)(hT:Tab w)(n1:Bool)(L1:List Int)(x1:Int)(hv1:vld ⟨n1,L1,x1⟩=true)(a1:Option Addr)(c1:Nat)(n2:Bool)(L2:List Int)(x2:Int)(hv2:vld ⟨n2,L2,x2⟩=true)(a2:Option Addr)(c2:Nat)(h1:Sl w (.slice a1 L1.length c1) L1)(h2:Sl w (.slice a2 L2.length c2) L2)(hf:mulN ⟨n1,L1,x1⟩ ⟨n2,L2,x2⟩=none)(p q:Nat)(hp:p<w.heap.size)(hq:q<w.heap.size)(cp0:w.cell? ⟨p,0,none⟩=some (.bool n1))(cp1:w.cell? ⟨p,1,none⟩=some (.slice a1 L1.length c1))(cp2:w.cell? ⟨p,2,none⟩=some (.int .i64 x1))(cq0:w.cell? ⟨q,0,none⟩=some (.bool n2))(cq1:w.cell? ⟨q,1,none⟩=some (.slice a2 L2.length c2))(cq2:w.cell? ⟨q,2,none⟩=some (.int .i64 x2)):Calls Tryz.prog 107 #[.pointer (some ⟨p,0,none⟩),.pointer (some ⟨q,0,none⟩)] w fun e w'=>e=.panicked gaveUp∧Kept w w':=by
 have hK:Kept w (numW w):=(Kept.refl w).alloc _ _
 have KS:Hid (Calls Tryz.prog 108 #[.agg #[.bool n1,.slice a1 L1.length c1,.int .i64 x1],.agg #[.bool n2,.slice a2 L2.length c2,.int .i64 x2]] (numW w) fun e w'=>ToldR (none) (numW w) w' e∧Kept (numW w) w'):=product_any (numW w) (hT.kept hK) n1 L1 x1 hv1 a1 c1 n2 L2 x2 hv2 a2 c2 (h1.kept hK) (h2.kept hK) (none) hf
 have ep0:(numW w).cell? ⟨p,0,none⟩=some (.bool n1):=(hK.below.cell (p:=⟨p,0,none⟩) hp).trans cp0
 have ep1:(numW w).cell? ⟨p,1,none⟩=some (.slice a1 L1.length c1):=(hK.below.cell (p:=⟨p,1,none⟩) hp).trans cp1
 have ep2:(numW w).cell? ⟨p,2,none⟩=some (.int .i64 x1):=(hK.below.cell (p:=⟨p,2,none⟩) hp).trans cp2
 have eq0:(numW w).cell? ⟨q,0,none⟩=some (.bool n2):=(hK.below.cell (p:=⟨q,0,none⟩) hq).trans cq0
 have eq1:(numW w).cell? ⟨q,1,none⟩=some (.slice a2 L2.length c2):=(hK.below.cell (p:=⟨q,1,none⟩) hq).trans cq1
 have eq2:(numW w).cell? ⟨q,2,none⟩=some (.int .i64 x2):=(hK.below.cell (p:=⟨q,2,none⟩) hq).trans cq2
 clear h1 h2 hT hf hv1 hv2 cp0 cp1 cp2 cq0 cq1 cq2
 generalize L1.length=l1 at *
 generalize L2.length=l2 at *
 go_enter Tryz.func107,Tryz.ntmps107
 go_wp2_with (first|(go_at_call 108;refine KS.out.mono ?_;rintro e w1 ⟨hr,hk1⟩;obtain rfl:e=.panicked gaveUp:=hr))
 exact⟨rfl,rfl,hK.trans hk1⟩
theorem mulz_ok (w:World)(hT:Tab w)(n1:Bool)(L1:List Int)(x1:Int)(hv1:vld ⟨n1,L1,x1⟩=true)(a1:Option Addr)(c1:Nat)(n2:Bool)(L2:List Int)(x2:Int)(hv2:vld ⟨n2,L2,x2⟩=true)(a2:Option Addr)(c2:Nat)(h1:Sl w (.slice a1 L1.length c1) L1)(h2:Sl w (.slice a2 L2.length c2) L2)(r:Nm)(hf:mulN ⟨n1,L1,x1⟩ ⟨n2,L2,x2⟩=some r):Calls Tryz.prog 72 #[.agg #[.bool n1,.slice a1 L1.length c1,.int .i64 x1],.agg #[.bool n2,.slice a2 L2.length c2,.int .i64 x2]] w fun e w'=>∃v,e=.returned (.tuple #[v,.int .i64 0])∧New w w' v r∧Kept w w':=by
 have hW:=addW_kept w #[.bool n1,.slice a1 L1.length c1,.int .i64 x1] #[.bool n2,.slice a2 L2.length c2,.int .i64 x2] (pairC n1 (.slice a1 L1.length c1) x1 n2 (.slice a2 L2.length c2) x2)
 have hd1:=vld_dg _ _ _ hv1
 have hd2:=vld_dg _ _ _ hv2
 have KV:Hid (∀w',Kept (addW w #[.bool n1,.slice a1 L1.length c1,.int .i64 x1] #[.bool n2,.slice a2 L2.length c2,.int .i64 x2] (pairC n1 (.slice a1 L1.length c1) x1 n2 (.slice a2 L2.length c2) x2)) w'→Calls Tryz.prog 124 #[.slice (some ⟨w.heap.size+3,0,none⟩) 2 2] w' fun e w''=>e=.returned (.bool true)∧Kept w' w''):=fun u k=>by
  have hb:w.heap.size+3<(addW w #[.bool n1,.slice a1 L1.length c1,.int .i64 x1] #[.bool n2,.slice a2 L2.length c2,.int .i64 x2] (pairC n1 (.slice a1 L1.length c1) x1 n2 (.slice a2 L2.length c2) x2)).heap.size:=by simp
  have:=allValid_2 u (w.heap.size+3) 2 n1 n2 a1 a2 L1.length c1 L2.length c2 x1 x2 true true (Nat.lt_of_lt_of_le hb k.below.size) ((k.below.cell (p:=⟨w.heap.size+3,0,none⟩) hb).trans (by simp[go_sem])) ((k.below.cell (p:=⟨w.heap.size+3,1,none⟩) hb).trans (by simp[go_sem])) ((k.below.cell (p:=⟨w.heap.size+3,2,none⟩) hb).trans (by simp[go_sem])) ((k.below.cell (p:=⟨w.heap.size+3,3,none⟩) hb).trans (by simp[go_sem])) ((k.below.cell (p:=⟨w.heap.size+3,4,none⟩) hb).trans (by simp[go_sem])) ((k.below.cell (p:=⟨w.heap.size+3,5,none⟩) hb).trans (by simp[go_sem])) (fun v kv=>?_) (fun v kv=>?_)
  ·exact this
  ·have:=xvalid_any ⟨n1,L1,x1⟩ hd1.2.rg (by dsimp only;omega) (.agg #[.bool n1,.slice a1 L1.length c1,.int .i64 x1]) v ⟨_,rfl,((h1.kept hW).kept k).kept kv⟩
   rw[hv1]at this
   exact this
  ·have:=xvalid_any ⟨n2,L2,x2⟩ hd2.2.rg (by dsimp only;omega) (.agg #[.bool n2,.slice a2 L2.length c2,.int .i64 x2]) v ⟨_,rfl,((h2.kept hW).kept k).kept kv⟩
   rw[hv2]at this
   exact this
 have KT:Hid (Calls Tryz.prog 106 #[.func (.func 107) #[] #[.pointer (some ⟨w.heap.size,0,none⟩),.pointer (some ⟨w.heap.size+1,0,none⟩)],.slice (some ⟨w.heap.size+3,0,none⟩) 2 2] (addW w #[.bool n1,.slice a1 L1.length c1,.int .i64 x1] #[.bool n2,.slice a2 L2.length c2,.int .i64 x2] (pairC n1 (.slice a1 L1.length c1) x1 n2 (.slice a2 L2.length c2) x2)) fun e w'=>∃v,e=.returned (.tuple #[v,.int .i64 0])∧New (addW w #[.bool n1,.slice a1 L1.length c1,.int .i64 x1] #[.bool n2,.slice a2 L2.length c2,.int .i64 x2] (pairC n1 (.slice a1 L1.length c1) x1 n2 (.slice a2 L2.length c2) x2)) w' v r∧Kept (addW w #[.bool n1,.slice a1 L1.length c1,.int .i64 x1] #[.bool n2,.slice a2 L2.length c2,.int .i64 x2] (pairC n1 (.slice a1 L1.length c1) x1 n2 (.slice a2 L2.length c2) x2)) w'):=by
  refine told_ok 107 _ (fun w=>call_of Tryz.func107 (by kernel_rfl) (by kernel_rfl) _ w) _ r _ KV (fun u k=>?_)
  have hs:=k.below.size
  simp only[addW,World.size_alloc]at hs
  exact mulz_in_ok u ((hT.kept hW).kept k) n1 L1 x1 hv1 a1 c1 n2 L2 x2 hv2 a2 c2 ((h1.kept hW).kept k) ((h2.kept hW).kept k) r hf _ _ (by omega) (by omega) ((k.below.cell (p:=⟨w.heap.size,0,none⟩) (by simp<;>omega)).trans (by simp[go_sem])) ((k.below.cell (p:=⟨w.heap.size,1,none⟩) (by simp<;>omega)).trans (by simp[go_sem])) ((k.below.cell (p:=⟨w.heap.size,2,none⟩) (by simp<;>omega)).trans (by simp[go_sem])) ((k.below.cell (p:=⟨w.heap.size+1,0,none⟩) (by simp<;>omega)).trans (by simp[go_sem])) ((k.below.cell (p:=⟨w.heap.size+1,1,none⟩) (by simp<;>omega)).trans (by simp[go_sem])) ((k.below.cell (p:=⟨w.heap.size+1,2,none⟩) (by simp<;>omega)).trans (by simp[go_sem]))
 have hmf:∀(fn:Fn) (first cap:Array Value) (w:World),(Instr.makeFunc fn first cap).run Tryz.prog w=.ok (.func fn first cap) w:=fun _ _ _ _=>rfl
 clear h1 h2 hT hf hv1 hv2 KV hd1 hd2
 generalize L1.length=l1 at *
 generalize L2.length=l2 at *
 go_enter Tryz.func72,Tryz.ntmps72
 go_wp2_with (first|(go_at_call 106;refine KT.out.mono ?_;rintro e w1 ⟨v,rfl,hN,hk1⟩;obtain⟨vn,va,vl,vc,vx,rfl⟩:=hN.shape;obtain⟨f0,f1,f2,f3⟩:=res_cells (w.heap.size+2) (by simp<;>omega) hk1 (by simp[go_sem]) (by simp[go_sem]) (by simp[go_sem]) (fun o=>by simp[go_sem])))
 have:=res_done (w.heap.size+2) (by omega) (by simp<;>omega) hW hN hk1 (.bool vn) (.slice va vl vc) (.int .i64 vx)
 refine bodyPost_ret (v:=.tuple #[.agg #[.bool vn,.slice va vl vc,.int .i64 vx],.int .i64 0]) (by simp[results,Tryz.results72,go_sem,f0,f1,f2]) rfl ⟨_,rfl,this.1,this.2⟩
theorem mulz_no (w:World)(hT:Tab w)(n1:Bool)(L1:List Int)(x1:Int)(hv1:vld ⟨n1,L1,x1⟩=true)(a1:Option Addr)(c1:Nat)(n2:Bool)(L2:List Int)(x2:Int)(hv2:vld ⟨n2,L2,x2⟩=true)(a2:Option Addr)(c2:Nat)(h1:Sl w (.slice a1 L1.length c1) L1)(h2:Sl w (.slice a2 L2.length c2) L2)(hf:mulN ⟨n1,L1,x1⟩ ⟨n2,L2,x2⟩=none):Calls Tryz.prog 72 #[.agg #[.bool n1,.slice a1 L1.length c1,.int .i64 x1],.agg #[.bool n2,.slice a2 L2.length c2,.int .i64 x2]] w fun e w'=>e=.returned (.tuple #[zeroNum,.int .i64 2])∧Kept w w':=by
 have hW:=addW_kept w #[.bool n1,.slice a1 L1.length c1,.int .i64 x1] #[.bool n2,.slice a2 L2.length c2,.int .i64 x2] (pairC n1 (.slice a1 L1.length c1) x1 n2 (.slice a2 L2.length c2) x2)
 have hd1:=vld_dg _ _ _ hv1
 have hd2:=vld_dg _ _ _ hv2
 have KV:Hid (∀w',Kept (addW w #[.bool n1,.slice a1 L1.length c1,.int .i64 x1] #[.bool n2,.slice a2 L2.length c2,.int .i64 x2] (pairC n1 (.slice a1 L1.length c1) x1 n2 (.slice a2 L2.length c2) x2)) w'→Calls Tryz.prog 124 #[.slice (some ⟨w.heap.size+3,0,none⟩) 2 2] w' fun e w''=>e=.returned (.bool true)∧Kept w' w''):=fun u k=>by
  have hb:w.heap.size+3<(addW w #[.bool n1,.slice a1 L1.length c1,.int .i64 x1] #[.bool n2,.slice a2 L2.length c2,.int .i64 x2] (pairC n1 (.slice a1 L1.length c1) x1 n2 (.slice a2 L2.length c2) x2)).heap.size:=by simp
  have:=allValid_2 u (w.heap.size+3) 2 n1 n2 a1 a2 L1.length c1 L2.length c2 x1 x2 true true (Nat.lt_of_lt_of_le hb k.below.size) ((k.below.cell (p:=⟨w.heap.size+3,0,none⟩) hb).trans (by simp[go_sem])) ((k.below.cell (p:=⟨w.heap.size+3,1,none⟩) hb).trans (by simp[go_sem])) ((k.below.cell (p:=⟨w.heap.size+3,2,none⟩) hb).trans (by simp[go_sem])) ((k.below.cell (p:=⟨w.heap.size+3,3,none⟩) hb).trans (by simp[go_sem])) ((k.below.cell (p:=⟨w.heap.size+3,4,none⟩) hb).trans (by simp[go_sem])) ((k.below.cell (p:=⟨w.heap.size+3,5,none⟩) hb).trans (by simp[go_sem])) (fun v kv=>?_) (fun v kv=>?_)
  ·exact this
  ·have:=xvalid_any ⟨n1,L1,x1⟩ hd1.2.rg (by dsimp only;omega) (.agg #[.bool n1,.slice a1 L1.length c1,.int .i64 x1]) v ⟨_,rfl,((h1.kept hW).kept k).kept kv⟩
   rw[hv1]at this
   exact this
  ·have:=xvalid_any ⟨n2,L2,x2⟩ hd2.2.rg (by dsimp only;omega) (.agg #[.bool n2,.slice a2 L2.length c2,.int .i64 x2]) v ⟨_,rfl,((h2.kept hW).kept k).kept kv⟩
   rw[hv2]at this
   exact this
 have KT:Hid (Calls Tryz.prog 106 #[.func (.func 107) #[] #[.pointer (some ⟨w.heap.size,0,none⟩),.pointer (some ⟨w.heap.size+1,0,none⟩)],.slice (some ⟨w.heap.size+3,0,none⟩) 2 2] (addW w #[.bool n1,.slice a1 L1.length c1,.int .i64 x1] #[.bool n2,.slice a2 L2.length c2,.int .i64 x2] (pairC n1 (.slice a1 L1.length c1) x1 n2 (.slice a2 L2.length c2) x2)) fun e w'=>e=.returned (.tuple #[zeroNum,.int .i64 2])∧Kept (addW w #[.bool n1,.slice a1 L1.length c1,.int .i64 x1] #[.bool n2,.slice a2 L2.length c2,.int .i64 x2] (pairC n1 (.slice a1 L1.length c1) x1 n2 (.slice a2 L2.length c2) x2)) w'):=by
  refine told_no 107 _ (fun w=>call_of Tryz.func107 (by kernel_rfl) (by kernel_rfl) _ w) _ _ KV (fun u k=>?_)
  have hs:=k.below.size
  simp only[addW,World.size_alloc]at hs
  exact mulz_in_no u ((hT.kept hW).kept k) n1 L1 x1 hv1 a1 c1 n2 L2 x2 hv2 a2 c2 ((h1.kept hW).kept k) ((h2.kept hW).kept k) hf _ _ (by omega) (by omega) ((k.below.cell (p:=⟨w.heap.size,0,none⟩) (by simp<;>omega)).trans (by simp[go_sem])) ((k.below.cell (p:=⟨w.heap.size,1,none⟩) (by simp<;>omega)).trans (by simp[go_sem])) ((k.below.cell (p:=⟨w.heap.size,2,none⟩) (by simp<;>omega)).trans (by simp[go_sem])) ((k.below.cell (p:=⟨w.heap.size+1,0,none⟩) (by simp<;>omega)).trans (by simp[go_sem])) ((k.below.cell (p:=⟨w.heap.size+1,1,none⟩) (by simp<;>omega)).trans (by simp[go_sem])) ((k.below.cell (p:=⟨w.heap.size+1,2,none⟩) (by simp<;>omega)).trans (by simp[go_sem]))
 have hmf:∀(fn:Fn) (first cap:Array Value) (w:World),(Instr.makeFunc fn first cap).run Tryz.prog w=.ok (.func fn first cap) w:=fun _ _ _ _=>rfl
 clear h1 h2 hT hf hv1 hv2 KV hd1 hd2
 generalize L1.length=l1 at *
 generalize L2.length=l2 at *
 go_enter Tryz.func72,Tryz.ntmps72
 go_wp2_with (first|(go_at_call 106;refine KT.out.mono ?_;rintro e w1 ⟨rfl,hk1⟩;obtain⟨f0,f1,f2,f3⟩:=res_cells (w.heap.size+2) (by simp<;>omega) hk1 (by simp[go_sem]) (by simp[go_sem]) (by simp[go_sem]) (fun o=>by simp[go_sem])))
 refine bodyPost_ret (v:=.tuple #[zeroNum,.int .i64 2]) (by simp[results,Tryz.results72,go_sem,f0,f1,f2]) rfl ⟨rfl,res_kept (w.heap.size+2) (by omega) hW hk1 _ _ _⟩
end Go.Proofs.YtnniljhdcplkgaaGreatDoor
