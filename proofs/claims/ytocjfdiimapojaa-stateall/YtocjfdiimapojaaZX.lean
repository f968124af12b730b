/- The document's Read: the walk. -/
import Derived.Test.YtocjfdiimapojaaZW
namespace Go.Proofs.Ytocjfdiimapojaa
open Go.ChangeShapes Go.WideShapes Go.ChangeAt Go.RowKit
set_option maxHeartbeats 16000000
set_option maxRecDepth 100000
set_option linter.unusedVariables false
set_option linter.unusedSimpArgs false
theorem rrread_any (ao : Option Addr) (cap : Nat) (B : List Int) (hB : Byt B) (hlen : B.length ≤ 16777216) (hlc : B.length ≤ cap) (u : World) (hS : B ≠ [] → ∃ b off,ao = some ⟨b,off,none⟩ ∧ b < u.heap.size ∧ BR u b off B) :
  Calls Try.prog 16 #[.slice ao B.length cap] u fun e w' => Kept u w' ∧ RdD u.heap.size (pall B 0) e w':=by
 have hl9 : B.length ≤ 100000000:=by omega
 obtain ⟨X,hX⟩ : ∃ X,pall B 0 = X:=⟨_,rfl⟩
 have HX:=hid (show X = (pmk mkL B 0).andTo fun _ q => kA1 B q by rw [← hX]; exact pall_cont B hB)
 rw [hX]
 obtain ⟨n,hn⟩ : ∃ n,B.length = n:=⟨_,rfl⟩
 obtain ⟨M,hM⟩ : ∃ M,u.heap.size = M:=⟨_,rfl⟩
 obtain ⟨W1,hW1⟩ : ∃ W1,((u.alloc (.cells #[.int .i64 0,.int .i64 0,.int .i64 0,.slice none 0 0,.slice none 0 0,.int .i64 0,.int .i64 0] 35)).alloc (.cells #[.slice ao n cap,.int .i64 0,.int .i64 0,.int .i64 0] 70)).alloc (.cells #[.int .i64 112,.int .i64 115,.int .i64 116,.int .i64 1] 3) = W1:=⟨_,rfl⟩
 have k0 : Kept u W1:=by rw [← hW1]; exact (((Kept.refl u).alloc _ _).alloc _ _).alloc _ _
 have bz : Bk W1 M zsl:=by rw [← hW1,← hM]; exact (Bk.new u zsl 35).kept (((Kept.refl _).alloc _ _).alloc _ _)
 have br : Bk W1 (M + 1) [.slice ao n cap,.int .i64 0,.int .i64 0,.int .i64 0]:=by
  have h:=(Bk.new (u.alloc (.cells #[.int .i64 0,.int .i64 0,.int .i64 0,.slice none 0 0,.slice none 0 0,.int .i64 0,.int .i64 0] 35)) [.slice ao n cap,.int .i64 0,.int .i64 0,.int .i64 0] 70).kept (show Kept _ (World.alloc _ (.cells #[.int .i64 112,.int .i64 115,.int .i64 116,.int .i64 1] 3)) from (Kept.refl _).alloc _ _)
  rw [World.size_alloc,hM,hW1] at h
  exact h
 have bh : Bk W1 (M + 1 + 1) [.int .i64 112,.int .i64 115,.int .i64 116,.int .i64 1]:=by
  have h:=Bk.new ((u.alloc (.cells #[.int .i64 0,.int .i64 0,.int .i64 0,.slice none 0 0,.slice none 0 0,.int .i64 0,.int .i64 0] 35)).alloc (.cells #[.slice ao n cap,.int .i64 0,.int .i64 0,.int .i64 0] 70)) [.int .i64 112,.int .i64 115,.int .i64 116,.int .i64 1] 3
  rw [World.size_alloc,World.size_alloc,hM,hW1] at h
  exact h
 have hrq : RQ W1 (M + 1) ao B cap 0 0 0:=⟨by rw [hn]; exact br,fun hne => by
  obtain ⟨b,off,e,h1,h2⟩:=hS hne
  exact ⟨b,off,e,by omega,Nat.lt_of_lt_of_le h1 k0.below.size,fun i hi => (k0.below.cell (p:=⟨b,off + i,none⟩) h1).trans (h2 i hi)⟩,Nat.zero_le _⟩
 have HAo : Hid (B ≠ [] → ∀ b off,ao = some ⟨b,off,none⟩ → b < M):=fun hne b off e => by
  obtain ⟨b2,off2,e2,h1,-⟩:=hS hne
  rw [e] at e2; cases e2; omega
 have hs1 : W1.heap.size = M + 3:=by rw [← hW1,← hM]; simp
 have HRQ:=hid hrq
 have HBZ:=hid bz
 have HBH:=hid bh
 have HK0:=hid k0
 have HM:=hid (show u.heap.size = M ∧ W1.heap.size = M + 3 from ⟨hM,hs1⟩)
 have HBy:=hid hB
 have HL9:=hid hl9
 have HN:=hid (show B.length = n ∧ n ≤ 16777216 ∧ n ≤ cap by omega)
 have d0 : decide (16777216 < (n : Int)) = false:=decide_eq_false (by omega)
 have d00 : decide (16777216 < n) = false:=decide_eq_false (by omega)
 rw [hn]
 clear hrq bz br bh k0 hB hlen hlc hS hl9 hX hn hs1
 go_enter Try.func16,Try.ntmps16
 go_wp2_with fail
 (try rw [hW1])
 clear hW1 hM d0 d00
 go_loopw [7] (fun iv wr => ∃ i : Nat,i ≤ 4 ∧ iv = .int .i64 (i : Int) ∧ KX (fun b => b = M + 1) W1 wr ∧ ((∃ pl,RQ wr (M + 1) ao B cap i 0 pl ∧ X = (pmk (mkL.drop i) B i).andTo fun _ q => kA1 B q) ∨ (∃ er p q,er ≠ 0 ∧ X = .no er p ∧ RQ wr (M + 1) ao B cap q er p))) (fun iv _ => 4 - (intOf iv).toNat)
 case atStart => exact ⟨0,Nat.zero_le _,rfl,(Kept.refl _).kx _,.inl ⟨0,HRQ.out,HX.out⟩⟩
 case round =>
  clear HRQ HX
  obtain ⟨i,hi,rfl,kxr,hst⟩:=hrel
  have KXr:=hid kxr
  clear kxr
  by_cases hi4 : i < 4
  ·have hbd : (i : Int) < 4:=by omega
   have z9 : IntKind.i64.wrap ((i : Int) + 1) = (i : Int) + 1:=by rw [wrap_i64]; omega
   rcases hst with ⟨pl,hr,hx⟩ | ⟨er,p,q,her,hx,hr⟩
   ·have HG:=hid (rget_any (M + 1) ao B cap i pl HBy.out HL9.out 1 (by decide) (by decide) _ hr)
    have HXi:=hid (show X = ((pnum 1 (fun n => n == mkL.getD i 0) B i).andTo fun _ q => pmk (mkL.drop (i + 1)) B q).andTo fun _ q => kA1 B q by rw [hx,pmk_drop i hi4]; rfl)
    clear hx hr
    go_wp2_with fail
    go_at_call 32
    refine HG.out.mono ?_
    rintro e w2 ⟨kx2,hg⟩
    have KX2:=hid (KXr.out.trans kx2)
    have hbh:=HBH.out.kx KX2.out (by omega)
    have hcell : w2.cell? ⟨M + 1 + 1,i,none⟩ = some (.int .i64 (mkL.getD i 0)):=by
     obtain rfl | rfl | rfl | rfl : i = 0 ∨ i = 1 ∨ i = 2 ∨ i = 3:=by omega
     ·exact hbh.c 0 _ rfl
     ·exact hbh.c 1 _ rfl
     ·exact hbh.c 2 _ rfl
     ·exact hbh.c 3 _ rfl
    have hb2 : (0 : Int) ≤ (i : Int) ∧ (i : Int) < 4:=by omega
    have HII:=hid hi4
    clear kx2 HG hbh
    rcases (show _ ∨ _ from hg) with ⟨hle,rfl,hr⟩ | ⟨hlt,rfl,hr⟩
    ·have c2:=hr.bk.c 2 _ rfl
     obtain ⟨cv,hcv⟩ : ∃ cv,numv 1 B i = cv:=⟨_,rfl⟩
     obtain ⟨hd,hhd⟩ : ∃ hd,mkL.getD i 0 = hd:=⟨_,rfl⟩
     rw [hcv]
     rw [hhd] at hcell HXi
     by_cases hch : cv = hd
     ·subst hch
      have d1 : (cv != cv) = false:=by simp
      have HXn:=hid (show X = (pmk (mkL.drop (i + 1)) B (i + 1)).andTo fun _ q => kA1 B q by
       rw [HXi.out]; unfold pnum; rw [if_pos hle,hcv,if_pos (by simp)]; rfl)
      have HR:=hid hr
      clear hg hr hle hi hi4 hcv hhd
      go_wp2_with fail
      go_roundw
      case rel => exact ⟨i + 1,by have:=HII.out; omega,by go_num,KX2.out,.inl ⟨pl,HR.out,HXn.out⟩⟩
      case measure => have:=HII.out; simp [intOf]; omega
     ·have d1 : (cv != hd) = true:=by simpa using hch
      have d2 : (cv == hd) = false:=by simpa using hch
      have HXn:=hid (show X = .no 51 (i : Int) by
       rw [HXi.out]; unfold pnum; rw [if_pos hle,hcv,if_neg (by simpa using hch)]; rfl)
      have HBd:=hid (rbad_any (M + 1) ao B cap (i + 1) 0 pl 51 (i : Int) _ hr)
      clear hg hr hle hi hi4 hcv hhd hch
      go_wp2_with fail
      go_at_call 33
      refine HBd.out.mono ?_
      rintro e w3 ⟨rfl,kx3,hr3,-⟩
      have HR3:=hid (hr3 (by first | rfl | trivial))
      have KX3:=hid (KX2.out.trans kx3)
      clear hr3 kx3 c2 hcell
      go_wp2_with fail
      go_roundw
      case rel => exact ⟨i + 1,by have:=HII.out; omega,by go_num,KX3.out,.inr ⟨51,_,_,by decide,HXn.out,HR3.out⟩⟩
      case measure => have:=HII.out; simp [intOf]; omega
    ·have c2:=hr.bk.c 2 _ rfl
     have HXn:=hid (show X = .no 50 (B.length : Int) by rw [HXi.out]; unfold pnum; rw [if_neg (by omega)]; rfl)
     have HR:=hid hr
     clear hg hr hlt hi hi4
     go_wp2_with fail
     go_roundw
     case rel => exact ⟨i + 1,by have:=HII.out; omega,by go_num,KX2.out,.inr ⟨50,_,_,by decide,HXn.out,HR.out⟩⟩
     case measure => have:=HII.out; simp [intOf]; omega
   ·have HG:=hid (rget_err (M + 1) ao B cap q er p her 1 _ hr)
    have hern : (er == 0) = false:=by simpa using her
    have HXn:=hid hx
    have HEr:=hid her
    have HR:=hid hr
    have HII:=hid hi4
    clear hx hr her hi hi4
    go_wp2_with fail
    go_at_call 32
    refine HG.out.mono ?_
    rintro e w2 ⟨rfl,k2⟩
    have HR2:=hid (HR.out.kept k2)
    have KX2:=hid (KXr.out.trans (k2.kx _))
    have c2:=HR2.out.bk.c 2 _ rfl
    clear k2
    go_wp2_with fail
    go_roundw
    case rel => exact ⟨i + 1,by have:=HII.out; omega,by go_num,KX2.out,.inr ⟨er,_,_,HEr.out,HXn.out,HR2.out⟩⟩
    case measure => have:=HII.out; simp [intOf]; omega
  ·obtain rfl : i = 4:=by omega
   have HLV:=hid (show LV (M + 1) ao B cap X _ (kA1 B) by
    rcases hst with ⟨pl,hr,hx⟩ | ⟨er,p,q,her,hx,hr⟩
    ·exact .inl ⟨4,pl,hr,hx⟩
    ·exact .inr ⟨er,p,q,her,hx,hr⟩)
   clear hst hi hi4
   obtain ⟨S,hS⟩ : ∃ S,wr.heap.size = S:=⟨_,rfl⟩
   obtain ⟨v0,hv0⟩ : ∃ v0,wr.alloc (.cells #[.int .i64 0,.int .i64 0,.int .i64 0,.slice none 0 0,.slice none 0 0,.int .i64 0,.int .i64 0] 35) = v0:=⟨_,rfl⟩
   have k00 : Kept wr v0:=by rw [← hv0]; exact (Kept.refl wr).alloc _ _
   have HS0 : Hid (Bk v0 S [.int .i64 0,.int .i64 0,.int .i64 0,.slice none 0 0,.slice none 0 0,.int .i64 0,.int .i64 0]):=by rw [← hv0,← hS]; exact Bk.new wr _ _
   have HSM:=hid (show M + 3 ≤ S by have:=KXr.out.size; have:=HM.out.2; omega)
   have HLV0:=hid (HLV.out.kept k00)
   have HX0:=hid ((KXr.out.mono (Y:=fun b => b = M + 1 ∨ M + 3 ≤ b) fun b hb => .inl hb).trans (k00.kx _))
   clear k00 HLV KXr
   have HC1:=hid (HLV0.out.want HBy.out HL9.out 8 (by decide) (by decide) 0 1099511627776 (by decide) (by decide) (kA2 B) (fun q => rfl))
   go_wp2_with fail
   (try rw [hv0])
   go_at_call 34
   refine HC1.out.mono ?_
   rintro e u1 ⟨a,rfl,ha1,ha2,kx,hlv⟩
   have hs:=HS0.out.kx kx (by have:=HSM.out; omega)
   have e0:=hs.c 0 _ rfl
   have ef:=hs.fz
   obtain ⟨v1,hv1⟩ : ∃ v1,u1.setCell ⟨S,0,none⟩ (.int .i64 a) = v1:=⟨_,rfl⟩
   have ks : KX (fun b => b = S) u1 v1:=by rw [← hv1]; exact ((Grw.refl S u1).setCell _ _).kx
   have HS1 : Hid (Bk v1 S [.int .i64 a,.int .i64 0,.int .i64 0,.slice none 0 0,.slice none 0 0,.int .i64 0,.int .i64 0]):=by rw [← hv1]; exact hs.set 0 _
   have HLV1:=hid (hlv.kx ks (by have:=HSM.out; omega) (fun hne b off e hb => by have:=HAo.out hne b off e; have:=HSM.out; omega))
   have HX1:=hid ((HX0.out.trans (kx.mono (Y:=fun b => b = M + 1 ∨ M + 3 ≤ b) fun b hb => .inl hb)).trans (ks.mono fun b hb => .inr (by have:=HSM.out; omega)))
   clear hS hs ks kx hlv HC1 HS0 HLV0 HX0 hv0
   have HC2:=hid (HLV1.out.want HBy.out HL9.out 8 (by decide) (by decide) 0 1099511627776 (by decide) (by decide) (kA3 B a) (fun q => rfl))
   go_wp2_with fail
   (try rw [hv1])
   go_at_call 34
   refine HC2.out.mono ?_
   rintro e u2 ⟨b,rfl,hb1,hb2,kx,hlv⟩
   have hs:=HS1.out.kx kx (by have:=HSM.out; omega)
   have e0:=hs.c 1 _ rfl
   have ef:=hs.fz
   obtain ⟨v2,hv2⟩ : ∃ v2,u2.setCell ⟨S,1,none⟩ (.int .i64 b) = v2:=⟨_,rfl⟩
   have ks : KX (fun b => b = S) u2 v2:=by rw [← hv2]; exact ((Grw.refl S u2).setCell _ _).kx
   have HS2 : Hid (Bk v2 S [.int .i64 a,.int .i64 b,.int .i64 0,.slice none 0 0,.slice none 0 0,.int .i64 0,.int .i64 0]):=by rw [← hv2]; exact hs.set 1 _
   have HLV2:=hid (hlv.kx ks (by have:=HSM.out; omega) (fun hne b off e hb => by have:=HAo.out hne b off e; have:=HSM.out; omega))
   have HX2:=hid ((HX1.out.trans (kx.mono (Y:=fun b => b = M + 1 ∨ M + 3 ≤ b) fun b hb => .inl hb)).trans (ks.mono fun b hb => .inr (by have:=HSM.out; omega)))
   clear hs ks kx hlv HC2 HS1 HLV1 HX1 hv1
   have HC3:=hid (HLV2.out.want HBy.out HL9.out 8 (by decide) (by decide) 0 1099511627776 (by decide) (by decide) (kB B a b) (fun q => rfl))
   go_wp2_with fail
   (try rw [hv2])
   go_at_call 34
   refine HC3.out.mono ?_
   rintro e u3 ⟨d,rfl,hd1,hd2,kx,hlv⟩
   have hs:=HS2.out.kx kx (by have:=HSM.out; omega)
   have e0:=hs.c 2 _ rfl
   have ef:=hs.fz
   obtain ⟨v3,hv3⟩ : ∃ v3,u3.setCell ⟨S,2,none⟩ (.int .i64 d) = v3:=⟨_,rfl⟩
   have ks : KX (fun b => b = S) u3 v3:=by rw [← hv3]; exact ((Grw.refl S u3).setCell _ _).kx
   have HS3 : Hid (Bk v3 S [.int .i64 a,.int .i64 b,.int .i64 d,.slice none 0 0,.slice none 0 0,.int .i64 0,.int .i64 0]):=by rw [← hv3]; exact hs.set 2 _
   have HLV3:=hid (hlv.kx ks (by have:=HSM.out; omega) (fun hne b off e hb => by have:=HAo.out hne b off e; have:=HSM.out; omega))
   have HX3:=hid ((HX2.out.trans (kx.mono (Y:=fun b => b = M + 1 ∨ M + 3 ≤ b) fun b hb => .inl hb)).trans (ks.mono fun b hb => .inr (by have:=HSM.out; omega)))
   clear hs ks kx hlv HC3 HS2 HLV2 HX2 hv2
   have HC4:=hid (HLV3.out.get HBy.out HL9.out 8 (by decide) (by decide) (kC B a b d) (fun q => rfl))
   go_wp2_with fail
   (try rw [hv3])
   go_at_call 32
   refine HC4.out.mono ?_
   rintro e u4 ⟨lo,rfl,kx,hlv⟩
   have hs:=HS3.out.kx kx (by have:=HSM.out; omega)
   have e0:=hs.c 5 _ rfl
   have ef:=hs.fz
   obtain ⟨v4,hv4⟩ : ∃ v4,u4.setCell ⟨S,5,none⟩ (.int .i64 lo) = v4:=⟨_,rfl⟩
   have ks : KX (fun b => b = S) u4 v4:=by rw [← hv4]; exact ((Grw.refl S u4).setCell _ _).kx
   have HS4 : Hid (Bk v4 S [.int .i64 a,.int .i64 b,.int .i64 d,.slice none 0 0,.slice none 0 0,.int .i64 lo,.int .i64 0]):=by rw [← hv4]; exact hs.set 5 _
   have HLV4:=hid (hlv.kx ks (by have:=HSM.out; omega) (fun hne b off e hb => by have:=HAo.out hne b off e; have:=HSM.out; omega))
   have HX4:=hid ((HX3.out.trans (kx.mono (Y:=fun b => b = M + 1 ∨ M + 3 ≤ b) fun b hb => .inl hb)).trans (ks.mono fun b hb => .inr (by have:=HSM.out; omega)))
   clear hs ks kx hlv HC4 HS3 HLV3 HX3 hv3
   have HC5:=hid (HLV4.out.get HBy.out HL9.out 8 (by decide) (by decide) (kD B a b d lo) (fun q => rfl))
   go_wp2_with fail
   (try rw [hv4])
   go_at_call 32
   refine HC5.out.mono ?_
   rintro e u5 ⟨ra,rfl,kx,hlv⟩
   have hs:=HS4.out.kx kx (by have:=HSM.out; omega)
   have e0:=hs.c 6 _ rfl
   have ef:=hs.fz
   obtain ⟨v5,hv5⟩ : ∃ v5,u5.setCell ⟨S,6,none⟩ (.int .i64 ra) = v5:=⟨_,rfl⟩
   have ks : KX (fun b => b = S) u5 v5:=by rw [← hv5]; exact ((Grw.refl S u5).setCell _ _).kx
   have HS5 : Hid (Bk v5 S [.int .i64 a,.int .i64 b,.int .i64 d,.slice none 0 0,.slice none 0 0,.int .i64 lo,.int .i64 ra]):=by rw [← hv5]; exact hs.set 6 _
   have HLV5:=hid (hlv.kx ks (by have:=HSM.out; omega) (fun hne b off e hb => by have:=HAo.out hne b off e; have:=HSM.out; omega))
   have HX5:=hid ((HX4.out.trans (kx.mono (Y:=fun b => b = M + 1 ∨ M + 3 ≤ b) fun b hb => .inl hb)).trans (ks.mono fun b hb => .inr (by have:=HSM.out; omega)))
   clear hs ks kx hlv HC5 HS4 HLV4 HX4 hv4
   have HC6:=hid (HLV5.out.want HBy.out HL9.out 2 (by decide) (by decide) 0 64 (by decide) (by decide) (kP B a b d lo ra) (fun q => rfl))
   go_wp2_with fail
   (try rw [hv5])
   go_at_call 34
   refine HC6.out.mono ?_
   rintro e u6 ⟨np,rfl,hnp1,hnp2,kx,hlv⟩
   have hs:=HS5.out.kx kx (by have:=HSM.out; omega)
   have HS6:=hid hs
   have HLV6:=hid hlv
   have HX6:=hid (HX5.out.trans (kx.mono (Y:=fun b => b = M + 1 ∨ M + 3 ≤ b) fun b hb => .inl hb))
   clear hs kx hlv HC6 HS5 HLV5 HX5 hv5 e0 ef
   have HNP:=hid (show 0 ≤ np ∧ np ≤ 64 from ⟨hnp1,hnp2⟩)
   obtain ⟨N,rfl⟩ : ∃ N : Nat,np = (N : Int):=Int.eq_ofNat_of_zero_le hnp1
   clear hnp1 hnp2 ha1 ha2 hb1 hb2 hd1 hd2
   go_wp2_with fail
   go_loopw [11] (fun iv wr => ∃ (i : Nat) (pa : Option Addr) (pc : Nat) (acc : List Mat) (er pl : Int) (q : Nat),i ≤ N ∧ iv = .int .i64 (i : Int) ∧ KX (fun b => b = M + 1 ∨ M + 3 ≤ b) W1 wr ∧ Bk wr S [.int .i64 a,.int .i64 b,.int .i64 d,.slice pa i pc,.slice none 0 0,.int .i64 lo,.int .i64 ra] ∧ RQ wr (M + 1) ao B cap q er pl ∧ (er ≠ 0 → X = .no er pl) ∧ (er = 0 → X = (prep (N - i) pmat B q).andTo (fun l q => kE B a b d lo ra (acc ++ l) q)) ∧ GT er (S + 1) wr (.slice pa i pc) i acc) (fun iv _ => N - (intOf iv).toNat)
   case atStart =>
    obtain ⟨q,er,pl,hr,hx,hn⟩:=HLV6.out.split
    refine ⟨0,none,0,[],er,pl,q,Nat.zero_le _,rfl,HX6.out,HS6.out,hr,hn,fun h => ?_,⟨[],.inl ⟨rfl,rfl,rfl⟩⟩,fun _ => ⟨rfl,[],.inl ⟨rfl,rfl,rfl⟩,rfl⟩⟩
    rw [hx h]
    unfold kP
    rw [Int.toNat_natCast,Nat.sub_zero]
    rfl
   case round =>
    clear HX6 HS6 HLV6
    obtain ⟨i,pa,pc,acc,er,pl,q,hi,rfl,kxr,hbs,hr,hno,hyes,hgt⟩:=hrel
    have KXr:=hid kxr
    have HBs:=hid hbs
    have e3:=hbs.c 3 _ rfl
    have c2:=hr.bk.c 2 _ rfl
    clear kxr hbs
    by_cases her : er = 0
    ·subst her
     have hx:=hyes rfl
     obtain ⟨hal,htd⟩:=hgt.2 rfl
     clear hno hyes hgt
     by_cases hiN : i < N
     ·have d1 : decide ((i : Int) < (N : Int)) = true:=decide_eq_true (by omega)
      have d2 : decide (i < N) = true:=decide_eq_true hiN
      have hn64:=HNP.out.2
      have z9 : IntKind.i64.wrap ((i : Int) + 1) = (i : Int) + 1:=by rw [wrap_i64]; omega
      have hxs : X = (pmat B q).andTo fun m q2 => (prep (N - (i + 1)) pmat B q2).andTo (fun l q => kE B a b d lo ra ((acc ++ [m]) ++ l) q):=by
       rw [hx,show N - i = (N - (i + 1)) + 1 by omega]
       exact mat_step B (N - (i + 1)) q (kE B a b d lo ra) acc
      have HMt:=hid (LV.mat2 (hr.kept (Kept.refl wr).drew) HBy.out HL9.out _ hxs)
      have HTd:=hid htd
      have HAl:=hid hal
      have HII:=hid hiN
      clear hr hx hxs htd hal hiN hi hn64
      go_wp2_with fail
      refine wp_region_late [5,6,7] (fun u => u.cell? ⟨S,3,none⟩ = some (.slice pa i pc)) (by kernel_rfl) (show wr.drew.cell? _ = _ from e3) (fun hHeld => ?_)
      refine tkD (i:=0) (v:=?_) rfl hHeld ?_
      (try simp only [Act.put,zA,zB,zC,zD,zE,zF])
      refine tkD (i:=1) (v:=?_) rfl hHeld ?_
      (try simp only [Act.put,zA,zB,zC,zD,zE,zF])
      refine tkD (i:=2) (v:=?_) rfl hHeld ?_
      (try simp only [Act.put,zA,zB,zC,zD,zE,zF])
      refine wpAnyD_step (i:=3) (by kernel_rfl) rfl (fun K hK9 => ?_)
      go_simp
      go_wp2_with fail
      refine HMt.out.mono ?_
      rintro e w5 ⟨kx5a,er,pl',q',r9,c9,n9,ao9,l9,cp9,m,rfl,hrq,hno,hyes,hm⟩
      have kx5w : KX (fun b => b = M + 1) wr w5:=((Kept.refl wr).drew.kx _).trans kx5a
      have hb5:=HBs.out.kx kx5w (by have:=HSM.out; omega)
      have kx5:=KXr.out.trans (kx5w.mono (Y:=fun b => b = M + 1 ∨ M + 3 ≤ b) fun b hb => .inl hb)
      have htd5:=HTd.out.kx kx5w (fun b hb => by have:=HSM.out; omega)
      have hS5 : S + 1 ≤ w5.heap.size:=by have:=hb5.lt; omega
      have hm5 : er = 0 → ∃ b,r9 = m.r ∧ c9 = m.c ∧ n9 = m.n ∧ ao9 = some ⟨b,0,none⟩ ∧ l9 = m.L.length ∧ S + 1 ≤ b ∧ OwnS w5 b cp9 1 3 (m.L.map (Value.int .i64)):=fun h => by
       obtain ⟨b,h1,h2,h3,h4,h5,h6,h7⟩:=hm h
       exact ⟨b,h1,h2,h3,h4,h5,by have h9:=HBs.out.lt; have h8 : wr.drew.heap.size = wr.heap.size:=rfl; omega,h7⟩
      obtain ⟨pa6,pc6,w6,hrun,hgt6,k6⟩:=gt_app er (S + 1) w5 _ i acc HAl.out htd5 r9 c9 n9 ao9 l9 cp9 m hm5 hS5 (by have:=HII.out; have:=HNP.out; omega)
      have HNo:=hid hno
      have HYe:=hid hyes
      have HG6:=hid hgt6
      have hb6:=hb5.kx k6 (by omega)
      have e6:=hb6.c 3 _ rfl
      have f6:=hb6.fz
      have s5:=hb5.c 3 _ rfl
      have hr6:=hid (hrq.kx k6 (by have:=HSM.out; omega) (fun hne b off e hb => by have:=HAo.out hne b off e; have:=HSM.out; omega))
      have hk6:=hid (kx5.trans (k6.mono fun b hb => .inr (by have:=HSM.out; omega)))
      have HRn:=hid hrun
      have HB6:=hid hb6
      clear kx5a kx5w HMt c2 htd5 hS5 hm hm5 hgt6 hno hyes
      refine hK9.out _ _ s5 (fun hHeld2 => ?_)
      clear hK9 K hrun hb5 hrq kx5 hb6 k6 e3
      refine wpAnyD_step (i:=4) (by kernel_rfl) rfl (fun K hK9 => ?_)
      go_simp
      refine hK9.out _ _ (show (World.alloc _ _).cell? _ = _ from (World.cell?_alloc_some _ _ _ (by rw [s5]; rfl)).trans s5) (fun hHeld3 => ?_)
      clear hK9 K
      (try simp only [Act.put,zA,zB,zC,zD,zE,zF])
      refine wpAnyD_late (i:=5) (by kernel_rfl) rfl rfl (fun K hK9 => ?_)
      rw [if_pos (by rfl)]
      refine oper_append_run _ _ _ rfl _ _ rfl rfl _ _ (HRn.out _) ?_
      refine hK9.out _ _ ?_
      clear hK9 K
      (try simp only [Act.put,zA,zB,zC,zD,zE,zF])
      refine wpAnyD_late (i:=6) (by kernel_rfl) rfl rfl (fun K hK9 => ?_)
      go_simp
      refine hK9.out _ _ ?_
      clear hK9 K
      (try simp only [Act.put,zA,zB,zC,zD,zE,zF])
      refine wpAnyD_late (i:=7) (by kernel_rfl) rfl rfl (fun K hK9 => ?_)
      go_simp
      refine hK9.out _ _ ?_
      clear hK9 K
      (try simp only [Act.put,zA,zB,zC,zD,zE,zF])
      refine wpAnyD_done (by kernel_rfl) ?_ _
      (try simp only [Act.put,zA,zB,zC,zD,zE,zF])
      have ks7 : KX (fun b => b = S) w6 (w6.setCell ⟨S,3,none⟩ (.slice pa6 (i + 1) pc6)):=((Grw.refl S w6).setCell 3 _).kx
      have hb7:=hid (HB6.out.set 3 (.slice pa6 (i + 1) pc6))
      have hr7:=hid (hr6.out.kx ks7 (by have:=HSM.out; omega) (fun hne b off e hb => by have:=HAo.out hne b off e; have:=HSM.out; omega))
      have hk7:=hid (hk6.out.trans (ks7.mono fun b hb => .inr (by have:=HSM.out; omega)))
      have hg7:=hid (HG6.out.kx ks7 (fun b hb => by omega))
      clear ks7 e6 f6 s5 hHeld hHeld2 hHeld3
      go_wp2_with fail
      go_roundw
      case rel => exact ⟨i + 1,pa6,pc6,acc ++ [m],er,pl',q',by have:=HII.out; omega,by go_num,hk7.out,hb7.out,hr7.out,HNo.out,HYe.out,hg7.out⟩
      case measure => have:=HII.out; simp [intOf]; omega
     ·obtain rfl : i = N:=by omega
      have d1 : decide ((i : Int) < (i : Int)) = false:=decide_eq_false (by omega)
      have d2 : decide (i < i) = false:=decide_eq_false (by omega)
      have HLV7 : Hid (LV (M + 1) ao B cap X wr (kE B a b d lo ra acc)):=.inl ⟨q,pl,hr,by rw [hx,Nat.sub_self]; exact mat_end B q (kE B a b d lo ra) acc⟩
      have HTd:=hid htd
      have HC7:=hid (HLV7.out.want HBy.out HL9.out 2 (by decide) (by decide) 0 64 (by decide) (by decide) (kF B a b d lo ra acc) (fun q => rfl))
      clear hr hx hi hiN htd hal HLV7
      go_wp2_with fail
      go_at_call 34
      refine HC7.out.mono ?_
      rintro e w2 ⟨nq,rfl,hnq1,hnq2,kx,hlv⟩
      have HB2:=hid (HBs.out.kx kx (by have:=HSM.out; omega))
      have HT2:=hid (HTd.out.kx kx (fun b hb => by have:=HSM.out; omega))
      have HX2:=hid (KXr.out.trans (kx.mono (Y:=fun b => b = M + 1 ∨ M + 3 ≤ b) fun b hb => .inl hb))
      have HLV8:=hid hlv
      have HNQ:=hid (show 0 ≤ nq ∧ nq ≤ 64 from ⟨hnq1,hnq2⟩)
      obtain ⟨N2,rfl⟩ : ∃ N2 : Nat,nq = (N2 : Int):=Int.eq_ofNat_of_zero_le hnq1
      clear kx hlv hnq1 hnq2 HC7 HBs HTd KXr e3 c2 d1 d2
      go_wp2_with fail
      go_loopw [12] (fun iv wr => ∃ (j : Nat) (qa : Option Addr) (qc : Nat) (Q : List (List Mat)) (er pl : Int) (q : Nat),j ≤ N2 ∧ iv = .int .i64 (j : Int) ∧ KX (fun b => b = M + 1 ∨ M + 3 ≤ b) W1 wr ∧ Bk wr S [.int .i64 a,.int .i64 b,.int .i64 d,.slice pa i pc,.slice qa j qc,.int .i64 lo,.int .i64 ra] ∧ RQ wr (M + 1) ao B cap q er pl ∧ (er ≠ 0 → X = .no er pl) ∧ (er = 0 → X = (prep (N2 - j) (pmats 1 4) B q).andTo (fun l q => kH B a b d acc lo ra (Q ++ l) q)) ∧ GQ er (S + 1) wr (.slice qa j qc) j Q ∧ TdV (S + 1) wr (.slice pa i pc) acc) (fun iv _ => N2 - (intOf iv).toNat)
      case atStart =>
       obtain ⟨q,er,pl,hr,hx,hn⟩:=HLV8.out.split
       refine ⟨0,none,0,[],er,pl,q,Nat.zero_le _,rfl,HX2.out,HB2.out,hr,hn,fun h => ?_,⟨⟨[],.inl ⟨rfl,rfl,rfl⟩⟩,fun _ => ⟨rfl,[],.inl ⟨rfl,rfl,rfl⟩,rfl⟩⟩,HT2.out⟩
       rw [hx h]
       unfold kF
       rw [Int.toNat_natCast,Nat.sub_zero]
       rfl
      case round =>
       clear HX2 HB2 HLV8 HT2
       obtain ⟨j,qa,qc,Q,er,pl,q,hj,rfl,kxr,hbs,hr,hno,hyes,hgq,htd⟩:=hrel
       have KXr:=hid kxr
       have HBs:=hid hbs
       have HTd:=hid htd
       have c2:=hr.bk.c 2 _ rfl
       clear kxr hbs htd
       by_cases her : er = 0
       ·subst her
        have hx:=hyes rfl
        obtain ⟨hql,hqd⟩:=hgq.2 rfl
        clear hno hyes hgq
        by_cases hjN : j < N2
        ·skip
         have d1 : decide ((j : Int) < (N2 : Int)) = true:=decide_eq_true (by omega)
         have d2 : decide (j < N2) = true:=decide_eq_true hjN
         have z9 : IntKind.i64.wrap ((j : Int) + 1) = (j : Int) + 1:=by have:=HNQ.out; rw [wrap_i64]; omega
         have hxs : X = (pnum 1 (betw 0 4) B q).andTo (kR B (N2 - (j + 1)) (kH B a b d acc lo ra) Q):=by
          rw [hx,show N2 - j = (N2 - (j + 1)) + 1 by omega]
          exact slot_step2 B HBy.out (N2 - (j + 1)) q (kH B a b d acc lo ra) Q
         have HWk:=hid ((show LV (M + 1) ao B cap X wr (fun q => (pnum 1 (betw 0 4) B q).andTo (kR B (N2 - (j + 1)) (kH B a b d acc lo ra) Q)) from .inl ⟨q,pl,hr,hxs⟩).want HBy.out HL9.out 1 (by decide) (by decide) 0 4 (by decide) (by decide) (kR B (N2 - (j + 1)) (kH B a b d acc lo ra) Q) (fun q => rfl))
         have HQd:=hid hqd
         have HQl:=hid hql
         have HJJ:=hid hjN
         clear hr hx hxs hqd hql hjN hj
         go_wp2_with fail
         go_at_call 34
         refine HWk.out.mono ?_
         rintro e w3 ⟨nk,rfl,hk1,hk2,kx3,hlv⟩
         have HB3:=hid (HBs.out.kx kx3 (by have:=HSM.out; omega))
         have HT3:=hid (HTd.out.kx kx3 (fun b hb => by have:=HSM.out; omega))
         have HQ3:=hid (HQd.out.kx kx3 (fun b hb => by have:=HSM.out; omega))
         have HX3:=hid (KXr.out.trans (kx3.mono (Y:=fun b => b = M + 1 ∨ M + 3 ≤ b) fun b hb => .inl hb))
         have HLV3:=hid hlv
         have HNK:=hid (show 0 ≤ nk ∧ nk ≤ 4 from ⟨hk1,hk2⟩)
         obtain ⟨K,rfl⟩ : ∃ K : Nat,nk = (K : Int):=Int.eq_ofNat_of_zero_le hk1
         obtain ⟨H2,hH2⟩ : ∃ H2,w3.heap.size = H2:=⟨_,rfl⟩
         have HH2:=hid (show w3.heap.size = H2 ∧ S + 1 ≤ H2 from ⟨hH2,by have:=HB3.out.lt; omega⟩)
         clear kx3 hlv hk1 hk2 HWk HBs HTd HQd KXr c2 d1 d2 hH2
         go_wp2_with fail
         go_loopw [14,15] (fun lv jv wr => ∃ (k : Nat) (la : Option Addr) (lc : Nat) (acl : List Mat) (er pl : Int) (q : Nat),k ≤ K ∧ lv = .slice la k lc ∧ jv = .int .i64 (k : Int) ∧ KX (fun b => b = M + 1 ∨ H2 ≤ b) w3 wr ∧ RQ wr (M + 1) ao B cap q er pl ∧ (er ≠ 0 → X = .no er pl) ∧ (er = 0 → X = (prep (K - k) pmat B q).andTo (fun l q => kS B (N2 - (j + 1)) (kH B a b d acc lo ra) Q (acl ++ l) q)) ∧ GT er H2 wr (.slice la k lc) k acl) (fun _ jv _ => K - (intOf jv).toNat)
         case atStart =>
          obtain ⟨q,er,pl,hr,hx,hn⟩:=HLV3.out.split
          refine ⟨0,none,0,[],er,pl,q,Nat.zero_le _,rfl,rfl,(Kept.refl _).kx _,hr,hn,fun h => ?_,⟨[],.inl ⟨rfl,rfl,rfl⟩⟩,fun _ => ⟨rfl,[],.inl ⟨rfl,rfl,rfl⟩,rfl⟩⟩
          rw [hx h]
          unfold kR
          rw [Int.toNat_natCast,Nat.sub_zero]
          rfl
         case round =>
          clear HLV3
          obtain ⟨k,la,lc,acl,er,pl,q,hk,rfl,rfl,kxr,hr,hno,hyes,hgt⟩:=hrel
          have KXr:=hid kxr
          have c2:=hr.bk.c 2 _ rfl
          clear kxr
          by_cases her : er = 0
          ·subst her
           have hx:=hyes rfl
           by_cases hkK : k < K
           ·skip
            obtain ⟨hal,htd⟩:=hgt.2 rfl
            have d1 : decide ((k : Int) < (K : Int)) = true:=decide_eq_true (by omega)
            have d2 : decide (k < K) = true:=decide_eq_true hkK
            have z8 : IntKind.i64.wrap ((k : Int) + 1) = (k : Int) + 1:=by have:=HNK.out; rw [wrap_i64]; omega
            have hxs : X = (pmat B q).andTo fun m q2 => (prep (K - (k + 1)) pmat B q2).andTo (fun l q => kS B (N2 - (j + 1)) (kH B a b d acc lo ra) Q ((acl ++ [m]) ++ l) q):=by
             rw [hx,show K - k = (K - (k + 1)) + 1 by omega]
             exact mat_step B (K - (k + 1)) q (kS B (N2 - (j + 1)) (kH B a b d acc lo ra) Q) acl
            have HMt:=hid (LV.mat2 hr HBy.out HL9.out _ hxs)
            have HTl:=hid htd
            have HAl:=hid hal
            have HII:=hid hkK
            clear hno hyes hgt hr hx hxs htd hal hkK hk
            go_wp2_with fail
            go_at_call 35
            refine HMt.out.mono ?_
            rintro e w5 ⟨kx5,er,pl',q',r9,c9,n9,ao9,l9,cp9,m,rfl,hrq,hno,hyes,hm⟩
            have hH5 : H2 ≤ wr.heap.size:=by have:=KXr.out.size; have:=HH2.out; omega
            have htd5:=HTl.out.kx kx5 (fun b hb => by have:=HSM.out; have:=HH2.out; omega)
            obtain ⟨la6,lc6,w6,hrun,hgt6,k6⟩:=gt_app er H2 w5 _ k acl HAl.out htd5 r9 c9 n9 ao9 l9 cp9 m (fun h => by
             obtain ⟨b,h1,h2,h3,h4,h5,h6,h7⟩:=hm h
             exact ⟨b,h1,h2,h3,h4,h5,by omega,h7⟩) (by have:=kx5.size; omega) (by have:=HII.out; have:=HNK.out; omega)
            have HR6:=hid (hrq.kx k6 (by have:=HSM.out; have:=HH2.out; omega) (fun hne b off e hb => by have:=HAo.out hne b off e; have:=HSM.out; have:=HH2.out; omega))
            have HK6:=hid ((KXr.out.trans (kx5.mono (Y:=fun b => b = M + 1 ∨ H2 ≤ b) fun b hb => .inl hb)).trans (k6.mono fun b hb => .inr hb))
            have HNo:=hid hno
            have HYe:=hid hyes
            have HG6:=hid hgt6
            have HRun:=hid hrun
            clear kx5 hrq hno hyes hm hH5 htd5 hrun hgt6 k6 HMt KXr HTl c2
            go_wp2_with (first | (at_builtin; refine wpList_append_run rfl _ _ _ rfl _ _ rfl rfl _ _ (HRun.out _) ?_; clear HRun))
            go_roundw
            case rel => exact ⟨k + 1,la6,lc6,acl ++ [m],er,pl',q',by have:=HII.out; omega,rfl,by go_num,HK6.out,HR6.out,HNo.out,HYe.out,HG6.out⟩
            case measure => have:=HII.out; simp [intOf]; omega
           ·obtain rfl : k = K:=by omega
            have d1 : decide ((k : Int) < (k : Int)) = false:=decide_eq_false (by omega)
            have d2 : decide (k < k) = false:=decide_eq_false (by omega)
            have hxe : (0 : Int) = 0 → X = kS B (N2 - (j + 1)) (kH B a b d acc lo ra) Q acl q:=fun _ => by rw [hx,Nat.sub_self]; exact mat_end B q (kS B (N2 - (j + 1)) (kH B a b d acc lo ra) Q) acl
            have hb6a:=HB3.out.kx KXr.out (by have:=HSM.out; have:=HH2.out; omega)
            have htd6:=HT3.out.k2 KXr.out (fun b hb hb2 => by have:=HSM.out; have:=HH2.out; omega)
            have hqd6:=HQ3.out.k2 KXr.out (fun b hb hb2 => by have:=HSM.out; have:=HH2.out; omega)
            obtain ⟨qa6,qc6,w6,hrun,hgq6,k6,hkeep⟩:=gq_app (0 : Int) (S + 1) wr (.slice qa j qc) j Q HQl.out hqd6 (.slice la k lc) k acl (hgt.mono HH2.out.2) (by have:=hb6a.lt; omega) (by have:=HJJ.out; have:=HNQ.out; omega)
            have hb6:=hb6a.kx k6 (by omega)
            obtain ⟨w7,hw7⟩ : ∃ w7,w6.setCell ⟨S,4,none⟩ (.slice qa6 (j + 1) qc6) = w7:=⟨_,rfl⟩
            have ks7 : KX (fun b => b = S) w6 w7:=by rw [← hw7]; exact ((Grw.refl S w6).setCell _ _).kx
            have HB7 : Hid (Bk w7 S [.int .i64 a,.int .i64 b,.int .i64 d,.slice pa i pc,.slice qa6 (j + 1) qc6,.int .i64 lo,.int .i64 ra]):=by rw [← hw7]; exact hb6.set 4 _
            have HR7:=hid ((hr.kx k6 (by have:=HSM.out; omega) (fun hne b off e hb => by have:=HAo.out hne b off e; have:=HSM.out; omega)).kx ks7 (by have:=HSM.out; omega) (fun hne b off e hb => by have:=HAo.out hne b off e; have:=HSM.out; omega))
            have HX7:=hid ((HX3.out.trans (KXr.out.mono (Y:=fun b => b = M + 1 ∨ M + 3 ≤ b) fun b hb => by have:=HSM.out; have:=HH2.out; omega)).trans ((k6.mono (Y:=fun b => b = M + 1 ∨ M + 3 ≤ b) fun b hb => .inr (by have:=HSM.out; omega)).trans (ks7.mono fun b hb => .inr (by have:=HSM.out; omega))))
            have HQ7:=hid (hgq6.kx ks7 (fun b hb => by omega))
            have HT7:=hid ((hkeep _ _ htd6).kx ks7 (fun b hb => by omega))
            have e4:=hb6a.c 4 _ rfl
            have f4:=hb6.c 4 _ rfl
            have ff:=hb6.fz
            have HRun:=hid hrun
            have HNo:=hid hno
            have HYe:=hid hxe
            clear hb6a htd6 hqd6 hrun hgq6 k6 hkeep hb6 ks7 hr hno hyes hgt hxe HB3 HT3 HQ3 HX3 KXr
            go_wp2_with (first | (at_builtin; refine wpList_append_run rfl _ _ _ rfl _ _ rfl rfl _ _ (HRun.out _) ?_; clear HRun))
            (try rw [hw7])
            go_roundw
            case rel => exact ⟨j + 1,qa6,qc6,Q ++ [acl],(0 : Int),pl,q,by have:=HJJ.out; omega,by go_num,HX7.out,HB7.out,HR7.out,HNo.out,HYe.out,HQ7.out,HT7.out⟩
            case measure => have:=HJJ.out; simp [intOf]; omega
          ·have hern : (er == 0) = false:=by simpa using her
           have hxe : er = 0 → X = kS B (N2 - (j + 1)) (kH B a b d acc lo ra) Q acl q:=fun h => absurd h her
           have hb6a:=HB3.out.kx KXr.out (by have:=HSM.out; have:=HH2.out; omega)
           have htd6:=HT3.out.k2 KXr.out (fun b hb hb2 => by have:=HSM.out; have:=HH2.out; omega)
           have hqd6:=HQ3.out.k2 KXr.out (fun b hb hb2 => by have:=HSM.out; have:=HH2.out; omega)
           obtain ⟨qa6,qc6,w6,hrun,hgq6,k6,hkeep⟩:=gq_app er (S + 1) wr (.slice qa j qc) j Q HQl.out hqd6 (.slice la k lc) k acl (hgt.mono HH2.out.2) (by have:=hb6a.lt; omega) (by have:=HJJ.out; have:=HNQ.out; omega)
           have hb6:=hb6a.kx k6 (by omega)
           obtain ⟨w7,hw7⟩ : ∃ w7,w6.setCell ⟨S,4,none⟩ (.slice qa6 (j + 1) qc6) = w7:=⟨_,rfl⟩
           have ks7 : KX (fun b => b = S) w6 w7:=by rw [← hw7]; exact ((Grw.refl S w6).setCell _ _).kx
           have HB7 : Hid (Bk w7 S [.int .i64 a,.int .i64 b,.int .i64 d,.slice pa i pc,.slice qa6 (j + 1) qc6,.int .i64 lo,.int .i64 ra]):=by rw [← hw7]; exact hb6.set 4 _
           have HR7:=hid ((hr.kx k6 (by have:=HSM.out; omega) (fun hne b off e hb => by have:=HAo.out hne b off e; have:=HSM.out; omega)).kx ks7 (by have:=HSM.out; omega) (fun hne b off e hb => by have:=HAo.out hne b off e; have:=HSM.out; omega))
           have HX7:=hid ((HX3.out.trans (KXr.out.mono (Y:=fun b => b = M + 1 ∨ M + 3 ≤ b) fun b hb => by have:=HSM.out; have:=HH2.out; omega)).trans ((k6.mono (Y:=fun b => b = M + 1 ∨ M + 3 ≤ b) fun b hb => .inr (by have:=HSM.out; omega)).trans (ks7.mono fun b hb => .inr (by have:=HSM.out; omega))))
           have HQ7:=hid (hgq6.kx ks7 (fun b hb => by omega))
           have HT7:=hid ((hkeep _ _ htd6).kx ks7 (fun b hb => by omega))
           have e4:=hb6a.c 4 _ rfl
           have f4:=hb6.c 4 _ rfl
           have ff:=hb6.fz
           have HRun:=hid hrun
           have HNo:=hid hno
           have HYe:=hid hxe
           clear hb6a htd6 hqd6 hrun hgq6 k6 hkeep hb6 ks7 hr hno hyes hgt hxe HB3 HT3 HQ3 HX3 KXr
           go_wp2_with (first | (at_builtin; refine wpList_append_run rfl _ _ _ rfl _ _ rfl rfl _ _ (HRun.out _) ?_; clear HRun))
           (try rw [hw7])
           go_roundw
           case rel => exact ⟨j + 1,qa6,qc6,Q ++ [acl],er,pl,q,by have:=HJJ.out; omega,by go_num,HX7.out,HB7.out,HR7.out,HNo.out,HYe.out,HQ7.out,HT7.out⟩
           case measure => have:=HJJ.out; simp [intOf]; omega
        ·obtain rfl : j = N2:=by omega
         have d1 : decide ((j : Int) < (j : Int)) = false:=decide_eq_false (by omega)
         have d2 : decide (j < j) = false:=decide_eq_false (by omega)
         have hxs : X = kG B ⟨a,b,d,acc,Q,lo,ra⟩ q:=by rw [hx,Nat.sub_self]; exact slot_end B q (kH B a b d acc lo ra) Q
         have HXs:=hid hxs
         have c1:=hr.bk.c 1 _ rfl
         have HG:=hid (rget_any (M + 1) ao B cap q pl HBy.out HL9.out 4 (by decide) (by decide) wr hr)
         have HRd : Hid (B ≠ [] → ∃ b off,ao = some ⟨b,off,none⟩ ∧ b < wr.heap.size ∧ BR wr b off B):=fun hne => by
          obtain ⟨b,off,e,h1,h2,h3⟩:=hr.rd hne
          exact ⟨b,off,e,h2,h3⟩
         have HQn:=hid hr.le
         have HQd:=hid hqd
         have HZr:=hid (HBZ.out.kx KXr.out (by omega))
         clear hr hx hxs hqd hql hjN hj
         go_wp2_with fail
         go_at_call 32
         refine HG.out.mono ?_
         rintro e w3 ⟨kx3,hg⟩
         have HB3:=hid (HBs.out.kx kx3 (by have:=HSM.out; omega))
         have HT3:=hid (HTd.out.kx kx3 (fun b hb => by have:=HSM.out; omega))
         have HQ3:=hid (HQd.out.kx kx3 (fun b hb => by have:=HSM.out; omega))
         have KXe:=hid (KXr.out.trans (kx3.mono (Y:=fun b => b = M + 1 ∨ M + 3 ≤ b) fun b hb => .inl hb))
         have HZe:=hid (HZr.out.kx kx3 (by omega))
         have HR3 : Hid (B ≠ [] → ∃ b off,ao = some ⟨b,off,none⟩ ∧ b < w3.heap.size ∧ BR w3 b off B):=fun hne => by
          obtain ⟨b,off,e,h2,h3⟩:=HRd.out hne
          have:=HAo.out hne b off e
          exact ⟨b,off,e,Nat.lt_of_lt_of_le h2 kx3.size,fun i hi => (World.cell?_of_block (kx3.block b h2 (by have:=HSM.out; omega))).trans (h3 i hi)⟩
         clear kx3 HBs HTd HQd KXr HZr HG HRd c1 c2 d1 d2
         rcases (show _ ∨ _ from hg) with ⟨hle,rfl,hr⟩ | ⟨hlt,rfl,hr⟩
         ·have c2:=hr.bk.c 2 _ rfl
          obtain ⟨v,hv⟩ : ∃ v,numv 4 B q = v:=⟨_,rfl⟩
          have HXv : Hid (X = (if v = sumB (B.take q) then (if q + 4 = B.length then .ok () (q + 4) else .no 51 ((q + 4 : Nat) : Int)) else .no 52 ((q : Nat) : Int) : Res Unit).andTo fun _ q => .ok ⟨a,b,d,acc,Q,lo,ra⟩ q):=by
           rw [HXs.out]
           unfold kG pend pnum
           rw [if_pos hle,if_pos (show anyB (numv 4 B q) = true from rfl),hv]
           rfl
          obtain ⟨sm,hsm⟩ : ∃ sm,sumB (B.take q) = sm:=⟨_,rfl⟩
          have htl : (B.take q).length = q:=by rw [List.length_take]; have:=HQn.out; omega
          have hSm:=rsum_any (.slice ao q cap) (B.take q) (fun i hi => by
           rw [htl] at hi
           have h:=HBy.out.at i
           rw [List.getD_eq_getElem?_getD] at h ⊢
           rw [List.getElem?_take_of_lt hi]
           exact h) (by rw [htl]; have:=HL9.out; have:=HQn.out; omega) w3 ⟨ao,cap,by rw [htl],fun hne => by
           have hne2 : B ≠ []:=fun e => hne (by rw [e,List.take_nil])
           obtain ⟨b,off,e,h2,h3⟩:=HR3.out hne2
           refine ⟨b,off,e,h2,fun i hi => ?_⟩
           rw [htl] at hi
           have h:=h3 i (by have:=HQn.out; omega)
           rw [List.getD_eq_getElem?_getD] at h ⊢
           rw [List.getElem?_take_of_lt hi]
           exact h⟩
          rw [hsm] at hSm HXv
          have HSm:=hid hSm
          rw [hv]
          have hqc : q ≤ cap:=by have:=HQn.out; have:=HN.out; omega
          have hq0 : (0 : Int) ≤ (q : Int):=by omega
          have hqc2 : (q : Int) ≤ (cap : Int):=by omega
          have HLe:=hid hle
          have HRq:=hid hr
          clear hg hle hr hSm hsm hv htl
          by_cases hvs : v = sm
          ·have dv : (v != sm) = false:=by simpa using hvs
           have HVs:=hid hvs
           clear hvs
           go_wp2_with fail
           go_at_call 17
           refine HSm.out.mono ?_
           rintro e w4 ⟨rfl,k4⟩
           have HRe:=hid (HRq.out.kept k4)
           have HB4:=hid (HB3.out.kept k4)
           have KXe:=hid (KXe.out.trans (k4.kx _))
           have HZe:=hid (HZe.out.kept k4)
           have HT4:=hid (HT3.out.kx (k4.kx fun _ => False) (fun _ h => h.elim))
           have HQ4:=hid (HQ3.out.kx (k4.kx fun _ => False) (fun _ h => h.elim))
           clear k4 c2 HRq HB3 HT3 HQ3 HSm
           have c1:=HRe.out.bk.c 1 _ rfl
           have c2:=HRe.out.bk.c 2 _ rfl
           by_cases hqn : q + 4 < n
           ·have d1 : decide (q + 4 < n) = true:=decide_eq_true hqn
            have d2 : decide (((q + 4 : Nat) : Int) < (n : Int)) = true:=decide_eq_true (by omega)
            have HXn : Hid (X = .no 51 ((q + 4 : Nat) : Int)):=by rw [HXv.out,if_pos HVs.out,if_neg (by have:=HN.out; omega)]; rfl
            have HBd:=hid (rbad_any (M + 1) ao B cap (q + 4) 0 pl 51 ((q + 4 : Nat) : Int) _ HRe.out)
            go_wp2_with fail
            go_at_call 33
            refine HBd.out.mono ?_
            rintro e w9 ⟨rfl,kx9,hr9,-⟩
            have HRe:=hid (hr9 (by first | rfl | trivial))
            have HZe:=hid (HZe.out.kx kx9 (by omega))
            have KXe:=hid (KXe.out.trans (kx9.mono (Y:=fun b => b = M + 1 ∨ M + 3 ≤ b) fun b hb => .inl hb))
            clear c1 c2 hr9 kx9 HBd HB4 HT4 HQ4
            have c2:=HRe.out.bk.c 2 _ rfl
            have c3:=HRe.out.bk.c 3 _ rfl
            go_wp2_with fail
            obtain ⟨hz7a,ksfa⟩:=sets7 HZe.out rfl (.int .i64 0) (.int .i64 0) (.int .i64 0) (.slice none 0 0) (.slice none 0 0) (.int .i64 0) (.int .i64 0)
            have hz7:=hz7a.kept ((Kept.refl _).drew)
            have ksf:=ksfa.trans (((Kept.refl _).drew).kx _)
            clear hz7a ksfa
            obtain ⟨m0,m1,m2,m3,m4,m5,m6,mf⟩ : _ ∧ _ ∧ _ ∧ _ ∧ _ ∧ _ ∧ _ ∧ _:=⟨HZe.out.c 0 _ rfl,HZe.out.c 1 _ rfl,HZe.out.c 2 _ rfl,HZe.out.c 3 _ rfl,HZe.out.c 4 _ rfl,HZe.out.c 5 _ rfl,HZe.out.c 6 _ rfl,HZe.out.fz⟩
            refine wp_region_late [] (fun u => u.cell? ⟨M + 1,3,none⟩ = some (.int .i64 (((q + 4 : Nat) : Int))) ∧ u.cell? ⟨M + 1,2,none⟩ = some (.int .i64 (51))) (by kernel_rfl) (show w9.drew.cell? _ = _ ∧ w9.drew.cell? _ = _ from ⟨c3,c2⟩) (fun hHeld => ?_)
            refine tkD (i:=0) (v:=?_) rfl hHeld ?_
            (try simp only [Act.put,zA,zB,zC,zD,zE,zF])
            refine tkD (i:=1) (v:=?_) rfl hHeld ?_
            (try simp only [Act.put,zA,zB,zC,zD,zE,zF])
            refine tkD (i:=2) (v:=?_) rfl hHeld ?_
            (try simp only [Act.put,zA,zB,zC,zD,zE,zF])
            refine tkD (i:=3) (v:=?_) rfl hHeld ?_
            (try simp only [Act.put,zA,zB,zC,zD,zE,zF])
            refine tkD (i:=4) (v:=?_) rfl hHeld ?_
            (try simp only [Act.put,zA,zB,zC,zD,zE,zF])
            refine tkD (i:=5) (v:=?_) rfl hHeld ?_
            (try simp only [Act.put,zA,zB,zC,zD,zE,zF])
            refine tkD (i:=6) (v:=?_) rfl hHeld ?_
            (try simp only [Act.put,zA,zB,zC,zD,zE,zF])
            refine tkD (i:=7) (v:=?_) rfl hHeld ?_
            (try simp only [Act.put,zA,zB,zC,zD,zE,zF])
            refine tkD (i:=8) (v:=?_) rfl hHeld ?_
            (try simp only [Act.put,zA,zB,zC,zD,zE,zF])
            refine wpAnyD_step (i:=9) (by kernel_rfl) rfl (fun K hK9 => ?_)
            go_simp
            go_wp2_with fail
            refine hK9.out _ _ (by refine ⟨?_,?_⟩ <;> simp [go_sem,c2,c3]) (fun hHeld2 => ?_)
            clear hK9 K
            (try simp only [Act.put,zA,zB,zC,zD,zE,zF])
            refine tkD (i:=10) (v:=?_) rfl hHeld2 ?_
            (try simp only [Act.put,zA,zB,zC,zD,zE,zF])
            refine tkD (i:=11) (v:=?_) rfl hHeld2 ?_
            (try simp only [Act.put,zA,zB,zC,zD,zE,zF])
            refine wpAnyD_done (by kernel_rfl) ?_ _
            (try simp only [Act.put,zA,zB,zC,zD,zE,zF])
            clear hHeld hHeld2 m0 m1 m2 m3 m4 m5 m6 mf c2 c3
            go_wp2_with fail
            obtain ⟨w7,hw7⟩ : ∃ w7,(((((((w9.setCell ⟨M,0,none⟩ (.int .i64 0)).setCell ⟨M,1,none⟩ (.int .i64 0)).setCell ⟨M,2,none⟩ (.int .i64 0)).setCell ⟨M,3,none⟩ (.slice none 0 0)).setCell ⟨M,4,none⟩ (.slice none 0 0)).setCell ⟨M,5,none⟩ (.int .i64 0)).setCell ⟨M,6,none⟩ (.int .i64 0)).drew = w7:=⟨_,rfl⟩
            rw [hw7] at hz7 ksf
            rw [hw7]
            obtain ⟨m0,m1,m2,m3,m4,m5,m6⟩ : _ ∧ _ ∧ _ ∧ _ ∧ _ ∧ _ ∧ _:=⟨hz7.c 0 _ rfl,hz7.c 1 _ rfl,hz7.c 2 _ rfl,hz7.c 3 _ rfl,hz7.c 4 _ rfl,hz7.c 5 _ rfl,hz7.c 6 _ rfl⟩
            clear hw7
            refine bodyPost_ret (v:=.tuple #[zst,.int .i64 (((q + 4 : Nat) : Int)),.int .i64 (51)]) (by simp [results,Try.results16,go_sem,m0,m1,m2,m3,m4,m5,m6]) rfl ?_
            refine ⟨kept_of_kx HK0.out ((KXe.out.mono (Y:=fun b => M ≤ b) fun b hb => by omega).trans (ksf.mono fun b hb => by omega)) (fun b hb => by have:=HM.out.1; omega),?_⟩
            rw [HXn.out]
            rfl
           ·have d1 : decide (q + 4 < n) = false:=decide_eq_false hqn
            have d2 : decide (((q + 4 : Nat) : Int) < (n : Int)) = false:=decide_eq_false (by omega)
            have HXo : Hid (X = .ok ⟨a,b,d,acc,Q,lo,ra⟩ (q + 4)):=by rw [HXv.out,if_pos HVs.out,if_pos (by have:=HN.out; have:=HLe.out; omega)]; rfl
            obtain ⟨hz7,ksf⟩:=sets7 HZe.out rfl (.int .i64 a) (.int .i64 b) (.int .i64 d) (.slice pa i pc) (.slice qa j qc) (.int .i64 lo) (.int .i64 ra)
            obtain ⟨w7,hw7⟩ : ∃ w7,(((((((w4.setCell ⟨M,0,none⟩ (.int .i64 a)).setCell ⟨M,1,none⟩ (.int .i64 b)).setCell ⟨M,2,none⟩ (.int .i64 d)).setCell ⟨M,3,none⟩ (.slice pa i pc)).setCell ⟨M,4,none⟩ (.slice qa j qc)).setCell ⟨M,5,none⟩ (.int .i64 lo)).setCell ⟨M,6,none⟩ (.int .i64 ra)) = w7:=⟨_,rfl⟩
            rw [hw7] at hz7 ksf
            have HW7:=hid hw7
            obtain ⟨m0,m1,m2,m3,m4,m5,m6,mf⟩ : _ ∧ _ ∧ _ ∧ _ ∧ _ ∧ _ ∧ _ ∧ _:=⟨HZe.out.c 0 _ rfl,HZe.out.c 1 _ rfl,HZe.out.c 2 _ rfl,HZe.out.c 3 _ rfl,HZe.out.c 4 _ rfl,HZe.out.c 5 _ rfl,HZe.out.c 6 _ rfl,HZe.out.fz⟩
            obtain ⟨e0,e1,e2,e3,e4,e5,e6⟩ : _ ∧ _ ∧ _ ∧ _ ∧ _ ∧ _ ∧ _:=⟨HB4.out.c 0 _ rfl,HB4.out.c 1 _ rfl,HB4.out.c 2 _ rfl,HB4.out.c 3 _ rfl,HB4.out.c 4 _ rfl,HB4.out.c 5 _ rfl,HB4.out.c 6 _ rfl⟩
            have HT7:=hid ((HT4.out.kx ksf (fun b hb => by have:=HSM.out; omega)).mono (H':=u.heap.size) (by have:=HM.out.1; have:=HSM.out; omega))
            have HQ7:=hid ((HQ4.out.kx ksf (fun b hb => by have:=HSM.out; omega)).mono (H':=u.heap.size) (by have:=HM.out.1; have:=HSM.out; omega))
            have KSF:=hid ksf
            have HZ7:=hid hz7
            clear hz7 ksf hw7
            go_wp2_with fail
            clear e0 e1 e2 e3 e4 e5 e6 m0 m1 m2 m3 m4 m5 m6 mf c1 c2
            rw [HW7.out]
            obtain ⟨m0,m1,m2,m3,m4,m5,m6⟩ : _ ∧ _ ∧ _ ∧ _ ∧ _ ∧ _ ∧ _:=⟨HZ7.out.c 0 _ rfl,HZ7.out.c 1 _ rfl,HZ7.out.c 2 _ rfl,HZ7.out.c 3 _ rfl,HZ7.out.c 4 _ rfl,HZ7.out.c 5 _ rfl,HZ7.out.c 6 _ rfl⟩
            clear HW7
            refine bodyPost_ret (v:=.tuple #[.agg #[.int .i64 a,.int .i64 b,.int .i64 d,.slice pa i pc,.slice qa j qc,.int .i64 lo,.int .i64 ra],.int .i64 0,.int .i64 0]) (by simp [results,Try.results16,go_sem,m0,m1,m2,m3,m4,m5,m6]) rfl ?_
            refine ⟨kept_of_kx HK0.out ((KXe.out.mono (Y:=fun b => M ≤ b) fun b hb => by omega).trans (KSF.out.mono fun b hb => by omega)) (fun b hb => by have:=HM.out.1; omega),?_⟩
            rw [HXo.out]
            exact (show ∃ v,Ending.returned _ = Ending.returned (.tuple #[v,.int .i64 0,.int .i64 0]) ∧ StD _ _ v _ from ⟨_,rfl,_,_,rfl,HT7.out,HQ7.out⟩)
          ·have dv : (v != sm) = true:=by simpa using hvs
           have HXn : Hid (X = .no 52 ((q : Nat) : Int)):=by rw [HXv.out,if_neg hvs]; rfl
           have HEr:=hid (show (52 : Int) ≠ 0 by decide)
           clear hvs
           go_wp2_with fail
           go_at_call 17
           refine HSm.out.mono ?_
           rintro e w4 ⟨rfl,k4⟩
           have HBd:=hid (rbad_any (M + 1) ao B cap (q + 4) 0 pl 52 ((q : Nat) : Int) w4 (HRq.out.kept k4))
           have KXe:=hid (KXe.out.trans (k4.kx _))
           have HZe:=hid (HZe.out.kept k4)
           clear k4 c2 HRq HB3 HT3 HQ3 HSm
           go_wp2_with fail
           go_at_call 33
           refine HBd.out.mono ?_
           rintro e w5 ⟨rfl,kx5,hr5,-⟩
           have HRe:=hid (hr5 (by first | rfl | trivial))
           have HZe:=hid (HZe.out.kx kx5 (by omega))
           have KXe:=hid (KXe.out.trans (kx5.mono (Y:=fun b => b = M + 1 ∨ M + 3 ≤ b) fun b hb => .inl hb))
           clear kx5 hr5 HBd
           have c1:=HRe.out.bk.c 1 _ rfl
           have c2:=HRe.out.bk.c 2 _ rfl
           have c3:=HRe.out.bk.c 3 _ rfl
           have hern2 : (52 != 0) = true:=by first | rfl | simpa using HEr.out
           by_cases hqn : (q + 4) < n
           ·have d1 : decide ((q + 4) < n) = true:=decide_eq_true hqn
            have d2 : decide ((((q + 4) : Nat) : Int) < (n : Int)) = true:=decide_eq_true (by omega)
            have HBd:=hid (rbad_any (M + 1) ao B cap (q + 4) 52 ((q : Nat) : Int) 51 (((q + 4) : Nat) : Int) _ HRe.out)
            go_wp2_with fail
            go_at_call 33
            refine HBd.out.mono ?_
            rintro e w9 ⟨rfl,kx9,-,hr9⟩
            have HRe:=hid (hr9 HEr.out)
            have HZe:=hid (HZe.out.kx kx9 (by omega))
            have KXe:=hid (KXe.out.trans (kx9.mono (Y:=fun b => b = M + 1 ∨ M + 3 ≤ b) fun b hb => .inl hb))
            clear c1 c2 c3 hr9 kx9
            have c2:=HRe.out.bk.c 2 _ rfl
            have c3:=HRe.out.bk.c 3 _ rfl
            go_wp2_with fail
            obtain ⟨hz7a,ksfa⟩:=sets7 HZe.out rfl (.int .i64 0) (.int .i64 0) (.int .i64 0) (.slice none 0 0) (.slice none 0 0) (.int .i64 0) (.int .i64 0)
            have hz7:=hz7a.kept ((Kept.refl _).drew)
            have ksf:=ksfa.trans (((Kept.refl _).drew).kx _)
            clear hz7a ksfa
            obtain ⟨m0,m1,m2,m3,m4,m5,m6,mf⟩ : _ ∧ _ ∧ _ ∧ _ ∧ _ ∧ _ ∧ _ ∧ _:=⟨HZe.out.c 0 _ rfl,HZe.out.c 1 _ rfl,HZe.out.c 2 _ rfl,HZe.out.c 3 _ rfl,HZe.out.c 4 _ rfl,HZe.out.c 5 _ rfl,HZe.out.c 6 _ rfl,HZe.out.fz⟩
            refine wp_region_late [] (fun u => u.cell? ⟨M + 1,3,none⟩ = some (.int .i64 (((q : Nat) : Int))) ∧ u.cell? ⟨M + 1,2,none⟩ = some (.int .i64 (52))) (by kernel_rfl) (show w9.drew.cell? _ = _ ∧ w9.drew.cell? _ = _ from ⟨c3,c2⟩) (fun hHeld => ?_)
            refine tkD (i:=0) (v:=?_) rfl hHeld ?_
            (try simp only [Act.put,zA,zB,zC,zD,zE,zF])
            refine tkD (i:=1) (v:=?_) rfl hHeld ?_
            (try simp only [Act.put,zA,zB,zC,zD,zE,zF])
            refine tkD (i:=2) (v:=?_) rfl hHeld ?_
            (try simp only [Act.put,zA,zB,zC,zD,zE,zF])
            refine tkD (i:=3) (v:=?_) rfl hHeld ?_
            (try simp only [Act.put,zA,zB,zC,zD,zE,zF])
            refine tkD (i:=4) (v:=?_) rfl hHeld ?_
            (try simp only [Act.put,zA,zB,zC,zD,zE,zF])
            refine tkD (i:=5) (v:=?_) rfl hHeld ?_
            (try simp only [Act.put,zA,zB,zC,zD,zE,zF])
            refine tkD (i:=6) (v:=?_) rfl hHeld ?_
            (try simp only [Act.put,zA,zB,zC,zD,zE,zF])
            refine tkD (i:=7) (v:=?_) rfl hHeld ?_
            (try simp only [Act.put,zA,zB,zC,zD,zE,zF])
            refine tkD (i:=8) (v:=?_) rfl hHeld ?_
            (try simp only [Act.put,zA,zB,zC,zD,zE,zF])
            refine wpAnyD_step (i:=9) (by kernel_rfl) rfl (fun K hK9 => ?_)
            go_simp
            go_wp2_with fail
            refine hK9.out _ _ (by refine ⟨?_,?_⟩ <;> simp [go_sem,c2,c3]) (fun hHeld2 => ?_)
            clear hK9 K
            (try simp only [Act.put,zA,zB,zC,zD,zE,zF])
            refine tkD (i:=10) (v:=?_) rfl hHeld2 ?_
            (try simp only [Act.put,zA,zB,zC,zD,zE,zF])
            refine tkD (i:=11) (v:=?_) rfl hHeld2 ?_
            (try simp only [Act.put,zA,zB,zC,zD,zE,zF])
            refine wpAnyD_done (by kernel_rfl) ?_ _
            (try simp only [Act.put,zA,zB,zC,zD,zE,zF])
            clear hHeld hHeld2 m0 m1 m2 m3 m4 m5 m6 mf c2 c3
            go_wp2_with fail
            obtain ⟨w7,hw7⟩ : ∃ w7,(((((((w9.setCell ⟨M,0,none⟩ (.int .i64 0)).setCell ⟨M,1,none⟩ (.int .i64 0)).setCell ⟨M,2,none⟩ (.int .i64 0)).setCell ⟨M,3,none⟩ (.slice none 0 0)).setCell ⟨M,4,none⟩ (.slice none 0 0)).setCell ⟨M,5,none⟩ (.int .i64 0)).setCell ⟨M,6,none⟩ (.int .i64 0)).drew = w7:=⟨_,rfl⟩
            rw [hw7] at hz7 ksf
            rw [hw7]
            obtain ⟨m0,m1,m2,m3,m4,m5,m6⟩ : _ ∧ _ ∧ _ ∧ _ ∧ _ ∧ _ ∧ _:=⟨hz7.c 0 _ rfl,hz7.c 1 _ rfl,hz7.c 2 _ rfl,hz7.c 3 _ rfl,hz7.c 4 _ rfl,hz7.c 5 _ rfl,hz7.c 6 _ rfl⟩
            clear hw7
            refine bodyPost_ret (v:=.tuple #[zst,.int .i64 (((q : Nat) : Int)),.int .i64 (52)]) (by simp [results,Try.results16,go_sem,m0,m1,m2,m3,m4,m5,m6]) rfl ?_
            refine ⟨kept_of_kx HK0.out ((KXe.out.mono (Y:=fun b => M ≤ b) fun b hb => by omega).trans (ksf.mono fun b hb => by omega)) (fun b hb => by have:=HM.out.1; omega),?_⟩
            rw [HXn.out]
            rfl
           ·have d1 : decide ((q + 4) < n) = false:=decide_eq_false hqn
            have d2 : decide ((((q + 4) : Nat) : Int) < (n : Int)) = false:=decide_eq_false (by omega)
            go_wp2_with fail
            obtain ⟨hz7a,ksfa⟩:=sets7 HZe.out rfl (.int .i64 0) (.int .i64 0) (.int .i64 0) (.slice none 0 0) (.slice none 0 0) (.int .i64 0) (.int .i64 0)
            have hz7:=hz7a.kept ((Kept.refl _).drew)
            have ksf:=ksfa.trans (((Kept.refl _).drew).kx _)
            clear hz7a ksfa
            obtain ⟨m0,m1,m2,m3,m4,m5,m6,mf⟩ : _ ∧ _ ∧ _ ∧ _ ∧ _ ∧ _ ∧ _ ∧ _:=⟨HZe.out.c 0 _ rfl,HZe.out.c 1 _ rfl,HZe.out.c 2 _ rfl,HZe.out.c 3 _ rfl,HZe.out.c 4 _ rfl,HZe.out.c 5 _ rfl,HZe.out.c 6 _ rfl,HZe.out.fz⟩
            refine wp_region_late [] (fun u => u.cell? ⟨M + 1,3,none⟩ = some (.int .i64 (((q : Nat) : Int))) ∧ u.cell? ⟨M + 1,2,none⟩ = some (.int .i64 (52))) (by kernel_rfl) (show w5.drew.cell? _ = _ ∧ w5.drew.cell? _ = _ from ⟨c3,c2⟩) (fun hHeld => ?_)
            refine tkD (i:=0) (v:=?_) rfl hHeld ?_
            (try simp only [Act.put,zA,zB,zC,zD,zE,zF])
            refine tkD (i:=1) (v:=?_) rfl hHeld ?_
            (try simp only [Act.put,zA,zB,zC,zD,zE,zF])
            refine tkD (i:=2) (v:=?_) rfl hHeld ?_
            (try simp only [Act.put,zA,zB,zC,zD,zE,zF])
            refine tkD (i:=3) (v:=?_) rfl hHeld ?_
            (try simp only [Act.put,zA,zB,zC,zD,zE,zF])
            refine tkD (i:=4) (v:=?_) rfl hHeld ?_
            (try simp only [Act.put,zA,zB,zC,zD,zE,zF])
            refine tkD (i:=5) (v:=?_) rfl hHeld ?_
            (try simp only [Act.put,zA,zB,zC,zD,zE,zF])
            refine tkD (i:=6) (v:=?_) rfl hHeld ?_
            (try simp only [Act.put,zA,zB,zC,zD,zE,zF])
            refine tkD (i:=7) (v:=?_) rfl hHeld ?_
            (try simp only [Act.put,zA,zB,zC,zD,zE,zF])
            refine tkD (i:=8) (v:=?_) rfl hHeld ?_
            (try simp only [Act.put,zA,zB,zC,zD,zE,zF])
            refine wpAnyD_step (i:=9) (by kernel_rfl) rfl (fun K hK9 => ?_)
            go_simp
            go_wp2_with fail
            refine hK9.out _ _ (by refine ⟨?_,?_⟩ <;> simp [go_sem,c2,c3]) (fun hHeld2 => ?_)
            clear hK9 K
            (try simp only [Act.put,zA,zB,zC,zD,zE,zF])
            refine tkD (i:=10) (v:=?_) rfl hHeld2 ?_
            (try simp only [Act.put,zA,zB,zC,zD,zE,zF])
            refine tkD (i:=11) (v:=?_) rfl hHeld2 ?_
            (try simp only [Act.put,zA,zB,zC,zD,zE,zF])
            refine wpAnyD_done (by kernel_rfl) ?_ _
            (try simp only [Act.put,zA,zB,zC,zD,zE,zF])
            clear hHeld hHeld2 m0 m1 m2 m3 m4 m5 m6 mf c2 c3
            go_wp2_with fail
            obtain ⟨w7,hw7⟩ : ∃ w7,(((((((w5.setCell ⟨M,0,none⟩ (.int .i64 0)).setCell ⟨M,1,none⟩ (.int .i64 0)).setCell ⟨M,2,none⟩ (.int .i64 0)).setCell ⟨M,3,none⟩ (.slice none 0 0)).setCell ⟨M,4,none⟩ (.slice none 0 0)).setCell ⟨M,5,none⟩ (.int .i64 0)).setCell ⟨M,6,none⟩ (.int .i64 0)).drew = w7:=⟨_,rfl⟩
            rw [hw7] at hz7 ksf
            rw [hw7]
            obtain ⟨m0,m1,m2,m3,m4,m5,m6⟩ : _ ∧ _ ∧ _ ∧ _ ∧ _ ∧ _ ∧ _:=⟨hz7.c 0 _ rfl,hz7.c 1 _ rfl,hz7.c 2 _ rfl,hz7.c 3 _ rfl,hz7.c 4 _ rfl,hz7.c 5 _ rfl,hz7.c 6 _ rfl⟩
            clear hw7
            refine bodyPost_ret (v:=.tuple #[zst,.int .i64 (((q : Nat) : Int)),.int .i64 (52)]) (by simp [results,Try.results16,go_sem,m0,m1,m2,m3,m4,m5,m6]) rfl ?_
            refine ⟨kept_of_kx HK0.out ((KXe.out.mono (Y:=fun b => M ≤ b) fun b hb => by omega).trans (ksf.mono fun b hb => by omega)) (fun b hb => by have:=HM.out.1; omega),?_⟩
            rw [HXn.out]
            rfl
         ·have c2:=hr.bk.c 2 _ rfl
          have HXn : Hid (X = .no 50 (B.length : Int)):=by rw [HXs.out]; unfold kG pend pnum; rw [if_neg (by omega)]; rfl
          have HEr:=hid (show (50 : Int) ≠ 0 by decide)
          have HRe:=hid hr
          clear hg hr hlt c2
          have c1:=HRe.out.bk.c 1 _ rfl
          have c2:=HRe.out.bk.c 2 _ rfl
          have c3:=HRe.out.bk.c 3 _ rfl
          have hern2 : (50 != 0) = true:=by first | rfl | simpa using HEr.out
          by_cases hqn : q < n
          ·have d1 : decide (q < n) = true:=decide_eq_true hqn
           have d2 : decide (((q : Nat) : Int) < (n : Int)) = true:=decide_eq_true (by omega)
           have HBd:=hid (rbad_any (M + 1) ao B cap q 50 (B.length : Int) 51 ((q : Nat) : Int) _ HRe.out)
           go_wp2_with fail
           go_at_call 33
           refine HBd.out.mono ?_
           rintro e w9 ⟨rfl,kx9,-,hr9⟩
           have HRe:=hid (hr9 HEr.out)
           have HZe:=hid (HZe.out.kx kx9 (by omega))
           have KXe:=hid (KXe.out.trans (kx9.mono (Y:=fun b => b = M + 1 ∨ M + 3 ≤ b) fun b hb => .inl hb))
           clear c1 c2 c3 hr9 kx9
           have c2:=HRe.out.bk.c 2 _ rfl
           have c3:=HRe.out.bk.c 3 _ rfl
           go_wp2_with fail
           obtain ⟨hz7a,ksfa⟩:=sets7 HZe.out rfl (.int .i64 0) (.int .i64 0) (.int .i64 0) (.slice none 0 0) (.slice none 0 0) (.int .i64 0) (.int .i64 0)
           have hz7:=hz7a.kept ((Kept.refl _).drew)
           have ksf:=ksfa.trans (((Kept.refl _).drew).kx _)
           clear hz7a ksfa
           obtain ⟨m0,m1,m2,m3,m4,m5,m6,mf⟩ : _ ∧ _ ∧ _ ∧ _ ∧ _ ∧ _ ∧ _ ∧ _:=⟨HZe.out.c 0 _ rfl,HZe.out.c 1 _ rfl,HZe.out.c 2 _ rfl,HZe.out.c 3 _ rfl,HZe.out.c 4 _ rfl,HZe.out.c 5 _ rfl,HZe.out.c 6 _ rfl,HZe.out.fz⟩
           refine wp_region_late [] (fun u => u.cell? ⟨M + 1,3,none⟩ = some (.int .i64 ((B.length : Int))) ∧ u.cell? ⟨M + 1,2,none⟩ = some (.int .i64 (50))) (by kernel_rfl) (show w9.drew.cell? _ = _ ∧ w9.drew.cell? _ = _ from ⟨c3,c2⟩) (fun hHeld => ?_)
           refine tkD (i:=0) (v:=?_) rfl hHeld ?_
           (try simp only [Act.put,zA,zB,zC,zD,zE,zF])
           refine tkD (i:=1) (v:=?_) rfl hHeld ?_
           (try simp only [Act.put,zA,zB,zC,zD,zE,zF])
           refine tkD (i:=2) (v:=?_) rfl hHeld ?_
           (try simp only [Act.put,zA,zB,zC,zD,zE,zF])
           refine tkD (i:=3) (v:=?_) rfl hHeld ?_
           (try simp only [Act.put,zA,zB,zC,zD,zE,zF])
           refine tkD (i:=4) (v:=?_) rfl hHeld ?_
           (try simp only [Act.put,zA,zB,zC,zD,zE,zF])
           refine tkD (i:=5) (v:=?_) rfl hHeld ?_
           (try simp only [Act.put,zA,zB,zC,zD,zE,zF])
           refine tkD (i:=6) (v:=?_) rfl hHeld ?_
           (try simp only [Act.put,zA,zB,zC,zD,zE,zF])
           refine tkD (i:=7) (v:=?_) rfl hHeld ?_
           (try simp only [Act.put,zA,zB,zC,zD,zE,zF])
           refine tkD (i:=8) (v:=?_) rfl hHeld ?_
           (try simp only [Act.put,zA,zB,zC,zD,zE,zF])
           refine wpAnyD_step (i:=9) (by kernel_rfl) rfl (fun K hK9 => ?_)
           go_simp
           go_wp2_with fail
           refine hK9.out _ _ (by refine ⟨?_,?_⟩ <;> simp [go_sem,c2,c3]) (fun hHeld2 => ?_)
           clear hK9 K
           (try simp only [Act.put,zA,zB,zC,zD,zE,zF])
           refine tkD (i:=10) (v:=?_) rfl hHeld2 ?_
           (try simp only [Act.put,zA,zB,zC,zD,zE,zF])
           refine tkD (i:=11) (v:=?_) rfl hHeld2 ?_
           (try simp only [Act.put,zA,zB,zC,zD,zE,zF])
           refine wpAnyD_done (by kernel_rfl) ?_ _
           (try simp only [Act.put,zA,zB,zC,zD,zE,zF])
           clear hHeld hHeld2 m0 m1 m2 m3 m4 m5 m6 mf c2 c3
           go_wp2_with fail
           obtain ⟨w7,hw7⟩ : ∃ w7,(((((((w9.setCell ⟨M,0,none⟩ (.int .i64 0)).setCell ⟨M,1,none⟩ (.int .i64 0)).setCell ⟨M,2,none⟩ (.int .i64 0)).setCell ⟨M,3,none⟩ (.slice none 0 0)).setCell ⟨M,4,none⟩ (.slice none 0 0)).setCell ⟨M,5,none⟩ (.int .i64 0)).setCell ⟨M,6,none⟩ (.int .i64 0)).drew = w7:=⟨_,rfl⟩
           rw [hw7] at hz7 ksf
           rw [hw7]
           obtain ⟨m0,m1,m2,m3,m4,m5,m6⟩ : _ ∧ _ ∧ _ ∧ _ ∧ _ ∧ _ ∧ _:=⟨hz7.c 0 _ rfl,hz7.c 1 _ rfl,hz7.c 2 _ rfl,hz7.c 3 _ rfl,hz7.c 4 _ rfl,hz7.c 5 _ rfl,hz7.c 6 _ rfl⟩
           clear hw7
           refine bodyPost_ret (v:=.tuple #[zst,.int .i64 ((B.length : Int)),.int .i64 (50)]) (by simp [results,Try.results16,go_sem,m0,m1,m2,m3,m4,m5,m6]) rfl ?_
           refine ⟨kept_of_kx HK0.out ((KXe.out.mono (Y:=fun b => M ≤ b) fun b hb => by omega).trans (ksf.mono fun b hb => by omega)) (fun b hb => by have:=HM.out.1; omega),?_⟩
           rw [HXn.out]
           rfl
          ·have d1 : decide (q < n) = false:=decide_eq_false hqn
           have d2 : decide (((q : Nat) : Int) < (n : Int)) = false:=decide_eq_false (by omega)
           go_wp2_with fail
           obtain ⟨hz7a,ksfa⟩:=sets7 HZe.out rfl (.int .i64 0) (.int .i64 0) (.int .i64 0) (.slice none 0 0) (.slice none 0 0) (.int .i64 0) (.int .i64 0)
           have hz7:=hz7a.kept ((Kept.refl _).drew)
           have ksf:=ksfa.trans (((Kept.refl _).drew).kx _)
           clear hz7a ksfa
           obtain ⟨m0,m1,m2,m3,m4,m5,m6,mf⟩ : _ ∧ _ ∧ _ ∧ _ ∧ _ ∧ _ ∧ _ ∧ _:=⟨HZe.out.c 0 _ rfl,HZe.out.c 1 _ rfl,HZe.out.c 2 _ rfl,HZe.out.c 3 _ rfl,HZe.out.c 4 _ rfl,HZe.out.c 5 _ rfl,HZe.out.c 6 _ rfl,HZe.out.fz⟩
           refine wp_region_late [] (fun u => u.cell? ⟨M + 1,3,none⟩ = some (.int .i64 ((B.length : Int))) ∧ u.cell? ⟨M + 1,2,none⟩ = some (.int .i64 (50))) (by kernel_rfl) (show w3.drew.cell? _ = _ ∧ w3.drew.cell? _ = _ from ⟨c3,c2⟩) (fun hHeld => ?_)
           refine tkD (i:=0) (v:=?_) rfl hHeld ?_
           (try simp only [Act.put,zA,zB,zC,zD,zE,zF])
           refine tkD (i:=1) (v:=?_) rfl hHeld ?_
           (try simp only [Act.put,zA,zB,zC,zD,zE,zF])
           refine tkD (i:=2) (v:=?_) rfl hHeld ?_
           (try simp only [Act.put,zA,zB,zC,zD,zE,zF])
           refine tkD (i:=3) (v:=?_) rfl hHeld ?_
           (try simp only [Act.put,zA,zB,zC,zD,zE,zF])
           refine tkD (i:=4) (v:=?_) rfl hHeld ?_
           (try simp only [Act.put,zA,zB,zC,zD,zE,zF])
           refine tkD (i:=5) (v:=?_) rfl hHeld ?_
           (try simp only [Act.put,zA,zB,zC,zD,zE,zF])
           refine tkD (i:=6) (v:=?_) rfl hHeld ?_
           (try simp only [Act.put,zA,zB,zC,zD,zE,zF])
           refine tkD (i:=7) (v:=?_) rfl hHeld ?_
           (try simp only [Act.put,zA,zB,zC,zD,zE,zF])
           refine tkD (i:=8) (v:=?_) rfl hHeld ?_
           (try simp only [Act.put,zA,zB,zC,zD,zE,zF])
           refine wpAnyD_step (i:=9) (by kernel_rfl) rfl (fun K hK9 => ?_)
           go_simp
           go_wp2_with fail
           refine hK9.out _ _ (by refine ⟨?_,?_⟩ <;> simp [go_sem,c2,c3]) (fun hHeld2 => ?_)
           clear hK9 K
           (try simp only [Act.put,zA,zB,zC,zD,zE,zF])
           refine tkD (i:=10) (v:=?_) rfl hHeld2 ?_
           (try simp only [Act.put,zA,zB,zC,zD,zE,zF])
           refine tkD (i:=11) (v:=?_) rfl hHeld2 ?_
           (try simp only [Act.put,zA,zB,zC,zD,zE,zF])
           refine wpAnyD_done (by kernel_rfl) ?_ _
           (try simp only [Act.put,zA,zB,zC,zD,zE,zF])
           clear hHeld hHeld2 m0 m1 m2 m3 m4 m5 m6 mf c2 c3
           go_wp2_with fail
           obtain ⟨w7,hw7⟩ : ∃ w7,(((((((w3.setCell ⟨M,0,none⟩ (.int .i64 0)).setCell ⟨M,1,none⟩ (.int .i64 0)).setCell ⟨M,2,none⟩ (.int .i64 0)).setCell ⟨M,3,none⟩ (.slice none 0 0)).setCell ⟨M,4,none⟩ (.slice none 0 0)).setCell ⟨M,5,none⟩ (.int .i64 0)).setCell ⟨M,6,none⟩ (.int .i64 0)).drew = w7:=⟨_,rfl⟩
           rw [hw7] at hz7 ksf
           rw [hw7]
           obtain ⟨m0,m1,m2,m3,m4,m5,m6⟩ : _ ∧ _ ∧ _ ∧ _ ∧ _ ∧ _ ∧ _:=⟨hz7.c 0 _ rfl,hz7.c 1 _ rfl,hz7.c 2 _ rfl,hz7.c 3 _ rfl,hz7.c 4 _ rfl,hz7.c 5 _ rfl,hz7.c 6 _ rfl⟩
           clear hw7
           refine bodyPost_ret (v:=.tuple #[zst,.int .i64 ((B.length : Int)),.int .i64 (50)]) (by simp [results,Try.results16,go_sem,m0,m1,m2,m3,m4,m5,m6]) rfl ?_
           refine ⟨kept_of_kx HK0.out ((KXe.out.mono (Y:=fun b => M ≤ b) fun b hb => by omega).trans (ksf.mono fun b hb => by omega)) (fun b hb => by have:=HM.out.1; omega),?_⟩
           rw [HXn.out]
           rfl
       ·skip
        have HXn:=hid (hno her)
        have HEr:=hid her
        have hern : (er == 0) = false:=by simpa using her
        have HG:=hid (fun (w : World) (k : Kept wr w) => rget_err (M + 1) ao B cap q er pl her 4 w (hr.kept k))
        have c1:=hr.bk.c 1 _ rfl
        have HRr:=hid hr
        have HZr:=hid (HBZ.out.kx KXr.out (by omega))
        clear her hr hno hyes hgq hj
        go_wp2_with fail
        go_at_call 32
        refine (HG.out _ (Kept.refl _)).mono ?_
        rintro e w3 ⟨rfl,k3⟩
        have HRe:=hid (HRr.out.kept k3)
        have KXe:=hid (KXr.out.trans (k3.kx _))
        have HZe:=hid (HZr.out.kept k3)
        clear k3 c1 c2 HG HRr KXr HZr HBs HTd
        have c1:=HRe.out.bk.c 1 _ rfl
        have c2:=HRe.out.bk.c 2 _ rfl
        have c3:=HRe.out.bk.c 3 _ rfl
        have hern2 : (er != 0) = true:=by first | rfl | simpa using HEr.out
        by_cases hqn : q < n
        ·have d1 : decide (q < n) = true:=decide_eq_true hqn
         have d2 : decide (((q : Nat) : Int) < (n : Int)) = true:=decide_eq_true (by omega)
         have HBd:=hid (rbad_any (M + 1) ao B cap q er pl 51 ((q : Nat) : Int) _ HRe.out)
         go_wp2_with fail
         go_at_call 33
         refine HBd.out.mono ?_
         rintro e w9 ⟨rfl,kx9,-,hr9⟩
         have HRe:=hid (hr9 HEr.out)
         have HZe:=hid (HZe.out.kx kx9 (by omega))
         have KXe:=hid (KXe.out.trans (kx9.mono (Y:=fun b => b = M + 1 ∨ M + 3 ≤ b) fun b hb => .inl hb))
         clear c1 c2 c3 hr9 kx9
         have c2:=HRe.out.bk.c 2 _ rfl
         have c3:=HRe.out.bk.c 3 _ rfl
         go_wp2_with fail
         obtain ⟨hz7a,ksfa⟩:=sets7 HZe.out rfl (.int .i64 0) (.int .i64 0) (.int .i64 0) (.slice none 0 0) (.slice none 0 0) (.int .i64 0) (.int .i64 0)
         have hz7:=hz7a.kept ((Kept.refl _).drew)
         have ksf:=ksfa.trans (((Kept.refl _).drew).kx _)
         clear hz7a ksfa
         obtain ⟨m0,m1,m2,m3,m4,m5,m6,mf⟩ : _ ∧ _ ∧ _ ∧ _ ∧ _ ∧ _ ∧ _ ∧ _:=⟨HZe.out.c 0 _ rfl,HZe.out.c 1 _ rfl,HZe.out.c 2 _ rfl,HZe.out.c 3 _ rfl,HZe.out.c 4 _ rfl,HZe.out.c 5 _ rfl,HZe.out.c 6 _ rfl,HZe.out.fz⟩
         refine wp_region_late [] (fun u => u.cell? ⟨M + 1,3,none⟩ = some (.int .i64 (pl)) ∧ u.cell? ⟨M + 1,2,none⟩ = some (.int .i64 (er))) (by kernel_rfl) (show w9.drew.cell? _ = _ ∧ w9.drew.cell? _ = _ from ⟨c3,c2⟩) (fun hHeld => ?_)
         refine tkD (i:=0) (v:=?_) rfl hHeld ?_
         (try simp only [Act.put,zA,zB,zC,zD,zE,zF])
         refine tkD (i:=1) (v:=?_) rfl hHeld ?_
         (try simp only [Act.put,zA,zB,zC,zD,zE,zF])
         refine tkD (i:=2) (v:=?_) rfl hHeld ?_
         (try simp only [Act.put,zA,zB,zC,zD,zE,zF])
         refine tkD (i:=3) (v:=?_) rfl hHeld ?_
         (try simp only [Act.put,zA,zB,zC,zD,zE,zF])
         refine tkD (i:=4) (v:=?_) rfl hHeld ?_
         (try simp only [Act.put,zA,zB,zC,zD,zE,zF])
         refine tkD (i:=5) (v:=?_) rfl hHeld ?_
         (try simp only [Act.put,zA,zB,zC,zD,zE,zF])
         refine tkD (i:=6) (v:=?_) rfl hHeld ?_
         (try simp only [Act.put,zA,zB,zC,zD,zE,zF])
         refine tkD (i:=7) (v:=?_) rfl hHeld ?_
         (try simp only [Act.put,zA,zB,zC,zD,zE,zF])
         refine tkD (i:=8) (v:=?_) rfl hHeld ?_
         (try simp only [Act.put,zA,zB,zC,zD,zE,zF])
         refine wpAnyD_step (i:=9) (by kernel_rfl) rfl (fun K hK9 => ?_)
         go_simp
         go_wp2_with fail
         refine hK9.out _ _ (by refine ⟨?_,?_⟩ <;> simp [go_sem,c2,c3]) (fun hHeld2 => ?_)
         clear hK9 K
         (try simp only [Act.put,zA,zB,zC,zD,zE,zF])
         refine tkD (i:=10) (v:=?_) rfl hHeld2 ?_
         (try simp only [Act.put,zA,zB,zC,zD,zE,zF])
         refine tkD (i:=11) (v:=?_) rfl hHeld2 ?_
         (try simp only [Act.put,zA,zB,zC,zD,zE,zF])
         refine wpAnyD_done (by kernel_rfl) ?_ _
         (try simp only [Act.put,zA,zB,zC,zD,zE,zF])
         clear hHeld hHeld2 m0 m1 m2 m3 m4 m5 m6 mf c2 c3
         go_wp2_with fail
         obtain ⟨w7,hw7⟩ : ∃ w7,(((((((w9.setCell ⟨M,0,none⟩ (.int .i64 0)).setCell ⟨M,1,none⟩ (.int .i64 0)).setCell ⟨M,2,none⟩ (.int .i64 0)).setCell ⟨M,3,none⟩ (.slice none 0 0)).setCell ⟨M,4,none⟩ (.slice none 0 0)).setCell ⟨M,5,none⟩ (.int .i64 0)).setCell ⟨M,6,none⟩ (.int .i64 0)).drew = w7:=⟨_,rfl⟩
         rw [hw7] at hz7 ksf
         rw [hw7]
         obtain ⟨m0,m1,m2,m3,m4,m5,m6⟩ : _ ∧ _ ∧ _ ∧ _ ∧ _ ∧ _ ∧ _:=⟨hz7.c 0 _ rfl,hz7.c 1 _ rfl,hz7.c 2 _ rfl,hz7.c 3 _ rfl,hz7.c 4 _ rfl,hz7.c 5 _ rfl,hz7.c 6 _ rfl⟩
         clear hw7
         refine bodyPost_ret (v:=.tuple #[zst,.int .i64 (pl),.int .i64 (er)]) (by simp [results,Try.results16,go_sem,m0,m1,m2,m3,m4,m5,m6]) rfl ?_
         refine ⟨kept_of_kx HK0.out ((KXe.out.mono (Y:=fun b => M ≤ b) fun b hb => by omega).trans (ksf.mono fun b hb => by omega)) (fun b hb => by have:=HM.out.1; omega),?_⟩
         rw [HXn.out]
         rfl
        ·have d1 : decide (q < n) = false:=decide_eq_false hqn
         have d2 : decide (((q : Nat) : Int) < (n : Int)) = false:=decide_eq_false (by omega)
         go_wp2_with fail
         obtain ⟨hz7a,ksfa⟩:=sets7 HZe.out rfl (.int .i64 0) (.int .i64 0) (.int .i64 0) (.slice none 0 0) (.slice none 0 0) (.int .i64 0) (.int .i64 0)
         have hz7:=hz7a.kept ((Kept.refl _).drew)
         have ksf:=ksfa.trans (((Kept.refl _).drew).kx _)
         clear hz7a ksfa
         obtain ⟨m0,m1,m2,m3,m4,m5,m6,mf⟩ : _ ∧ _ ∧ _ ∧ _ ∧ _ ∧ _ ∧ _ ∧ _:=⟨HZe.out.c 0 _ rfl,HZe.out.c 1 _ rfl,HZe.out.c 2 _ rfl,HZe.out.c 3 _ rfl,HZe.out.c 4 _ rfl,HZe.out.c 5 _ rfl,HZe.out.c 6 _ rfl,HZe.out.fz⟩
         refine wp_region_late [] (fun u => u.cell? ⟨M + 1,3,none⟩ = some (.int .i64 (pl)) ∧ u.cell? ⟨M + 1,2,none⟩ = some (.int .i64 (er))) (by kernel_rfl) (show w3.drew.cell? _ = _ ∧ w3.drew.cell? _ = _ from ⟨c3,c2⟩) (fun hHeld => ?_)
         refine tkD (i:=0) (v:=?_) rfl hHeld ?_
         (try simp only [Act.put,zA,zB,zC,zD,zE,zF])
         refine tkD (i:=1) (v:=?_) rfl hHeld ?_
         (try simp only [Act.put,zA,zB,zC,zD,zE,zF])
         refine tkD (i:=2) (v:=?_) rfl hHeld ?_
         (try simp only [Act.put,zA,zB,zC,zD,zE,zF])
         refine tkD (i:=3) (v:=?_) rfl hHeld ?_
         (try simp only [Act.put,zA,zB,zC,zD,zE,zF])
         refine tkD (i:=4) (v:=?_) rfl hHeld ?_
         (try simp only [Act.put,zA,zB,zC,zD,zE,zF])
         refine tkD (i:=5) (v:=?_) rfl hHeld ?_
         (try simp only [Act.put,zA,zB,zC,zD,zE,zF])
         refine tkD (i:=6) (v:=?_) rfl hHeld ?_
         (try simp only [Act.put,zA,zB,zC,zD,zE,zF])
         refine tkD (i:=7) (v:=?_) rfl hHeld ?_
         (try simp only [Act.put,zA,zB,zC,zD,zE,zF])
         refine tkD (i:=8) (v:=?_) rfl hHeld ?_
         (try simp only [Act.put,zA,zB,zC,zD,zE,zF])
         refine wpAnyD_step (i:=9) (by kernel_rfl) rfl (fun K hK9 => ?_)
         go_simp
         go_wp2_with fail
         refine hK9.out _ _ (by refine ⟨?_,?_⟩ <;> simp [go_sem,c2,c3]) (fun hHeld2 => ?_)
         clear hK9 K
         (try simp only [Act.put,zA,zB,zC,zD,zE,zF])
         refine tkD (i:=10) (v:=?_) rfl hHeld2 ?_
         (try simp only [Act.put,zA,zB,zC,zD,zE,zF])
         refine tkD (i:=11) (v:=?_) rfl hHeld2 ?_
         (try simp only [Act.put,zA,zB,zC,zD,zE,zF])
         refine wpAnyD_done (by kernel_rfl) ?_ _
         (try simp only [Act.put,zA,zB,zC,zD,zE,zF])
         clear hHeld hHeld2 m0 m1 m2 m3 m4 m5 m6 mf c2 c3
         go_wp2_with fail
         obtain ⟨w7,hw7⟩ : ∃ w7,(((((((w3.setCell ⟨M,0,none⟩ (.int .i64 0)).setCell ⟨M,1,none⟩ (.int .i64 0)).setCell ⟨M,2,none⟩ (.int .i64 0)).setCell ⟨M,3,none⟩ (.slice none 0 0)).setCell ⟨M,4,none⟩ (.slice none 0 0)).setCell ⟨M,5,none⟩ (.int .i64 0)).setCell ⟨M,6,none⟩ (.int .i64 0)).drew = w7:=⟨_,rfl⟩
         rw [hw7] at hz7 ksf
         rw [hw7]
         obtain ⟨m0,m1,m2,m3,m4,m5,m6⟩ : _ ∧ _ ∧ _ ∧ _ ∧ _ ∧ _ ∧ _:=⟨hz7.c 0 _ rfl,hz7.c 1 _ rfl,hz7.c 2 _ rfl,hz7.c 3 _ rfl,hz7.c 4 _ rfl,hz7.c 5 _ rfl,hz7.c 6 _ rfl⟩
         clear hw7
         refine bodyPost_ret (v:=.tuple #[zst,.int .i64 (pl),.int .i64 (er)]) (by simp [results,Try.results16,go_sem,m0,m1,m2,m3,m4,m5,m6]) rfl ?_
         refine ⟨kept_of_kx HK0.out ((KXe.out.mono (Y:=fun b => M ≤ b) fun b hb => by omega).trans (ksf.mono fun b hb => by omega)) (fun b hb => by have:=HM.out.1; omega),?_⟩
         rw [HXn.out]
         rfl
    ·skip
     have HXn:=hid (hno her)
     have HEr:=hid her
     have hern : (er == 0) = false:=by simpa using her
     have HW:=hid (fun (w : World) (k : Kept wr w) => rwant_err (M + 1) ao B cap q er pl her 2 0 64 w (hr.kept k))
     have HG:=hid (fun (w : World) (k : Kept wr w) => rget_err (M + 1) ao B cap q er pl her 4 w (hr.kept k))
     have HRr:=hid hr
     clear her hr hno hyes hgt hi
     go_wp2_with fail
     go_at_call 34
     refine (HW.out _ (Kept.refl _)).mono ?_
     rintro e w2 ⟨rfl,k2⟩
     have HR2:=hid (HRr.out.kept k2)
     have KX2:=hid (KXr.out.trans (k2.kx _))
     have HZ2:=hid (HBZ.out.kx KX2.out (by omega))
     have HG2:=hid (fun (w : World) (k : Kept w2 w) => HG.out w (k2.trans k))
     clear k2 c2 e3 HG HRr KXr HBs HW
     go_wp2_with fail
     go_loopw [12] (fun iv wx => iv = .int .i64 0 ∧ Kept w2 wx) (fun iv _ => 0)
     case atStart => exact ⟨rfl,Kept.refl _⟩
     case round =>
      obtain ⟨rfl,kx⟩:=hrel
      have hr:=HR2.out.kept kx
      have c1:=hr.bk.c 1 _ rfl
      have c2:=hr.bk.c 2 _ rfl
      have KXx:=hid (KX2.out.trans (kx.kx _))
      have HGx:=hid (HG2.out _ kx)
      have HRx:=hid hr
      have HZx:=hid (HZ2.out.kept kx)
      clear hr kx HG2 HR2 HZ2 KX2
      go_wp2_with fail
      go_at_call 32
      refine HGx.out.mono ?_
      rintro e w3 ⟨rfl,k3⟩
      have HRe:=hid (HRx.out.kept k3)
      have KXe:=hid (KXx.out.trans (k3.kx _))
      have HZe:=hid (HZx.out.kept k3)
      clear k3 c1 c2 HGx HRx KXx HZx
      have c1:=HRe.out.bk.c 1 _ rfl
      have c2:=HRe.out.bk.c 2 _ rfl
      have c3:=HRe.out.bk.c 3 _ rfl
      have hern2 : (er != 0) = true:=by first | rfl | simpa using HEr.out
      by_cases hqn : q < n
      ·have d1 : decide (q < n) = true:=decide_eq_true hqn
       have d2 : decide (((q : Nat) : Int) < (n : Int)) = true:=decide_eq_true (by omega)
       have HBd:=hid (rbad_any (M + 1) ao B cap q er pl 51 ((q : Nat) : Int) _ HRe.out)
       go_wp2_with fail
       go_at_call 33
       refine HBd.out.mono ?_
       rintro e w9 ⟨rfl,kx9,-,hr9⟩
       have HRe:=hid (hr9 HEr.out)
       have HZe:=hid (HZe.out.kx kx9 (by omega))
       have KXe:=hid (KXe.out.trans (kx9.mono (Y:=fun b => b = M + 1 ∨ M + 3 ≤ b) fun b hb => .inl hb))
       clear c1 c2 c3 hr9 kx9
       have c2:=HRe.out.bk.c 2 _ rfl
       have c3:=HRe.out.bk.c 3 _ rfl
       go_wp2_with fail
       obtain ⟨hz7a,ksfa⟩:=sets7 HZe.out rfl (.int .i64 0) (.int .i64 0) (.int .i64 0) (.slice none 0 0) (.slice none 0 0) (.int .i64 0) (.int .i64 0)
       have hz7:=hz7a.kept ((Kept.refl _).drew)
       have ksf:=ksfa.trans (((Kept.refl _).drew).kx _)
       clear hz7a ksfa
       obtain ⟨m0,m1,m2,m3,m4,m5,m6,mf⟩ : _ ∧ _ ∧ _ ∧ _ ∧ _ ∧ _ ∧ _ ∧ _:=⟨HZe.out.c 0 _ rfl,HZe.out.c 1 _ rfl,HZe.out.c 2 _ rfl,HZe.out.c 3 _ rfl,HZe.out.c 4 _ rfl,HZe.out.c 5 _ rfl,HZe.out.c 6 _ rfl,HZe.out.fz⟩
       refine wp_region_late [] (fun u => u.cell? ⟨M + 1,3,none⟩ = some (.int .i64 (pl)) ∧ u.cell? ⟨M + 1,2,none⟩ = some (.int .i64 (er))) (by kernel_rfl) (show w9.drew.cell? _ = _ ∧ w9.drew.cell? _ = _ from ⟨c3,c2⟩) (fun hHeld => ?_)
       refine tkD (i:=0) (v:=?_) rfl hHeld ?_
       (try simp only [Act.put,zA,zB,zC,zD,zE,zF])
       refine tkD (i:=1) (v:=?_) rfl hHeld ?_
       (try simp only [Act.put,zA,zB,zC,zD,zE,zF])
       refine tkD (i:=2) (v:=?_) rfl hHeld ?_
       (try simp only [Act.put,zA,zB,zC,zD,zE,zF])
       refine tkD (i:=3) (v:=?_) rfl hHeld ?_
       (try simp only [Act.put,zA,zB,zC,zD,zE,zF])
       refine tkD (i:=4) (v:=?_) rfl hHeld ?_
       (try simp only [Act.put,zA,zB,zC,zD,zE,zF])
       refine tkD (i:=5) (v:=?_) rfl hHeld ?_
       (try simp only [Act.put,zA,zB,zC,zD,zE,zF])
       refine tkD (i:=6) (v:=?_) rfl hHeld ?_
       (try simp only [Act.put,zA,zB,zC,zD,zE,zF])
       refine tkD (i:=7) (v:=?_) rfl hHeld ?_
       (try simp only [Act.put,zA,zB,zC,zD,zE,zF])
       refine tkD (i:=8) (v:=?_) rfl hHeld ?_
       (try simp only [Act.put,zA,zB,zC,zD,zE,zF])
       refine wpAnyD_step (i:=9) (by kernel_rfl) rfl (fun K hK9 => ?_)
       go_simp
       go_wp2_with fail
       refine hK9.out _ _ (by refine ⟨?_,?_⟩ <;> simp [go_sem,c2,c3]) (fun hHeld2 => ?_)
       clear hK9 K
       (try simp only [Act.put,zA,zB,zC,zD,zE,zF])
       refine tkD (i:=10) (v:=?_) rfl hHeld2 ?_
       (try simp only [Act.put,zA,zB,zC,zD,zE,zF])
       refine tkD (i:=11) (v:=?_) rfl hHeld2 ?_
       (try simp only [Act.put,zA,zB,zC,zD,zE,zF])
       refine wpAnyD_done (by kernel_rfl) ?_ _
       (try simp only [Act.put,zA,zB,zC,zD,zE,zF])
       clear hHeld hHeld2 m0 m1 m2 m3 m4 m5 m6 mf c2 c3
       go_wp2_with fail
       obtain ⟨w7,hw7⟩ : ∃ w7,(((((((w9.setCell ⟨M,0,none⟩ (.int .i64 0)).setCell ⟨M,1,none⟩ (.int .i64 0)).setCell ⟨M,2,none⟩ (.int .i64 0)).setCell ⟨M,3,none⟩ (.slice none 0 0)).setCell ⟨M,4,none⟩ (.slice none 0 0)).setCell ⟨M,5,none⟩ (.int .i64 0)).setCell ⟨M,6,none⟩ (.int .i64 0)).drew = w7:=⟨_,rfl⟩
       rw [hw7] at hz7 ksf
       rw [hw7]
       obtain ⟨m0,m1,m2,m3,m4,m5,m6⟩ : _ ∧ _ ∧ _ ∧ _ ∧ _ ∧ _ ∧ _:=⟨hz7.c 0 _ rfl,hz7.c 1 _ rfl,hz7.c 2 _ rfl,hz7.c 3 _ rfl,hz7.c 4 _ rfl,hz7.c 5 _ rfl,hz7.c 6 _ rfl⟩
       clear hw7
       refine bodyPost_ret (v:=.tuple #[zst,.int .i64 (pl),.int .i64 (er)]) (by simp [results,Try.results16,go_sem,m0,m1,m2,m3,m4,m5,m6]) rfl ?_
       refine ⟨kept_of_kx HK0.out ((KXe.out.mono (Y:=fun b => M ≤ b) fun b hb => by omega).trans (ksf.mono fun b hb => by omega)) (fun b hb => by have:=HM.out.1; omega),?_⟩
       rw [HXn.out]
       rfl
      ·have d1 : decide (q < n) = false:=decide_eq_false hqn
       have d2 : decide (((q : Nat) : Int) < (n : Int)) = false:=decide_eq_false (by omega)
       go_wp2_with fail
       obtain ⟨hz7a,ksfa⟩:=sets7 HZe.out rfl (.int .i64 0) (.int .i64 0) (.int .i64 0) (.slice none 0 0) (.slice none 0 0) (.int .i64 0) (.int .i64 0)
       have hz7:=hz7a.kept ((Kept.refl _).drew)
       have ksf:=ksfa.trans (((Kept.refl _).drew).kx _)
       clear hz7a ksfa
       obtain ⟨m0,m1,m2,m3,m4,m5,m6,mf⟩ : _ ∧ _ ∧ _ ∧ _ ∧ _ ∧ _ ∧ _ ∧ _:=⟨HZe.out.c 0 _ rfl,HZe.out.c 1 _ rfl,HZe.out.c 2 _ rfl,HZe.out.c 3 _ rfl,HZe.out.c 4 _ rfl,HZe.out.c 5 _ rfl,HZe.out.c 6 _ rfl,HZe.out.fz⟩
       refine wp_region_late [] (fun u => u.cell? ⟨M + 1,3,none⟩ = some (.int .i64 (pl)) ∧ u.cell? ⟨M + 1,2,none⟩ = some (.int .i64 (er))) (by kernel_rfl) (show w3.drew.cell? _ = _ ∧ w3.drew.cell? _ = _ from ⟨c3,c2⟩) (fun hHeld => ?_)
       refine tkD (i:=0) (v:=?_) rfl hHeld ?_
       (try simp only [Act.put,zA,zB,zC,zD,zE,zF])
       refine tkD (i:=1) (v:=?_) rfl hHeld ?_
       (try simp only [Act.put,zA,zB,zC,zD,zE,zF])
       refine tkD (i:=2) (v:=?_) rfl hHeld ?_
       (try simp only [Act.put,zA,zB,zC,zD,zE,zF])
       refine tkD (i:=3) (v:=?_) rfl hHeld ?_
       (try simp only [Act.put,zA,zB,zC,zD,zE,zF])
       refine tkD (i:=4) (v:=?_) rfl hHeld ?_
       (try simp only [Act.put,zA,zB,zC,zD,zE,zF])
       refine tkD (i:=5) (v:=?_) rfl hHeld ?_
       (try simp only [Act.put,zA,zB,zC,zD,zE,zF])
       refine tkD (i:=6) (v:=?_) rfl hHeld ?_
       (try simp only [Act.put,zA,zB,zC,zD,zE,zF])
       refine tkD (i:=7) (v:=?_) rfl hHeld ?_
       (try simp only [Act.put,zA,zB,zC,zD,zE,zF])
       refine tkD (i:=8) (v:=?_) rfl hHeld ?_
       (try simp only [Act.put,zA,zB,zC,zD,zE,zF])
       refine wpAnyD_step (i:=9) (by kernel_rfl) rfl (fun K hK9 => ?_)
       go_simp
       go_wp2_with fail
       refine hK9.out _ _ (by refine ⟨?_,?_⟩ <;> simp [go_sem,c2,c3]) (fun hHeld2 => ?_)
       clear hK9 K
       (try simp only [Act.put,zA,zB,zC,zD,zE,zF])
       refine tkD (i:=10) (v:=?_) rfl hHeld2 ?_
       (try simp only [Act.put,zA,zB,zC,zD,zE,zF])
       refine tkD (i:=11) (v:=?_) rfl hHeld2 ?_
       (try simp only [Act.put,zA,zB,zC,zD,zE,zF])
       refine wpAnyD_done (by kernel_rfl) ?_ _
       (try simp only [Act.put,zA,zB,zC,zD,zE,zF])
       clear hHeld hHeld2 m0 m1 m2 m3 m4 m5 m6 mf c2 c3
       go_wp2_with fail
       obtain ⟨w7,hw7⟩ : ∃ w7,(((((((w3.setCell ⟨M,0,none⟩ (.int .i64 0)).setCell ⟨M,1,none⟩ (.int .i64 0)).setCell ⟨M,2,none⟩ (.int .i64 0)).setCell ⟨M,3,none⟩ (.slice none 0 0)).setCell ⟨M,4,none⟩ (.slice none 0 0)).setCell ⟨M,5,none⟩ (.int .i64 0)).setCell ⟨M,6,none⟩ (.int .i64 0)).drew = w7:=⟨_,rfl⟩
       rw [hw7] at hz7 ksf
       rw [hw7]
       obtain ⟨m0,m1,m2,m3,m4,m5,m6⟩ : _ ∧ _ ∧ _ ∧ _ ∧ _ ∧ _ ∧ _:=⟨hz7.c 0 _ rfl,hz7.c 1 _ rfl,hz7.c 2 _ rfl,hz7.c 3 _ rfl,hz7.c 4 _ rfl,hz7.c 5 _ rfl,hz7.c 6 _ rfl⟩
       clear hw7
       refine bodyPost_ret (v:=.tuple #[zst,.int .i64 (pl),.int .i64 (er)]) (by simp [results,Try.results16,go_sem,m0,m1,m2,m3,m4,m5,m6]) rfl ?_
       refine ⟨kept_of_kx HK0.out ((KXe.out.mono (Y:=fun b => M ≤ b) fun b hb => by omega).trans (ksf.mono fun b hb => by omega)) (fun b hb => by have:=HM.out.1; omega),?_⟩
       rw [HXn.out]
       rfl
end Go.Proofs.Ytocjfdiimapojaa
