/- The laws' book of lists: the walk of growInts. The laws' book of lists: stillInts. The laws' book of lists: Apart,of a book with lists of ints alone. -/
import Derived.Test.YtnafaclfdoefcaaGreatDoorWh31
import Derived.Test.YtnafaclfdoefcaaGreatDoorWh29
import Derived.Test.YtnafaclfdoefcaaGreatDoorWh33
namespace Go.Proofs.YtnafaclfdoefcaaGreatDoor
open Go.ChangeShapes Go.WideShapes Go.ChangeAt Go.RowKit
set_option linter.unusedVariables false
set_option linter.unusedSimpArgs false
set_option maxHeartbeats 16000000
set_option maxRecDepth 100000
theorem GL.form {g n : Nat} {a : Nat → Option Addr} {c m : Nat → Nat} {i H p : Nat} {lv : Value} {u : World} (h : GL g n a c m i H p lv u) : ∃ ao co,lv = .slice ao p co:=by
 rcases h.st with ⟨h1,rfl⟩ | ⟨bl,cl,h1,-⟩
 ·exact ⟨_,_,h1⟩
 ·exact ⟨_,_,h1⟩
theorem MR.some {H : Nat} {w : World} {v : Value} {i a : Int} {q : Nat} (h : MR H w v (mkl i a q)) (hq : 0 < q) : ∃ gm cm,v = .slice (some ⟨gm,0,none⟩) q cm ∧ Own w gm cm (mkl i a q):=by
 rcases h with ⟨h1,-⟩ | ⟨gm,cm,h1,-,h2⟩
 ·have:=congrArg List.length h1
  rw [mkl_len] at this
  simp at this
  omega
 ·rw [mkl_len] at h1
  exact ⟨gm,cm,h1,h2⟩
theorem growInts_any (B g cap n : Nat) (hn : n ≤ 900) (a : Nat → Option Addr) (c m : Nat → Nat) (w : World) (hB : w.cell? ⟨B,0,none⟩ = some (.slice (some ⟨g,0,none⟩) n cap)) (hBo : B ∉ ebs n a) (hgo : g ∉ ebs n a) (hgw : g < w.heap.size) (hlt : ∀ b ∈ ebs n a,b < w.heap.size) (hm : ∀ j,j < n → m j ≤ 900000) (hc : ∀ j,j < n → a j = none → c j = 0) (h : Lls w g n a c m (fun j => mkl (j : Int) 0 (m j))) :
  Calls Tryz.prog 64 #[.pointer (some ⟨B,0,none⟩)] w fun e w' => ∃ v,e = .returned v ∧ (∃ gb cb,Gout w.heap.size a m n v w' gb cb) ∧ Lls w' g n a c m (fun j => mkl (j : Int) 0 (m j)) ∧ Gs (ebs n a) w w':=by
 have bl:=World.block_lt_of_cell? _ _ hB
 have HB : Hid (∀ u,Gs (ebs n a) w u → u.cell? ⟨B,0,none⟩ = some (.slice (some ⟨g,0,none⟩) n cap)):=fun u k => (k.cell B 0 bl hBo).trans hB
 have HM:=(show Hid (∀ j,j < n → m j ≤ 900000) from hm)
 have HC:=(show Hid (∀ j,j < n → a j = none → c j = 0) from hc)
 have HLT:=(show Hid (∀ b ∈ ebs n a,b < w.heap.size) from hlt)
 have HGW:=(show Hid (g < w.heap.size) from hgw)
 have H0:=(show Hid (Lls w g n a c m (fun j => mkl (j : Int) 0 (m j))) from h)
 clear hB hm hlt h bl hc hgw
 go_enter Tryz.func64,Tryz.ntmps64
 go_wp2_with fail
 go_loopw [3,4] (fun ov iv wr => ∃ i : Nat,i ≤ n ∧ iv = .int .i64 (i : Int) ∧ Gs (ebs n a) w wr ∧ Lls wr g n a c m (fun j => mkl (j : Int) 0 (m j)) ∧ ∃ gb cb,Gout w.heap.size a m i ov wr gb cb) (fun _ iv _ => n - (intOf iv).toNat)
 case atStart => exact ⟨0,Nat.zero_le _,rfl,Gs.refl _ w,H0.out,fun _ => 0,fun _ => 0,.inl ⟨rfl,rfl⟩,fun j hj => by omega⟩
 case round =>
  clear H0
  rename_i ov0 _
  obtain ⟨i,hi,rfl,hG,hl,gb,cb,hO⟩:=hrel
  have b0:=HB.out _ hG
  by_cases hin : i < n
  ·have q0:=hl.cell i hin
   have hm1:=HM.out i hin
   have hini : (i : Int) < (n : Int):=by omega
   have hG0 : GL g n a c m i wr.heap.size (m i) (.slice (a i) (m i) (c i)) wr:=by
    refine ⟨?_,hl⟩
    have hlen:=hl.len i hin
    rw [mkl_len] at hlen
    rcases hl.own i hin with ⟨h1,h2⟩ | ⟨b,h1,h2⟩
    ·have h3:=congrArg List.length h2
     rw [mkl_len] at h3
     have h4 : m i = 0:=h3
     exact .inl ⟨by rw [h1,HC.out i hin h1,h4],h4⟩
    ·exact .inr ⟨b,c i,by rw [h1],h2,.inl (by rw [h1]; simp [eb])⟩
   have HO:=(show Hid (Gout w.heap.size a m i _ wr gb cb) from hO)
   have HG:=(show Hid (Gs (ebs n a) w wr) from hG)
   have HG0:=(show Hid (GL g n a c m i wr.heap.size (m i) (.slice (a i) (m i) (c i)) wr) from hG0)
   have KM : Hid (∀ u (p q : Nat),p ≤ 1000000 → q ≤ 100 → Calls Tryz.prog 150 #[.int .i64 (i : Int),.int .i64 (p : Int),.int .i64 (q : Int)] u fun e w' => ∃ v,e = .returned v ∧ MR u.heap.size w' v (mkl (i : Int) (p : Int) q) ∧ Kept u w'):=fun u p q hp hq => markInts_any (i : Int) (p : Int) q (by omega) (by omega) (by omega) u
   obtain ⟨mi,hmi⟩ : ∃ mi,m i = mi:=⟨_,rfl⟩
   obtain ⟨ai,hai⟩ : ∃ ai,a i = ai:=⟨_,rfl⟩
   obtain ⟨ci,hci⟩ : ∃ ci,c i = ci:=⟨_,rfl⟩
   rw [hmi,hai,hci] at q0
   have HMI:=(show Hid (m i = mi) from hmi)
   have HAI:=(show Hid (a i = ai) from hai)
   have HCI:=(show Hid (c i = ci) from hci)
   rw [hmi] at hm1
   clear hl hO hG hG0 hmi hai hci
   obtain ⟨H,hH⟩ : ∃ H,H = wr.heap.size:=⟨_,rfl⟩
   have HH:=(show Hid (H = wr.heap.size) from hH)
   clear hH
   go_wp2_with fail
   rename World => wo
   go_loopw [5,6] (fun lv tv wr => ∃ t : Nat,t ≤ 16 ∧ tv = .int .i64 (t : Int) ∧ GL g n a c m i wo.heap.size (mi + t) lv wr ∧ Gs (eb (a i)) wo wr) (fun _ tv _ => 16 - (intOf tv).toNat)
   case atStart => exact ⟨0,Nat.zero_le _,rfl,by have:=HG0.out; rw [HMI.out,HAI.out,HCI.out] at this; exact this,Gs.refl _ _⟩
   case round =>
    obtain ⟨t,ht,rfl,hGL,hG2⟩:=hrel
    obtain ⟨ao,co,rfl⟩:=hGL.form
    obtain ⟨p,hp⟩ : ∃ p,p = mi + t:=⟨_,rfl⟩
    have HP:=(show Hid (p = mi + t) from hp)
    rw [← hp] at hGL ⊢
    have hpb : p ≤ 1000000:=by omega
    have HGL:=(show Hid (GL g n a c m i wo.heap.size p (.slice ao p co) wr) from hGL)
    clear hp hGL
    by_cases h16 : t < 16
    ·have hti : (t : Int) < 16:=by omega
     go_wp2_with fail
     refine (KM.out _ p 1 hpb (by omega)).mono ?_
     rintro e u1 ⟨vm,rfl,hM,k1⟩
     obtain ⟨gm,cm,rfl,hMo⟩:=hM.some (by decide)
     obtain ⟨bl,cl,w2,hr,hg2,hg3⟩:=(HGL.out.kept k1).step hin (by rw [HMI.out,HP.out]; omega) (by omega) 1 (by decide) (by decide) gm cm hMo hgo (fun b hb => Nat.lt_of_lt_of_le (HLT.out b hb) HG.out.size) (Nat.lt_of_lt_of_le HGW.out HG.out.size) wo rfl (hG2.kept k1)
     have HR:=(show Hid (∀ ty,(Builtin.append_ #[26,26] ty #[.slice ao p co,.slice (some ⟨gm,0,none⟩) 1 cm]).run Tryz.prog u1 = .ok (.slice (some ⟨bl,0,none⟩) (p + 1) cl) w2) from hr)
     have HG2:=(show Hid (GL g n a c m i wo.heap.size (p + 1) (.slice (some ⟨bl,0,none⟩) (p + 1) cl) w2 ∧ Gs (eb (a i)) wo w2) from ⟨hg2,hg3⟩)
     clear hM hMo k1 hr hg2 hg3 hG2
     go_wp2_with (first | (at_builtin; refine wpList_append_run rfl _ _ _ rfl _ _ rfl rfl _ _ (HR.out _) ?_))
     go_roundw
     case rel => exact ⟨t + 1,by omega,by go_num,by have:=HG2.out.1; rw [HP.out] at this ⊢; rw [show mi + (t + 1) = mi + t + 1 by omega]; exact this,HG2.out.2⟩
     case measure => simp [intOf]; omega
    ·obtain rfl : t = 16:=by omega
     go_wp2_with fail
     refine (KM.out _ p 80 hpb (by omega)).mono ?_
     rintro e u1 ⟨vm,rfl,hM,k1⟩
     obtain ⟨gm,cm,rfl,hMo⟩:=hM.some (by decide)
     obtain ⟨bl,cl,w2,hr,hg2,hg3⟩:=(HGL.out.kept k1).step hin (by rw [HMI.out,HP.out]; omega) (by omega) 80 (by decide) (by decide) gm cm hMo hgo (fun b hb => Nat.lt_of_lt_of_le (HLT.out b hb) HG.out.size) (Nat.lt_of_lt_of_le HGW.out HG.out.size) wo rfl (hG2.kept k1)
     have HR:=(show Hid (∀ ty,(Builtin.append_ #[26,26] ty #[.slice ao p co,.slice (some ⟨gm,0,none⟩) 80 cm]).run Tryz.prog u1 = .ok (.slice (some ⟨bl,0,none⟩) (p + 80) cl) w2) from hr)
     have hp96 : p + 80 = m i + 96:=by rw [HP.out,HMI.out]
     rw [hp96] at hg2
     obtain ⟨go,co2,w3,hr3,ho3,hl3,hg4⟩:=gout_step HO.out hin hn bl cl hg2 hg3 HG.out hgo HLT.out HGW.out
     obtain ⟨p2,hp2⟩ : ∃ p2,p2 = p + 80:=⟨_,rfl⟩
     rw [← hp96,← hp2] at hr3
     rw [← hp2] at HR
     have HR3:=(show Hid (∀ ty,(Builtin.append_ #[38,38] ty #[_,.slice (some ⟨w2.heap.size,0,none⟩) 1 1]).run Tryz.prog (w2.alloc (.cells #[.slice (some ⟨bl,0,none⟩) p2 cl] 26)) = .ok (.slice (some ⟨go,0,none⟩) (i + 1) co2) w3) from hr3)
     have HO3:=(show Hid ((∃ gb' cb',Gout w.heap.size a m (i + 1) (.slice (some ⟨go,0,none⟩) (i + 1) co2) w3 gb' cb') ∧ Lls w3 g n a c m (fun j => mkl (j : Int) 0 (m j)) ∧ Gs (ebs n a) w w3) from ⟨ho3,hl3,hg4⟩)
     clear hM hMo k1 hr hg2 hg3 hG2 hp96 hr3 ho3 hl3 hg4 hp2
     go_wp2_with (first | (at_builtin; refine wpList_append_run rfl _ _ _ rfl _ _ rfl rfl _ _ (HR.out _) ?_) | (at_builtin; refine wpList_append_run rfl _ _ _ rfl _ _ rfl rfl _ _ (HR3.out _) ?_))
     go_roundw
     case rel => exact ⟨i + 1,by omega,by go_num,HO3.out.2.2,HO3.out.2.1,HO3.out.1⟩
     case measure => simp [intOf]; omega
  ·obtain rfl : i = n:=by omega
   go_wp2_with fail
   go_ret
   exact ⟨_,rfl,⟨gb,cb,hO⟩,hl,hG⟩
theorem stillInts_any (B : Nat) (v v' : Value) (n : Nat) (hn : n ≤ 900) (a a' : Nat → Option Addr) (c c' : Nat → Nat) (L : Nat → List Int) (hL : ∀ j,j < n → (L j).length ≤ 1000000) (w : World) (h0 : w.cell? ⟨B,0,none⟩ = some v) (h1 : w.cell? ⟨B,1,none⟩ = some v') (hR : Rll w v n a c L) (hR' : Rll w v' n a' c' L) : Calls Tryz.prog 48 #[.pointer (some ⟨B,0,none⟩)] w fun e w' => e = .returned (.bool true) ∧ Kept w w':=by
 have hBl:=World.block_lt_of_cell? _ _ h0
 rcases hR with ⟨rfl,rfl⟩ | ⟨g,cap,rfl,hR⟩
 ·go_enter Tryz.func48,Tryz.ntmps48
  go_wp2_with fail
  refine wp_loop_rounds 1 ?_
  rw [rounds_succ]
  go_wp2_with fail
  go_ret
  exact ⟨rfl,Kept.refl w⟩
 rcases Nat.eq_zero_or_pos n with rfl | hpos
 ·go_enter Tryz.func48,Tryz.ntmps48
  go_wp2_with fail
  refine wp_loop_rounds 1 ?_
  rw [rounds_succ]
  go_wp2_with fail
  go_ret
  exact ⟨rfl,Kept.refl w⟩
 rcases hR' with ⟨rfl,rfl⟩ | ⟨g',cap',rfl,hR'⟩
 ·omega
 have HR:=(show Hid (∀ j,j < n → w.cell? ⟨g,j,none⟩ = some (.slice (a j) (L j).length (c j)) ∧ Sl w (.slice (a j) (L j).length (c j)) (L j)) from hR)
 have HR':=(show Hid (∀ j,j < n → w.cell? ⟨g',j,none⟩ = some (.slice (a' j) (L j).length (c' j)) ∧ Sl w (.slice (a' j) (L j).length (c' j)) (L j)) from hR')
 have HL:=(show Hid (∀ j,j < n → (L j).length ≤ 1000000) from hL)
 have HB : Hid (∀ u,Kept w u → u.cell? ⟨B,0,none⟩ = some (.slice (some ⟨g,0,none⟩) n cap) ∧ u.cell? ⟨B,1,none⟩ = some (.slice (some ⟨g',0,none⟩) n cap')):=fun u k => ⟨(k.below.cell (p:=⟨B,0,none⟩) hBl).trans h0,(k.below.cell (p:=⟨B,1,none⟩) hBl).trans h1⟩
 clear hR hR' hL h0 h1 hBl
 go_enter Tryz.func48,Tryz.ntmps48
 go_wp2_with fail
 go_loopw [3] (fun iv wr => ∃ i : Nat,i ≤ n ∧ iv = .int .i64 (i : Int) ∧ Kept w wr) (fun iv _ => n - (intOf iv).toNat)
 case atStart => exact ⟨0,Nat.zero_le _,rfl,Kept.refl w⟩
 case round =>
  obtain ⟨i,hi,rfl,kr⟩:=hrel
  obtain ⟨b0,b1⟩:=HB.out _ kr
  by_cases hin : i < n
  ·obtain ⟨h1,h2⟩:=HR.out i hin
   obtain ⟨h1',h2'⟩:=HR'.out i hin
   have h4:=HL.out i hin
   have q0:=(kr.below.cell (p:=⟨g,i,none⟩) (World.block_lt_of_cell? _ _ h1)).trans h1
   have q0':=(kr.below.cell (p:=⟨g',i,none⟩) (World.block_lt_of_cell? _ _ h1')).trans h1'
   have KE : Hid (∀ u,Kept wr u → Calls Tryz.prog 142 #[.slice (a i) (L i).length (c i),.slice (a' i) (L i).length (c' i)] u fun e w' => e = .returned (.bool true) ∧ Kept u w'):=fun u k => sameInts_any (L i) h4 (a i) (a' i) (c i) (c' i) u ((h2.kept' kr).kept' k) ((h2'.kept' kr).kept' k)
   generalize a i = ai at *
   generalize c i = ci at *
   generalize a' i = ai' at *
   generalize c' i = ci' at *
   generalize (L i).length = m at *
   have bl:=World.block_lt_of_cell? _ _ q0
   have bl':=World.block_lt_of_cell? _ _ q0'
   have HS : Hid (∀ u,Kept wr u → Kept wr u ∧ u.cell? ⟨B,0,none⟩ = some (.slice (some ⟨g,0,none⟩) n cap) ∧ u.cell? ⟨B,1,none⟩ = some (.slice (some ⟨g',0,none⟩) n cap') ∧ u.cell? ⟨g,i,none⟩ = some (.slice ai m ci) ∧ u.cell? ⟨g',i,none⟩ = some (.slice ai' m ci')):=fun u q => ⟨q,(HB.out u (kr.trans q)).1,(HB.out u (kr.trans q)).2,(q.below.cell (p:=⟨g,i,none⟩) bl).trans q0,(q.below.cell (p:=⟨g',i,none⟩) bl').trans q0'⟩
   clear bl bl' q0 q0' h1 h2 h1' h2' h4
   go_upto_region 4 with fail
   refine wp_region_late [] (fun u => Kept wr u ∧ u.cell? ⟨B,0,none⟩ = some (.slice (some ⟨g,0,none⟩) n cap) ∧ u.cell? ⟨B,1,none⟩ = some (.slice (some ⟨g',0,none⟩) n cap') ∧ u.cell? ⟨g,i,none⟩ = some (.slice ai m ci) ∧ u.cell? ⟨g',i,none⟩ = some (.slice ai' m ci')) (by kernel_rfl) (HS.out _ (Kept.refl wr).drew) (fun hHeld => ?_)
   refine tkD (i:=0) (v:=?_) rfl hHeld ?_
   (try simp only [Act.put,zA,zB,zC,zD,zE,zF])
   refine tkD (i:=1) (v:=?_) rfl hHeld ?_
   (try simp only [Act.put,zA,zB,zC,zD,zE,zF])
   refine tkD (i:=2) (v:=?_) rfl hHeld ?_
   (try simp only [Act.put,zA,zB,zC,zD,zE,zF])
   refine tkD (i:=3) (v:=?_) rfl hHeld ?_
   (try simp only [Act.put,zA,zB,zC,zD,zE,zF])
   refine tkD (i:=4) (v:=?_) rfl hHeld ?_
   (try simp only [Act.put,zA,zB,zC,zD,zE,zF])
   refine tkD (i:=5) (v:=?_) rfl hHeld ?_
   (try simp only [Act.put,zA,zB,zC,zD,zE,zF])
   refine tkD (i:=6) (v:=?_) rfl hHeld ?_
   (try simp only [Act.put,zA,zB,zC,zD,zE,zF])
   refine tkD (i:=7) (v:=?_) rfl hHeld ?_
   (try simp only [Act.put,zA,zB,zC,zD,zE,zF])
   refine tkD (i:=8) (v:=?_) rfl hHeld ?_
   (try simp only [Act.put,zA,zB,zC,zD,zE,zF])
   refine tkD (i:=9) (v:=?_) rfl hHeld ?_
   (try simp only [Act.put,zA,zB,zC,zD,zE,zF])
   refine tkD (i:=10) (v:=?_) rfl hHeld ?_
   (try simp only [Act.put,zA,zB,zC,zD,zE,zF])
   refine tkD (i:=11) (v:=?_) rfl hHeld ?_
   (try simp only [Act.put,zA,zB,zC,zD,zE,zF])
   refine tkD (i:=12) (v:=?_) rfl hHeld ?_
   (try simp only [Act.put,zA,zB,zC,zD,zE,zF])
   refine tkD (i:=13) (v:=?_) rfl hHeld ?_
   (try simp only [Act.put,zA,zB,zC,zD,zE,zF])
   refine wpAnyD_step (i:=14) (by kernel_rfl) rfl (fun K hK9 => ?_)
   go_simp
   go_wp2_with fail
   refine (KE.out _ hHeld.1).mono ?_
   rintro e u1 ⟨rfl,k1⟩
   refine hK9.out _ _ (HS.out _ (hHeld.1.trans k1)) (fun hH1 => ?_)
   clear hK9 K
   (try simp only [Act.put,zA,zB,zC,zD,zE,zF])
   refine tkD (i:=15) (v:=?_) rfl hH1 ?_
   (try simp only [Act.put,zA,zB,zC,zD,zE,zF])
   refine wpAnyD_done (by kernel_rfl) ?_ _
   (try simp only [Act.put,zA,zB,zC,zD,zE,zF])
   have kk:=kr.trans hH1.1
   clear hHeld hH1 HS KE k1 b0 b1
   go_wp2_with fail
   go_roundw
   case rel => exact ⟨i + 1,by omega,by go_num,kk⟩
   case measure => simp [intOf]; omega
  ·obtain rfl : i = n:=by omega
   go_wp2_with fail
   go_ret
   exact ⟨rfl,kr⟩
theorem ownv_at {w : World} {g cap : Nat} {e : TypeId} {n : Nat} {f : Nat → Value} (h : OwnV w g cap e ((List.range n).map f)) (j : Nat) (hj : j < n) : w.cell? ⟨g,j,none⟩ = some (f j):=h.cell j _ (by rw [List.getElem?_map,List.getElem?_range hj]; rfl)
theorem RowI.rll {u : World} {B n : Nat} {a : Nat → Option Addr} {c m : Nat → Nat} {v : Value} {L : Nat → List Int} (h : RowI u B n a c m v) (hl : ∀ j,j < n → (L j).length = m j) (ho : ∀ j,j < n → Ew u (a j) (c j) (L j)) (h0 : ∀ j,j < n → a j = none → c j = 0) : Rll u v n a c L:=by
 rcases h with h | ⟨g,cap,h1,h2,h3⟩
 ·exact .inl h
 ·refine .inr ⟨g,cap,h1,fun j hj => ⟨?_,(ho j hj).slx (h0 j hj)⟩⟩
  rw [hl j hj]
  exact ownv_at h3 j hj
theorem Bok.lls {u : World} {B n : Nat} {a : Nat → Option Addr} {c m : Nat → Nat} {a' : Nat → Option Addr} {c' : Nat → Nat} {L : Nat → List Int} {vW : Value} {g cap : Nat} (h : Bok u B n a c m a' c' L (.slice (some ⟨g,0,none⟩) n cap) vW) (hn : 0 < n) : Lls u g n a c m L:=by
 obtain ⟨g',cap',e,h2,h3⟩ : ∃ g' cap',Value.slice (some ⟨g,0,none⟩) n cap = .slice (some ⟨g',0,none⟩) n cap' ∧ B < g' ∧ OwnV u g' cap' 26 ((List.range n).map fun j => Value.slice (a j) (m j) (c j)):=by
  rcases h.rI with ⟨h1,-⟩ | h1
  ·omega
  ·exact h1
 simp only [Value.slice.injEq,Option.some.injEq,Addr.mk.injEq] at e
 obtain ⟨⟨rfl,-⟩,-,rfl⟩:=e
 refine ⟨fun j hj => ownv_at h3 j hj,h.own,h.len,h.ap,fun j hj hm => ?_⟩
 obtain ⟨M,ho⟩:=(h.own j hj).eb g hm
 exact own_two ho h3 rfl
theorem ebs_mem {n : Nat} {a : Nat → Option Addr} {b : Nat} (h : b ∈ ebs n a) : ∃ j,j < n ∧ b ∈ eb (a j):=by
 obtain ⟨j,h1,h2⟩:=List.mem_flatMap.1 h
 exact ⟨j,by simpa using h1,h2⟩
theorem Gout.kept {H0 : Nat} {a : Nat → Option Addr} {m : Nat → Nat} {i : Nat} {ov : Value} {u u' : World} {gb cb : Nat → Nat} (h : Gout H0 a m i ov u gb cb) (k : Kept u u') : Gout H0 a m i ov u' gb cb:=by
 refine ⟨?_,fun j hj => ⟨(h.el j hj).1.kept k,(h.el j hj).2⟩⟩
 rcases h.row with h1 | ⟨go,co,h1,h2,h3⟩
 ·exact .inl h1
 ·exact .inr ⟨go,co,h1,h2,h3.kept k⟩
theorem Gout.rll {H0 : Nat} {a : Nat → Option Addr} {m : Nat → Nat} {n : Nat} {ov : Value} {u : World} {gb cb : Nat → Nat} (h : Gout H0 a m n ov u gb cb) : Rll u ov n (fun j => some ⟨gb j,0,none⟩) cb (fun j => mkl (j : Int) 0 (m j + 96)):=by
 rcases h.row with h1 | ⟨go,co,h1,h2,h3⟩
 ·exact .inl h1
 ·refine .inr ⟨go,co,h1,fun j hj => ⟨?_,(h.el j hj).1.sl⟩⟩
  rw [mkl_len]
  exact ownv_at h3 j hj
theorem book_apart (B n : Nat) (hn0 : 0 < n) (hn : n ≤ 400) (a : Nat → Option Addr) (c m : Nat → Nat) (a' : Nat → Option Addr) (c' : Nat → Nat) (L : Nat → List Int) (vI vW : Value) (w : World) (hm : ∀ j,j < n → m j ≤ 900000) (h : Bok w B n a c m a' c' L vI vW) :
  Calls Tryz.prog 18 #[.pointer (some ⟨B,0,none⟩)] w fun e w' => e = .returned (.bool true) ∧ ∃ W',Gs (B :: ebs n a) w W' ∧ Kept W' w':=by
 obtain ⟨g,cap,rfl⟩ : ∃ g cap,vI = .slice (some ⟨g,0,none⟩) n cap:=by
  rcases h.rI with ⟨h1,-⟩ | ⟨g,cap,h1,-⟩
  ·omega
  ·exact ⟨g,cap,h1⟩
 have hB : B ∉ ebs n a:=fun hb => by
  obtain ⟨j,h1,h2⟩:=ebs_mem hb
  have:=h.lo j h1 B h2
  omega
 have hl:=h.lls hn0
 have hg : g ∉ ebs n a:=fun hb => by
  obtain ⟨j,h1,h2⟩:=ebs_mem hb
  exact hl.out j h1 h2
 have hgw : g < w.heap.size:=World.block_lt_of_cell? _ _ (hl.cell 0 hn0)
 have hlt : ∀ b ∈ ebs n a,b < w.heap.size:=fun b hb => by
  obtain ⟨j,h1,h2⟩:=ebs_mem hb
  obtain ⟨M,ho⟩:=(h.own j h1).eb b h2
  exact ho.lt
 have hne : ∀ {u u' : World},Ne7 u B → B < u.heap.size → Gs (ebs n a) u u' → Ne7 u' B:=fun {u u'} q hu k => by
  have e:=fun o => k.cell B o hu hB
  exact ⟨(e 2).trans q.c2,(e 4).trans q.c4,(e 6).trans q.c6,(e 8).trans q.c8,(e 10).trans q.c10,(e 12).trans q.c12,(e 14).trans q.c14⟩
 have K:=apart_walk B (.slice (some ⟨g,0,none⟩) n cap) (fun u => Ne7 u B ∧ u.cell? ⟨B,0,none⟩ = some (.slice (some ⟨g,0,none⟩) n cap) ∧ Lls u g n a c m (fun j => mkl (j : Int) 0 (m j)) ∧ Gs (ebs n a) w u)
  (fun v u => Ne7 u B ∧ u.cell? ⟨B,0,none⟩ = some (.slice (some ⟨g,0,none⟩) n cap) ∧ Lls u g n a c m (fun j => mkl (j : Int) 0 (m j)) ∧ (∃ H0 gb cb,Gout H0 a m n v u gb cb) ∧ Gs (ebs n a) w u) w h.ne (fun u q => q.1) (fun v u q => ⟨q.1,q.2.1⟩)
  (fun v u u' q k => ⟨q.1.kept k,(k.below.cell (p:=⟨B,0,none⟩) (World.block_lt_of_cell? _ _ q.2.1)).trans q.2.1,q.2.2.1.kept k,(by
   obtain ⟨H0,gb,cb,h1⟩:=q.2.2.2.1
   exact ⟨H0,gb,cb,h1.kept k⟩),q.2.2.2.2.kept k⟩)
  (stillInts_any B _ _ n (by omega) a a' c c' L (fun j hj => by rw [h.len j hj]; have:=hm j hj; omega) w h.c0 h.c1 (h.rI.rll h.len h.own h.cn) (h.rW.rll h.len h.own' h.cn'))
  (fun u k => by
   have hu:=h.kept k
   refine (putInts_any B g cap n (by omega) a c m L u hu.c0 hB hg (fun b hb => Nat.lt_of_lt_of_le (hlt b hb) k.below.size) (fun j hj => by have:=hm j hj; omega) (hu.lls hn0)).mono ?_
   rintro e w' ⟨rfl,h1,h2⟩
   exact ⟨rfl,hne hu.ne hu.lt h2,(h2.cell B 0 hu.lt hB).trans hu.c0,h1,(k.gs _).trans h2⟩)
  (fun u q => by
   obtain ⟨q1,q2,q3,q4⟩:=q
   refine (growInts_any B g cap n (by omega) a c m u q2 hB hg (Nat.lt_of_lt_of_le hgw q4.size) (fun b hb => Nat.lt_of_lt_of_le (hlt b hb) q4.size) hm h.cn q3).mono ?_
   rintro e w' ⟨v,rfl,⟨gb,cb,h1⟩,h2,h3⟩
   have hu:=World.block_lt_of_cell? _ _ q2
   exact ⟨v,rfl,hne q1 hu h3,(h3.cell B 0 hu hB).trans q2,h2,⟨_,gb,cb,h1⟩,q4.trans h3⟩)
  (fun v u x q hx => by
   obtain ⟨q1,q2,q3,⟨H0,gb,cb,q4⟩,q5⟩:=q
   rcases hx with rfl | rfl
   ·refine markedInts_any _ n (by omega) a c (fun j => mkl (j : Int) 0 (m j)) (fun j hj => ⟨by rw [mkl_len],by rw [mkl_len]; have:=hm j hj; omega⟩) u (.inr ⟨g,cap,rfl,fun j hj => ⟨?_,(q3.own j hj).slx (h.cn j hj)⟩⟩)
    rw [mkl_len]
    exact q3.cell j hj
   ·exact markedInts_any _ n (by omega) _ cb (fun j => mkl (j : Int) 0 (m j + 96)) (fun j hj => ⟨by rw [mkl_len],by rw [mkl_len]; have:=hm j hj; omega⟩) u q4.rll)
 refine K.mono ?_
 rintro e w' ⟨rfl,v,q⟩
 exact ⟨rfl,w',q.2.2.2.2.mono (fun b hb => List.mem_cons_of_mem _ hb),Kept.refl _⟩
end Go.Proofs.YtnafaclfdoefcaaGreatDoor
