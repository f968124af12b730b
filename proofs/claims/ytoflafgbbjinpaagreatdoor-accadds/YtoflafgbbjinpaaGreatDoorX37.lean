/- acc's flag; add where a float is infinite or no number. -/
import Derived.Test.YtoflafgbbjinpaaGreatDoorX36
namespace Go.Proofs.YtoflafgbbjinpaaGreatDoor
open Go.ChangeShapes Go.WideShapes Go.ChangeAt Go.RowKit
set_option linter.unusedVariables false
set_option linter.unusedSimpArgs false
set_option maxHeartbeats 16000000
set_option maxRecDepth 100000
theorem flag_any (b n : Int) (r1 : -9223372036854775808 ≤ b) (r2 : b ≤ 9223372036854775807) (w : World) : Calls Tryz.prog 80 #[.int .i64 b,.int .i64 n] w fun e w' => e = .returned (accV false (.slice none 0 0) 0 (lss 0 b n) (lss b 0 n) (decide (cls b n = 4))) ∧ Kept w w':=by
 have K1 : Hid (∀ u,Calls Tryz.prog 125 #[.int .i64 0,.int .i64 b,.int .i64 n] u fun e w' => e = .returned (.bool (lss 0 b n)) ∧ Kept u w'):=fun u => less_any 0 b n (by decide) (by decide) r1 r2 u
 have K2 : Hid (∀ u,Calls Tryz.prog 125 #[.int .i64 b,.int .i64 0,.int .i64 n] u fun e w' => e = .returned (.bool (lss b 0 n)) ∧ Kept u w'):=fun u => less_any b 0 n r1 r2 (by decide) (by decide) u
 have K3 : Hid (∀ u,Calls Tryz.prog 26 #[.int .i64 b,.int .i64 n] u fun e w' => e = .returned (.int .i64 (cls b n)) ∧ Kept u w'):=fun u => class_any b n u
 generalize lss 0 b n = f1 at *
 generalize lss b 0 n = f2 at *
 generalize cls b n = v at *
 obtain ⟨f3,h3⟩ : ∃ f,f = decide (v = 4):=⟨_,rfl⟩
 have he : (v == 4) = f3:=by rw [h3]; by_cases h : v = 4 <;> simp [h]
 rw [← h3]
 clear h3
 obtain ⟨X,hX⟩ : ∃ X,X = w.alloc (.cells #[.bool false,.slice none 0 0,.int .i64 0,.bool false,.bool false,.bool false] 26):=⟨_,rfl⟩
 have k0 : Kept w X:=by rw [hX]; exact (Kept.refl w).alloc _ _
 have HR : Hid (∀ u,Kept X u → _):=acc_res hX
 go_enter Tryz.func80,Tryz.ntmps80
 go_upto_region 1 with fail
 rw [← hX]
 clear hX
 go_wp2_with fail
 refine (K1.out _).mono ?_
 rintro e w1 ⟨rfl,k1⟩
 go_wp2_with fail
 refine (K2.out _).mono ?_
 rintro e w2 ⟨rfl,k2⟩
 go_wp2_with fail
 refine (K3.out _).mono ?_
 rintro e w3 ⟨rfl,k3⟩
 have kk:=(k1.trans k2).trans k3
 obtain ⟨r0,r1',r2',r3,r4,r5,r6⟩:=HR.out _ kk
 go_wp2_with fail
 exact bodyPost_ret (v:=accV false (.slice none 0 0) 0 f1 f2 f3) (by simp [results,Tryz.results80,go_sem,r0,r1',r2',r3,r4,r5,he]) rfl ⟨rfl,kept_six (k0.trans kk) _ _ _ _ _ _⟩
theorem MkAt.setAc {w : World} {b : Nat} {ac : List Value} {n : Int} {C : List Int} {lo hi : Int} (h : MkAt w b ac n C lo hi) (k : Nat) (hk : k < 6) (v : Value) : MkAt (w.setCell ⟨b,k,none⟩ v) b (ac.set k v) n C lo hi:=by
 refine ⟨?_,by simp [h.a6],h.c141⟩
 rw [set_cell_block w b _ _ _ _ h.blk]
 congr 2
 rw [List.setIfInBounds_toArray]
 congr 1
 rw [mkC,mkC,List.set_append_left _ _ (by rw [h.a6]; exact hk)]
theorem add_spec (w : World) (b : Nat) (n x y : Int) (p m z : Bool) (C : List Int) (lo hi : Int) (hM : MkAt w b (flg p m z) n C lo hi) (v1 v2 : Int) (hs : 3 ≤ v1 ∨ 3 ≤ v2) (mv : Int) (p2 m2 z2 : Bool)
  (KC1 : Hid (∀ u,Calls Tryz.prog 26 #[.int .i64 x,.int .i64 n] u fun e w' => e = .returned (.int .i64 v1) ∧ Kept u w'))
  (KC2 : Hid (∀ u,Calls Tryz.prog 26 #[.int .i64 y,.int .i64 n] u fun e w' => e = .returned (.int .i64 v2) ∧ Kept u w'))
  (KM : Hid (∀ u,Calls Tryz.prog 81 #[.int .i64 x,.int .i64 y,.int .i64 n] u fun e w' => e = .returned (.int .i64 mv) ∧ Kept u w'))
  (KG : Hid (∀ u,Calls Tryz.prog 80 #[.int .i64 mv,.int .i64 n] u fun e w' => e = .returned (accV false (.slice none 0 0) 0 p2 m2 z2) ∧ Kept u w')) :
  Calls Tryz.prog 69 #[.pointer (some ⟨b,0,none⟩),.int .i64 x,.int .i64 y] w fun e w' => e = .returned (.tuple #[]) ∧ MkAt w' b (flg (p || p2) (m || m2) (z || z2)) n C lo hi ∧ Grw b w w':=by
 obtain ⟨s1,hs1⟩ : ∃ s,s = decide (3 ≤ v1):=⟨_,rfl⟩
 obtain ⟨s2,hs2⟩ : ∃ s,s = decide (3 ≤ v2):=⟨_,rfl⟩
 have Hs : Hid (s1 = true ∨ s2 = true):=by rw [hs1,hs2]; rcases hs with h | h <;> simp [Hid,h]
 obtain ⟨P,hP⟩ : ∃ P,P = (p || p2):=⟨_,rfl⟩
 obtain ⟨M,hM'⟩ : ∃ P,P = (m || m2):=⟨_,rfl⟩
 obtain ⟨Z,hZ⟩ : ∃ P,P = (z || z2):=⟨_,rfl⟩
 have HP : Hid (P = (p || p2) ∧ M = (m || m2) ∧ Z = (z || z2)):=⟨hP,hM',hZ⟩
 rw [← hP,← hM',← hZ]
 clear hP hM' hZ
 obtain ⟨X,hX⟩ : ∃ X,X = w.alloc (.cells #[.pointer (some ⟨b,0,none⟩)] 145):=⟨_,rfl⟩
 have k0 : Kept w X:=by rw [hX]; exact (Kept.refl w).alloc _ _
 have hbw:=hM.lt
 have hXs : Hid (X.heap.size = w.heap.size + 1):=by rw [hX]; simp [Hid]
 have HQ : Hid (∀ u,Kept X u → Kept X u ∧ u.cell? ⟨w.heap.size,0,none⟩ = some (.pointer (some ⟨b,0,none⟩)) ∧ u.cell? ⟨b,6,none⟩ = some (.int .i64 n)):=fun u k => by
  have hb : w.heap.size < X.heap.size:=by rw [hX]; simp
  refine ⟨k,(k.below.cell (p:=⟨w.heap.size,0,none⟩) hb).trans ?_,(hM.kept (k0.trans k)).width⟩
  rw [hX]
  simp [go_sem]
 have HS1 : Hid (∀ u,Kept X u → Calls Tryz.prog 114 #[.int .i64 x,.pointer (some ⟨w.heap.size,0,none⟩)] u fun e w' => e = .returned (.bool s1) ∧ Kept u w'):=fun u k => by
  have:=special_any u b w.heap.size (flg p m z) n x C lo hi (hM.kept (k0.trans k)) (HQ.out u k).2.1 v1 KC1
  rw [← hs1] at this
  exact this
 have HS2 : Hid (∀ u,Kept X u → Calls Tryz.prog 114 #[.int .i64 y,.pointer (some ⟨w.heap.size,0,none⟩)] u fun e w' => e = .returned (.bool s2) ∧ Kept u w'):=fun u k => by
  have:=special_any u b w.heap.size (flg p m z) n y C lo hi (hM.kept (k0.trans k)) (HQ.out u k).2.1 v2 KC2
  rw [← hs2] at this
  exact this
 have HM : Hid (∀ u,Kept X u → MkAt u b (flg p m z) n C lo hi):=fun u k => hM.kept (k0.trans k)
 clear hM KC1 KC2 hs hs1 hs2
 go_enter Tryz.func69,Tryz.ntmps69
 go_upto_region 1 with fail
 rw [← hX]
 clear hX
 go_upto_region 2 with fail
 go_cut [18] from 9 (fun t18 wx => t18 = .bool false ∧ Kept X wx)
 case first =>
  cases s1
  ·obtain rfl : s2 = true:=by
    rcases Hs.out with h | h
    ·cases h
    ·exact h
   go_wp2_with fail
   refine (HS1.out _ (Kept.refl _)).mono ?_
   rintro e w1 ⟨rfl,k1⟩
   go_wp2_with fail
   refine (HS2.out _ k1).mono ?_
   rintro e w2 ⟨rfl,k2⟩
   go_wp2_with fail
   go_meet
   case rel => exact ⟨rfl,k1.trans k2⟩
  ·go_wp2_with fail
   refine (HS1.out _ (Kept.refl _)).mono ?_
   rintro e w1 ⟨rfl,k1⟩
   go_wp2_with fail
   go_meet
   case rel => exact ⟨rfl,k1⟩
 case rest =>
 obtain ⟨hbv,k1⟩:=hcut
 obtain ⟨w1,hw1⟩ : ∃ u,u = wc:=⟨_,rfl⟩
 rw [← hw1] at k1 ⊢
 clear hw1 HS1 HS2 Hs
 subst hbv
 go_upto_region 4 with fail
 go_cut [7] from 23 (fun t7 wx => ∃ B,t7 = .pointer (some ⟨B,0,none⟩) ∧ wx.cell? ⟨B,3,none⟩ = some (.bool p2) ∧ wx.cell? ⟨B,4,none⟩ = some (.bool m2) ∧ wx.cell? ⟨B,5,none⟩ = some (.bool z2) ∧ X.heap.size ≤ B ∧ Kept X wx)
 case first =>
  refine wp_region_held_drew (S:=fun u => Kept X u ∧ u.cell? ⟨w.heap.size,0,none⟩ = some (.pointer (some ⟨b,0,none⟩)) ∧ u.cell? ⟨b,6,none⟩ = some (.int .i64 n)) (by kernel_rfl) (HQ.out _ k1.drew) (fun hHeld => ?_)
  refine tk (i:=0) (v:=?_) rfl ?_
  simp only [Act.put,zA,zB,zC,zD,zE,zF]
  refine tk (i:=1) (v:=?_) rfl ?_
  simp only [Act.put,zA,zB,zC,zD,zE,zF]
  refine tk (i:=2) (v:=?_) rfl ?_
  simp only [Act.put,zA,zB,zC,zD,zE,zF]
  refine tk (i:=3) (v:=?_) rfl ?_
  simp only [Act.put,zA,zB,zC,zD,zE,zF]
  refine tk (i:=4) (v:=?_) rfl ?_
  simp only [Act.put,zA,zB,zC,zD,zE,zF]
  refine tk (i:=5) (v:=?_) rfl ?_
  simp only [Act.put,zA,zB,zC,zD,zE,zF]
  refine tk (i:=7) (v:=?_) rfl ?_
  simp only [Act.put,zA,zB,zC,zD,zE,zF]
  refine tk (i:=8) (v:=?_) rfl ?_
  simp only [Act.put,zA,zB,zC,zD,zE,zF]
  refine tk (i:=9) (v:=?_) rfl ?_
  simp only [Act.put,zA,zB,zC,zD,zE,zF]
  refine tk (i:=10) (v:=?_) rfl ?_
  simp only [Act.put,zA,zB,zC,zD,zE,zF]
  refine wpAnyH_ready (rs:=[6,12]) (by kernel_rfl) (by simp) ?_
  refine AllReadyH.cons rfl (fun K hK9 => ?_) (AllReadyH.cons rfl (fun K hK9 => ?_) AllReadyH.nil)
  ·go_simp
   go_wp2_with fail
   refine (KM.out _).mono ?_
   rintro e w2 ⟨rfl,k2⟩
   refine hK9.out _ _ (HQ.out _ (hHeld.1.trans k2)) (fun hM2 => ?_)
   clear hK9 K
   refine wpAnyH_ready (rs:=[11,12]) (by kernel_rfl) (by simp) ?_
   refine AllReadyH.cons rfl (fun K hK9 => ?_) (AllReadyH.cons rfl (fun K hK9 => ?_) AllReadyH.nil)
   ·go_simp
    go_wp2_with fail
    refine (KG.out _).mono ?_
    rintro e w3 ⟨rfl,k3⟩
    refine hK9.out _ _ (HQ.out _ (hM2.1.trans k3)) (fun hM3 => ?_)
    clear hK9 K
    refine wpAnyH_ready (rs:=[12]) (by kernel_rfl) (by simp) ?_
    refine AllReadyH.cons rfl (fun K hK9 => ?_) AllReadyH.nil
    go_simp
    refine hK9.out _ _ (HQ.out _ (hM3.1.alloc _ _)) (fun hA => ?_)
    clear hK9 K
    have hB : X.heap.size ≤ w3.heap.size:=hM3.1.below.size
    -- NOW
    refine wpAnyH_ready (rs:=[13]) (by kernel_rfl) (by simp) ?_
    refine AllReadyH.cons rfl (fun K hK9 => ?_) AllReadyH.nil
    go_simp
    refine hK9.out _ _ (HQ.out _ (hM3.1.alloc _ _)) (fun h9 => ?_)
    clear hK9 K
    refine wpAnyH_done (by kernel_rfl) ?_ _
    (try simp only [List.getElem_toArray,List.getElem_cons_succ,List.getElem_cons_zero,List.setIfInBounds_toArray,List.set_cons_zero,List.set_cons_succ])
    go_wp2_with fail
    go_meet
    case rel => exact ⟨w3.heap.size,rfl,by simp [go_sem],by simp [go_sem],by simp [go_sem],hB,h9.1⟩
   ·go_simp
    refine hK9.out _ _ (HQ.out _ (hM2.1.alloc _ _)) (fun hA => ?_)
    clear hK9 K
    refine wpAnyH_ready (rs:=[11]) (by kernel_rfl) (by simp) ?_
    refine AllReadyH.cons rfl (fun K hK9 => ?_) AllReadyH.nil
    go_simp
    go_wp2_with fail
    refine (KG.out _).mono ?_
    rintro e w3 ⟨rfl,k3⟩
    refine hK9.out _ _ (HQ.out _ (hA.1.trans k3)) (fun hM3 => ?_)
    clear hK9 K
    have hB : X.heap.size ≤ w2.heap.size:=hM2.1.below.size
    obtain ⟨b0,b1,b2,b3,b4,b5,b6⟩:=acc_res1 (w:=w2) 26 w2.heap.size rfl (Kept.refl _) _ (k3)
    refine wpAnyH_ready (rs:=[13]) (by kernel_rfl) (by simp) ?_
    refine AllReadyH.cons rfl (fun K hK9 => ?_) AllReadyH.nil
    go_simp
    refine hK9.out _ _ (HQ.out _ (kept_six1 w2.heap.size hB hM3.1 _ _ _ _ _ _)) (fun h9 => ?_)
    clear hK9 K
    refine wpAnyH_done (by kernel_rfl) ?_ _
    (try simp only [List.getElem_toArray,List.getElem_cons_succ,List.getElem_cons_zero,List.setIfInBounds_toArray,List.set_cons_zero,List.set_cons_succ])
    go_wp2_with fail
    go_meet
    case rel => exact ⟨w2.heap.size,rfl,by simp [go_sem,b0,b1,b2,b3,b4,b5],by simp [go_sem,b0,b1,b2,b3,b4,b5],by simp [go_sem,b0,b1,b2,b3,b4,b5],hB,h9.1⟩
  ·go_simp
   refine hK9.out _ _ (HQ.out _ (hHeld.1.alloc _ _)) (fun hA => ?_)
   clear hK9 K
   refine wpAnyH_ready (rs:=[6]) (by kernel_rfl) (by simp) ?_
   refine AllReadyH.cons rfl (fun K hK9 => ?_) AllReadyH.nil
   go_simp
   go_wp2_with fail
   refine (KM.out _).mono ?_
   rintro e w2 ⟨rfl,k2⟩
   refine hK9.out _ _ (HQ.out _ (hA.1.trans k2)) (fun hM2 => ?_)
   clear hK9 K
   refine wpAnyH_ready (rs:=[11]) (by kernel_rfl) (by simp) ?_
   refine AllReadyH.cons rfl (fun K hK9 => ?_) AllReadyH.nil
   go_simp
   go_wp2_with fail
   refine (KG.out _).mono ?_
   rintro e w3 ⟨rfl,k3⟩
   refine hK9.out _ _ (HQ.out _ (hM2.1.trans k3)) (fun hM3 => ?_)
   clear hK9 K
   have hB : X.heap.size ≤ w1.heap.size:=hHeld.1.below.size
   obtain ⟨b0,b1,b2,b3,b4,b5,b6⟩:=acc_res1 (w:=w1.drew) 26 w1.heap.size rfl (Kept.refl _) _ (k2.trans k3)
   refine wpAnyH_ready (rs:=[13]) (by kernel_rfl) (by simp) ?_
   refine AllReadyH.cons rfl (fun K hK9 => ?_) AllReadyH.nil
   go_simp
   refine hK9.out _ _ (HQ.out _ (kept_six1 w1.heap.size hB hM3.1 _ _ _ _ _ _)) (fun h9 => ?_)
   clear hK9 K
   refine wpAnyH_done (by kernel_rfl) ?_ _
   (try simp only [List.getElem_toArray,List.getElem_cons_succ,List.getElem_cons_zero,List.setIfInBounds_toArray,List.set_cons_zero,List.set_cons_succ])
   go_wp2_with fail
   go_meet
   case rel => exact ⟨w1.heap.size,rfl,by simp [go_sem,b0,b1,b2,b3,b4,b5],by simp [go_sem,b0,b1,b2,b3,b4,b5],by simp [go_sem,b0,b1,b2,b3,b4,b5],hB,h9.1⟩
 case rest =>
  obtain ⟨B,rfl,f3,f4,f5,hB,kc⟩:=hcut
  obtain ⟨-,q1,-⟩:=HQ.out _ kc
  have hMc:=HM.out _ kc
  have g3 : wc.cell? ⟨b,3,none⟩ = some (.bool p):=by rw [hMc.cell]; simp [mkC]
  have g4 : wc.cell? ⟨b,4,none⟩ = some (.bool m):=by rw [hMc.cell]; simp [mkC]
  have g5 : wc.cell? ⟨b,5,none⟩ = some (.bool z):=by rw [hMc.cell]; simp [mkC]
  have g6:=hMc.fz
  have nb : b ≠ w.heap.size:=by omega
  have nB : B ≠ b:=by have:=hXs.out; omega
  have nC : B ≠ w.heap.size:=by have:=hXs.out; omega
  have HF : Hid (MkAt wc b (flg p m z) n C lo hi ∧ Kept X wc):=⟨hMc,kc⟩
  clear HQ HM KM KG hMc kc hB k1 hXs
  cases p <;> cases m <;> cases z
  ·go_upto_region 5 with fail
   refine wp_region_lateT [33,37,41] (fun u => (u.cell? ⟨b,3,none⟩ = some (.bool false) ∧ u.cell? ⟨b,4,none⟩ = some (.bool false) ∧ u.cell? ⟨b,5,none⟩ = some (.bool false)) ∧ u.cell? ⟨w.heap.size,0,none⟩ = some (.pointer (some ⟨b,0,none⟩))) (fun u => u.cell? ⟨w.heap.size,0,none⟩ = some (.pointer (some ⟨b,0,none⟩)) ∧ u.cell? ⟨B,3,none⟩ = some (.bool p2) ∧ u.cell? ⟨B,4,none⟩ = some (.bool m2) ∧ u.cell? ⟨B,5,none⟩ = some (.bool z2)) (by kernel_rfl) (by refine ⟨⟨?_,?_,?_⟩,?_⟩ <;> simp [go_sem,q1,g3,g4,g5]) (by refine ⟨?_,?_,?_,?_⟩ <;> simp [go_sem,q1,f3,f4,f5]) (fun hHeld hStay => ?_)
   refine tkU (i:=0) (v:=?_) rfl (fun _ => hHeld) hStay ?_
   (try simp only [Act.put,zA,zB,zC,zD,zE,zF])
   refine tkU (i:=1) (v:=?_) rfl (fun _ => hHeld) hStay ?_
   (try simp only [Act.put,zA,zB,zC,zD,zE,zF])
   refine tkU (i:=2) (v:=?_) rfl (fun _ => hHeld) hStay ?_
   (try simp only [Act.put,zA,zB,zC,zD,zE,zF])
   refine tkT (i:=3) (v:=?_) rfl hHeld hStay ?_
   (try simp only [Act.put,zA,zB,zC,zD,zE,zF])
   refine tkT (i:=4) (v:=?_) rfl hHeld hStay ?_
   (try simp only [Act.put,zA,zB,zC,zD,zE,zF])
   refine tkT (i:=5) (v:=?_) rfl hHeld hStay ?_
   (try simp only [Act.put,zA,zB,zC,zD,zE,zF])
   refine tkT (i:=6) (v:=?_) rfl hHeld hStay ?_
   (try simp only [Act.put,zA,zB,zC,zD,zE,zF])
   refine tkT (i:=7) (v:=?_) rfl hHeld hStay ?_
   (try simp only [Act.put,zA,zB,zC,zD,zE,zF])
   refine tkU (i:=8) (v:=?_) rfl (fun _ => hHeld) hStay ?_
   (try simp only [Act.put,zA,zB,zC,zD,zE,zF])
   refine tkU (i:=9) (v:=?_) rfl (fun _ => hHeld) hStay ?_
   (try simp only [Act.put,zA,zB,zC,zD,zE,zF])
   refine tkU (i:=10) (v:=?_) rfl (fun _ => hHeld) hStay ?_
   (try simp only [Act.put,zA,zB,zC,zD,zE,zF])
   refine tkU (i:=11) (v:=?_) rfl (fun _ => hHeld) hStay ?_
   (try simp only [Act.put,zA,zB,zC,zD,zE,zF])
   refine tkT (i:=12) (v:=?_) rfl hHeld hStay ?_
   (try simp only [Act.put,zA,zB,zC,zD,zE,zF])
   refine tkT (i:=13) (v:=?_) rfl hHeld hStay ?_
   (try simp only [Act.put,zA,zB,zC,zD,zE,zF])
   refine tkT (i:=14) (v:=?_) rfl hHeld hStay ?_
   (try simp only [Act.put,zA,zB,zC,zD,zE,zF])
   refine tkT (i:=15) (v:=?_) rfl hHeld hStay ?_
   (try simp only [Act.put,zA,zB,zC,zD,zE,zF])
   refine tkT (i:=16) (v:=?_) rfl hHeld hStay ?_
   (try simp only [Act.put,zA,zB,zC,zD,zE,zF])
   refine tkU (i:=17) (v:=?_) rfl (fun _ => hHeld) hStay ?_
   (try simp only [Act.put,zA,zB,zC,zD,zE,zF])
   refine tkU (i:=18) (v:=?_) rfl (fun _ => hHeld) hStay ?_
   (try simp only [Act.put,zA,zB,zC,zD,zE,zF])
   refine tkU (i:=19) (v:=?_) rfl (fun _ => hHeld) hStay ?_
   (try simp only [Act.put,zA,zB,zC,zD,zE,zF])
   refine tkU (i:=20) (v:=?_) rfl (fun _ => hHeld) hStay ?_
   (try simp only [Act.put,zA,zB,zC,zD,zE,zF])
   refine tkT (i:=21) (v:=?_) rfl hHeld hStay ?_
   (try simp only [Act.put,zA,zB,zC,zD,zE,zF])
   refine tkT (i:=22) (v:=?_) rfl hHeld hStay ?_
   (try simp only [Act.put,zA,zB,zC,zD,zE,zF])
   refine tkT (i:=23) (v:=?_) rfl hHeld hStay ?_
   (try simp only [Act.put,zA,zB,zC,zD,zE,zF])
   refine tkT (i:=24) (v:=?_) rfl hHeld hStay ?_
   (try simp only [Act.put,zA,zB,zC,zD,zE,zF])
   refine tkT (i:=25) (v:=?_) rfl hHeld hStay ?_
   (try simp only [Act.put,zA,zB,zC,zD,zE,zF])
   refine tkU (i:=26) (v:=?_) rfl (fun _ => hHeld) hStay ?_
   (try simp only [Act.put,zA,zB,zC,zD,zE,zF])
   refine tkU (i:=27) (v:=?_) rfl (fun _ => hHeld) hStay ?_
   (try simp only [Act.put,zA,zB,zC,zD,zE,zF])
   refine tkU (i:=28) (v:=?_) rfl (fun _ => hHeld) hStay ?_
   (try simp only [Act.put,zA,zB,zC,zD,zE,zF])
   refine tkU (i:=29) (v:=?_) rfl (fun _ => hHeld) hStay ?_
   (try simp only [Act.put,zA,zB,zC,zD,zE,zF])
   refine tkU (i:=30) (v:=?_) rfl (fun _ => hHeld) hStay ?_
   (try simp only [Act.put,zA,zB,zC,zD,zE,zF])
   refine tkU (i:=31) (v:=?_) rfl (fun _ => hHeld) hStay ?_
   (try simp only [Act.put,zA,zB,zC,zD,zE,zF])
   refine tkU (i:=32) (v:=?_) rfl (fun _ => hHeld) hStay ?_
   (try simp only [Act.put,zA,zB,zC,zD,zE,zF])
   refine wpAnyT_late (i:=33) (by kernel_rfl) rfl (by kernel_rfl) (fun K hK9 => ?_)
   go_simp
   refine hK9.out _ _ (by refine ⟨?_,?_,?_,?_⟩ <;> simp [go_sem,q1,f3,f4,f5,nb,nB,nC,Ne.symm nb,Ne.symm nB,Ne.symm nC]) (fun hStayx => ?_)
   clear hK9 K
   (try simp only [Act.put,zA,zB,zC,zD,zE,zF])
   refine tkU (i:=34) (v:=?_) rfl (fun h => Bool.noConfusion (Eq.trans (Eq.symm (show anyL _ _ = true by kernel_rfl)) h)) hStayx ?_
   (try simp only [Act.put,zA,zB,zC,zD,zE,zF])
   refine tkU (i:=35) (v:=?_) rfl (fun h => Bool.noConfusion (Eq.trans (Eq.symm (show anyL _ _ = true by kernel_rfl)) h)) hStayx ?_
   (try simp only [Act.put,zA,zB,zC,zD,zE,zF])
   refine tkU (i:=36) (v:=?_) rfl (fun h => Bool.noConfusion (Eq.trans (Eq.symm (show anyL _ _ = true by kernel_rfl)) h)) hStayx ?_
   (try simp only [Act.put,zA,zB,zC,zD,zE,zF])
   refine wpAnyT_late (i:=37) (by kernel_rfl) rfl (by kernel_rfl) (fun K hK9 => ?_)
   go_simp
   refine hK9.out _ _ (by refine ⟨?_,?_,?_,?_⟩ <;> simp [go_sem,q1,f3,f4,f5,nb,nB,nC,Ne.symm nb,Ne.symm nB,Ne.symm nC]) (fun hStayy => ?_)
   clear hK9 K
   (try simp only [Act.put,zA,zB,zC,zD,zE,zF])
   refine tkU (i:=38) (v:=?_) rfl (fun h => Bool.noConfusion (Eq.trans (Eq.symm (show anyL _ _ = true by kernel_rfl)) h)) hStayy ?_
   (try simp only [Act.put,zA,zB,zC,zD,zE,zF])
   refine tkU (i:=39) (v:=?_) rfl (fun h => Bool.noConfusion (Eq.trans (Eq.symm (show anyL _ _ = true by kernel_rfl)) h)) hStayy ?_
   (try simp only [Act.put,zA,zB,zC,zD,zE,zF])
   refine tkU (i:=40) (v:=?_) rfl (fun h => Bool.noConfusion (Eq.trans (Eq.symm (show anyL _ _ = true by kernel_rfl)) h)) hStayy ?_
   (try simp only [Act.put,zA,zB,zC,zD,zE,zF])
   refine wpAnyT_late (i:=41) (by kernel_rfl) rfl (by kernel_rfl) (fun K hK9 => ?_)
   go_simp
   refine hK9.out _ _ (by refine ⟨?_,?_,?_,?_⟩ <;> simp [go_sem,q1,f3,f4,f5,nb,nB,nC,Ne.symm nb,Ne.symm nB,Ne.symm nC]) (fun hStayz => ?_)
   clear hK9 K
   (try simp only [Act.put,zA,zB,zC,zD,zE,zF])
   refine wpAnyT_done (by kernel_rfl) ?_ _
   (try simp only [Act.put,zA,zB,zC,zD,zE,zF])
   go_wp2_with fail
   obtain ⟨e1,e2,e3⟩:=HP.out
   simp only [Bool.false_or,Bool.true_or] at e1 e2 e3
   refine bodyPost_end (v:=.tuple #[]) (by simp [results,Tryz.results69,go_sem]) rfl ⟨rfl,?_,?_⟩
   ·rw [e1,e2,e3]
    exact (((HF.out.1.setAc 3 (by decide) (.bool p2)).setAc 4 (by decide) (.bool m2)).setAc 5 (by decide) (.bool z2)).kept (Kept.refl _).drew
   ·exact ((((((k0.trans HF.out.2).toGrw b).setCell _ _).setCell _ _).setCell _ _).trans ((Kept.refl _).drew.toGrw b))
  ·go_upto_region 5 with fail
   refine wp_region_lateT [33,37,41] (fun u => (u.cell? ⟨b,3,none⟩ = some (.bool false) ∧ u.cell? ⟨b,4,none⟩ = some (.bool false) ∧ u.cell? ⟨b,5,none⟩ = some (.bool true)) ∧ u.cell? ⟨w.heap.size,0,none⟩ = some (.pointer (some ⟨b,0,none⟩))) (fun u => u.cell? ⟨w.heap.size,0,none⟩ = some (.pointer (some ⟨b,0,none⟩)) ∧ u.cell? ⟨B,3,none⟩ = some (.bool p2) ∧ u.cell? ⟨B,4,none⟩ = some (.bool m2) ∧ u.cell? ⟨B,5,none⟩ = some (.bool z2)) (by kernel_rfl) (by refine ⟨⟨?_,?_,?_⟩,?_⟩ <;> simp [go_sem,q1,g3,g4,g5]) (by refine ⟨?_,?_,?_,?_⟩ <;> simp [go_sem,q1,f3,f4,f5]) (fun hHeld hStay => ?_)
   refine tkU (i:=0) (v:=?_) rfl (fun _ => hHeld) hStay ?_
   (try simp only [Act.put,zA,zB,zC,zD,zE,zF])
   refine tkU (i:=1) (v:=?_) rfl (fun _ => hHeld) hStay ?_
   (try simp only [Act.put,zA,zB,zC,zD,zE,zF])
   refine tkU (i:=2) (v:=?_) rfl (fun _ => hHeld) hStay ?_
   (try simp only [Act.put,zA,zB,zC,zD,zE,zF])
   refine tkT (i:=3) (v:=?_) rfl hHeld hStay ?_
   (try simp only [Act.put,zA,zB,zC,zD,zE,zF])
   refine tkT (i:=4) (v:=?_) rfl hHeld hStay ?_
   (try simp only [Act.put,zA,zB,zC,zD,zE,zF])
   refine tkT (i:=5) (v:=?_) rfl hHeld hStay ?_
   (try simp only [Act.put,zA,zB,zC,zD,zE,zF])
   refine tkT (i:=6) (v:=?_) rfl hHeld hStay ?_
   (try simp only [Act.put,zA,zB,zC,zD,zE,zF])
   refine tkT (i:=7) (v:=?_) rfl hHeld hStay ?_
   (try simp only [Act.put,zA,zB,zC,zD,zE,zF])
   refine tkU (i:=8) (v:=?_) rfl (fun _ => hHeld) hStay ?_
   (try simp only [Act.put,zA,zB,zC,zD,zE,zF])
   refine tkU (i:=9) (v:=?_) rfl (fun _ => hHeld) hStay ?_
   (try simp only [Act.put,zA,zB,zC,zD,zE,zF])
   refine tkU (i:=10) (v:=?_) rfl (fun _ => hHeld) hStay ?_
   (try simp only [Act.put,zA,zB,zC,zD,zE,zF])
   refine tkU (i:=11) (v:=?_) rfl (fun _ => hHeld) hStay ?_
   (try simp only [Act.put,zA,zB,zC,zD,zE,zF])
   refine tkT (i:=12) (v:=?_) rfl hHeld hStay ?_
   (try simp only [Act.put,zA,zB,zC,zD,zE,zF])
   refine tkT (i:=13) (v:=?_) rfl hHeld hStay ?_
   (try simp only [Act.put,zA,zB,zC,zD,zE,zF])
   refine tkT (i:=14) (v:=?_) rfl hHeld hStay ?_
   (try simp only [Act.put,zA,zB,zC,zD,zE,zF])
   refine tkT (i:=15) (v:=?_) rfl hHeld hStay ?_
   (try simp only [Act.put,zA,zB,zC,zD,zE,zF])
   refine tkT (i:=16) (v:=?_) rfl hHeld hStay ?_
   (try simp only [Act.put,zA,zB,zC,zD,zE,zF])
   refine tkU (i:=17) (v:=?_) rfl (fun _ => hHeld) hStay ?_
   (try simp only [Act.put,zA,zB,zC,zD,zE,zF])
   refine tkU (i:=18) (v:=?_) rfl (fun _ => hHeld) hStay ?_
   (try simp only [Act.put,zA,zB,zC,zD,zE,zF])
   refine tkU (i:=19) (v:=?_) rfl (fun _ => hHeld) hStay ?_
   (try simp only [Act.put,zA,zB,zC,zD,zE,zF])
   refine tkU (i:=20) (v:=?_) rfl (fun _ => hHeld) hStay ?_
   (try simp only [Act.put,zA,zB,zC,zD,zE,zF])
   refine tkT (i:=21) (v:=?_) rfl hHeld hStay ?_
   (try simp only [Act.put,zA,zB,zC,zD,zE,zF])
   refine tkT (i:=22) (v:=?_) rfl hHeld hStay ?_
   (try simp only [Act.put,zA,zB,zC,zD,zE,zF])
   refine tkT (i:=23) (v:=?_) rfl hHeld hStay ?_
   (try simp only [Act.put,zA,zB,zC,zD,zE,zF])
   refine tkT (i:=24) (v:=?_) rfl hHeld hStay ?_
   (try simp only [Act.put,zA,zB,zC,zD,zE,zF])
   refine tkT (i:=25) (v:=?_) rfl hHeld hStay ?_
   (try simp only [Act.put,zA,zB,zC,zD,zE,zF])
   refine tkU (i:=26) (v:=?_) rfl (fun _ => hHeld) hStay ?_
   (try simp only [Act.put,zA,zB,zC,zD,zE,zF])
   refine wpAnyT_take2 (i:=27) (v:=undef) rfl (by kernel_rfl) (by kernel_rfl) (by kernel_rfl) (by kernel_rfl) (fun _ _ _ h => h) (Or.inr ⟨by rfl,rfl⟩) (fun _ => hHeld) hStay ?_
   (try simp only [Act.put,zA,zB,zC,zD,zE,zF])
   refine wpAnyT_take2 (i:=28) (v:=undef) rfl (by kernel_rfl) (by kernel_rfl) (by kernel_rfl) (by kernel_rfl) (fun _ _ _ h => h) (Or.inr ⟨by rfl,rfl⟩) (fun _ => hHeld) hStay ?_
   (try simp only [Act.put,zA,zB,zC,zD,zE,zF])
   refine tkU (i:=29) (v:=?_) rfl (fun _ => hHeld) hStay ?_
   (try simp only [Act.put,zA,zB,zC,zD,zE,zF])
   refine tkU (i:=30) (v:=?_) rfl (fun _ => hHeld) hStay ?_
   (try simp only [Act.put,zA,zB,zC,zD,zE,zF])
   refine tkU (i:=31) (v:=?_) rfl (fun _ => hHeld) hStay ?_
   (try simp only [Act.put,zA,zB,zC,zD,zE,zF])
   refine tkU (i:=32) (v:=?_) rfl (fun _ => hHeld) hStay ?_
   (try simp only [Act.put,zA,zB,zC,zD,zE,zF])
   refine wpAnyT_late (i:=33) (by kernel_rfl) rfl (by kernel_rfl) (fun K hK9 => ?_)
   go_simp
   refine hK9.out _ _ (by refine ⟨?_,?_,?_,?_⟩ <;> simp [go_sem,q1,f3,f4,f5,nb,nB,nC,Ne.symm nb,Ne.symm nB,Ne.symm nC]) (fun hStayx => ?_)
   clear hK9 K
   (try simp only [Act.put,zA,zB,zC,zD,zE,zF])
   refine tkU (i:=34) (v:=?_) rfl (fun h => Bool.noConfusion (Eq.trans (Eq.symm (show anyL _ _ = true by kernel_rfl)) h)) hStayx ?_
   (try simp only [Act.put,zA,zB,zC,zD,zE,zF])
   refine tkU (i:=35) (v:=?_) rfl (fun h => Bool.noConfusion (Eq.trans (Eq.symm (show anyL _ _ = true by kernel_rfl)) h)) hStayx ?_
   (try simp only [Act.put,zA,zB,zC,zD,zE,zF])
   refine tkU (i:=36) (v:=?_) rfl (fun h => Bool.noConfusion (Eq.trans (Eq.symm (show anyL _ _ = true by kernel_rfl)) h)) hStayx ?_
   (try simp only [Act.put,zA,zB,zC,zD,zE,zF])
   refine wpAnyT_late (i:=37) (by kernel_rfl) rfl (by kernel_rfl) (fun K hK9 => ?_)
   go_simp
   refine hK9.out _ _ (by refine ⟨?_,?_,?_,?_⟩ <;> simp [go_sem,q1,f3,f4,f5,nb,nB,nC,Ne.symm nb,Ne.symm nB,Ne.symm nC]) (fun hStayy => ?_)
   clear hK9 K
   (try simp only [Act.put,zA,zB,zC,zD,zE,zF])
   refine tkU (i:=38) (v:=?_) rfl (fun h => Bool.noConfusion (Eq.trans (Eq.symm (show anyL _ _ = true by kernel_rfl)) h)) hStayy ?_
   (try simp only [Act.put,zA,zB,zC,zD,zE,zF])
   refine tkU (i:=39) (v:=?_) rfl (fun h => Bool.noConfusion (Eq.trans (Eq.symm (show anyL _ _ = true by kernel_rfl)) h)) hStayy ?_
   (try simp only [Act.put,zA,zB,zC,zD,zE,zF])
   refine tkU (i:=40) (v:=?_) rfl (fun h => Bool.noConfusion (Eq.trans (Eq.symm (show anyL _ _ = true by kernel_rfl)) h)) hStayy ?_
   (try simp only [Act.put,zA,zB,zC,zD,zE,zF])
   refine wpAnyT_late (i:=41) (by kernel_rfl) rfl (by kernel_rfl) (fun K hK9 => ?_)
   go_simp
   refine hK9.out _ _ (by refine ⟨?_,?_,?_,?_⟩ <;> simp [go_sem,q1,f3,f4,f5,nb,nB,nC,Ne.symm nb,Ne.symm nB,Ne.symm nC]) (fun hStayz => ?_)
   clear hK9 K
   (try simp only [Act.put,zA,zB,zC,zD,zE,zF])
   refine wpAnyT_done (by kernel_rfl) ?_ _
   (try simp only [Act.put,zA,zB,zC,zD,zE,zF])
   go_wp2_with fail
   obtain ⟨e1,e2,e3⟩:=HP.out
   simp only [Bool.false_or,Bool.true_or] at e1 e2 e3
   refine bodyPost_end (v:=.tuple #[]) (by simp [results,Tryz.results69,go_sem]) rfl ⟨rfl,?_,?_⟩
   ·rw [e1,e2,e3]
    exact (((HF.out.1.setAc 3 (by decide) (.bool p2)).setAc 4 (by decide) (.bool m2)).setAc 5 (by decide) (.bool true)).kept (Kept.refl _).drew
   ·exact ((((((k0.trans HF.out.2).toGrw b).setCell _ _).setCell _ _).setCell _ _).trans ((Kept.refl _).drew.toGrw b))
  ·go_upto_region 5 with fail
   refine wp_region_lateT [33,37,41] (fun u => (u.cell? ⟨b,3,none⟩ = some (.bool false) ∧ u.cell? ⟨b,4,none⟩ = some (.bool true) ∧ u.cell? ⟨b,5,none⟩ = some (.bool false)) ∧ u.cell? ⟨w.heap.size,0,none⟩ = some (.pointer (some ⟨b,0,none⟩))) (fun u => u.cell? ⟨w.heap.size,0,none⟩ = some (.pointer (some ⟨b,0,none⟩)) ∧ u.cell? ⟨B,3,none⟩ = some (.bool p2) ∧ u.cell? ⟨B,4,none⟩ = some (.bool m2) ∧ u.cell? ⟨B,5,none⟩ = some (.bool z2)) (by kernel_rfl) (by refine ⟨⟨?_,?_,?_⟩,?_⟩ <;> simp [go_sem,q1,g3,g4,g5]) (by refine ⟨?_,?_,?_,?_⟩ <;> simp [go_sem,q1,f3,f4,f5]) (fun hHeld hStay => ?_)
   refine tkU (i:=0) (v:=?_) rfl (fun _ => hHeld) hStay ?_
   (try simp only [Act.put,zA,zB,zC,zD,zE,zF])
   refine tkU (i:=1) (v:=?_) rfl (fun _ => hHeld) hStay ?_
   (try simp only [Act.put,zA,zB,zC,zD,zE,zF])
   refine tkU (i:=2) (v:=?_) rfl (fun _ => hHeld) hStay ?_
   (try simp only [Act.put,zA,zB,zC,zD,zE,zF])
   refine tkT (i:=3) (v:=?_) rfl hHeld hStay ?_
   (try simp only [Act.put,zA,zB,zC,zD,zE,zF])
   refine tkT (i:=4) (v:=?_) rfl hHeld hStay ?_
   (try simp only [Act.put,zA,zB,zC,zD,zE,zF])
   refine tkT (i:=5) (v:=?_) rfl hHeld hStay ?_
   (try simp only [Act.put,zA,zB,zC,zD,zE,zF])
   refine tkT (i:=6) (v:=?_) rfl hHeld hStay ?_
   (try simp only [Act.put,zA,zB,zC,zD,zE,zF])
   refine tkT (i:=7) (v:=?_) rfl hHeld hStay ?_
   (try simp only [Act.put,zA,zB,zC,zD,zE,zF])
   refine tkU (i:=8) (v:=?_) rfl (fun _ => hHeld) hStay ?_
   (try simp only [Act.put,zA,zB,zC,zD,zE,zF])
   refine tkU (i:=9) (v:=?_) rfl (fun _ => hHeld) hStay ?_
   (try simp only [Act.put,zA,zB,zC,zD,zE,zF])
   refine tkU (i:=10) (v:=?_) rfl (fun _ => hHeld) hStay ?_
   (try simp only [Act.put,zA,zB,zC,zD,zE,zF])
   refine tkU (i:=11) (v:=?_) rfl (fun _ => hHeld) hStay ?_
   (try simp only [Act.put,zA,zB,zC,zD,zE,zF])
   refine tkT (i:=12) (v:=?_) rfl hHeld hStay ?_
   (try simp only [Act.put,zA,zB,zC,zD,zE,zF])
   refine tkT (i:=13) (v:=?_) rfl hHeld hStay ?_
   (try simp only [Act.put,zA,zB,zC,zD,zE,zF])
   refine tkT (i:=14) (v:=?_) rfl hHeld hStay ?_
   (try simp only [Act.put,zA,zB,zC,zD,zE,zF])
   refine tkT (i:=15) (v:=?_) rfl hHeld hStay ?_
   (try simp only [Act.put,zA,zB,zC,zD,zE,zF])
   refine tkT (i:=16) (v:=?_) rfl hHeld hStay ?_
   (try simp only [Act.put,zA,zB,zC,zD,zE,zF])
   refine tkU (i:=17) (v:=?_) rfl (fun _ => hHeld) hStay ?_
   (try simp only [Act.put,zA,zB,zC,zD,zE,zF])
   refine wpAnyT_take2 (i:=18) (v:=undef) rfl (by kernel_rfl) (by kernel_rfl) (by kernel_rfl) (by kernel_rfl) (fun _ _ _ h => h) (Or.inr ⟨by rfl,rfl⟩) (fun _ => hHeld) hStay ?_
   (try simp only [Act.put,zA,zB,zC,zD,zE,zF])
   refine wpAnyT_take2 (i:=19) (v:=undef) rfl (by kernel_rfl) (by kernel_rfl) (by kernel_rfl) (by kernel_rfl) (fun _ _ _ h => h) (Or.inr ⟨by rfl,rfl⟩) (fun _ => hHeld) hStay ?_
   (try simp only [Act.put,zA,zB,zC,zD,zE,zF])
   refine tkU (i:=20) (v:=?_) rfl (fun _ => hHeld) hStay ?_
   (try simp only [Act.put,zA,zB,zC,zD,zE,zF])
   refine tkT (i:=21) (v:=?_) rfl hHeld hStay ?_
   (try simp only [Act.put,zA,zB,zC,zD,zE,zF])
   refine tkT (i:=22) (v:=?_) rfl hHeld hStay ?_
   (try simp only [Act.put,zA,zB,zC,zD,zE,zF])
   refine tkT (i:=23) (v:=?_) rfl hHeld hStay ?_
   (try simp only [Act.put,zA,zB,zC,zD,zE,zF])
   refine tkT (i:=24) (v:=?_) rfl hHeld hStay ?_
   (try simp only [Act.put,zA,zB,zC,zD,zE,zF])
   refine tkT (i:=25) (v:=?_) rfl hHeld hStay ?_
   (try simp only [Act.put,zA,zB,zC,zD,zE,zF])
   refine tkU (i:=26) (v:=?_) rfl (fun _ => hHeld) hStay ?_
   (try simp only [Act.put,zA,zB,zC,zD,zE,zF])
   refine tkU (i:=27) (v:=?_) rfl (fun _ => hHeld) hStay ?_
   (try simp only [Act.put,zA,zB,zC,zD,zE,zF])
   refine tkU (i:=28) (v:=?_) rfl (fun _ => hHeld) hStay ?_
   (try simp only [Act.put,zA,zB,zC,zD,zE,zF])
   refine tkU (i:=29) (v:=?_) rfl (fun _ => hHeld) hStay ?_
   (try simp only [Act.put,zA,zB,zC,zD,zE,zF])
   refine tkU (i:=30) (v:=?_) rfl (fun _ => hHeld) hStay ?_
   (try simp only [Act.put,zA,zB,zC,zD,zE,zF])
   refine tkU (i:=31) (v:=?_) rfl (fun _ => hHeld) hStay ?_
   (try simp only [Act.put,zA,zB,zC,zD,zE,zF])
   refine tkU (i:=32) (v:=?_) rfl (fun _ => hHeld) hStay ?_
   (try simp only [Act.put,zA,zB,zC,zD,zE,zF])
   refine wpAnyT_late (i:=33) (by kernel_rfl) rfl (by kernel_rfl) (fun K hK9 => ?_)
   go_simp
   refine hK9.out _ _ (by refine ⟨?_,?_,?_,?_⟩ <;> simp [go_sem,q1,f3,f4,f5,nb,nB,nC,Ne.symm nb,Ne.symm nB,Ne.symm nC]) (fun hStayx => ?_)
   clear hK9 K
   (try simp only [Act.put,zA,zB,zC,zD,zE,zF])
   refine tkU (i:=34) (v:=?_) rfl (fun h => Bool.noConfusion (Eq.trans (Eq.symm (show anyL _ _ = true by kernel_rfl)) h)) hStayx ?_
   (try simp only [Act.put,zA,zB,zC,zD,zE,zF])
   refine tkU (i:=35) (v:=?_) rfl (fun h => Bool.noConfusion (Eq.trans (Eq.symm (show anyL _ _ = true by kernel_rfl)) h)) hStayx ?_
   (try simp only [Act.put,zA,zB,zC,zD,zE,zF])
   refine tkU (i:=36) (v:=?_) rfl (fun h => Bool.noConfusion (Eq.trans (Eq.symm (show anyL _ _ = true by kernel_rfl)) h)) hStayx ?_
   (try simp only [Act.put,zA,zB,zC,zD,zE,zF])
   refine wpAnyT_late (i:=37) (by kernel_rfl) rfl (by kernel_rfl) (fun K hK9 => ?_)
   go_simp
   refine hK9.out _ _ (by refine ⟨?_,?_,?_,?_⟩ <;> simp [go_sem,q1,f3,f4,f5,nb,nB,nC,Ne.symm nb,Ne.symm nB,Ne.symm nC]) (fun hStayy => ?_)
   clear hK9 K
   (try simp only [Act.put,zA,zB,zC,zD,zE,zF])
   refine tkU (i:=38) (v:=?_) rfl (fun h => Bool.noConfusion (Eq.trans (Eq.symm (show anyL _ _ = true by kernel_rfl)) h)) hStayy ?_
   (try simp only [Act.put,zA,zB,zC,zD,zE,zF])
   refine tkU (i:=39) (v:=?_) rfl (fun h => Bool.noConfusion (Eq.trans (Eq.symm (show anyL _ _ = true by kernel_rfl)) h)) hStayy ?_
   (try simp only [Act.put,zA,zB,zC,zD,zE,zF])
   refine tkU (i:=40) (v:=?_) rfl (fun h => Bool.noConfusion (Eq.trans (Eq.symm (show anyL _ _ = true by kernel_rfl)) h)) hStayy ?_
   (try simp only [Act.put,zA,zB,zC,zD,zE,zF])
   refine wpAnyT_late (i:=41) (by kernel_rfl) rfl (by kernel_rfl) (fun K hK9 => ?_)
   go_simp
   refine hK9.out _ _ (by refine ⟨?_,?_,?_,?_⟩ <;> simp [go_sem,q1,f3,f4,f5,nb,nB,nC,Ne.symm nb,Ne.symm nB,Ne.symm nC]) (fun hStayz => ?_)
   clear hK9 K
   (try simp only [Act.put,zA,zB,zC,zD,zE,zF])
   refine wpAnyT_done (by kernel_rfl) ?_ _
   (try simp only [Act.put,zA,zB,zC,zD,zE,zF])
   go_wp2_with fail
   obtain ⟨e1,e2,e3⟩:=HP.out
   simp only [Bool.false_or,Bool.true_or] at e1 e2 e3
   refine bodyPost_end (v:=.tuple #[]) (by simp [results,Tryz.results69,go_sem]) rfl ⟨rfl,?_,?_⟩
   ·rw [e1,e2,e3]
    exact (((HF.out.1.setAc 3 (by decide) (.bool p2)).setAc 4 (by decide) (.bool true)).setAc 5 (by decide) (.bool z2)).kept (Kept.refl _).drew
   ·exact ((((((k0.trans HF.out.2).toGrw b).setCell _ _).setCell _ _).setCell _ _).trans ((Kept.refl _).drew.toGrw b))
  ·go_upto_region 5 with fail
   refine wp_region_lateT [33,37,41] (fun u => (u.cell? ⟨b,3,none⟩ = some (.bool false) ∧ u.cell? ⟨b,4,none⟩ = some (.bool true) ∧ u.cell? ⟨b,5,none⟩ = some (.bool true)) ∧ u.cell? ⟨w.heap.size,0,none⟩ = some (.pointer (some ⟨b,0,none⟩))) (fun u => u.cell? ⟨w.heap.size,0,none⟩ = some (.pointer (some ⟨b,0,none⟩)) ∧ u.cell? ⟨B,3,none⟩ = some (.bool p2) ∧ u.cell? ⟨B,4,none⟩ = some (.bool m2) ∧ u.cell? ⟨B,5,none⟩ = some (.bool z2)) (by kernel_rfl) (by refine ⟨⟨?_,?_,?_⟩,?_⟩ <;> simp [go_sem,q1,g3,g4,g5]) (by refine ⟨?_,?_,?_,?_⟩ <;> simp [go_sem,q1,f3,f4,f5]) (fun hHeld hStay => ?_)
   refine tkU (i:=0) (v:=?_) rfl (fun _ => hHeld) hStay ?_
   (try simp only [Act.put,zA,zB,zC,zD,zE,zF])
   refine tkU (i:=1) (v:=?_) rfl (fun _ => hHeld) hStay ?_
   (try simp only [Act.put,zA,zB,zC,zD,zE,zF])
   refine tkU (i:=2) (v:=?_) rfl (fun _ => hHeld) hStay ?_
   (try simp only [Act.put,zA,zB,zC,zD,zE,zF])
   refine tkT (i:=3) (v:=?_) rfl hHeld hStay ?_
   (try simp only [Act.put,zA,zB,zC,zD,zE,zF])
   refine tkT (i:=4) (v:=?_) rfl hHeld hStay ?_
   (try simp only [Act.put,zA,zB,zC,zD,zE,zF])
   refine tkT (i:=5) (v:=?_) rfl hHeld hStay ?_
   (try simp only [Act.put,zA,zB,zC,zD,zE,zF])
   refine tkT (i:=6) (v:=?_) rfl hHeld hStay ?_
   (try simp only [Act.put,zA,zB,zC,zD,zE,zF])
   refine tkT (i:=7) (v:=?_) rfl hHeld hStay ?_
   (try simp only [Act.put,zA,zB,zC,zD,zE,zF])
   refine tkU (i:=8) (v:=?_) rfl (fun _ => hHeld) hStay ?_
   (try simp only [Act.put,zA,zB,zC,zD,zE,zF])
   refine tkU (i:=9) (v:=?_) rfl (fun _ => hHeld) hStay ?_
   (try simp only [Act.put,zA,zB,zC,zD,zE,zF])
   refine tkU (i:=10) (v:=?_) rfl (fun _ => hHeld) hStay ?_
   (try simp only [Act.put,zA,zB,zC,zD,zE,zF])
   refine tkU (i:=11) (v:=?_) rfl (fun _ => hHeld) hStay ?_
   (try simp only [Act.put,zA,zB,zC,zD,zE,zF])
   refine tkT (i:=12) (v:=?_) rfl hHeld hStay ?_
   (try simp only [Act.put,zA,zB,zC,zD,zE,zF])
   refine tkT (i:=13) (v:=?_) rfl hHeld hStay ?_
   (try simp only [Act.put,zA,zB,zC,zD,zE,zF])
   refine tkT (i:=14) (v:=?_) rfl hHeld hStay ?_
   (try simp only [Act.put,zA,zB,zC,zD,zE,zF])
   refine tkT (i:=15) (v:=?_) rfl hHeld hStay ?_
   (try simp only [Act.put,zA,zB,zC,zD,zE,zF])
   refine tkT (i:=16) (v:=?_) rfl hHeld hStay ?_
   (try simp only [Act.put,zA,zB,zC,zD,zE,zF])
   refine tkU (i:=17) (v:=?_) rfl (fun _ => hHeld) hStay ?_
   (try simp only [Act.put,zA,zB,zC,zD,zE,zF])
   refine wpAnyT_take2 (i:=18) (v:=undef) rfl (by kernel_rfl) (by kernel_rfl) (by kernel_rfl) (by kernel_rfl) (fun _ _ _ h => h) (Or.inr ⟨by rfl,rfl⟩) (fun _ => hHeld) hStay ?_
   (try simp only [Act.put,zA,zB,zC,zD,zE,zF])
   refine wpAnyT_take2 (i:=19) (v:=undef) rfl (by kernel_rfl) (by kernel_rfl) (by kernel_rfl) (by kernel_rfl) (fun _ _ _ h => h) (Or.inr ⟨by rfl,rfl⟩) (fun _ => hHeld) hStay ?_
   (try simp only [Act.put,zA,zB,zC,zD,zE,zF])
   refine tkU (i:=20) (v:=?_) rfl (fun _ => hHeld) hStay ?_
   (try simp only [Act.put,zA,zB,zC,zD,zE,zF])
   refine tkT (i:=21) (v:=?_) rfl hHeld hStay ?_
   (try simp only [Act.put,zA,zB,zC,zD,zE,zF])
   refine tkT (i:=22) (v:=?_) rfl hHeld hStay ?_
   (try simp only [Act.put,zA,zB,zC,zD,zE,zF])
   refine tkT (i:=23) (v:=?_) rfl hHeld hStay ?_
   (try simp only [Act.put,zA,zB,zC,zD,zE,zF])
   refine tkT (i:=24) (v:=?_) rfl hHeld hStay ?_
   (try simp only [Act.put,zA,zB,zC,zD,zE,zF])
   refine tkT (i:=25) (v:=?_) rfl hHeld hStay ?_
   (try simp only [Act.put,zA,zB,zC,zD,zE,zF])
   refine tkU (i:=26) (v:=?_) rfl (fun _ => hHeld) hStay ?_
   (try simp only [Act.put,zA,zB,zC,zD,zE,zF])
   refine wpAnyT_take2 (i:=27) (v:=undef) rfl (by kernel_rfl) (by kernel_rfl) (by kernel_rfl) (by kernel_rfl) (fun _ _ _ h => h) (Or.inr ⟨by rfl,rfl⟩) (fun _ => hHeld) hStay ?_
   (try simp only [Act.put,zA,zB,zC,zD,zE,zF])
   refine wpAnyT_take2 (i:=28) (v:=undef) rfl (by kernel_rfl) (by kernel_rfl) (by kernel_rfl) (by kernel_rfl) (fun _ _ _ h => h) (Or.inr ⟨by rfl,rfl⟩) (fun _ => hHeld) hStay ?_
   (try simp only [Act.put,zA,zB,zC,zD,zE,zF])
   refine tkU (i:=29) (v:=?_) rfl (fun _ => hHeld) hStay ?_
   (try simp only [Act.put,zA,zB,zC,zD,zE,zF])
   refine tkU (i:=30) (v:=?_) rfl (fun _ => hHeld) hStay ?_
   (try simp only [Act.put,zA,zB,zC,zD,zE,zF])
   refine tkU (i:=31) (v:=?_) rfl (fun _ => hHeld) hStay ?_
   (try simp only [Act.put,zA,zB,zC,zD,zE,zF])
   refine tkU (i:=32) (v:=?_) rfl (fun _ => hHeld) hStay ?_
   (try simp only [Act.put,zA,zB,zC,zD,zE,zF])
   refine wpAnyT_late (i:=33) (by kernel_rfl) rfl (by kernel_rfl) (fun K hK9 => ?_)
   go_simp
   refine hK9.out _ _ (by refine ⟨?_,?_,?_,?_⟩ <;> simp [go_sem,q1,f3,f4,f5,nb,nB,nC,Ne.symm nb,Ne.symm nB,Ne.symm nC]) (fun hStayx => ?_)
   clear hK9 K
   (try simp only [Act.put,zA,zB,zC,zD,zE,zF])
   refine tkU (i:=34) (v:=?_) rfl (fun h => Bool.noConfusion (Eq.trans (Eq.symm (show anyL _ _ = true by kernel_rfl)) h)) hStayx ?_
   (try simp only [Act.put,zA,zB,zC,zD,zE,zF])
   refine tkU (i:=35) (v:=?_) rfl (fun h => Bool.noConfusion (Eq.trans (Eq.symm (show anyL _ _ = true by kernel_rfl)) h)) hStayx ?_
   (try simp only [Act.put,zA,zB,zC,zD,zE,zF])
   refine tkU (i:=36) (v:=?_) rfl (fun h => Bool.noConfusion (Eq.trans (Eq.symm (show anyL _ _ = true by kernel_rfl)) h)) hStayx ?_
   (try simp only [Act.put,zA,zB,zC,zD,zE,zF])
   refine wpAnyT_late (i:=37) (by kernel_rfl) rfl (by kernel_rfl) (fun K hK9 => ?_)
   go_simp
   refine hK9.out _ _ (by refine ⟨?_,?_,?_,?_⟩ <;> simp [go_sem,q1,f3,f4,f5,nb,nB,nC,Ne.symm nb,Ne.symm nB,Ne.symm nC]) (fun hStayy => ?_)
   clear hK9 K
   (try simp only [Act.put,zA,zB,zC,zD,zE,zF])
   refine tkU (i:=38) (v:=?_) rfl (fun h => Bool.noConfusion (Eq.trans (Eq.symm (show anyL _ _ = true by kernel_rfl)) h)) hStayy ?_
   (try simp only [Act.put,zA,zB,zC,zD,zE,zF])
   refine tkU (i:=39) (v:=?_) rfl (fun h => Bool.noConfusion (Eq.trans (Eq.symm (show anyL _ _ = true by kernel_rfl)) h)) hStayy ?_
   (try simp only [Act.put,zA,zB,zC,zD,zE,zF])
   refine tkU (i:=40) (v:=?_) rfl (fun h => Bool.noConfusion (Eq.trans (Eq.symm (show anyL _ _ = true by kernel_rfl)) h)) hStayy ?_
   (try simp only [Act.put,zA,zB,zC,zD,zE,zF])
   refine wpAnyT_late (i:=41) (by kernel_rfl) rfl (by kernel_rfl) (fun K hK9 => ?_)
   go_simp
   refine hK9.out _ _ (by refine ⟨?_,?_,?_,?_⟩ <;> simp [go_sem,q1,f3,f4,f5,nb,nB,nC,Ne.symm nb,Ne.symm nB,Ne.symm nC]) (fun hStayz => ?_)
   clear hK9 K
   (try simp only [Act.put,zA,zB,zC,zD,zE,zF])
   refine wpAnyT_done (by kernel_rfl) ?_ _
   (try simp only [Act.put,zA,zB,zC,zD,zE,zF])
   go_wp2_with fail
   obtain ⟨e1,e2,e3⟩:=HP.out
   simp only [Bool.false_or,Bool.true_or] at e1 e2 e3
   refine bodyPost_end (v:=.tuple #[]) (by simp [results,Tryz.results69,go_sem]) rfl ⟨rfl,?_,?_⟩
   ·rw [e1,e2,e3]
    exact (((HF.out.1.setAc 3 (by decide) (.bool p2)).setAc 4 (by decide) (.bool true)).setAc 5 (by decide) (.bool true)).kept (Kept.refl _).drew
   ·exact ((((((k0.trans HF.out.2).toGrw b).setCell _ _).setCell _ _).setCell _ _).trans ((Kept.refl _).drew.toGrw b))
  ·go_upto_region 5 with fail
   refine wp_region_lateT [33,37,41] (fun u => (u.cell? ⟨b,3,none⟩ = some (.bool true) ∧ u.cell? ⟨b,4,none⟩ = some (.bool false) ∧ u.cell? ⟨b,5,none⟩ = some (.bool false)) ∧ u.cell? ⟨w.heap.size,0,none⟩ = some (.pointer (some ⟨b,0,none⟩))) (fun u => u.cell? ⟨w.heap.size,0,none⟩ = some (.pointer (some ⟨b,0,none⟩)) ∧ u.cell? ⟨B,3,none⟩ = some (.bool p2) ∧ u.cell? ⟨B,4,none⟩ = some (.bool m2) ∧ u.cell? ⟨B,5,none⟩ = some (.bool z2)) (by kernel_rfl) (by refine ⟨⟨?_,?_,?_⟩,?_⟩ <;> simp [go_sem,q1,g3,g4,g5]) (by refine ⟨?_,?_,?_,?_⟩ <;> simp [go_sem,q1,f3,f4,f5]) (fun hHeld hStay => ?_)
   refine tkU (i:=0) (v:=?_) rfl (fun _ => hHeld) hStay ?_
   (try simp only [Act.put,zA,zB,zC,zD,zE,zF])
   refine tkU (i:=1) (v:=?_) rfl (fun _ => hHeld) hStay ?_
   (try simp only [Act.put,zA,zB,zC,zD,zE,zF])
   refine tkU (i:=2) (v:=?_) rfl (fun _ => hHeld) hStay ?_
   (try simp only [Act.put,zA,zB,zC,zD,zE,zF])
   refine tkT (i:=3) (v:=?_) rfl hHeld hStay ?_
   (try simp only [Act.put,zA,zB,zC,zD,zE,zF])
   refine tkT (i:=4) (v:=?_) rfl hHeld hStay ?_
   (try simp only [Act.put,zA,zB,zC,zD,zE,zF])
   refine tkT (i:=5) (v:=?_) rfl hHeld hStay ?_
   (try simp only [Act.put,zA,zB,zC,zD,zE,zF])
   refine tkT (i:=6) (v:=?_) rfl hHeld hStay ?_
   (try simp only [Act.put,zA,zB,zC,zD,zE,zF])
   refine tkT (i:=7) (v:=?_) rfl hHeld hStay ?_
   (try simp only [Act.put,zA,zB,zC,zD,zE,zF])
   refine tkU (i:=8) (v:=?_) rfl (fun _ => hHeld) hStay ?_
   (try simp only [Act.put,zA,zB,zC,zD,zE,zF])
   refine wpAnyT_take2 (i:=9) (v:=undef) rfl (by kernel_rfl) (by kernel_rfl) (by kernel_rfl) (by kernel_rfl) (fun _ _ _ h => h) (Or.inr ⟨by rfl,rfl⟩) (fun _ => hHeld) hStay ?_
   (try simp only [Act.put,zA,zB,zC,zD,zE,zF])
   refine wpAnyT_take2 (i:=10) (v:=undef) rfl (by kernel_rfl) (by kernel_rfl) (by kernel_rfl) (by kernel_rfl) (fun _ _ _ h => h) (Or.inr ⟨by rfl,rfl⟩) (fun _ => hHeld) hStay ?_
   (try simp only [Act.put,zA,zB,zC,zD,zE,zF])
   refine tkU (i:=11) (v:=?_) rfl (fun _ => hHeld) hStay ?_
   (try simp only [Act.put,zA,zB,zC,zD,zE,zF])
   refine tkT (i:=12) (v:=?_) rfl hHeld hStay ?_
   (try simp only [Act.put,zA,zB,zC,zD,zE,zF])
   refine tkT (i:=13) (v:=?_) rfl hHeld hStay ?_
   (try simp only [Act.put,zA,zB,zC,zD,zE,zF])
   refine tkT (i:=14) (v:=?_) rfl hHeld hStay ?_
   (try simp only [Act.put,zA,zB,zC,zD,zE,zF])
   refine tkT (i:=15) (v:=?_) rfl hHeld hStay ?_
   (try simp only [Act.put,zA,zB,zC,zD,zE,zF])
   refine tkT (i:=16) (v:=?_) rfl hHeld hStay ?_
   (try simp only [Act.put,zA,zB,zC,zD,zE,zF])
   refine tkU (i:=17) (v:=?_) rfl (fun _ => hHeld) hStay ?_
   (try simp only [Act.put,zA,zB,zC,zD,zE,zF])
   refine tkU (i:=18) (v:=?_) rfl (fun _ => hHeld) hStay ?_
   (try simp only [Act.put,zA,zB,zC,zD,zE,zF])
   refine tkU (i:=19) (v:=?_) rfl (fun _ => hHeld) hStay ?_
   (try simp only [Act.put,zA,zB,zC,zD,zE,zF])
   refine tkU (i:=20) (v:=?_) rfl (fun _ => hHeld) hStay ?_
   (try simp only [Act.put,zA,zB,zC,zD,zE,zF])
   refine tkT (i:=21) (v:=?_) rfl hHeld hStay ?_
   (try simp only [Act.put,zA,zB,zC,zD,zE,zF])
   refine tkT (i:=22) (v:=?_) rfl hHeld hStay ?_
   (try simp only [Act.put,zA,zB,zC,zD,zE,zF])
   refine tkT (i:=23) (v:=?_) rfl hHeld hStay ?_
   (try simp only [Act.put,zA,zB,zC,zD,zE,zF])
   refine tkT (i:=24) (v:=?_) rfl hHeld hStay ?_
   (try simp only [Act.put,zA,zB,zC,zD,zE,zF])
   refine tkT (i:=25) (v:=?_) rfl hHeld hStay ?_
   (try simp only [Act.put,zA,zB,zC,zD,zE,zF])
   refine tkU (i:=26) (v:=?_) rfl (fun _ => hHeld) hStay ?_
   (try simp only [Act.put,zA,zB,zC,zD,zE,zF])
   refine tkU (i:=27) (v:=?_) rfl (fun _ => hHeld) hStay ?_
   (try simp only [Act.put,zA,zB,zC,zD,zE,zF])
   refine tkU (i:=28) (v:=?_) rfl (fun _ => hHeld) hStay ?_
   (try simp only [Act.put,zA,zB,zC,zD,zE,zF])
   refine tkU (i:=29) (v:=?_) rfl (fun _ => hHeld) hStay ?_
   (try simp only [Act.put,zA,zB,zC,zD,zE,zF])
   refine tkU (i:=30) (v:=?_) rfl (fun _ => hHeld) hStay ?_
   (try simp only [Act.put,zA,zB,zC,zD,zE,zF])
   refine tkU (i:=31) (v:=?_) rfl (fun _ => hHeld) hStay ?_
   (try simp only [Act.put,zA,zB,zC,zD,zE,zF])
   refine tkU (i:=32) (v:=?_) rfl (fun _ => hHeld) hStay ?_
   (try simp only [Act.put,zA,zB,zC,zD,zE,zF])
   refine wpAnyT_late (i:=33) (by kernel_rfl) rfl (by kernel_rfl) (fun K hK9 => ?_)
   go_simp
   refine hK9.out _ _ (by refine ⟨?_,?_,?_,?_⟩ <;> simp [go_sem,q1,f3,f4,f5,nb,nB,nC,Ne.symm nb,Ne.symm nB,Ne.symm nC]) (fun hStayx => ?_)
   clear hK9 K
   (try simp only [Act.put,zA,zB,zC,zD,zE,zF])
   refine tkU (i:=34) (v:=?_) rfl (fun h => Bool.noConfusion (Eq.trans (Eq.symm (show anyL _ _ = true by kernel_rfl)) h)) hStayx ?_
   (try simp only [Act.put,zA,zB,zC,zD,zE,zF])
   refine tkU (i:=35) (v:=?_) rfl (fun h => Bool.noConfusion (Eq.trans (Eq.symm (show anyL _ _ = true by kernel_rfl)) h)) hStayx ?_
   (try simp only [Act.put,zA,zB,zC,zD,zE,zF])
   refine tkU (i:=36) (v:=?_) rfl (fun h => Bool.noConfusion (Eq.trans (Eq.symm (show anyL _ _ = true by kernel_rfl)) h)) hStayx ?_
   (try simp only [Act.put,zA,zB,zC,zD,zE,zF])
   refine wpAnyT_late (i:=37) (by kernel_rfl) rfl (by kernel_rfl) (fun K hK9 => ?_)
   go_simp
   refine hK9.out _ _ (by refine ⟨?_,?_,?_,?_⟩ <;> simp [go_sem,q1,f3,f4,f5,nb,nB,nC,Ne.symm nb,Ne.symm nB,Ne.symm nC]) (fun hStayy => ?_)
   clear hK9 K
   (try simp only [Act.put,zA,zB,zC,zD,zE,zF])
   refine tkU (i:=38) (v:=?_) rfl (fun h => Bool.noConfusion (Eq.trans (Eq.symm (show anyL _ _ = true by kernel_rfl)) h)) hStayy ?_
   (try simp only [Act.put,zA,zB,zC,zD,zE,zF])
   refine tkU (i:=39) (v:=?_) rfl (fun h => Bool.noConfusion (Eq.trans (Eq.symm (show anyL _ _ = true by kernel_rfl)) h)) hStayy ?_
   (try simp only [Act.put,zA,zB,zC,zD,zE,zF])
   refine tkU (i:=40) (v:=?_) rfl (fun h => Bool.noConfusion (Eq.trans (Eq.symm (show anyL _ _ = true by kernel_rfl)) h)) hStayy ?_
   (try simp only [Act.put,zA,zB,zC,zD,zE,zF])
   refine wpAnyT_late (i:=41) (by kernel_rfl) rfl (by kernel_rfl) (fun K hK9 => ?_)
   go_simp
   refine hK9.out _ _ (by refine ⟨?_,?_,?_,?_⟩ <;> simp [go_sem,q1,f3,f4,f5,nb,nB,nC,Ne.symm nb,Ne.symm nB,Ne.symm nC]) (fun hStayz => ?_)
   clear hK9 K
   (try simp only [Act.put,zA,zB,zC,zD,zE,zF])
   refine wpAnyT_done (by kernel_rfl) ?_ _
   (try simp only [Act.put,zA,zB,zC,zD,zE,zF])
   go_wp2_with fail
   obtain ⟨e1,e2,e3⟩:=HP.out
   simp only [Bool.false_or,Bool.true_or] at e1 e2 e3
   refine bodyPost_end (v:=.tuple #[]) (by simp [results,Tryz.results69,go_sem]) rfl ⟨rfl,?_,?_⟩
   ·rw [e1,e2,e3]
    exact (((HF.out.1.setAc 3 (by decide) (.bool true)).setAc 4 (by decide) (.bool m2)).setAc 5 (by decide) (.bool z2)).kept (Kept.refl _).drew
   ·exact ((((((k0.trans HF.out.2).toGrw b).setCell _ _).setCell _ _).setCell _ _).trans ((Kept.refl _).drew.toGrw b))
  ·go_upto_region 5 with fail
   refine wp_region_lateT [33,37,41] (fun u => (u.cell? ⟨b,3,none⟩ = some (.bool true) ∧ u.cell? ⟨b,4,none⟩ = some (.bool false) ∧ u.cell? ⟨b,5,none⟩ = some (.bool true)) ∧ u.cell? ⟨w.heap.size,0,none⟩ = some (.pointer (some ⟨b,0,none⟩))) (fun u => u.cell? ⟨w.heap.size,0,none⟩ = some (.pointer (some ⟨b,0,none⟩)) ∧ u.cell? ⟨B,3,none⟩ = some (.bool p2) ∧ u.cell? ⟨B,4,none⟩ = some (.bool m2) ∧ u.cell? ⟨B,5,none⟩ = some (.bool z2)) (by kernel_rfl) (by refine ⟨⟨?_,?_,?_⟩,?_⟩ <;> simp [go_sem,q1,g3,g4,g5]) (by refine ⟨?_,?_,?_,?_⟩ <;> simp [go_sem,q1,f3,f4,f5]) (fun hHeld hStay => ?_)
   refine tkU (i:=0) (v:=?_) rfl (fun _ => hHeld) hStay ?_
   (try simp only [Act.put,zA,zB,zC,zD,zE,zF])
   refine tkU (i:=1) (v:=?_) rfl (fun _ => hHeld) hStay ?_
   (try simp only [Act.put,zA,zB,zC,zD,zE,zF])
   refine tkU (i:=2) (v:=?_) rfl (fun _ => hHeld) hStay ?_
   (try simp only [Act.put,zA,zB,zC,zD,zE,zF])
   refine tkT (i:=3) (v:=?_) rfl hHeld hStay ?_
   (try simp only [Act.put,zA,zB,zC,zD,zE,zF])
   refine tkT (i:=4) (v:=?_) rfl hHeld hStay ?_
   (try simp only [Act.put,zA,zB,zC,zD,zE,zF])
   refine tkT (i:=5) (v:=?_) rfl hHeld hStay ?_
   (try simp only [Act.put,zA,zB,zC,zD,zE,zF])
   refine tkT (i:=6) (v:=?_) rfl hHeld hStay ?_
   (try simp only [Act.put,zA,zB,zC,zD,zE,zF])
   refine tkT (i:=7) (v:=?_) rfl hHeld hStay ?_
   (try simp only [Act.put,zA,zB,zC,zD,zE,zF])
   refine tkU (i:=8) (v:=?_) rfl (fun _ => hHeld) hStay ?_
   (try simp only [Act.put,zA,zB,zC,zD,zE,zF])
   refine wpAnyT_take2 (i:=9) (v:=undef) rfl (by kernel_rfl) (by kernel_rfl) (by kernel_rfl) (by kernel_rfl) (fun _ _ _ h => h) (Or.inr ⟨by rfl,rfl⟩) (fun _ => hHeld) hStay ?_
   (try simp only [Act.put,zA,zB,zC,zD,zE,zF])
   refine wpAnyT_take2 (i:=10) (v:=undef) rfl (by kernel_rfl) (by kernel_rfl) (by kernel_rfl) (by kernel_rfl) (fun _ _ _ h => h) (Or.inr ⟨by rfl,rfl⟩) (fun _ => hHeld) hStay ?_
   (try simp only [Act.put,zA,zB,zC,zD,zE,zF])
   refine tkU (i:=11) (v:=?_) rfl (fun _ => hHeld) hStay ?_
   (try simp only [Act.put,zA,zB,zC,zD,zE,zF])
   refine tkT (i:=12) (v:=?_) rfl hHeld hStay ?_
   (try simp only [Act.put,zA,zB,zC,zD,zE,zF])
   refine tkT (i:=13) (v:=?_) rfl hHeld hStay ?_
   (try simp only [Act.put,zA,zB,zC,zD,zE,zF])
   refine tkT (i:=14) (v:=?_) rfl hHeld hStay ?_
   (try simp only [Act.put,zA,zB,zC,zD,zE,zF])
   refine tkT (i:=15) (v:=?_) rfl hHeld hStay ?_
   (try simp only [Act.put,zA,zB,zC,zD,zE,zF])
   refine tkT (i:=16) (v:=?_) rfl hHeld hStay ?_
   (try simp only [Act.put,zA,zB,zC,zD,zE,zF])
   refine tkU (i:=17) (v:=?_) rfl (fun _ => hHeld) hStay ?_
   (try simp only [Act.put,zA,zB,zC,zD,zE,zF])
   refine tkU (i:=18) (v:=?_) rfl (fun _ => hHeld) hStay ?_
   (try simp only [Act.put,zA,zB,zC,zD,zE,zF])
   refine tkU (i:=19) (v:=?_) rfl (fun _ => hHeld) hStay ?_
   (try simp only [Act.put,zA,zB,zC,zD,zE,zF])
   refine tkU (i:=20) (v:=?_) rfl (fun _ => hHeld) hStay ?_
   (try simp only [Act.put,zA,zB,zC,zD,zE,zF])
   refine tkT (i:=21) (v:=?_) rfl hHeld hStay ?_
   (try simp only [Act.put,zA,zB,zC,zD,zE,zF])
   refine tkT (i:=22) (v:=?_) rfl hHeld hStay ?_
   (try simp only [Act.put,zA,zB,zC,zD,zE,zF])
   refine tkT (i:=23) (v:=?_) rfl hHeld hStay ?_
   (try simp only [Act.put,zA,zB,zC,zD,zE,zF])
   refine tkT (i:=24) (v:=?_) rfl hHeld hStay ?_
   (try simp only [Act.put,zA,zB,zC,zD,zE,zF])
   refine tkT (i:=25) (v:=?_) rfl hHeld hStay ?_
   (try simp only [Act.put,zA,zB,zC,zD,zE,zF])
   refine tkU (i:=26) (v:=?_) rfl (fun _ => hHeld) hStay ?_
   (try simp only [Act.put,zA,zB,zC,zD,zE,zF])
   refine wpAnyT_take2 (i:=27) (v:=undef) rfl (by kernel_rfl) (by kernel_rfl) (by kernel_rfl) (by kernel_rfl) (fun _ _ _ h => h) (Or.inr ⟨by rfl,rfl⟩) (fun _ => hHeld) hStay ?_
   (try simp only [Act.put,zA,zB,zC,zD,zE,zF])
   refine wpAnyT_take2 (i:=28) (v:=undef) rfl (by kernel_rfl) (by kernel_rfl) (by kernel_rfl) (by kernel_rfl) (fun _ _ _ h => h) (Or.inr ⟨by rfl,rfl⟩) (fun _ => hHeld) hStay ?_
   (try simp only [Act.put,zA,zB,zC,zD,zE,zF])
   refine tkU (i:=29) (v:=?_) rfl (fun _ => hHeld) hStay ?_
   (try simp only [Act.put,zA,zB,zC,zD,zE,zF])
   refine tkU (i:=30) (v:=?_) rfl (fun _ => hHeld) hStay ?_
   (try simp only [Act.put,zA,zB,zC,zD,zE,zF])
   refine tkU (i:=31) (v:=?_) rfl (fun _ => hHeld) hStay ?_
   (try simp only [Act.put,zA,zB,zC,zD,zE,zF])
   refine tkU (i:=32) (v:=?_) rfl (fun _ => hHeld) hStay ?_
   (try simp only [Act.put,zA,zB,zC,zD,zE,zF])
   refine wpAnyT_late (i:=33) (by kernel_rfl) rfl (by kernel_rfl) (fun K hK9 => ?_)
   go_simp
   refine hK9.out _ _ (by refine ⟨?_,?_,?_,?_⟩ <;> simp [go_sem,q1,f3,f4,f5,nb,nB,nC,Ne.symm nb,Ne.symm nB,Ne.symm nC]) (fun hStayx => ?_)
   clear hK9 K
   (try simp only [Act.put,zA,zB,zC,zD,zE,zF])
   refine tkU (i:=34) (v:=?_) rfl (fun h => Bool.noConfusion (Eq.trans (Eq.symm (show anyL _ _ = true by kernel_rfl)) h)) hStayx ?_
   (try simp only [Act.put,zA,zB,zC,zD,zE,zF])
   refine tkU (i:=35) (v:=?_) rfl (fun h => Bool.noConfusion (Eq.trans (Eq.symm (show anyL _ _ = true by kernel_rfl)) h)) hStayx ?_
   (try simp only [Act.put,zA,zB,zC,zD,zE,zF])
   refine tkU (i:=36) (v:=?_) rfl (fun h => Bool.noConfusion (Eq.trans (Eq.symm (show anyL _ _ = true by kernel_rfl)) h)) hStayx ?_
   (try simp only [Act.put,zA,zB,zC,zD,zE,zF])
   refine wpAnyT_late (i:=37) (by kernel_rfl) rfl (by kernel_rfl) (fun K hK9 => ?_)
   go_simp
   refine hK9.out _ _ (by refine ⟨?_,?_,?_,?_⟩ <;> simp [go_sem,q1,f3,f4,f5,nb,nB,nC,Ne.symm nb,Ne.symm nB,Ne.symm nC]) (fun hStayy => ?_)
   clear hK9 K
   (try simp only [Act.put,zA,zB,zC,zD,zE,zF])
   refine tkU (i:=38) (v:=?_) rfl (fun h => Bool.noConfusion (Eq.trans (Eq.symm (show anyL _ _ = true by kernel_rfl)) h)) hStayy ?_
   (try simp only [Act.put,zA,zB,zC,zD,zE,zF])
   refine tkU (i:=39) (v:=?_) rfl (fun h => Bool.noConfusion (Eq.trans (Eq.symm (show anyL _ _ = true by kernel_rfl)) h)) hStayy ?_
   (try simp only [Act.put,zA,zB,zC,zD,zE,zF])
   refine tkU (i:=40) (v:=?_) rfl (fun h => Bool.noConfusion (Eq.trans (Eq.symm (show anyL _ _ = true by kernel_rfl)) h)) hStayy ?_
   (try simp only [Act.put,zA,zB,zC,zD,zE,zF])
   refine wpAnyT_late (i:=41) (by kernel_rfl) rfl (by kernel_rfl) (fun K hK9 => ?_)
   go_simp
   refine hK9.out _ _ (by refine ⟨?_,?_,?_,?_⟩ <;> simp [go_sem,q1,f3,f4,f5,nb,nB,nC,Ne.symm nb,Ne.symm nB,Ne.symm nC]) (fun hStayz => ?_)
   clear hK9 K
   (try simp only [Act.put,zA,zB,zC,zD,zE,zF])
   refine wpAnyT_done (by kernel_rfl) ?_ _
   (try simp only [Act.put,zA,zB,zC,zD,zE,zF])
   go_wp2_with fail
   obtain ⟨e1,e2,e3⟩:=HP.out
   simp only [Bool.false_or,Bool.true_or] at e1 e2 e3
   refine bodyPost_end (v:=.tuple #[]) (by simp [results,Tryz.results69,go_sem]) rfl ⟨rfl,?_,?_⟩
   ·rw [e1,e2,e3]
    exact (((HF.out.1.setAc 3 (by decide) (.bool true)).setAc 4 (by decide) (.bool m2)).setAc 5 (by decide) (.bool true)).kept (Kept.refl _).drew
   ·exact ((((((k0.trans HF.out.2).toGrw b).setCell _ _).setCell _ _).setCell _ _).trans ((Kept.refl _).drew.toGrw b))
  ·go_upto_region 5 with fail
   refine wp_region_lateT [33,37,41] (fun u => (u.cell? ⟨b,3,none⟩ = some (.bool true) ∧ u.cell? ⟨b,4,none⟩ = some (.bool true) ∧ u.cell? ⟨b,5,none⟩ = some (.bool false)) ∧ u.cell? ⟨w.heap.size,0,none⟩ = some (.pointer (some ⟨b,0,none⟩))) (fun u => u.cell? ⟨w.heap.size,0,none⟩ = some (.pointer (some ⟨b,0,none⟩)) ∧ u.cell? ⟨B,3,none⟩ = some (.bool p2) ∧ u.cell? ⟨B,4,none⟩ = some (.bool m2) ∧ u.cell? ⟨B,5,none⟩ = some (.bool z2)) (by kernel_rfl) (by refine ⟨⟨?_,?_,?_⟩,?_⟩ <;> simp [go_sem,q1,g3,g4,g5]) (by refine ⟨?_,?_,?_,?_⟩ <;> simp [go_sem,q1,f3,f4,f5]) (fun hHeld hStay => ?_)
   refine tkU (i:=0) (v:=?_) rfl (fun _ => hHeld) hStay ?_
   (try simp only [Act.put,zA,zB,zC,zD,zE,zF])
   refine tkU (i:=1) (v:=?_) rfl (fun _ => hHeld) hStay ?_
   (try simp only [Act.put,zA,zB,zC,zD,zE,zF])
   refine tkU (i:=2) (v:=?_) rfl (fun _ => hHeld) hStay ?_
   (try simp only [Act.put,zA,zB,zC,zD,zE,zF])
   refine tkT (i:=3) (v:=?_) rfl hHeld hStay ?_
   (try simp only [Act.put,zA,zB,zC,zD,zE,zF])
   refine tkT (i:=4) (v:=?_) rfl hHeld hStay ?_
   (try simp only [Act.put,zA,zB,zC,zD,zE,zF])
   refine tkT (i:=5) (v:=?_) rfl hHeld hStay ?_
   (try simp only [Act.put,zA,zB,zC,zD,zE,zF])
   refine tkT (i:=6) (v:=?_) rfl hHeld hStay ?_
   (try simp only [Act.put,zA,zB,zC,zD,zE,zF])
   refine tkT (i:=7) (v:=?_) rfl hHeld hStay ?_
   (try simp only [Act.put,zA,zB,zC,zD,zE,zF])
   refine tkU (i:=8) (v:=?_) rfl (fun _ => hHeld) hStay ?_
   (try simp only [Act.put,zA,zB,zC,zD,zE,zF])
   refine wpAnyT_take2 (i:=9) (v:=undef) rfl (by kernel_rfl) (by kernel_rfl) (by kernel_rfl) (by kernel_rfl) (fun _ _ _ h => h) (Or.inr ⟨by rfl,rfl⟩) (fun _ => hHeld) hStay ?_
   (try simp only [Act.put,zA,zB,zC,zD,zE,zF])
   refine wpAnyT_take2 (i:=10) (v:=undef) rfl (by kernel_rfl) (by kernel_rfl) (by kernel_rfl) (by kernel_rfl) (fun _ _ _ h => h) (Or.inr ⟨by rfl,rfl⟩) (fun _ => hHeld) hStay ?_
   (try simp only [Act.put,zA,zB,zC,zD,zE,zF])
   refine tkU (i:=11) (v:=?_) rfl (fun _ => hHeld) hStay ?_
   (try simp only [Act.put,zA,zB,zC,zD,zE,zF])
   refine tkT (i:=12) (v:=?_) rfl hHeld hStay ?_
   (try simp only [Act.put,zA,zB,zC,zD,zE,zF])
   refine tkT (i:=13) (v:=?_) rfl hHeld hStay ?_
   (try simp only [Act.put,zA,zB,zC,zD,zE,zF])
   refine tkT (i:=14) (v:=?_) rfl hHeld hStay ?_
   (try simp only [Act.put,zA,zB,zC,zD,zE,zF])
   refine tkT (i:=15) (v:=?_) rfl hHeld hStay ?_
   (try simp only [Act.put,zA,zB,zC,zD,zE,zF])
   refine tkT (i:=16) (v:=?_) rfl hHeld hStay ?_
   (try simp only [Act.put,zA,zB,zC,zD,zE,zF])
   refine tkU (i:=17) (v:=?_) rfl (fun _ => hHeld) hStay ?_
   (try simp only [Act.put,zA,zB,zC,zD,zE,zF])
   refine wpAnyT_take2 (i:=18) (v:=undef) rfl (by kernel_rfl) (by kernel_rfl) (by kernel_rfl) (by kernel_rfl) (fun _ _ _ h => h) (Or.inr ⟨by rfl,rfl⟩) (fun _ => hHeld) hStay ?_
   (try simp only [Act.put,zA,zB,zC,zD,zE,zF])
   refine wpAnyT_take2 (i:=19) (v:=undef) rfl (by kernel_rfl) (by kernel_rfl) (by kernel_rfl) (by kernel_rfl) (fun _ _ _ h => h) (Or.inr ⟨by rfl,rfl⟩) (fun _ => hHeld) hStay ?_
   (try simp only [Act.put,zA,zB,zC,zD,zE,zF])
   refine tkU (i:=20) (v:=?_) rfl (fun _ => hHeld) hStay ?_
   (try simp only [Act.put,zA,zB,zC,zD,zE,zF])
   refine tkT (i:=21) (v:=?_) rfl hHeld hStay ?_
   (try simp only [Act.put,zA,zB,zC,zD,zE,zF])
   refine tkT (i:=22) (v:=?_) rfl hHeld hStay ?_
   (try simp only [Act.put,zA,zB,zC,zD,zE,zF])
   refine tkT (i:=23) (v:=?_) rfl hHeld hStay ?_
   (try simp only [Act.put,zA,zB,zC,zD,zE,zF])
   refine tkT (i:=24) (v:=?_) rfl hHeld hStay ?_
   (try simp only [Act.put,zA,zB,zC,zD,zE,zF])
   refine tkT (i:=25) (v:=?_) rfl hHeld hStay ?_
   (try simp only [Act.put,zA,zB,zC,zD,zE,zF])
   refine tkU (i:=26) (v:=?_) rfl (fun _ => hHeld) hStay ?_
   (try simp only [Act.put,zA,zB,zC,zD,zE,zF])
   refine tkU (i:=27) (v:=?_) rfl (fun _ => hHeld) hStay ?_
   (try simp only [Act.put,zA,zB,zC,zD,zE,zF])
   refine tkU (i:=28) (v:=?_) rfl (fun _ => hHeld) hStay ?_
   (try simp only [Act.put,zA,zB,zC,zD,zE,zF])
   refine tkU (i:=29) (v:=?_) rfl (fun _ => hHeld) hStay ?_
   (try simp only [Act.put,zA,zB,zC,zD,zE,zF])
   refine tkU (i:=30) (v:=?_) rfl (fun _ => hHeld) hStay ?_
   (try simp only [Act.put,zA,zB,zC,zD,zE,zF])
   refine tkU (i:=31) (v:=?_) rfl (fun _ => hHeld) hStay ?_
   (try simp only [Act.put,zA,zB,zC,zD,zE,zF])
   refine tkU (i:=32) (v:=?_) rfl (fun _ => hHeld) hStay ?_
   (try simp only [Act.put,zA,zB,zC,zD,zE,zF])
   refine wpAnyT_late (i:=33) (by kernel_rfl) rfl (by kernel_rfl) (fun K hK9 => ?_)
   go_simp
   refine hK9.out _ _ (by refine ⟨?_,?_,?_,?_⟩ <;> simp [go_sem,q1,f3,f4,f5,nb,nB,nC,Ne.symm nb,Ne.symm nB,Ne.symm nC]) (fun hStayx => ?_)
   clear hK9 K
   (try simp only [Act.put,zA,zB,zC,zD,zE,zF])
   refine tkU (i:=34) (v:=?_) rfl (fun h => Bool.noConfusion (Eq.trans (Eq.symm (show anyL _ _ = true by kernel_rfl)) h)) hStayx ?_
   (try simp only [Act.put,zA,zB,zC,zD,zE,zF])
   refine tkU (i:=35) (v:=?_) rfl (fun h => Bool.noConfusion (Eq.trans (Eq.symm (show anyL _ _ = true by kernel_rfl)) h)) hStayx ?_
   (try simp only [Act.put,zA,zB,zC,zD,zE,zF])
   refine tkU (i:=36) (v:=?_) rfl (fun h => Bool.noConfusion (Eq.trans (Eq.symm (show anyL _ _ = true by kernel_rfl)) h)) hStayx ?_
   (try simp only [Act.put,zA,zB,zC,zD,zE,zF])
   refine wpAnyT_late (i:=37) (by kernel_rfl) rfl (by kernel_rfl) (fun K hK9 => ?_)
   go_simp
   refine hK9.out _ _ (by refine ⟨?_,?_,?_,?_⟩ <;> simp [go_sem,q1,f3,f4,f5,nb,nB,nC,Ne.symm nb,Ne.symm nB,Ne.symm nC]) (fun hStayy => ?_)
   clear hK9 K
   (try simp only [Act.put,zA,zB,zC,zD,zE,zF])
   refine tkU (i:=38) (v:=?_) rfl (fun h => Bool.noConfusion (Eq.trans (Eq.symm (show anyL _ _ = true by kernel_rfl)) h)) hStayy ?_
   (try simp only [Act.put,zA,zB,zC,zD,zE,zF])
   refine tkU (i:=39) (v:=?_) rfl (fun h => Bool.noConfusion (Eq.trans (Eq.symm (show anyL _ _ = true by kernel_rfl)) h)) hStayy ?_
   (try simp only [Act.put,zA,zB,zC,zD,zE,zF])
   refine tkU (i:=40) (v:=?_) rfl (fun h => Bool.noConfusion (Eq.trans (Eq.symm (show anyL _ _ = true by kernel_rfl)) h)) hStayy ?_
   (try simp only [Act.put,zA,zB,zC,zD,zE,zF])
   refine wpAnyT_late (i:=41) (by kernel_rfl) rfl (by kernel_rfl) (fun K hK9 => ?_)
   go_simp
   refine hK9.out _ _ (by refine ⟨?_,?_,?_,?_⟩ <;> simp [go_sem,q1,f3,f4,f5,nb,nB,nC,Ne.symm nb,Ne.symm nB,Ne.symm nC]) (fun hStayz => ?_)
   clear hK9 K
   (try simp only [Act.put,zA,zB,zC,zD,zE,zF])
   refine wpAnyT_done (by kernel_rfl) ?_ _
   (try simp only [Act.put,zA,zB,zC,zD,zE,zF])
   go_wp2_with fail
   obtain ⟨e1,e2,e3⟩:=HP.out
   simp only [Bool.false_or,Bool.true_or] at e1 e2 e3
   refine bodyPost_end (v:=.tuple #[]) (by simp [results,Tryz.results69,go_sem]) rfl ⟨rfl,?_,?_⟩
   ·rw [e1,e2,e3]
    exact (((HF.out.1.setAc 3 (by decide) (.bool true)).setAc 4 (by decide) (.bool true)).setAc 5 (by decide) (.bool z2)).kept (Kept.refl _).drew
   ·exact ((((((k0.trans HF.out.2).toGrw b).setCell _ _).setCell _ _).setCell _ _).trans ((Kept.refl _).drew.toGrw b))
  ·go_upto_region 5 with fail
   refine wp_region_lateT [33,37,41] (fun u => (u.cell? ⟨b,3,none⟩ = some (.bool true) ∧ u.cell? ⟨b,4,none⟩ = some (.bool true) ∧ u.cell? ⟨b,5,none⟩ = some (.bool true)) ∧ u.cell? ⟨w.heap.size,0,none⟩ = some (.pointer (some ⟨b,0,none⟩))) (fun u => u.cell? ⟨w.heap.size,0,none⟩ = some (.pointer (some ⟨b,0,none⟩)) ∧ u.cell? ⟨B,3,none⟩ = some (.bool p2) ∧ u.cell? ⟨B,4,none⟩ = some (.bool m2) ∧ u.cell? ⟨B,5,none⟩ = some (.bool z2)) (by kernel_rfl) (by refine ⟨⟨?_,?_,?_⟩,?_⟩ <;> simp [go_sem,q1,g3,g4,g5]) (by refine ⟨?_,?_,?_,?_⟩ <;> simp [go_sem,q1,f3,f4,f5]) (fun hHeld hStay => ?_)
   refine tkU (i:=0) (v:=?_) rfl (fun _ => hHeld) hStay ?_
   (try simp only [Act.put,zA,zB,zC,zD,zE,zF])
   refine tkU (i:=1) (v:=?_) rfl (fun _ => hHeld) hStay ?_
   (try simp only [Act.put,zA,zB,zC,zD,zE,zF])
   refine tkU (i:=2) (v:=?_) rfl (fun _ => hHeld) hStay ?_
   (try simp only [Act.put,zA,zB,zC,zD,zE,zF])
   refine tkT (i:=3) (v:=?_) rfl hHeld hStay ?_
   (try simp only [Act.put,zA,zB,zC,zD,zE,zF])
   refine tkT (i:=4) (v:=?_) rfl hHeld hStay ?_
   (try simp only [Act.put,zA,zB,zC,zD,zE,zF])
   refine tkT (i:=5) (v:=?_) rfl hHeld hStay ?_
   (try simp only [Act.put,zA,zB,zC,zD,zE,zF])
   refine tkT (i:=6) (v:=?_) rfl hHeld hStay ?_
   (try simp only [Act.put,zA,zB,zC,zD,zE,zF])
   refine tkT (i:=7) (v:=?_) rfl hHeld hStay ?_
   (try simp only [Act.put,zA,zB,zC,zD,zE,zF])
   refine tkU (i:=8) (v:=?_) rfl (fun _ => hHeld) hStay ?_
   (try simp only [Act.put,zA,zB,zC,zD,zE,zF])
   refine wpAnyT_take2 (i:=9) (v:=undef) rfl (by kernel_rfl) (by kernel_rfl) (by kernel_rfl) (by kernel_rfl) (fun _ _ _ h => h) (Or.inr ⟨by rfl,rfl⟩) (fun _ => hHeld) hStay ?_
   (try simp only [Act.put,zA,zB,zC,zD,zE,zF])
   refine wpAnyT_take2 (i:=10) (v:=undef) rfl (by kernel_rfl) (by kernel_rfl) (by kernel_rfl) (by kernel_rfl) (fun _ _ _ h => h) (Or.inr ⟨by rfl,rfl⟩) (fun _ => hHeld) hStay ?_
   (try simp only [Act.put,zA,zB,zC,zD,zE,zF])
   refine tkU (i:=11) (v:=?_) rfl (fun _ => hHeld) hStay ?_
   (try simp only [Act.put,zA,zB,zC,zD,zE,zF])
   refine tkT (i:=12) (v:=?_) rfl hHeld hStay ?_
   (try simp only [Act.put,zA,zB,zC,zD,zE,zF])
   refine tkT (i:=13) (v:=?_) rfl hHeld hStay ?_
   (try simp only [Act.put,zA,zB,zC,zD,zE,zF])
   refine tkT (i:=14) (v:=?_) rfl hHeld hStay ?_
   (try simp only [Act.put,zA,zB,zC,zD,zE,zF])
   refine tkT (i:=15) (v:=?_) rfl hHeld hStay ?_
   (try simp only [Act.put,zA,zB,zC,zD,zE,zF])
   refine tkT (i:=16) (v:=?_) rfl hHeld hStay ?_
   (try simp only [Act.put,zA,zB,zC,zD,zE,zF])
   refine tkU (i:=17) (v:=?_) rfl (fun _ => hHeld) hStay ?_
   (try simp only [Act.put,zA,zB,zC,zD,zE,zF])
   refine wpAnyT_take2 (i:=18) (v:=undef) rfl (by kernel_rfl) (by kernel_rfl) (by kernel_rfl) (by kernel_rfl) (fun _ _ _ h => h) (Or.inr ⟨by rfl,rfl⟩) (fun _ => hHeld) hStay ?_
   (try simp only [Act.put,zA,zB,zC,zD,zE,zF])
   refine wpAnyT_take2 (i:=19) (v:=undef) rfl (by kernel_rfl) (by kernel_rfl) (by kernel_rfl) (by kernel_rfl) (fun _ _ _ h => h) (Or.inr ⟨by rfl,rfl⟩) (fun _ => hHeld) hStay ?_
   (try simp only [Act.put,zA,zB,zC,zD,zE,zF])
   refine tkU (i:=20) (v:=?_) rfl (fun _ => hHeld) hStay ?_
   (try simp only [Act.put,zA,zB,zC,zD,zE,zF])
   refine tkT (i:=21) (v:=?_) rfl hHeld hStay ?_
   (try simp only [Act.put,zA,zB,zC,zD,zE,zF])
   refine tkT (i:=22) (v:=?_) rfl hHeld hStay ?_
   (try simp only [Act.put,zA,zB,zC,zD,zE,zF])
   refine tkT (i:=23) (v:=?_) rfl hHeld hStay ?_
   (try simp only [Act.put,zA,zB,zC,zD,zE,zF])
   refine tkT (i:=24) (v:=?_) rfl hHeld hStay ?_
   (try simp only [Act.put,zA,zB,zC,zD,zE,zF])
   refine tkT (i:=25) (v:=?_) rfl hHeld hStay ?_
   (try simp only [Act.put,zA,zB,zC,zD,zE,zF])
   refine tkU (i:=26) (v:=?_) rfl (fun _ => hHeld) hStay ?_
   (try simp only [Act.put,zA,zB,zC,zD,zE,zF])
   refine wpAnyT_take2 (i:=27) (v:=undef) rfl (by kernel_rfl) (by kernel_rfl) (by kernel_rfl) (by kernel_rfl) (fun _ _ _ h => h) (Or.inr ⟨by rfl,rfl⟩) (fun _ => hHeld) hStay ?_
   (try simp only [Act.put,zA,zB,zC,zD,zE,zF])
   refine wpAnyT_take2 (i:=28) (v:=undef) rfl (by kernel_rfl) (by kernel_rfl) (by kernel_rfl) (by kernel_rfl) (fun _ _ _ h => h) (Or.inr ⟨by rfl,rfl⟩) (fun _ => hHeld) hStay ?_
   (try simp only [Act.put,zA,zB,zC,zD,zE,zF])
   refine tkU (i:=29) (v:=?_) rfl (fun _ => hHeld) hStay ?_
   (try simp only [Act.put,zA,zB,zC,zD,zE,zF])
   refine tkU (i:=30) (v:=?_) rfl (fun _ => hHeld) hStay ?_
   (try simp only [Act.put,zA,zB,zC,zD,zE,zF])
   refine tkU (i:=31) (v:=?_) rfl (fun _ => hHeld) hStay ?_
   (try simp only [Act.put,zA,zB,zC,zD,zE,zF])
   refine tkU (i:=32) (v:=?_) rfl (fun _ => hHeld) hStay ?_
   (try simp only [Act.put,zA,zB,zC,zD,zE,zF])
   refine wpAnyT_late (i:=33) (by kernel_rfl) rfl (by kernel_rfl) (fun K hK9 => ?_)
   go_simp
   refine hK9.out _ _ (by refine ⟨?_,?_,?_,?_⟩ <;> simp [go_sem,q1,f3,f4,f5,nb,nB,nC,Ne.symm nb,Ne.symm nB,Ne.symm nC]) (fun hStayx => ?_)
   clear hK9 K
   (try simp only [Act.put,zA,zB,zC,zD,zE,zF])
   refine tkU (i:=34) (v:=?_) rfl (fun h => Bool.noConfusion (Eq.trans (Eq.symm (show anyL _ _ = true by kernel_rfl)) h)) hStayx ?_
   (try simp only [Act.put,zA,zB,zC,zD,zE,zF])
   refine tkU (i:=35) (v:=?_) rfl (fun h => Bool.noConfusion (Eq.trans (Eq.symm (show anyL _ _ = true by kernel_rfl)) h)) hStayx ?_
   (try simp only [Act.put,zA,zB,zC,zD,zE,zF])
   refine tkU (i:=36) (v:=?_) rfl (fun h => Bool.noConfusion (Eq.trans (Eq.symm (show anyL _ _ = true by kernel_rfl)) h)) hStayx ?_
   (try simp only [Act.put,zA,zB,zC,zD,zE,zF])
   refine wpAnyT_late (i:=37) (by kernel_rfl) rfl (by kernel_rfl) (fun K hK9 => ?_)
   go_simp
   refine hK9.out _ _ (by refine ⟨?_,?_,?_,?_⟩ <;> simp [go_sem,q1,f3,f4,f5,nb,nB,nC,Ne.symm nb,Ne.symm nB,Ne.symm nC]) (fun hStayy => ?_)
   clear hK9 K
   (try simp only [Act.put,zA,zB,zC,zD,zE,zF])
   refine tkU (i:=38) (v:=?_) rfl (fun h => Bool.noConfusion (Eq.trans (Eq.symm (show anyL _ _ = true by kernel_rfl)) h)) hStayy ?_
   (try simp only [Act.put,zA,zB,zC,zD,zE,zF])
   refine tkU (i:=39) (v:=?_) rfl (fun h => Bool.noConfusion (Eq.trans (Eq.symm (show anyL _ _ = true by kernel_rfl)) h)) hStayy ?_
   (try simp only [Act.put,zA,zB,zC,zD,zE,zF])
   refine tkU (i:=40) (v:=?_) rfl (fun h => Bool.noConfusion (Eq.trans (Eq.symm (show anyL _ _ = true by kernel_rfl)) h)) hStayy ?_
   (try simp only [Act.put,zA,zB,zC,zD,zE,zF])
   refine wpAnyT_late (i:=41) (by kernel_rfl) rfl (by kernel_rfl) (fun K hK9 => ?_)
   go_simp
   refine hK9.out _ _ (by refine ⟨?_,?_,?_,?_⟩ <;> simp [go_sem,q1,f3,f4,f5,nb,nB,nC,Ne.symm nb,Ne.symm nB,Ne.symm nC]) (fun hStayz => ?_)
   clear hK9 K
   (try simp only [Act.put,zA,zB,zC,zD,zE,zF])
   refine wpAnyT_done (by kernel_rfl) ?_ _
   (try simp only [Act.put,zA,zB,zC,zD,zE,zF])
   go_wp2_with fail
   obtain ⟨e1,e2,e3⟩:=HP.out
   simp only [Bool.false_or,Bool.true_or] at e1 e2 e3
   refine bodyPost_end (v:=.tuple #[]) (by simp [results,Tryz.results69,go_sem]) rfl ⟨rfl,?_,?_⟩
   ·rw [e1,e2,e3]
    exact (((HF.out.1.setAc 3 (by decide) (.bool true)).setAc 4 (by decide) (.bool true)).setAc 5 (by decide) (.bool true)).kept (Kept.refl _).drew
   ·exact ((((((k0.trans HF.out.2).toGrw b).setCell _ _).setCell _ _).setCell _ _).trans ((Kept.refl _).drew.toGrw b))
end Go.Proofs.YtoflafgbbjinpaaGreatDoor
