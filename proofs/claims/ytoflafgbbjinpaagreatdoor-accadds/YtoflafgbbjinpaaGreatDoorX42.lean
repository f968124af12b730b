/- The document's AddPair,by values. -/
import Derived.Test.YtoflafgbbjinpaaGreatDoorX40
namespace Go.Proofs.YtoflafgbbjinpaaGreatDoor
open Go.ChangeShapes Go.WideShapes Go.ChangeAt Go.RowKit
set_option linter.unusedVariables false
set_option linter.unusedSimpArgs false
set_option maxHeartbeats 16000000
set_option maxRecDepth 100000
theorem pair_fin (n x y : Int) (hx : cls x n < 3) (hy : cls y n < 3) : fP n x y = false ∧ fM n x y = false ∧ fN n x y = false:=by
 have hb : bth n x y = true:=by simp [bth,hx,hy]
 simp [fP,fM,fN,hb]
theorem pair_inf (n x y : Int) (h4 : cls x n ≠ 4) (g4 : cls y n ≠ 4) (h0 : cls x n ≠ 0) (g0 : cls y n ≠ 0) (h : cls x n = 3 ∨ cls y n = 3) : fP n x y = !(sgn x n != sgn y n) ∧ fM n x y = (sgn x n != sgn y n) ∧ fN n x y = false ∧ pvl n x y = 0:=by
 have hb : bth n x y = false:=by rcases h with h | h <;> simp [bth,h]
 simp [fP,fM,fN,pvl,hb,h4,g4,h0,g0]
theorem pair_nan (n x y : Int) (h : cls x n = 4 ∨ cls y n = 4 ∨ (cls x n = 3 ∧ cls y n = 0) ∨ (cls x n = 0 ∧ cls y n = 3)) : fP n x y = false ∧ fM n x y = false ∧ fN n x y = true ∧ pvl n x y = 0:=by
 have hb : bth n x y = false:=by rcases h with h | h | ⟨h,g⟩ | ⟨h,g⟩ <;> simp [bth, *]
 rcases h with h | h | ⟨h,g⟩ | ⟨h,g⟩ <;> simp [fP,fM,fN,pvl, *]
theorem dn_tms (n x y : Int) (hn : n = 64 ∨ n = 32) (x1 : -9223372036854775808 ≤ x) (x2 : x ≤ 9223372036854775807) (y1 : -9223372036854775808 ≤ y) (y2 : y ≤ 9223372036854775807) (hx : cls x n < 3) (hy : cls y n < 3) : DN (pvl n x y) (tms (ofN x n) (ofN y n)):=by
 refine ⟨big_lt (pvl_lt n x y hn x1 x2 y1 y2),?_⟩
 have hb : bth n x y = true:=by simp [bth,hx,hy]
 unfold pvl
 rw [if_pos hb]
 exact (tms_is n x y hn hx hy (finP_of x n x1 x2 hn hx) (finP_of y n y1 y2 hn hy)).1
theorem raddpair_fin (n x y c1 c2 : Int) (r t q ex ey : Nm) (ao : Option Addr) (l d : Nat) (p m z z0 : Bool) (w : World) (P : Nat → Prop) (hP1 : ∀ x,P x → x ≠ w.heap.size) (hP2 : ∀ x,P x → x ≠ w.heap.size + 1)
  (h14 : (c1 == 4) = false) (h13 : (c1 == 3) = false) (h24 : (c2 == 4) = false) (h23 : (c2 == 3) = false) (h10 : (c1 == 0) = z0)
  (KC : Hid (∀ u,Calls Tryz.prog 91 #[.int .i64 x,.int .i64 n] u fun e w' => e = .returned (.int .i64 c1) ∧ Kept u w'))
  (KD : Hid (∀ u,Calls Tryz.prog 91 #[.int .i64 y,.int .i64 n] u fun e w' => e = .returned (.int .i64 c2) ∧ Kept u w'))
  (KE : Hid (∀ u,Kept w u → w.heap.size + 2 ≤ u.heap.size → Calls Tryz.prog 95 #[.int .i64 x,.int .i64 n] u fun e w' => ∃ v,e = .returned v ∧ Hid (RNp P w' v ex) ∧ Kept u w'))
  (KF : Hid (∀ u,Kept w u → w.heap.size + 2 ≤ u.heap.size → Calls Tryz.prog 95 #[.int .i64 y,.int .i64 n] u fun e w' => ∃ v,e = .returned v ∧ Hid (RNp P w' v ey) ∧ Kept u w'))
  (KT : Hid (∀ u v v',Kept w u → w.heap.size + 2 ≤ u.heap.size → RNp P u v ex → RNp P u v' ey → Calls Tryz.prog 97 #[v,v'] u fun e w' => ∃ v,e = .returned v ∧ Hid (RNp P w' v t) ∧ Kept u w'))
  (KP : Hid (∀ u v,Kept w u → w.heap.size + 2 ≤ u.heap.size → Hid (RNp P u v t) → Calls Tryz.prog 94 #[.agg #[.bool r.neg,.slice ao l d,.int .i64 r.exp],v] u fun e w' => ∃ ua uc,e = .returned (.agg #[.bool q.neg,.slice ua q.mag.length uc,.int .i64 q.exp]) ∧ Hid (RLp P w' (.slice ua q.mag.length uc) q.mag) ∧ Kept u w')) :
  Calls Tryz.prog 46 #[accV r.neg (.slice ao l d) r.exp p m z,.int .i64 x,.int .i64 y,.int .i64 n] w fun e w' => ∃ ua uc,e = .returned (accV q.neg (.slice ua q.mag.length uc) q.exp p m z) ∧ Hid (RLp P w' (.slice ua q.mag.length uc) q.mag) ∧ Kept w w':=by
 obtain ⟨X,hX⟩ : ∃ X,X = (w.alloc (.cells #[.bool r.neg,.slice ao l d,.int .i64 r.exp,.bool p,.bool m,.bool z] 26)).alloc (.cells #[.bool false,.slice none 0 0,.int .i64 0,.bool false,.bool false,.bool false] 26):=⟨_,rfl⟩
 have k0 : Kept w X:=by rw [hX]; exact ((Kept.refl w).alloc _ _).alloc _ _
 have hXs : Hid (X.heap.size = w.heap.size + 2):=by rw [hX]; simp [Hid]
 obtain ⟨B,hB⟩ : ∃ B,B = w.heap.size:=⟨_,rfl⟩
 obtain ⟨C,hC⟩ : ∃ B,B = w.heap.size + 1:=⟨_,rfl⟩
 have HB : Hid (∀ u,Kept X u → u.cell? ⟨B,0,none⟩ = some (.bool r.neg) ∧ u.cell? ⟨B,1,none⟩ = some (.slice ao l d) ∧ u.cell? ⟨B,2,none⟩ = some (.int .i64 r.exp) ∧ u.cell? ⟨B,3,none⟩ = some (.bool p) ∧ u.cell? ⟨B,4,none⟩ = some (.bool m) ∧ u.cell? ⟨B,5,none⟩ = some (.bool z) ∧ ∀ o,u.frozen? ⟨B,o,none⟩ = false):=fun u k => by
  refine ⟨?_,?_,?_,?_,?_,?_,fun o => ?_⟩
  iterate 6 (exact (k.below.cell (by rw [hXs.out]; dsimp only; omega)).trans (by rw [hX,hB]; simp [go_sem]))
  exact (k.frozen _).trans (by rw [hX,hB]; simp [go_sem])
 have HC : Hid (∀ u,Kept X u → u.cell? ⟨C,0,none⟩ = some (.bool false) ∧ u.cell? ⟨C,1,none⟩ = some (.slice none 0 0) ∧ u.cell? ⟨C,2,none⟩ = some (.int .i64 0) ∧ u.cell? ⟨C,3,none⟩ = some (.bool false) ∧ u.cell? ⟨C,4,none⟩ = some (.bool false) ∧ u.cell? ⟨C,5,none⟩ = some (.bool false) ∧ ∀ o,u.frozen? ⟨C,o,none⟩ = false):=fun u k => by
  refine ⟨?_,?_,?_,?_,?_,?_,fun o => ?_⟩
  iterate 6 (exact (k.below.cell (by rw [hXs.out]; dsimp only; omega)).trans (by rw [hX,hC]; simp [go_sem]))
  exact (k.frozen _).trans (by rw [hX,hC]; simp [go_sem])
 have hBC : Hid (B ≠ C ∧ w.heap.size ≤ B ∧ w.heap.size ≤ C):=(show _ ∧ _ ∧ _ from by omega)
 rw [← hB] at hP1
 rw [← hC] at hP2
 go_enter Tryz.func46,Tryz.ntmps46
 go_upto_region 1 with fail
 rw [← hX,← hC,← hB]
 clear hX hB hC
 go_wp2_with fail
 refine (KC.out _).mono ?_
 rintro e w0 ⟨rfl,k01⟩
 go_wp2_with fail
 refine (KD.out _).mono ?_
 rintro e w1 ⟨rfl,k12⟩
 have k1:=k01.trans k12
 have HS : Hid (∀ u,Kept X u → Kept X u ∧ u.cell? ⟨B,0,none⟩ = some (.bool r.neg) ∧ u.cell? ⟨B,1,none⟩ = some (.slice ao l d) ∧ u.cell? ⟨B,2,none⟩ = some (.int .i64 r.exp)):=fun u k => by
  obtain ⟨y0,y1,y2,y3,y4,y5,y6⟩:=HB.out _ k
  exact ⟨k,y0,y1,y2⟩
 cases z0
 all_goals
  go_wp2_with fail
  refine wp_region_late [11] (fun u => Kept X u ∧ u.cell? ⟨B,0,none⟩ = some (.bool r.neg) ∧ u.cell? ⟨B,1,none⟩ = some (.slice ao l d) ∧ u.cell? ⟨B,2,none⟩ = some (.int .i64 r.exp)) (by kernel_rfl) (HS.out _ k1.drew) (fun hHeld => ?_)
  refine tkD (i:=0) (v:=?_) rfl hHeld ?_
  (try simp only [Act.put,zA,zB,zC,zD,zE,zF])
  refine tkD (i:=1) (v:=?_) rfl hHeld ?_
  (try simp only [Act.put,zA,zB,zC,zD,zE,zF])
  refine tkD (i:=2) (v:=?_) rfl hHeld ?_
  (try simp only [Act.put,zA,zB,zC,zD,zE,zF])
  refine tkD (i:=3) (v:=?_) rfl hHeld ?_
  (try simp only [Act.put,zA,zB,zC,zD,zE,zF])
  refine tkD (i:=5) (v:=?_) rfl hHeld ?_
  (try simp only [Act.put,zA,zB,zC,zD,zE,zF])
  refine tkD (i:=6) (v:=?_) rfl hHeld ?_
  (try simp only [Act.put,zA,zB,zC,zD,zE,zF])
  refine wpAnyD_step (i:=4) (by kernel_rfl) rfl (fun K hK9 => ?_)
  go_simp
  go_wp2_with fail
  refine (KE.out _ (k0.trans hHeld.1) (by have:=hHeld.1.below.size; rw [hXs.out] at this; exact this)).mono ?_
  rintro e u2 ⟨ve,rfl,he,k2⟩
  refine hK9.out _ _ (HS.out _ (hHeld.1.trans k2)) (fun hH2 => ?_)
  clear hK9 K
  (try simp only [Act.put,zA,zB,zC,zD,zE,zF])
  refine wpAnyD_step (i:=7) (by kernel_rfl) rfl (fun K hK9 => ?_)
  go_simp
  go_wp2_with fail
  refine (KF.out _ (k0.trans hH2.1) (by have:=hH2.1.below.size; rw [hXs.out] at this; exact this)).mono ?_
  rintro e u3 ⟨vf,rfl,hf,k3⟩
  refine hK9.out _ _ (HS.out _ (hH2.1.trans k3)) (fun hH3 => ?_)
  clear hK9 K
  (try simp only [Act.put,zA,zB,zC,zD,zE,zF])
  refine wpAnyD_step (i:=8) (by kernel_rfl) rfl (fun K hK9 => ?_)
  go_simp
  go_wp2_with fail
  refine (KT.out _ ve vf (k0.trans hH3.1) (by have:=hH3.1.below.size; rw [hXs.out] at this; exact this) (he.out.kept k3) hf.out).mono ?_
  rintro e u4 ⟨vt,rfl,ht,k4⟩
  refine hK9.out _ _ (HS.out _ (hH3.1.trans k4)) (fun hH4 => ?_)
  clear hK9 K
  (try simp only [Act.put,zA,zB,zC,zD,zE,zF])
  refine wpAnyD_step (i:=9) (by kernel_rfl) rfl (fun K hK9 => ?_)
  go_simp
  go_wp2_with fail
  refine (KP.out _ vt (k0.trans hH4.1) (by have:=hH4.1.below.size; rw [hXs.out] at this; exact this) ht).mono ?_
  rintro e u5 ⟨ua,uc,rfl,hs,k5⟩
  refine hK9.out _ _ (HS.out _ (hH4.1.trans k5)) (fun hH5 => ?_)
  clear hK9 K
  (try simp only [Act.put,zA,zB,zC,zD,zE,zF])
  refine tkD (i:=10) (v:=?_) rfl hH5 ?_
  (try simp only [Act.put,zA,zB,zC,zD,zE,zF])
  obtain ⟨y0,y1,y2,y3,y4,y5,y6⟩:=HB.out _ hH5.1
  obtain ⟨x0,x1,x2,x3,x4,x5,x6⟩:=HC.out _ hH5.1
  obtain ⟨n1,n2,n3⟩:=hBC.out
  refine wpAnyD_late (i:=11) (by kernel_rfl) rfl rfl (fun K hK9 => ?_)
  go_simp
  refine hK9.out _ _ ?_
  clear hK9 K
  (try simp only [Act.put,zA,zB,zC,zD,zE,zF])
  refine wpAnyD_done (by kernel_rfl) ?_ _
  (try simp only [Act.put,zA,zB,zC,zD,zE,zF])
  go_wp2_with fail
  have K9 : Kept w u5:=k0.trans hH5.1
  refine bodyPost_ret (v:=accV q.neg (.slice ua q.mag.length uc) q.exp p m z) (by simp [results,Tryz.results46,go_sem,accV,x0,x1,x2,x3,x4,x5,y0,y1,y2,n1,Ne.symm n1]) rfl ⟨ua,uc,rfl,?_,?_⟩
  ·exact rlp_other (rlp_other (rlp_other (rlp_other (rlp_other (rlp_other (rlp_other (rlp_other (rlp_other hs.out B 0 hP1 _) B 1 hP1 _) B 2 hP1 _) C 0 hP2 _) C 1 hP2 _) C 2 hP2 _) C 3 hP2 _) C 4 hP2 _) C 5 hP2 _
  ·exact kept_six1 C n3 (((K9.setCell (p:=⟨B,0,none⟩) n2 _).setCell (p:=⟨B,1,none⟩) n2 _).setCell (p:=⟨B,2,none⟩) n2 _) _ _ _ _ _ _
theorem raddpair_nan1 (n x y c2 : Int) (r : Nm) (ao : Option Addr) (l d : Nat) (p m z : Bool) (w : World) 
  (KC : Hid (∀ u,Calls Tryz.prog 91 #[.int .i64 x,.int .i64 n] u fun e w' => e = .returned (.int .i64 4) ∧ Kept u w'))
  (KD : Hid (∀ u,Calls Tryz.prog 91 #[.int .i64 y,.int .i64 n] u fun e w' => e = .returned (.int .i64 c2) ∧ Kept u w')) :
  Calls Tryz.prog 46 #[accV r.neg (.slice ao l d) r.exp p m z,.int .i64 x,.int .i64 y,.int .i64 n] w fun e w' => e = .returned (accV r.neg (.slice ao l d) r.exp p m true) ∧ Kept w w':=by
 obtain ⟨X,hX⟩ : ∃ X,X = (w.alloc (.cells #[.bool r.neg,.slice ao l d,.int .i64 r.exp,.bool p,.bool m,.bool z] 26)).alloc (.cells #[.bool false,.slice none 0 0,.int .i64 0,.bool false,.bool false,.bool false] 26):=⟨_,rfl⟩
 have k0 : Kept w X:=by rw [hX]; exact ((Kept.refl w).alloc _ _).alloc _ _
 have hXs : Hid (X.heap.size = w.heap.size + 2):=by rw [hX]; simp [Hid]
 obtain ⟨B,hB⟩ : ∃ B,B = w.heap.size:=⟨_,rfl⟩
 obtain ⟨C,hC⟩ : ∃ B,B = w.heap.size + 1:=⟨_,rfl⟩
 have HB : Hid (∀ u,Kept X u → u.cell? ⟨B,0,none⟩ = some (.bool r.neg) ∧ u.cell? ⟨B,1,none⟩ = some (.slice ao l d) ∧ u.cell? ⟨B,2,none⟩ = some (.int .i64 r.exp) ∧ u.cell? ⟨B,3,none⟩ = some (.bool p) ∧ u.cell? ⟨B,4,none⟩ = some (.bool m) ∧ u.cell? ⟨B,5,none⟩ = some (.bool z) ∧ ∀ o,u.frozen? ⟨B,o,none⟩ = false):=fun u k => by
  refine ⟨?_,?_,?_,?_,?_,?_,fun o => ?_⟩
  iterate 6 (exact (k.below.cell (by rw [hXs.out]; dsimp only; omega)).trans (by rw [hX,hB]; simp [go_sem]))
  exact (k.frozen _).trans (by rw [hX,hB]; simp [go_sem])
 have HC : Hid (∀ u,Kept X u → u.cell? ⟨C,0,none⟩ = some (.bool false) ∧ u.cell? ⟨C,1,none⟩ = some (.slice none 0 0) ∧ u.cell? ⟨C,2,none⟩ = some (.int .i64 0) ∧ u.cell? ⟨C,3,none⟩ = some (.bool false) ∧ u.cell? ⟨C,4,none⟩ = some (.bool false) ∧ u.cell? ⟨C,5,none⟩ = some (.bool false) ∧ ∀ o,u.frozen? ⟨C,o,none⟩ = false):=fun u k => by
  refine ⟨?_,?_,?_,?_,?_,?_,fun o => ?_⟩
  iterate 6 (exact (k.below.cell (by rw [hXs.out]; dsimp only; omega)).trans (by rw [hX,hC]; simp [go_sem]))
  exact (k.frozen _).trans (by rw [hX,hC]; simp [go_sem])
 have hBC : Hid (B ≠ C ∧ w.heap.size ≤ B ∧ w.heap.size ≤ C):=(show _ ∧ _ ∧ _ from by omega)
 go_enter Tryz.func46,Tryz.ntmps46
 go_upto_region 1 with fail
 rw [← hX,← hC,← hB]
 clear hX hB hC
 go_wp2_with fail
 refine (KC.out _).mono ?_
 rintro e w0 ⟨rfl,k01⟩
 go_wp2_with fail
 refine (KD.out _).mono ?_
 rintro e w1 ⟨rfl,k12⟩
 have k1:=k01.trans k12
 obtain ⟨y0,y1,y2,y3,y4,y5,y6⟩:=HB.out _ k1
 obtain ⟨x0,x1,x2,x3,x4,x5,x6⟩:=HC.out _ k1
 obtain ⟨n1,n2,n3⟩:=hBC.out
 go_wp2_with fail
 have K9 : Kept w w1:=k0.trans k1
 refine bodyPost_ret (v:=accV r.neg (.slice ao l d) r.exp p m true) (by simp [results,Tryz.results46,go_sem,accV,x0,x1,x2,x3,x4,x5,y0,y1,y2,n1,Ne.symm n1]) rfl ⟨rfl,?_⟩
 exact kept_six1 C n3 (K9.setCell (p:=⟨B,5,none⟩) n2 _) _ _ _ _ _ _
theorem raddpair_nan2 (n x y c1 : Int) (r : Nm) (ao : Option Addr) (l d : Nat) (p m z : Bool) (w : World) (h14 : (c1 == 4) = false)
  (KC : Hid (∀ u,Calls Tryz.prog 91 #[.int .i64 x,.int .i64 n] u fun e w' => e = .returned (.int .i64 c1) ∧ Kept u w'))
  (KD : Hid (∀ u,Calls Tryz.prog 91 #[.int .i64 y,.int .i64 n] u fun e w' => e = .returned (.int .i64 4) ∧ Kept u w')) :
  Calls Tryz.prog 46 #[accV r.neg (.slice ao l d) r.exp p m z,.int .i64 x,.int .i64 y,.int .i64 n] w fun e w' => e = .returned (accV r.neg (.slice ao l d) r.exp p m true) ∧ Kept w w':=by
 obtain ⟨X,hX⟩ : ∃ X,X = (w.alloc (.cells #[.bool r.neg,.slice ao l d,.int .i64 r.exp,.bool p,.bool m,.bool z] 26)).alloc (.cells #[.bool false,.slice none 0 0,.int .i64 0,.bool false,.bool false,.bool false] 26):=⟨_,rfl⟩
 have k0 : Kept w X:=by rw [hX]; exact ((Kept.refl w).alloc _ _).alloc _ _
 have hXs : Hid (X.heap.size = w.heap.size + 2):=by rw [hX]; simp [Hid]
 obtain ⟨B,hB⟩ : ∃ B,B = w.heap.size:=⟨_,rfl⟩
 obtain ⟨C,hC⟩ : ∃ B,B = w.heap.size + 1:=⟨_,rfl⟩
 have HB : Hid (∀ u,Kept X u → u.cell? ⟨B,0,none⟩ = some (.bool r.neg) ∧ u.cell? ⟨B,1,none⟩ = some (.slice ao l d) ∧ u.cell? ⟨B,2,none⟩ = some (.int .i64 r.exp) ∧ u.cell? ⟨B,3,none⟩ = some (.bool p) ∧ u.cell? ⟨B,4,none⟩ = some (.bool m) ∧ u.cell? ⟨B,5,none⟩ = some (.bool z) ∧ ∀ o,u.frozen? ⟨B,o,none⟩ = false):=fun u k => by
  refine ⟨?_,?_,?_,?_,?_,?_,fun o => ?_⟩
  iterate 6 (exact (k.below.cell (by rw [hXs.out]; dsimp only; omega)).trans (by rw [hX,hB]; simp [go_sem]))
  exact (k.frozen _).trans (by rw [hX,hB]; simp [go_sem])
 have HC : Hid (∀ u,Kept X u → u.cell? ⟨C,0,none⟩ = some (.bool false) ∧ u.cell? ⟨C,1,none⟩ = some (.slice none 0 0) ∧ u.cell? ⟨C,2,none⟩ = some (.int .i64 0) ∧ u.cell? ⟨C,3,none⟩ = some (.bool false) ∧ u.cell? ⟨C,4,none⟩ = some (.bool false) ∧ u.cell? ⟨C,5,none⟩ = some (.bool false) ∧ ∀ o,u.frozen? ⟨C,o,none⟩ = false):=fun u k => by
  refine ⟨?_,?_,?_,?_,?_,?_,fun o => ?_⟩
  iterate 6 (exact (k.below.cell (by rw [hXs.out]; dsimp only; omega)).trans (by rw [hX,hC]; simp [go_sem]))
  exact (k.frozen _).trans (by rw [hX,hC]; simp [go_sem])
 have hBC : Hid (B ≠ C ∧ w.heap.size ≤ B ∧ w.heap.size ≤ C):=(show _ ∧ _ ∧ _ from by omega)
 go_enter Tryz.func46,Tryz.ntmps46
 go_upto_region 1 with fail
 rw [← hX,← hC,← hB]
 clear hX hB hC
 go_wp2_with fail
 refine (KC.out _).mono ?_
 rintro e w0 ⟨rfl,k01⟩
 go_wp2_with fail
 refine (KD.out _).mono ?_
 rintro e w1 ⟨rfl,k12⟩
 have k1:=k01.trans k12
 obtain ⟨y0,y1,y2,y3,y4,y5,y6⟩:=HB.out _ k1
 obtain ⟨x0,x1,x2,x3,x4,x5,x6⟩:=HC.out _ k1
 obtain ⟨n1,n2,n3⟩:=hBC.out
 go_wp2_with fail
 have K9 : Kept w w1:=k0.trans k1
 refine bodyPost_ret (v:=accV r.neg (.slice ao l d) r.exp p m true) (by simp [results,Tryz.results46,go_sem,accV,x0,x1,x2,x3,x4,x5,y0,y1,y2,n1,Ne.symm n1]) rfl ⟨rfl,?_⟩
 exact kept_six1 C n3 (K9.setCell (p:=⟨B,5,none⟩) n2 _) _ _ _ _ _ _
theorem raddpair_nan3 (n x y  : Int) (r : Nm) (ao : Option Addr) (l d : Nat) (p m z : Bool) (w : World) 
  (KC : Hid (∀ u,Calls Tryz.prog 91 #[.int .i64 x,.int .i64 n] u fun e w' => e = .returned (.int .i64 3) ∧ Kept u w'))
  (KD : Hid (∀ u,Calls Tryz.prog 91 #[.int .i64 y,.int .i64 n] u fun e w' => e = .returned (.int .i64 0) ∧ Kept u w')) :
  Calls Tryz.prog 46 #[accV r.neg (.slice ao l d) r.exp p m z,.int .i64 x,.int .i64 y,.int .i64 n] w fun e w' => e = .returned (accV r.neg (.slice ao l d) r.exp p m true) ∧ Kept w w':=by
 obtain ⟨X,hX⟩ : ∃ X,X = (w.alloc (.cells #[.bool r.neg,.slice ao l d,.int .i64 r.exp,.bool p,.bool m,.bool z] 26)).alloc (.cells #[.bool false,.slice none 0 0,.int .i64 0,.bool false,.bool false,.bool false] 26):=⟨_,rfl⟩
 have k0 : Kept w X:=by rw [hX]; exact ((Kept.refl w).alloc _ _).alloc _ _
 have hXs : Hid (X.heap.size = w.heap.size + 2):=by rw [hX]; simp [Hid]
 obtain ⟨B,hB⟩ : ∃ B,B = w.heap.size:=⟨_,rfl⟩
 obtain ⟨C,hC⟩ : ∃ B,B = w.heap.size + 1:=⟨_,rfl⟩
 have HB : Hid (∀ u,Kept X u → u.cell? ⟨B,0,none⟩ = some (.bool r.neg) ∧ u.cell? ⟨B,1,none⟩ = some (.slice ao l d) ∧ u.cell? ⟨B,2,none⟩ = some (.int .i64 r.exp) ∧ u.cell? ⟨B,3,none⟩ = some (.bool p) ∧ u.cell? ⟨B,4,none⟩ = some (.bool m) ∧ u.cell? ⟨B,5,none⟩ = some (.bool z) ∧ ∀ o,u.frozen? ⟨B,o,none⟩ = false):=fun u k => by
  refine ⟨?_,?_,?_,?_,?_,?_,fun o => ?_⟩
  iterate 6 (exact (k.below.cell (by rw [hXs.out]; dsimp only; omega)).trans (by rw [hX,hB]; simp [go_sem]))
  exact (k.frozen _).trans (by rw [hX,hB]; simp [go_sem])
 have HC : Hid (∀ u,Kept X u → u.cell? ⟨C,0,none⟩ = some (.bool false) ∧ u.cell? ⟨C,1,none⟩ = some (.slice none 0 0) ∧ u.cell? ⟨C,2,none⟩ = some (.int .i64 0) ∧ u.cell? ⟨C,3,none⟩ = some (.bool false) ∧ u.cell? ⟨C,4,none⟩ = some (.bool false) ∧ u.cell? ⟨C,5,none⟩ = some (.bool false) ∧ ∀ o,u.frozen? ⟨C,o,none⟩ = false):=fun u k => by
  refine ⟨?_,?_,?_,?_,?_,?_,fun o => ?_⟩
  iterate 6 (exact (k.below.cell (by rw [hXs.out]; dsimp only; omega)).trans (by rw [hX,hC]; simp [go_sem]))
  exact (k.frozen _).trans (by rw [hX,hC]; simp [go_sem])
 have hBC : Hid (B ≠ C ∧ w.heap.size ≤ B ∧ w.heap.size ≤ C):=(show _ ∧ _ ∧ _ from by omega)
 go_enter Tryz.func46,Tryz.ntmps46
 go_upto_region 1 with fail
 rw [← hX,← hC,← hB]
 clear hX hB hC
 go_wp2_with fail
 refine (KC.out _).mono ?_
 rintro e w0 ⟨rfl,k01⟩
 go_wp2_with fail
 refine (KD.out _).mono ?_
 rintro e w1 ⟨rfl,k12⟩
 have k1:=k01.trans k12
 obtain ⟨y0,y1,y2,y3,y4,y5,y6⟩:=HB.out _ k1
 obtain ⟨x0,x1,x2,x3,x4,x5,x6⟩:=HC.out _ k1
 obtain ⟨n1,n2,n3⟩:=hBC.out
 go_wp2_with fail
 have K9 : Kept w w1:=k0.trans k1
 refine bodyPost_ret (v:=accV r.neg (.slice ao l d) r.exp p m true) (by simp [results,Tryz.results46,go_sem,accV,x0,x1,x2,x3,x4,x5,y0,y1,y2,n1,Ne.symm n1]) rfl ⟨rfl,?_⟩
 exact kept_six1 C n3 (K9.setCell (p:=⟨B,5,none⟩) n2 _) _ _ _ _ _ _
theorem raddpair_nan4 (n x y  : Int) (r : Nm) (ao : Option Addr) (l d : Nat) (p m z : Bool) (w : World) 
  (KC : Hid (∀ u,Calls Tryz.prog 91 #[.int .i64 x,.int .i64 n] u fun e w' => e = .returned (.int .i64 0) ∧ Kept u w'))
  (KD : Hid (∀ u,Calls Tryz.prog 91 #[.int .i64 y,.int .i64 n] u fun e w' => e = .returned (.int .i64 3) ∧ Kept u w')) :
  Calls Tryz.prog 46 #[accV r.neg (.slice ao l d) r.exp p m z,.int .i64 x,.int .i64 y,.int .i64 n] w fun e w' => e = .returned (accV r.neg (.slice ao l d) r.exp p m true) ∧ Kept w w':=by
 obtain ⟨X,hX⟩ : ∃ X,X = (w.alloc (.cells #[.bool r.neg,.slice ao l d,.int .i64 r.exp,.bool p,.bool m,.bool z] 26)).alloc (.cells #[.bool false,.slice none 0 0,.int .i64 0,.bool false,.bool false,.bool false] 26):=⟨_,rfl⟩
 have k0 : Kept w X:=by rw [hX]; exact ((Kept.refl w).alloc _ _).alloc _ _
 have hXs : Hid (X.heap.size = w.heap.size + 2):=by rw [hX]; simp [Hid]
 obtain ⟨B,hB⟩ : ∃ B,B = w.heap.size:=⟨_,rfl⟩
 obtain ⟨C,hC⟩ : ∃ B,B = w.heap.size + 1:=⟨_,rfl⟩
 have HB : Hid (∀ u,Kept X u → u.cell? ⟨B,0,none⟩ = some (.bool r.neg) ∧ u.cell? ⟨B,1,none⟩ = some (.slice ao l d) ∧ u.cell? ⟨B,2,none⟩ = some (.int .i64 r.exp) ∧ u.cell? ⟨B,3,none⟩ = some (.bool p) ∧ u.cell? ⟨B,4,none⟩ = some (.bool m) ∧ u.cell? ⟨B,5,none⟩ = some (.bool z) ∧ ∀ o,u.frozen? ⟨B,o,none⟩ = false):=fun u k => by
  refine ⟨?_,?_,?_,?_,?_,?_,fun o => ?_⟩
  iterate 6 (exact (k.below.cell (by rw [hXs.out]; dsimp only; omega)).trans (by rw [hX,hB]; simp [go_sem]))
  exact (k.frozen _).trans (by rw [hX,hB]; simp [go_sem])
 have HC : Hid (∀ u,Kept X u → u.cell? ⟨C,0,none⟩ = some (.bool false) ∧ u.cell? ⟨C,1,none⟩ = some (.slice none 0 0) ∧ u.cell? ⟨C,2,none⟩ = some (.int .i64 0) ∧ u.cell? ⟨C,3,none⟩ = some (.bool false) ∧ u.cell? ⟨C,4,none⟩ = some (.bool false) ∧ u.cell? ⟨C,5,none⟩ = some (.bool false) ∧ ∀ o,u.frozen? ⟨C,o,none⟩ = false):=fun u k => by
  refine ⟨?_,?_,?_,?_,?_,?_,fun o => ?_⟩
  iterate 6 (exact (k.below.cell (by rw [hXs.out]; dsimp only; omega)).trans (by rw [hX,hC]; simp [go_sem]))
  exact (k.frozen _).trans (by rw [hX,hC]; simp [go_sem])
 have hBC : Hid (B ≠ C ∧ w.heap.size ≤ B ∧ w.heap.size ≤ C):=(show _ ∧ _ ∧ _ from by omega)
 go_enter Tryz.func46,Tryz.ntmps46
 go_upto_region 1 with fail
 rw [← hX,← hC,← hB]
 clear hX hB hC
 go_wp2_with fail
 refine (KC.out _).mono ?_
 rintro e w0 ⟨rfl,k01⟩
 go_wp2_with fail
 refine (KD.out _).mono ?_
 rintro e w1 ⟨rfl,k12⟩
 have k1:=k01.trans k12
 obtain ⟨y0,y1,y2,y3,y4,y5,y6⟩:=HB.out _ k1
 obtain ⟨x0,x1,x2,x3,x4,x5,x6⟩:=HC.out _ k1
 obtain ⟨n1,n2,n3⟩:=hBC.out
 go_wp2_with fail
 have K9 : Kept w w1:=k0.trans k1
 refine bodyPost_ret (v:=accV r.neg (.slice ao l d) r.exp p m true) (by simp [results,Tryz.results46,go_sem,accV,x0,x1,x2,x3,x4,x5,y0,y1,y2,n1,Ne.symm n1]) rfl ⟨rfl,?_⟩
 exact kept_six1 C n3 (K9.setCell (p:=⟨B,5,none⟩) n2 _) _ _ _ _ _ _
theorem raddpair_inf1 (n x y c2 : Int) (sx sy : Bool) (r : Nm) (ao : Option Addr) (l d : Nat) (p m z P M : Bool) (w : World) (h24 : (c2 == 4) = false) (h20 : (c2 == 0) = false)
  (KC : Hid (∀ u,Calls Tryz.prog 91 #[.int .i64 x,.int .i64 n] u fun e w' => e = .returned (.int .i64 3) ∧ Kept u w'))
  (KD : Hid (∀ u,Calls Tryz.prog 91 #[.int .i64 y,.int .i64 n] u fun e w' => e = .returned (.int .i64 c2) ∧ Kept u w'))
  (KN : Hid (∀ u,Calls Tryz.prog 93 #[.int .i64 x,.int .i64 n] u fun e w' => e = .returned (.bool sx) ∧ Kept u w'))
  (KM : Hid (∀ u,Calls Tryz.prog 93 #[.int .i64 y,.int .i64 n] u fun e w' => e = .returned (.bool sy) ∧ Kept u w'))
  (KI : Hid (∀ u,Calls Tryz.prog 92 #[accV r.neg (.slice ao l d) r.exp p m z,.bool (sx != sy)] u fun e w' => e = .returned (accV r.neg (.slice ao l d) r.exp P M z) ∧ Kept u w')) :
  Calls Tryz.prog 46 #[accV r.neg (.slice ao l d) r.exp p m z,.int .i64 x,.int .i64 y,.int .i64 n] w fun e w' => e = .returned (accV r.neg (.slice ao l d) r.exp P M z) ∧ Kept w w':=by
 obtain ⟨X,hX⟩ : ∃ X,X = (w.alloc (.cells #[.bool r.neg,.slice ao l d,.int .i64 r.exp,.bool p,.bool m,.bool z] 26)).alloc (.cells #[.bool false,.slice none 0 0,.int .i64 0,.bool false,.bool false,.bool false] 26):=⟨_,rfl⟩
 have k0 : Kept w X:=by rw [hX]; exact ((Kept.refl w).alloc _ _).alloc _ _
 have hXs : Hid (X.heap.size = w.heap.size + 2):=by rw [hX]; simp [Hid]
 obtain ⟨B,hB⟩ : ∃ B,B = w.heap.size:=⟨_,rfl⟩
 obtain ⟨C,hC⟩ : ∃ B,B = w.heap.size + 1:=⟨_,rfl⟩
 have HB : Hid (∀ u,Kept X u → u.cell? ⟨B,0,none⟩ = some (.bool r.neg) ∧ u.cell? ⟨B,1,none⟩ = some (.slice ao l d) ∧ u.cell? ⟨B,2,none⟩ = some (.int .i64 r.exp) ∧ u.cell? ⟨B,3,none⟩ = some (.bool p) ∧ u.cell? ⟨B,4,none⟩ = some (.bool m) ∧ u.cell? ⟨B,5,none⟩ = some (.bool z) ∧ ∀ o,u.frozen? ⟨B,o,none⟩ = false):=fun u k => by
  refine ⟨?_,?_,?_,?_,?_,?_,fun o => ?_⟩
  iterate 6 (exact (k.below.cell (by rw [hXs.out]; dsimp only; omega)).trans (by rw [hX,hB]; simp [go_sem]))
  exact (k.frozen _).trans (by rw [hX,hB]; simp [go_sem])
 have HC : Hid (∀ u,Kept X u → u.cell? ⟨C,0,none⟩ = some (.bool false) ∧ u.cell? ⟨C,1,none⟩ = some (.slice none 0 0) ∧ u.cell? ⟨C,2,none⟩ = some (.int .i64 0) ∧ u.cell? ⟨C,3,none⟩ = some (.bool false) ∧ u.cell? ⟨C,4,none⟩ = some (.bool false) ∧ u.cell? ⟨C,5,none⟩ = some (.bool false) ∧ ∀ o,u.frozen? ⟨C,o,none⟩ = false):=fun u k => by
  refine ⟨?_,?_,?_,?_,?_,?_,fun o => ?_⟩
  iterate 6 (exact (k.below.cell (by rw [hXs.out]; dsimp only; omega)).trans (by rw [hX,hC]; simp [go_sem]))
  exact (k.frozen _).trans (by rw [hX,hC]; simp [go_sem])
 have hBC : Hid (B ≠ C ∧ w.heap.size ≤ B ∧ w.heap.size ≤ C):=(show _ ∧ _ ∧ _ from by omega)
 go_enter Tryz.func46,Tryz.ntmps46
 go_upto_region 1 with fail
 rw [← hX,← hC,← hB]
 clear hX hB hC
 go_wp2_with fail
 refine (KC.out _).mono ?_
 rintro e w0 ⟨rfl,k01⟩
 go_wp2_with fail
 refine (KD.out _).mono ?_
 rintro e w1 ⟨rfl,k12⟩
 have k1:=k01.trans k12
 have HS : Hid (∀ u,Kept X u → Kept X u ∧ u.cell? ⟨B,0,none⟩ = some (.bool r.neg) ∧ u.cell? ⟨B,1,none⟩ = some (.slice ao l d) ∧ u.cell? ⟨B,2,none⟩ = some (.int .i64 r.exp) ∧ u.cell? ⟨B,3,none⟩ = some (.bool p) ∧ u.cell? ⟨B,4,none⟩ = some (.bool m) ∧ u.cell? ⟨B,5,none⟩ = some (.bool z)):=fun u k => by
  obtain ⟨y0,y1,y2,y3,y4,y5,y6⟩:=HB.out _ k
  exact ⟨k,y0,y1,y2,y3,y4,y5⟩
 go_wp2_with fail
 refine wp_region_late [9] (fun u => Kept X u ∧ u.cell? ⟨B,0,none⟩ = some (.bool r.neg) ∧ u.cell? ⟨B,1,none⟩ = some (.slice ao l d) ∧ u.cell? ⟨B,2,none⟩ = some (.int .i64 r.exp) ∧ u.cell? ⟨B,3,none⟩ = some (.bool p) ∧ u.cell? ⟨B,4,none⟩ = some (.bool m) ∧ u.cell? ⟨B,5,none⟩ = some (.bool z)) (by kernel_rfl) (HS.out _ k1.drew) (fun hHeld => ?_)
 refine tkD (i:=0) (v:=?_) rfl hHeld ?_
 (try simp only [Act.put,zA,zB,zC,zD,zE,zF])
 refine tkD (i:=1) (v:=?_) rfl hHeld ?_
 (try simp only [Act.put,zA,zB,zC,zD,zE,zF])
 refine tkD (i:=2) (v:=?_) rfl hHeld ?_
 (try simp only [Act.put,zA,zB,zC,zD,zE,zF])
 refine tkD (i:=4) (v:=?_) rfl hHeld ?_
 (try simp only [Act.put,zA,zB,zC,zD,zE,zF])
 refine tkD (i:=5) (v:=?_) rfl hHeld ?_
 (try simp only [Act.put,zA,zB,zC,zD,zE,zF])
 refine wpAnyD_step (i:=3) (by kernel_rfl) rfl (fun K hK9 => ?_)
 go_simp
 go_wp2_with fail
 refine (KN.out _).mono ?_
 rintro e u2 ⟨rfl,k2⟩
 refine hK9.out _ _ (HS.out _ (hHeld.1.trans k2)) (fun hH2 => ?_)
 clear hK9 K
 (try simp only [Act.put,zA,zB,zC,zD,zE,zF])
 refine wpAnyD_step (i:=6) (by kernel_rfl) rfl (fun K hK9 => ?_)
 go_simp
 go_wp2_with fail
 refine (KM.out _).mono ?_
 rintro e u3 ⟨rfl,k3⟩
 refine hK9.out _ _ (HS.out _ (hH2.1.trans k3)) (fun hH3 => ?_)
 clear hK9 K
 (try simp only [Act.put,zA,zB,zC,zD,zE,zF])
 refine tkD (i:=7) (v:=?_) rfl hH3 ?_
 (try simp only [Act.put,zA,zB,zC,zD,zE,zF])
 refine wpAnyD_step (i:=8) (by kernel_rfl) rfl (fun K hK9 => ?_)
 go_simp
 go_wp2_with fail
 refine (KI.out _).mono ?_
 rintro e u4 ⟨rfl,k4⟩
 refine hK9.out _ _ (HS.out _ (hH3.1.trans k4)) (fun hH4 => ?_)
 clear hK9 K
 (try simp only [Act.put,zA,zB,zC,zD,zE,zF])
 obtain ⟨y0,y1,y2,y3,y4,y5,y6⟩:=HB.out _ hH4.1
 obtain ⟨x0,x1,x2,x3,x4,x5,x6⟩:=HC.out _ hH4.1
 obtain ⟨n1,n2,n3⟩:=hBC.out
 refine wpAnyD_late (i:=9) (by kernel_rfl) rfl rfl (fun K hK9 => ?_)
 go_simp
 refine hK9.out _ _ ?_
 clear hK9 K
 (try simp only [Act.put,zA,zB,zC,zD,zE,zF])
 refine wpAnyD_done (by kernel_rfl) ?_ _
 (try simp only [Act.put,zA,zB,zC,zD,zE,zF])
 go_wp2_with fail
 have K9 : Kept w u4:=k0.trans hH4.1
 refine bodyPost_ret (v:=accV r.neg (.slice ao l d) r.exp P M z) (by simp [results,Tryz.results46,go_sem,accV,x0,x1,x2,x3,x4,x5,y0,y1,y2,n1,Ne.symm n1]) rfl ⟨rfl,?_⟩
 exact kept_six1 C n3 K9 _ _ _ _ _ _
theorem raddpair_inf2 (n x y c1 : Int) (sx sy : Bool) (r : Nm) (ao : Option Addr) (l d : Nat) (p m z P M : Bool) (w : World) (h14 : (c1 == 4) = false) (h13 : (c1 == 3) = false) (h10 : (c1 == 0) = false)
  (KC : Hid (∀ u,Calls Tryz.prog 91 #[.int .i64 x,.int .i64 n] u fun e w' => e = .returned (.int .i64 c1) ∧ Kept u w'))
  (KD : Hid (∀ u,Calls Tryz.prog 91 #[.int .i64 y,.int .i64 n] u fun e w' => e = .returned (.int .i64 3) ∧ Kept u w'))
  (KN : Hid (∀ u,Calls Tryz.prog 93 #[.int .i64 x,.int .i64 n] u fun e w' => e = .returned (.bool sx) ∧ Kept u w'))
  (KM : Hid (∀ u,Calls Tryz.prog 93 #[.int .i64 y,.int .i64 n] u fun e w' => e = .returned (.bool sy) ∧ Kept u w'))
  (KI : Hid (∀ u,Calls Tryz.prog 92 #[accV r.neg (.slice ao l d) r.exp p m z,.bool (sx != sy)] u fun e w' => e = .returned (accV r.neg (.slice ao l d) r.exp P M z) ∧ Kept u w')) :
  Calls Tryz.prog 46 #[accV r.neg (.slice ao l d) r.exp p m z,.int .i64 x,.int .i64 y,.int .i64 n] w fun e w' => e = .returned (accV r.neg (.slice ao l d) r.exp P M z) ∧ Kept w w':=by
 obtain ⟨X,hX⟩ : ∃ X,X = (w.alloc (.cells #[.bool r.neg,.slice ao l d,.int .i64 r.exp,.bool p,.bool m,.bool z] 26)).alloc (.cells #[.bool false,.slice none 0 0,.int .i64 0,.bool false,.bool false,.bool false] 26):=⟨_,rfl⟩
 have k0 : Kept w X:=by rw [hX]; exact ((Kept.refl w).alloc _ _).alloc _ _
 have hXs : Hid (X.heap.size = w.heap.size + 2):=by rw [hX]; simp [Hid]
 obtain ⟨B,hB⟩ : ∃ B,B = w.heap.size:=⟨_,rfl⟩
 obtain ⟨C,hC⟩ : ∃ B,B = w.heap.size + 1:=⟨_,rfl⟩
 have HB : Hid (∀ u,Kept X u → u.cell? ⟨B,0,none⟩ = some (.bool r.neg) ∧ u.cell? ⟨B,1,none⟩ = some (.slice ao l d) ∧ u.cell? ⟨B,2,none⟩ = some (.int .i64 r.exp) ∧ u.cell? ⟨B,3,none⟩ = some (.bool p) ∧ u.cell? ⟨B,4,none⟩ = some (.bool m) ∧ u.cell? ⟨B,5,none⟩ = some (.bool z) ∧ ∀ o,u.frozen? ⟨B,o,none⟩ = false):=fun u k => by
  refine ⟨?_,?_,?_,?_,?_,?_,fun o => ?_⟩
  iterate 6 (exact (k.below.cell (by rw [hXs.out]; dsimp only; omega)).trans (by rw [hX,hB]; simp [go_sem]))
  exact (k.frozen _).trans (by rw [hX,hB]; simp [go_sem])
 have HC : Hid (∀ u,Kept X u → u.cell? ⟨C,0,none⟩ = some (.bool false) ∧ u.cell? ⟨C,1,none⟩ = some (.slice none 0 0) ∧ u.cell? ⟨C,2,none⟩ = some (.int .i64 0) ∧ u.cell? ⟨C,3,none⟩ = some (.bool false) ∧ u.cell? ⟨C,4,none⟩ = some (.bool false) ∧ u.cell? ⟨C,5,none⟩ = some (.bool false) ∧ ∀ o,u.frozen? ⟨C,o,none⟩ = false):=fun u k => by
  refine ⟨?_,?_,?_,?_,?_,?_,fun o => ?_⟩
  iterate 6 (exact (k.below.cell (by rw [hXs.out]; dsimp only; omega)).trans (by rw [hX,hC]; simp [go_sem]))
  exact (k.frozen _).trans (by rw [hX,hC]; simp [go_sem])
 have hBC : Hid (B ≠ C ∧ w.heap.size ≤ B ∧ w.heap.size ≤ C):=(show _ ∧ _ ∧ _ from by omega)
 go_enter Tryz.func46,Tryz.ntmps46
 go_upto_region 1 with fail
 rw [← hX,← hC,← hB]
 clear hX hB hC
 go_wp2_with fail
 refine (KC.out _).mono ?_
 rintro e w0 ⟨rfl,k01⟩
 go_wp2_with fail
 refine (KD.out _).mono ?_
 rintro e w1 ⟨rfl,k12⟩
 have k1:=k01.trans k12
 have HS : Hid (∀ u,Kept X u → Kept X u ∧ u.cell? ⟨B,0,none⟩ = some (.bool r.neg) ∧ u.cell? ⟨B,1,none⟩ = some (.slice ao l d) ∧ u.cell? ⟨B,2,none⟩ = some (.int .i64 r.exp) ∧ u.cell? ⟨B,3,none⟩ = some (.bool p) ∧ u.cell? ⟨B,4,none⟩ = some (.bool m) ∧ u.cell? ⟨B,5,none⟩ = some (.bool z)):=fun u k => by
  obtain ⟨y0,y1,y2,y3,y4,y5,y6⟩:=HB.out _ k
  exact ⟨k,y0,y1,y2,y3,y4,y5⟩
 go_wp2_with fail
 refine wp_region_late [9] (fun u => Kept X u ∧ u.cell? ⟨B,0,none⟩ = some (.bool r.neg) ∧ u.cell? ⟨B,1,none⟩ = some (.slice ao l d) ∧ u.cell? ⟨B,2,none⟩ = some (.int .i64 r.exp) ∧ u.cell? ⟨B,3,none⟩ = some (.bool p) ∧ u.cell? ⟨B,4,none⟩ = some (.bool m) ∧ u.cell? ⟨B,5,none⟩ = some (.bool z)) (by kernel_rfl) (HS.out _ k1.drew) (fun hHeld => ?_)
 refine tkD (i:=0) (v:=?_) rfl hHeld ?_
 (try simp only [Act.put,zA,zB,zC,zD,zE,zF])
 refine tkD (i:=1) (v:=?_) rfl hHeld ?_
 (try simp only [Act.put,zA,zB,zC,zD,zE,zF])
 refine tkD (i:=2) (v:=?_) rfl hHeld ?_
 (try simp only [Act.put,zA,zB,zC,zD,zE,zF])
 refine tkD (i:=4) (v:=?_) rfl hHeld ?_
 (try simp only [Act.put,zA,zB,zC,zD,zE,zF])
 refine tkD (i:=5) (v:=?_) rfl hHeld ?_
 (try simp only [Act.put,zA,zB,zC,zD,zE,zF])
 refine wpAnyD_step (i:=3) (by kernel_rfl) rfl (fun K hK9 => ?_)
 go_simp
 go_wp2_with fail
 refine (KN.out _).mono ?_
 rintro e u2 ⟨rfl,k2⟩
 refine hK9.out _ _ (HS.out _ (hHeld.1.trans k2)) (fun hH2 => ?_)
 clear hK9 K
 (try simp only [Act.put,zA,zB,zC,zD,zE,zF])
 refine wpAnyD_step (i:=6) (by kernel_rfl) rfl (fun K hK9 => ?_)
 go_simp
 go_wp2_with fail
 refine (KM.out _).mono ?_
 rintro e u3 ⟨rfl,k3⟩
 refine hK9.out _ _ (HS.out _ (hH2.1.trans k3)) (fun hH3 => ?_)
 clear hK9 K
 (try simp only [Act.put,zA,zB,zC,zD,zE,zF])
 refine tkD (i:=7) (v:=?_) rfl hH3 ?_
 (try simp only [Act.put,zA,zB,zC,zD,zE,zF])
 refine wpAnyD_step (i:=8) (by kernel_rfl) rfl (fun K hK9 => ?_)
 go_simp
 go_wp2_with fail
 refine (KI.out _).mono ?_
 rintro e u4 ⟨rfl,k4⟩
 refine hK9.out _ _ (HS.out _ (hH3.1.trans k4)) (fun hH4 => ?_)
 clear hK9 K
 (try simp only [Act.put,zA,zB,zC,zD,zE,zF])
 obtain ⟨y0,y1,y2,y3,y4,y5,y6⟩:=HB.out _ hH4.1
 obtain ⟨x0,x1,x2,x3,x4,x5,x6⟩:=HC.out _ hH4.1
 obtain ⟨n1,n2,n3⟩:=hBC.out
 refine wpAnyD_late (i:=9) (by kernel_rfl) rfl rfl (fun K hK9 => ?_)
 go_simp
 refine hK9.out _ _ ?_
 clear hK9 K
 (try simp only [Act.put,zA,zB,zC,zD,zE,zF])
 refine wpAnyD_done (by kernel_rfl) ?_ _
 (try simp only [Act.put,zA,zB,zC,zD,zE,zF])
 go_wp2_with fail
 have K9 : Kept w u4:=k0.trans hH4.1
 refine bodyPost_ret (v:=accV r.neg (.slice ao l d) r.exp P M z) (by simp [results,Tryz.results46,go_sem,accV,x0,x1,x2,x3,x4,x5,y0,y1,y2,n1,Ne.symm n1]) rfl ⟨rfl,?_⟩
 exact kept_six1 C n3 K9 _ _ _ _ _ _
/- the document's AddPair of any two patterns,by values -/
end Go.Proofs.YtoflafgbbjinpaaGreatDoor
