/- acc's Round,by what it asks. acc's Mean,by what it asks. acc's lookAtLists,of one list and of two. acc's Total and Products: what is added,one after the other,and told. -/
import Derived.Test.YtoflafgbbjinpaaGreatDoorX14
import Derived.Deep.WholeRow
namespace Go.Proofs.YtoflafgbbjinpaaGreatDoor
open Go.ChangeShapes Go.WideShapes Go.ChangeAt Go.RowKit
set_option linter.unusedVariables false
set_option linter.unusedSimpArgs false
set_option maxHeartbeats 16000000
set_option maxRecDepth 100000
theorem acc_cells {w X : World} (ng : Bool) (s : Value) (x : Int) (p m z : Bool) (hX : X = w.alloc (.cells #[.bool ng,s,.int .i64 x,.bool p,.bool m,.bool z] 26)) (u : World) (k : Kept X u) : u.cell? ⟨w.heap.size,0,none⟩ = some (.bool ng) ∧ u.cell? ⟨w.heap.size,1,none⟩ = some s ∧ u.cell? ⟨w.heap.size,2,none⟩ = some (.int .i64 x) ∧ u.cell? ⟨w.heap.size,3,none⟩ = some (.bool p) ∧ u.cell? ⟨w.heap.size,4,none⟩ = some (.bool m) ∧ u.cell? ⟨w.heap.size,5,none⟩ = some (.bool z):=by
 have hs : X.heap.size = w.heap.size + 1:=by rw [hX]; simp
 refine ⟨?_,?_,?_,?_,?_,?_⟩
 all_goals exact (k.below.cell (by rw [hs]; simp)).trans (by rw [hX]; simp [go_sem])
theorem accRound_ok (n : Int) (ng : Bool) (ao : Option Addr) (l cap : Nat) (x : Int) (p m z : Bool) (w : World) (bv : Int) (ok : Bool) (rv er : Int) (ox : Bool)
  (KL : Hid (∀ u,Kept w u → Calls Tryz.prog 67 #[.int .i64 n,accV ng (.slice ao l cap) x p m z,.slice none 0 0] u fun e w' => e = .returned (.int .i64 0) ∧ Kept u w'))
  (KF : Hid (∀ u,Kept w u → Calls Tryz.prog 71 #[accV ng (.slice ao l cap) x p m z,.int .i64 n] u fun e w' => e = .returned (.tuple #[.int .i64 bv,.bool ok]) ∧ Kept u w'))
  (KR : Hid (∀ u,Kept w u → Calls Tryz.prog 21 #[.agg #[.bool ng,.slice ao l cap,.int .i64 x],.int .i64 n,.int .i64 0] u fun e w' => e = .returned (.tuple #[.int .i64 rv,.bool ox,.int .i64 er]) ∧ Kept u w')) :
  Calls Tryz.prog 20 #[accV ng (.slice ao l cap) x p m z,.int .i64 n] w fun e w' => e = .returned (.tuple #[.int .i64 (bif ok then bv else rv),.int .i64 (bif ok then 0 else er)]) ∧ Kept w w':=by
 obtain ⟨X,hX⟩ : ∃ X,X = w.alloc (.cells #[.bool ng,.slice ao l cap,.int .i64 x,.bool p,.bool m,.bool z] 26):=⟨_,rfl⟩
 have hK : Kept w X:=by rw [hX]; exact (Kept.refl w).alloc _ _
 have HC : Hid (∀ u,Kept X u → _):=acc_cells ng (.slice ao l cap) x p m z hX
 cases ok
 all_goals
  go_enter Tryz.func20,Tryz.ntmps20
  go_wp2_with fail
  rw [← hX]
  refine (KL.out _ hK).mono ?_
  rintro e w1 ⟨rfl,k1⟩
  obtain ⟨c0,c1,c2,c3,c4,c5⟩:=HC.out _ k1
  go_wp2_with fail
  refine (KF.out _ (hK.trans k1)).mono ?_
  rintro e w2 ⟨rfl,k2⟩
  clear c0 c1 c2 c3 c4 c5
  obtain ⟨c0,c1,c2,c3,c4,c5⟩:=HC.out _ (k1.trans k2)
  go_wp2_with (first | (go_at_call 21; refine (KR.out _ ((hK.trans k1).trans k2)).mono ?_; rintro e w3 ⟨rfl,k3⟩))
  first
   | exact bodyPost_ret (v:=.tuple #[.int .i64 rv,.int .i64 er]) (by simp [results,Tryz.results20,go_sem]) rfl ⟨rfl,((hK.trans k1).trans k2).trans k3⟩
   | exact bodyPost_ret (v:=.tuple #[.int .i64 bv,.int .i64 0]) (by simp [results,Tryz.results20,go_sem]) rfl ⟨rfl,(hK.trans k1).trans k2⟩
theorem accMean_ok (n c : Int) (hc : 0 < c) (ng : Bool) (ao : Option Addr) (l cap : Nat) (x : Int) (p m z : Bool) (w : World) (bv : Int) (ok : Bool) (rv er : Int) (ox : Bool) (PN : World → Bool → Option Addr → Nat → Nat → Int → Prop)
  (KL : Hid (∀ u,Kept w u → Calls Tryz.prog 67 #[.int .i64 n,accV ng (.slice ao l cap) x p m z,.slice none 0 0] u fun e w' => e = .returned (.int .i64 0) ∧ Kept u w'))
  (KF : Hid (∀ u,Kept w u → Calls Tryz.prog 71 #[accV ng (.slice ao l cap) x p m z,.int .i64 n] u fun e w' => e = .returned (.tuple #[.int .i64 bv,.bool ok]) ∧ Kept u w'))
  (KI : Hid (∀ u,Kept w u → Calls Tryz.prog 24 #[.int .i64 c] u fun e w' => ∃ vn va vl vc vx,e = .returned (.agg #[.bool vn,.slice va vl vc,.int .i64 vx]) ∧ PN w' vn va vl vc vx ∧ Kept u w'))
  (KQ : Hid (∀ u vn va vl vc vx,Kept w u → PN u vn va vl vc vx → Calls Tryz.prog 23 #[.agg #[.bool ng,.slice ao l cap,.int .i64 x],.agg #[.bool vn,.slice va vl vc,.int .i64 vx],.int .i64 n,.int .i64 0] u fun e w' => e = .returned (.tuple #[.int .i64 rv,.bool ox,.int .i64 er]) ∧ Kept u w')) :
  Calls Tryz.prog 22 #[accV ng (.slice ao l cap) x p m z,.int .i64 c,.int .i64 n] w fun e w' => e = .returned (.tuple #[.int .i64 (bif ok then bv else rv),.int .i64 (bif ok then 0 else er)]) ∧ Kept w w':=by
 obtain ⟨X,hX⟩ : ∃ X,X = w.alloc (.cells #[.bool ng,.slice ao l cap,.int .i64 x,.bool p,.bool m,.bool z] 26):=⟨_,rfl⟩
 have hK : Kept w X:=by rw [hX]; exact (Kept.refl w).alloc _ _
 have HC : Hid (∀ u,Kept X u → _):=acc_cells ng (.slice ao l cap) x p m z hX
 have hc1 : (c == 0) = false:=by rw [beq_eq_false_iff_ne]; omega
 have hc2 : ¬ c < 0:=by omega
 cases ok
 all_goals
  go_enter Tryz.func22,Tryz.ntmps22
  go_wp2_with fail
  rw [← hX]
  refine (KL.out _ hK).mono ?_
  rintro e w1 ⟨rfl,k1⟩
  obtain ⟨c0,c1,c2,c3,c4,c5⟩:=HC.out _ k1
  go_wp2_with fail
  refine (KF.out _ (hK.trans k1)).mono ?_
  rintro e w2 ⟨rfl,k2⟩
  clear c0 c1 c2 c3 c4 c5
  obtain ⟨c0,c1,c2,c3,c4,c5⟩:=HC.out _ (k1.trans k2)
  go_wp2_with fail
  first
   | exact bodyPost_ret (v:=.tuple #[.int .i64 bv,.int .i64 0]) (by simp [results,Tryz.results22,go_sem]) rfl ⟨rfl,(hK.trans k1).trans k2⟩
   | skip
 have HS : Hid (∀ u,Kept w2 u → u.cell? ⟨w.heap.size,0,none⟩ = some (.bool ng) ∧ u.cell? ⟨w.heap.size,1,none⟩ = some (.slice ao l cap) ∧ u.cell? ⟨w.heap.size,2,none⟩ = some (.int .i64 x)):=fun u k => ⟨(HC.out u ((k1.trans k2).trans k)).1,(HC.out u ((k1.trans k2).trans k)).2.1,(HC.out u ((k1.trans k2).trans k)).2.2.1⟩
 have kd : Kept w2 w2.drew:=(Kept.refl w2).drew
 have kw:=(hK.trans k1).trans k2
 clear HC KL KF k1 k2 hX hK
 go_region_held (fun u => u.cell? ⟨w.heap.size,0,none⟩ = some (.bool ng) ∧ u.cell? ⟨w.heap.size,1,none⟩ = some (.slice ao l cap) ∧ u.cell? ⟨w.heap.size,2,none⟩ = some (.int .i64 x)) (first | assumption | exact HS.out _ kd | exact HS.out _ (kd.trans (by assumption)) | exact HS.out _ ((kd.trans k3).trans k4)) (first | (go_at_call 24; refine (KI.out _ (kw.trans kd)).mono ?_; rintro e w3 ⟨vn,va,vl,vc,vx,rfl,hp,k3⟩) | (go_at_call 23; refine (KQ.out _ _ _ _ _ _ ((kw.trans kd).trans k3) hp).mono ?_; rintro e w4 ⟨rfl,k4⟩))
 go_wp2_with fail
 exact bodyPost_ret (v:=.tuple #[.int .i64 rv,.int .i64 er]) (by simp [results,Tryz.results22,go_sem]) rfl ⟨rfl,((kw.trans kd).trans k3).trans k4⟩
def la1 (f0 : Int) (l1 : Nat) (f1 : Int) : Int:=if f0 ≠ 0 then f0 else if 65536 < l1 then 2 else f1
def la2 (f0 : Int) (l1 l2 : Nat) (f1 f2 : Int) : Int:=if f0 ≠ 0 then f0 else if l2 ≠ l1 then 1 else if 65536 < l1 then 2 else if f1 ≠ 0 then f1 else f2
abbrev accZ : Value:=accV false (.slice none 0 0) 0 false false false
theorem lists_1 (n : Int) (a1 : Option Addr) (l1 c1 q : Nat) (w : World) (hq : q < w.heap.size) (h1 : w.cell? ⟨q,0,none⟩ = some (.slice a1 l1 c1)) (f0 f1 : Int)
  (K0 : Hid (∀ u,Kept w u → Calls Tryz.prog 67 #[.int .i64 n,accZ,.slice none 0 0] u fun e w' => e = .returned (.int .i64 f0) ∧ Kept u w'))
  (K1 : Hid (∀ u,Kept w u → Calls Tryz.prog 67 #[.int .i64 n,accZ,.slice a1 l1 c1] u fun e w' => e = .returned (.int .i64 f1) ∧ Kept u w')) :
  Calls Tryz.prog 132 #[.int .i64 n,.slice (some ⟨q,0,none⟩) 1 1] w fun e w' => e = .returned (.int .i64 (la1 f0 l1 f1)) ∧ Kept w w':=by
 have HC : Hid (∀ u,Kept w u → u.cell? ⟨q,0,none⟩ = some (.slice a1 l1 c1)):=fun u k => (k.below.cell (p:=⟨q,0,none⟩) hq).trans h1
 clear h1
 obtain ⟨R,hR⟩ : ∃ R,R = la1 f0 l1 f1:=⟨_,rfl⟩
 rw [← hR]
 unfold la1 at hR
 by_cases e0 : f0 = 0
 ·subst e0
  rw [if_neg (by simp)] at hR
  by_cases hb : 65536 < l1
  ·rw [if_pos hb] at hR
   subst hR
   have hb' : (65536 : Int) < (l1 : Int):=by omega
   go_enter Tryz.func132,Tryz.ntmps132
   go_wp2_with fail
   refine (K0.out _ (Kept.refl _)).mono ?_
   rintro e w1 ⟨rfl,k1⟩
   have c:=HC.out _ k1
   go_wp2_with fail
   refine wp_loop_rounds 2 ?_
   rw [rounds_succ]
   go_wp2_with fail
   rw [rounds_succ]
   go_wp2_with fail
   go_ret
   exact ⟨rfl,k1⟩
  ·rw [if_neg hb] at hR
   subst hR
   have hb' : ¬ (65536 : Int) < (l1 : Int):=by omega
   by_cases e1 : R = 0
   all_goals
    have he : (R != 0) = decide (R ≠ 0):=by by_cases h : R = 0 <;> simp [h]
    first
     | subst e1
     | rw [decide_eq_true e1] at he
    go_enter Tryz.func132,Tryz.ntmps132
    go_wp2_with fail
    refine (K0.out _ (Kept.refl _)).mono ?_
    rintro e w1 ⟨rfl,k1⟩
    have c:=HC.out _ k1
    go_wp2_with fail
    refine wp_loop_rounds 2 ?_
    rw [rounds_succ]
    go_wp2_with fail
    rw [rounds_succ]
    go_wp2_with fail
    refine wp_loop_rounds 2 ?_
    rw [rounds_succ]
    go_wp2_with fail
    refine (K1.out _ k1).mono ?_
    rintro e w2 ⟨rfl,k2⟩
    go_wp2_with fail
    try (rw [rounds_succ]; go_wp2_with fail)
    go_ret
    exact ⟨rfl,k1.trans k2⟩
 ·rw [if_pos e0] at hR
  subst hR
  have he2 : (R != 0) = true:=by simpa using e0
  go_enter Tryz.func132,Tryz.ntmps132
  go_wp2_with fail
  refine (K0.out _ (Kept.refl _)).mono ?_
  rintro e w1 ⟨rfl,k1⟩
  go_wp2_with fail
  go_ret
  exact ⟨rfl,k1⟩
theorem lists_2 (n : Int) (a1 a2 : Option Addr) (l1 c1 l2 c2 q : Nat) (w : World) (hq : q < w.heap.size) (h1 : w.cell? ⟨q,0,none⟩ = some (.slice a1 l1 c1)) (h2 : w.cell? ⟨q,1,none⟩ = some (.slice a2 l2 c2)) (f0 f1 f2 : Int)
  (K0 : Hid (∀ u,Kept w u → Calls Tryz.prog 67 #[.int .i64 n,accZ,.slice none 0 0] u fun e w' => e = .returned (.int .i64 f0) ∧ Kept u w'))
  (K1 : Hid (∀ u,Kept w u → Calls Tryz.prog 67 #[.int .i64 n,accZ,.slice a1 l1 c1] u fun e w' => e = .returned (.int .i64 f1) ∧ Kept u w'))
  (K2 : Hid (∀ u,Kept w u → Calls Tryz.prog 67 #[.int .i64 n,accZ,.slice a2 l2 c2] u fun e w' => e = .returned (.int .i64 f2) ∧ Kept u w')) :
  Calls Tryz.prog 132 #[.int .i64 n,.slice (some ⟨q,0,none⟩) 2 2] w fun e w' => e = .returned (.int .i64 (la2 f0 l1 l2 f1 f2)) ∧ Kept w w':=by
 have HC : Hid (∀ u,Kept w u → u.cell? ⟨q,0,none⟩ = some (.slice a1 l1 c1) ∧ u.cell? ⟨q,1,none⟩ = some (.slice a2 l2 c2)):=fun u k => ⟨(k.below.cell (p:=⟨q,0,none⟩) hq).trans h1,(k.below.cell (p:=⟨q,1,none⟩) hq).trans h2⟩
 clear h1 h2
 obtain ⟨R,hR⟩ : ∃ R,R = la2 f0 l1 l2 f1 f2:=⟨_,rfl⟩
 rw [← hR]
 unfold la2 at hR
 by_cases e0 : f0 = 0
 ·subst e0
  rw [if_neg (by simp)] at hR
  by_cases hl : l2 = l1
  ·subst hl
   rw [if_neg (by simp)] at hR
   by_cases hb : 65536 < l2
   ·rw [if_pos hb] at hR
    subst hR
    have hb' : (65536 : Int) < (l2 : Int):=by omega
    go_enter Tryz.func132,Tryz.ntmps132
    go_wp2_with fail
    refine (K0.out _ (Kept.refl _)).mono ?_
    rintro e w1 ⟨rfl,k1⟩
    obtain ⟨c,d⟩:=HC.out _ k1
    go_wp2_with fail
    refine wp_loop_rounds 3 ?_
    rw [rounds_succ]
    go_wp2_with fail
    rw [rounds_succ]
    go_wp2_with fail
    rw [rounds_succ]
    go_wp2_with fail
    go_ret
    exact ⟨rfl,k1⟩
   ·rw [if_neg hb] at hR
    have hb' : ¬ (65536 : Int) < (l2 : Int):=by omega
    by_cases e1 : f1 = 0
    ·subst e1
     rw [if_neg (by simp)] at hR
     subst hR
     by_cases e1 : R = 0
     all_goals
      have he : (R != 0) = decide (R ≠ 0):=by by_cases h : R = 0 <;> simp [h]
      first
       | subst e1
       | rw [decide_eq_true e1] at he
      go_enter Tryz.func132,Tryz.ntmps132
      go_wp2_with fail
      refine (K0.out _ (Kept.refl _)).mono ?_
      rintro e w1 ⟨rfl,k1⟩
      obtain ⟨c,d⟩:=HC.out _ k1
      go_wp2_with fail
      refine wp_loop_rounds 3 ?_
      rw [rounds_succ]
      go_wp2_with fail
      rw [rounds_succ]
      go_wp2_with fail
      rw [rounds_succ]
      go_wp2_with fail
      refine wp_loop_rounds 3 ?_
      rw [rounds_succ]
      go_wp2_with fail
      refine (K1.out _ k1).mono ?_
      rintro e w2 ⟨rfl,k2⟩
      clear c d
      obtain ⟨c,d⟩:=HC.out _ (k1.trans k2)
      go_wp2_with fail
      rw [rounds_succ]
      go_wp2_with fail
      refine (K2.out _ (k1.trans k2)).mono ?_
      rintro e w3 ⟨rfl,k3⟩
      go_wp2_with fail
      try (rw [rounds_succ]; go_wp2_with fail)
      go_ret
      exact ⟨rfl,(k1.trans k2).trans k3⟩
    ·rw [if_pos e1] at hR
     subst hR
     have he2 : (R != 0) = true:=by simpa using e1
     go_enter Tryz.func132,Tryz.ntmps132
     go_wp2_with fail
     refine (K0.out _ (Kept.refl _)).mono ?_
     rintro e w1 ⟨rfl,k1⟩
     obtain ⟨c,d⟩:=HC.out _ k1
     go_wp2_with fail
     refine wp_loop_rounds 3 ?_
     rw [rounds_succ]
     go_wp2_with fail
     rw [rounds_succ]
     go_wp2_with fail
     rw [rounds_succ]
     go_wp2_with fail
     refine wp_loop_rounds 3 ?_
     rw [rounds_succ]
     go_wp2_with fail
     refine (K1.out _ k1).mono ?_
     rintro e w2 ⟨rfl,k2⟩
     go_wp2_with fail
     go_ret
     exact ⟨rfl,k1.trans k2⟩
  ·rw [if_pos hl] at hR
   subst hR
   have hl' : ((l2 : Int) != (l1 : Int)) = true:=by
    simp only [bne_iff_ne,ne_eq]
    omega
   go_enter Tryz.func132,Tryz.ntmps132
   go_wp2_with fail
   refine (K0.out _ (Kept.refl _)).mono ?_
   rintro e w1 ⟨rfl,k1⟩
   obtain ⟨c,d⟩:=HC.out _ k1
   go_wp2_with fail
   refine wp_loop_rounds 3 ?_
   rw [rounds_succ]
   go_wp2_with fail
   rw [rounds_succ]
   go_wp2_with fail
   go_ret
   exact ⟨rfl,k1⟩
 ·rw [if_pos e0] at hR
  subst hR
  have he2 : (R != 0) = true:=by simpa using e0
  go_enter Tryz.func132,Tryz.ntmps132
  go_wp2_with fail
  refine (K0.out _ (Kept.refl _)).mono ?_
  rintro e w1 ⟨rfl,k1⟩
  go_wp2_with fail
  go_ret
  exact ⟨rfl,k1⟩
theorem mk_store (n : Int) (u : World) : (storeCells ⟨u.heap.size,0,none⟩ (mkC acc0 n C0 141 0).toArray.toList 0).run Tryz.prog (u.alloc (.cells Tryz.zeroCells100 100)) = .ok () (u.alloc (.cells (mkC acc0 n C0 141 0).toArray 100)):=by
 have hz : Tryz.zeroCells100.size = 150:=by rfl
 have hin : (Tryz.prog.info? 100).map (·.size) = some 150:=by kernel_rfl
 have hs : (mkC acc0 n C0 141 0).toArray.size = 150:=by simpa using mk_size acc0 n C0 141 0 rfl rfl
 refine run_storeCells_new u 100 _ _ (by rw [hs]; exact hin) (by rw [hz,hs]) ?_
 rw [Array.all_eq_true_iff_forall_mem]
 intro v hv
 exact mk_one acc0 n C0 141 0 (by decide) v (by simpa using hv)
theorem acc_res {w B : World} (hB : B = w.alloc (.cells #[.bool false,.slice none 0 0,.int .i64 0,.bool false,.bool false,.bool false] 26)) (u : World) (k : Kept B u) : u.cell? ⟨w.heap.size,0,none⟩ = some (.bool false) ∧ u.cell? ⟨w.heap.size,1,none⟩ = some (.slice none 0 0) ∧ u.cell? ⟨w.heap.size,2,none⟩ = some (.int .i64 0) ∧ u.cell? ⟨w.heap.size,3,none⟩ = some (.bool false) ∧ u.cell? ⟨w.heap.size,4,none⟩ = some (.bool false) ∧ u.cell? ⟨w.heap.size,5,none⟩ = some (.bool false) ∧ ∀ o,u.frozen? ⟨w.heap.size,o,none⟩ = false:=by
 obtain ⟨c0,c1,c2,c3,c4,c5⟩:=acc_cells _ _ _ _ _ _ hB u k
 exact ⟨c0,c1,c2,c3,c4,c5,fun o => (k.frozen _).trans (by rw [hB]; simp [go_sem])⟩
theorem sl_cell {w : World} {a : Option Addr} {c : Nat} {L : List Int} (h : Sl w (.slice a L.length c) L) (u : World) (k : Kept w u) (i : Nat) (hi : i < L.length) : ∃ b off,a = some ⟨b,off,none⟩ ∧ u.cell? ⟨b,off + i,none⟩ = some (.int .i64 (L.getD i 0)):=by
 obtain ⟨po,c2,e,-,-,hr⟩:=h
 obtain ⟨b,off,rfl,hb,hr⟩:=hr (by intro g; rw [g] at hi; simp at hi)
 cases e
 exact ⟨b,off,rfl,(hr.kept hb k) i hi⟩
theorem new_six {w u w5 : World} {v : Value} {r : Nm} (hN : New u w5 v r) (hlt : w.heap.size < u.heap.size) (v0 v1 v2 v3 v4 v5 : Value) : New w ((((((w5.setCell ⟨w.heap.size,0,none⟩ v0).setCell ⟨w.heap.size,1,none⟩ v1).setCell ⟨w.heap.size,2,none⟩ v2).setCell ⟨w.heap.size,3,none⟩ v3).setCell ⟨w.heap.size,4,none⟩ v4).setCell ⟨w.heap.size,5,none⟩ v5) v r:=by
 rcases hN with h | ⟨g,cap,e,hg,ho,hne⟩
 ·exact .inl h
 ·have hgw : g ≠ w.heap.size:=by omega
  exact .inr ⟨g,cap,e,by omega,(((((ho.setOther (by simpa using hgw) _).setOther (by simpa using hgw) _).setOther (by simpa using hgw) _).setOther (by simpa using hgw) _).setOther (by simpa using hgw) _).setOther (by simpa using hgw) _,hne⟩
theorem kept_six {w w5 : World} (k : Kept w w5) (v0 v1 v2 v3 v4 v5 : Value) : Kept w ((((((w5.setCell ⟨w.heap.size,0,none⟩ v0).setCell ⟨w.heap.size,1,none⟩ v1).setCell ⟨w.heap.size,2,none⟩ v2).setCell ⟨w.heap.size,3,none⟩ v3).setCell ⟨w.heap.size,4,none⟩ v4).setCell ⟨w.heap.size,5,none⟩ v5) :=
 (((((k.setCell (p:=⟨w.heap.size,0,none⟩) (Nat.le_refl _) v0).setCell (p:=⟨w.heap.size,1,none⟩) (Nat.le_refl _) v1).setCell (p:=⟨w.heap.size,2,none⟩) (Nat.le_refl _) v2).setCell (p:=⟨w.heap.size,3,none⟩) (Nat.le_refl _) v3).setCell (p:=⟨w.heap.size,4,none⟩) (Nat.le_refl _) v4).setCell (p:=⟨w.heap.size,5,none⟩) (Nat.le_refl _) v5
theorem products_ok (n : Int) (X Y : List Int) (hY : Y.length = X.length) (hN : X.length ≤ 65536) (a1 a2 : Option Addr) (c1 c2 : Nat) (w : World) (h1 : Sl w (.slice a1 X.length c1) X) (h2 : Sl w (.slice a2 Y.length c2) Y) (Φ : Nat → List Value → List Int → Int → Int → Prop) (r : Nm) (p m z : Bool)
  (K0 : Φ 0 acc0 C0 141 0)
  (KL : Hid (∀ q u,Kept w u → q < u.heap.size → u.cell? ⟨q,0,none⟩ = some (.slice a1 X.length c1) → u.cell? ⟨q,1,none⟩ = some (.slice a2 X.length c2) → Calls Tryz.prog 132 #[.int .i64 n,.slice (some ⟨q,0,none⟩) 2 2] u fun e w' => e = .returned (.int .i64 0) ∧ Kept u w'))
  (KA : Hid (∀ b i u fl C lo hi,i < X.length → MkAt u b fl n C lo hi → Φ i fl C lo hi → Calls Tryz.prog 69 #[.pointer (some ⟨b,0,none⟩),.int .i64 (X.getD i 0),.int .i64 (Y.getD i 0)] u fun e w' => e = .returned (.tuple #[]) ∧ (∃ fl' C' lo' hi',MkAt w' b fl' n C' lo' hi' ∧ Φ (i + 1) fl' C' lo' hi') ∧ Grw b u w'))
  (KT : Hid (∀ b u fl C lo hi,Kept w u → MkAt u b fl n C lo hi → Φ X.length fl C lo hi → Calls Tryz.prog 70 #[.pointer (some ⟨b,0,none⟩)] u fun e w' => ∃ vn va vl vc vx,e = .returned (accV vn (.slice va vl vc) vx p m z) ∧ New u w' (.agg #[.bool vn,.slice va vl vc,.int .i64 vx]) r ∧ Grw b u w')) :
  Calls Tryz.prog 88 #[.slice a1 X.length c1,.slice a2 X.length c2,.int .i64 n] w fun e w' => ∃ vn va vl vc vx,e = .returned (.tuple #[accV vn (.slice va vl vc) vx p m z,.int .i64 0]) ∧ New w w' (.agg #[.bool vn,.slice va vl vc,.int .i64 vx]) r ∧ Kept w w':=by
 have HX : Hid (∀ u,Kept w u → ∀ i,i < X.length → ∃ b off,a1 = some ⟨b,off,none⟩ ∧ u.cell? ⟨b,off + i,none⟩ = some (.int .i64 (X.getD i 0))):=fun u k i hi => sl_cell h1 u k i hi
 have HY : Hid (∀ u,Kept w u → ∀ i,i < X.length → ∃ b off,a2 = some ⟨b,off,none⟩ ∧ u.cell? ⟨b,off + i,none⟩ = some (.int .i64 (Y.getD i 0))):=fun u k i hi => sl_cell h2 u k i (by omega)
 have hst:=mk_store n
 obtain ⟨V,hV⟩ : ∃ V,V = (mkC acc0 n C0 141 0).toArray:=⟨_,rfl⟩
 have HM : Hid (∀ u : World,MkAt (u.alloc (.cells V 100)) u.heap.size acc0 n C0 141 0):=fun u => by rw [hV]; exact MkAt.new u acc0 n C0 141 0 rfl rfl
 have KB : Hid (∀ u,Calls Tryz.prog 68 #[.int .i64 n] u fun e w' => e = .returned (.agg V) ∧ Kept u w'):=fun u => by rw [hV]; exact begin_any n u
 have hVs : V.size = 150:=by rw [hV]; simpa using mk_size acc0 n C0 141 0 rfl rfl
 rw [← hV] at hst
 clear hV h1 h2 hY
 obtain ⟨N,hn⟩ : ∃ N,N = X.length:=⟨_,rfl⟩
 rw [← hn] at HX KL KA KT hN HY ⊢
 clear hn
 go_enter Tryz.func88,Tryz.ntmps88
 go_upto_region 1 with fail
 obtain ⟨B,hB⟩ : ∃ B,B = w.alloc (.cells #[.bool false,.slice none 0 0,.int .i64 0,.bool false,.bool false,.bool false] 26):=⟨_,rfl⟩
 have kB : Kept w B:=by rw [hB]; exact (Kept.refl w).alloc _ _
 have hBs : Hid (B.heap.size = w.heap.size + 1):=by rw [hB]; simp [Hid]
 have HR : Hid (∀ u,Kept B u → _):=acc_res hB
 rw [← hB]
 clear hB
 go_wp2_with fail
 refine (KL.out _ _ (kB.alloc _ _) (by simp) (by simp [go_sem]) (by simp [go_sem])).mono ?_
 rintro e w1 ⟨rfl,k1⟩
 have kB1 : Kept B w1:=((Kept.refl B).alloc _ _).trans k1
 clear k1 KL
 go_wp2_with fail
 refine (KB.out _).mono ?_
 rintro e w2 ⟨rfl,k2⟩
 have kB2 : Kept B w2:=kB1.trans k2
 clear kB1 k2 KB
 go_wp2_with fail
 obtain ⟨b,hb⟩ : ∃ b,b = w2.heap.size:=⟨_,rfl⟩
 obtain ⟨D,hD⟩ : ∃ D,D = w2.alloc (.cells V 100):=⟨_,rfl⟩
 have kD : Kept B D:=by rw [hD]; exact kB2.alloc _ _
 have hMD : MkAt D b acc0 n C0 141 0:=by rw [hD,hb]; exact HM.out _
 have hbB : B.heap.size ≤ b:=by rw [hb]; exact kB2.below.size
 rw [← hD,← hb]
 clear hD hb hst HM hVs
 go_loopw [24] (fun i wr => ∃ k : Nat,k ≤ N ∧ i = .int .i64 k ∧ Kept B wr ∧ ∃ fl C lo hi,MkAt wr b fl n C lo hi ∧ Φ k fl C lo hi) (fun i _ => N - (intOf i).toNat)
 case atStart => exact ⟨0,Nat.zero_le _,rfl,kD,acc0,C0,141,0,hMD,K0⟩
 case round =>
  obtain ⟨k,hk,rfl,kr,fl,C,lo,hi,hM,hΦ⟩:=hrel
  clear hMD kD K0
  by_cases hkn : k < N
  ·have HS : Hid (∀ u,Kept B u → _):=fun u ku => HX.out u (kB.trans ku) k hkn
   obtain ⟨bx,ox,rfl,hcx⟩:=HS.out _ kr
   have HS2 : Hid (∀ u,Kept B u → _):=fun u ku => HY.out u (kB.trans ku) k hkn
   obtain ⟨by',oy,rfl,hcy⟩:=HS2.out _ kr
   have HC : Hid (∀ u,Kept B u → u.cell? ⟨bx,ox + k,none⟩ = some (.int .i64 (X.getD k 0)) ∧ u.cell? ⟨by',oy + k,none⟩ = some (.int .i64 (Y.getD k 0))):=fun u ku => ⟨by obtain ⟨b1,o1,e1,h1⟩:=HS.out u ku; cases e1; exact h1,by obtain ⟨b1,o1,e1,h1⟩:=HS2.out u ku; cases e1; exact h1⟩
   have KA1 : Hid (∀ u,Kept wr u → Calls Tryz.prog 69 #[.pointer (some ⟨b,0,none⟩),.int .i64 (X.getD k 0),.int .i64 (Y.getD k 0)] u fun e w' => e = .returned (.tuple #[]) ∧ (∃ fl' C' lo' hi',MkAt w' b fl' n C' lo' hi' ∧ Φ (k + 1) fl' C' lo' hi') ∧ Grw b u w'):=fun u ku => KA.out b k u fl C lo hi hkn (hM.kept ku) hΦ
   clear HX HY HS HS2 KA KT hM hΦ HR
   generalize X.getD k 0 = xk at *
   generalize Y.getD k 0 = yk at *
   go_wp2_with fail
   have kd : Kept wr wr.drew:=(Kept.refl wr).drew
   go_region_held (fun u => u.cell? ⟨bx,ox + k,none⟩ = some (.int .i64 xk) ∧ u.cell? ⟨by',oy + k,none⟩ = some (.int .i64 yk)) (first | assumption | exact HC.out _ (kr.trans kd) | exact HC.out _ ((kr.trans kd).grw hbB hg)) (first | (go_at_call 69; refine (KA1.out _ kd).mono ?_; rintro e w5 ⟨rfl,hJ,hg⟩))
   go_wp2_with fail
   go_roundw
   case rel => exact ⟨k + 1,by omega,by go_num,((kr.trans kd).grw hbB hg),hJ⟩
   case measure => simp [intOf]; omega
  ·obtain rfl : k = N:=by omega
   go_wp2_with fail
   refine (KT.out b _ fl C lo hi (kB.trans kr) hM hΦ).mono ?_
   rintro e w5 ⟨vn,va,vl,vc,vx,rfl,hNw,hg⟩
   have k5 : Kept B w5:=kr.grw hbB hg
   obtain ⟨r0,r1,r2,r3,r4,r5,r6⟩:=HR.out _ k5
   go_wp2_with fail
   refine bodyPost_ret (v:=.tuple #[accV vn (.slice va vl vc) vx p m z,.int .i64 0]) (by simp [results,Tryz.results88,go_sem,r0,r1,r2,r3,r4,r5]) rfl ⟨vn,va,vl,vc,vx,rfl,?_,?_⟩
   ·exact new_six hNw (by have:=kr.below.size; have:=hBs.out; omega) _ _ _ _ _ _
   ·exact kept_six (kB.trans k5) _ _ _ _ _ _
theorem total_ok (n : Int) (X : List Int) (hN : X.length ≤ 65536) (a1 : Option Addr) (c1 : Nat) (w : World) (h1 : Sl w (.slice a1 X.length c1) X) (one : Int) (Φ : Nat → List Value → List Int → Int → Int → Prop) (r : Nm) (p m z : Bool)
  (K0 : Φ 0 acc0 C0 141 0)
  (KL : Hid (∀ q u,Kept w u → q < u.heap.size → u.cell? ⟨q,0,none⟩ = some (.slice a1 X.length c1) → Calls Tryz.prog 132 #[.int .i64 n,.slice (some ⟨q,0,none⟩) 1 1] u fun e w' => e = .returned (.int .i64 0) ∧ Kept u w'))
  (KF : Hid (∀ u,Calls Tryz.prog 32 #[.int .i64 1,.int .i64 n] u fun e w' => e = .returned (.int .i64 one) ∧ Kept u w'))
  (KA : Hid (∀ b i u fl C lo hi,i < X.length → MkAt u b fl n C lo hi → Φ i fl C lo hi → Calls Tryz.prog 69 #[.pointer (some ⟨b,0,none⟩),.int .i64 (X.getD i 0),.int .i64 one] u fun e w' => e = .returned (.tuple #[]) ∧ (∃ fl' C' lo' hi',MkAt w' b fl' n C' lo' hi' ∧ Φ (i + 1) fl' C' lo' hi') ∧ Grw b u w'))
  (KT : Hid (∀ b u fl C lo hi,Kept w u → MkAt u b fl n C lo hi → Φ X.length fl C lo hi → Calls Tryz.prog 70 #[.pointer (some ⟨b,0,none⟩)] u fun e w' => ∃ vn va vl vc vx,e = .returned (accV vn (.slice va vl vc) vx p m z) ∧ New u w' (.agg #[.bool vn,.slice va vl vc,.int .i64 vx]) r ∧ Grw b u w')) :
  Calls Tryz.prog 87 #[.slice a1 X.length c1,.int .i64 n] w fun e w' => ∃ vn va vl vc vx,e = .returned (.tuple #[accV vn (.slice va vl vc) vx p m z,.int .i64 0]) ∧ New w w' (.agg #[.bool vn,.slice va vl vc,.int .i64 vx]) r ∧ Kept w w':=by
 have HX : Hid (∀ u,Kept w u → ∀ i,i < X.length → ∃ b off,a1 = some ⟨b,off,none⟩ ∧ u.cell? ⟨b,off + i,none⟩ = some (.int .i64 (X.getD i 0))):=fun u k i hi => sl_cell h1 u k i hi
 have hst:=mk_store n
 obtain ⟨V,hV⟩ : ∃ V,V = (mkC acc0 n C0 141 0).toArray:=⟨_,rfl⟩
 have HM : Hid (∀ u : World,MkAt (u.alloc (.cells V 100)) u.heap.size acc0 n C0 141 0):=fun u => by rw [hV]; exact MkAt.new u acc0 n C0 141 0 rfl rfl
 have KB : Hid (∀ u,Calls Tryz.prog 68 #[.int .i64 n] u fun e w' => e = .returned (.agg V) ∧ Kept u w'):=fun u => by rw [hV]; exact begin_any n u
 have hVs : V.size = 150:=by rw [hV]; simpa using mk_size acc0 n C0 141 0 rfl rfl
 rw [← hV] at hst
 clear hV h1
 obtain ⟨N,hn⟩ : ∃ N,N = X.length:=⟨_,rfl⟩
 rw [← hn] at HX KL KA KT hN ⊢
 clear hn
 go_enter Tryz.func87,Tryz.ntmps87
 go_upto_region 1 with fail
 obtain ⟨B,hB⟩ : ∃ B,B = w.alloc (.cells #[.bool false,.slice none 0 0,.int .i64 0,.bool false,.bool false,.bool false] 26):=⟨_,rfl⟩
 have kB : Kept w B:=by rw [hB]; exact (Kept.refl w).alloc _ _
 have hBs : Hid (B.heap.size = w.heap.size + 1):=by rw [hB]; simp [Hid]
 have HR : Hid (∀ u,Kept B u → _):=acc_res hB
 rw [← hB]
 clear hB
 go_wp2_with fail
 refine (KL.out _ _ (kB.alloc _ _) (by simp) (by simp [go_sem]) ).mono ?_
 rintro e w1 ⟨rfl,k1⟩
 have kB1 : Kept B w1:=((Kept.refl B).alloc _ _).trans k1
 clear k1 KL
 go_wp2_with fail
 refine (KB.out _).mono ?_
 rintro e w2 ⟨rfl,k2⟩
 have kB2 : Kept B w2:=kB1.trans k2
 clear kB1 k2 KB
 go_wp2_with fail
 refine (KF.out _).mono ?_
 rintro e w3 ⟨rfl,k3⟩
 have kB3 : Kept B w3:=kB2.trans k3
 clear k3 kB2 KF
 go_wp2_with fail
 obtain ⟨b,hb⟩ : ∃ b,b = w3.heap.size:=⟨_,rfl⟩
 obtain ⟨D,hD⟩ : ∃ D,D = w3.alloc (.cells V 100):=⟨_,rfl⟩
 have kD : Kept B D:=by rw [hD]; exact kB3.alloc _ _
 have hMD : MkAt D b acc0 n C0 141 0:=by rw [hD,hb]; exact HM.out _
 have hbB : B.heap.size ≤ b:=by rw [hb]; exact kB3.below.size
 rw [← hD,← hb]
 clear hD hb hst HM hVs
 go_loopw [24] (fun i wr => ∃ k : Nat,k ≤ N ∧ i = .int .i64 k ∧ Kept B wr ∧ ∃ fl C lo hi,MkAt wr b fl n C lo hi ∧ Φ k fl C lo hi) (fun i _ => N - (intOf i).toNat)
 case atStart => exact ⟨0,Nat.zero_le _,rfl,kD,acc0,C0,141,0,hMD,K0⟩
 case round =>
  obtain ⟨k,hk,rfl,kr,fl,C,lo,hi,hM,hΦ⟩:=hrel
  clear hMD kD K0
  by_cases hkn : k < N
  ·have HS : Hid (∀ u,Kept B u → _):=fun u ku => HX.out u (kB.trans ku) k hkn
   obtain ⟨bx,ox,rfl,hcx⟩:=HS.out _ kr
   have KA1 : Hid (∀ u,Kept wr u → Calls Tryz.prog 69 #[.pointer (some ⟨b,0,none⟩),.int .i64 (X.getD k 0),.int .i64 one] u fun e w' => e = .returned (.tuple #[]) ∧ (∃ fl' C' lo' hi',MkAt w' b fl' n C' lo' hi' ∧ Φ (k + 1) fl' C' lo' hi') ∧ Grw b u w'):=fun u ku => KA.out b k u fl C lo hi hkn (hM.kept ku) hΦ
   clear HX HS KA KT hM hΦ HR
   generalize X.getD k 0 = xk at *
   go_wp2_with fail
   refine (KA1.out _ (Kept.refl _)).mono ?_
   rintro e w5 ⟨rfl,hJ,hg⟩
   go_wp2_with fail
   go_roundw
   case rel => exact ⟨k + 1,by omega,by go_num,(kr.grw hbB hg),hJ⟩
   case measure => simp [intOf]; omega
  ·obtain rfl : k = N:=by omega
   go_wp2_with fail
   refine (KT.out b _ fl C lo hi (kB.trans kr) hM hΦ).mono ?_
   rintro e w5 ⟨vn,va,vl,vc,vx,rfl,hNw,hg⟩
   have k5 : Kept B w5:=kr.grw hbB hg
   obtain ⟨r0,r1,r2,r3,r4,r5,r6⟩:=HR.out _ k5
   go_wp2_with fail
   refine bodyPost_ret (v:=.tuple #[accV vn (.slice va vl vc) vx p m z,.int .i64 0]) (by simp [results,Tryz.results87,go_sem,r0,r1,r2,r3,r4,r5]) rfl ⟨vn,va,vl,vc,vx,rfl,?_,?_⟩
   ·exact new_six hNw (by have:=kr.below.size; have:=hBs.out; omega) _ _ _ _ _ _
   ·exact kept_six (kB.trans k5) _ _ _ _ _ _
end Go.Proofs.YtoflafgbbjinpaaGreatDoor
