/- Package start: the closures that make elements. -/
import Derived.Test.YtelbefihigkhjaaGreatDoorWa29
namespace Go.Proofs.YtelbefihigkhjaaGreatDoor
open Go.ChangeShapes Go.WideShapes Go.ChangeAt Go.RowKit
set_option maxHeartbeats 16000000
set_option maxRecDepth 100000
set_option linter.unusedVariables false
set_option linter.unusedSimpArgs false
theorem New.setLow {w0 w : World} {v : Value} {x : Nm} (h : New w0 w v x) {p : Addr} (hp : p.block < w0.heap.size) (u : Value) : New w0 (w.setCell p u) v x:=by
 rcases h with h | ⟨g,cap,e,hg,ho,hne⟩
 ·exact .inl h
 ·exact .inr ⟨g,cap,e,hg,ho.setOther (by omega) u,hne⟩
abbrev ufn (D : Nat) : Value:=.func (.func 182) #[] #[.pointer (some ⟨D,0,none⟩)]
theorem cell_ltU {u : World} {b o : Nat} {v : Value} (h : u.cell? ⟨b,o,none⟩ = some v) : b < u.heap.size:=World.block_lt_of_cell? _ _ h
theorem elem1_walk (A R U D : Nat) (n1 : Bool) (a1 : Option Addr) (l1 c1 : Nat) (x1 : Int) (n2 : Bool) (a2 : Option Addr) (l2 c2 : Nat) (x2 : Int) (s t a b U0 : Int) (tm r : Nm) (w : World) (hA : N3 w A (.bool n1) (.slice a1 l1 c1) (.int .i64 x1)) (hR : N3 w R (.bool n2) (.slice a2 l2 c2) (.int .i64 x2)) (hU : w.cell? ⟨U,0,none⟩ = some (ufn D)) (hD : Dw w D s t a) (nA : A ≠ D) (nR : R ≠ D) (nU : U ≠ D)
  (KU : Hid (∀ u,Dw u D s t a → Calls Tryz.prog 182 #[.pointer (some ⟨D,0,none⟩)] u fun e w' => e = .returned (.int .i64 U0) ∧ Dw w' D s t b ∧ Gs [D] u w'))
  (KT : Hid (∀ u,Gs [D] w u → Calls Tryz.prog 106 #[.agg #[.bool n2,.slice a2 l2 c2,.int .i64 x2],.int .i64 U0] u fun e w' => ∃ v,e = .returned v ∧ New u w' v tm ∧ Kept u w'))
  (KA : Hid (∀ u v,Gs [D] w u → NumAt u v tm → Calls Tryz.prog 105 #[.agg #[.bool n1,.slice a1 l1 c1,.int .i64 x1],v] u fun e w' => ∃ v,e = .returned v ∧ New u w' v r ∧ Kept u w')) :
  Calls Tryz.prog 104 #[.pointer (some ⟨A,0,none⟩),.pointer (some ⟨R,0,none⟩),.pointer (some ⟨U,0,none⟩)] w fun e w' => ∃ v,e = .returned v ∧ New w w' v r ∧ Dw w' D s t b ∧ Gs [D] w w':=by
 obtain ⟨X,hX⟩ : ∃ X,X = w.alloc (.cells #[.bool false,.slice none 0 0,.int .i64 0] 78):=⟨_,rfl⟩
 have hK : Kept w X:=by rw [hX]; exact (Kept.refl w).alloc _ _
 have hXs : X.heap.size = w.heap.size + 1:=by rw [hX]; simp
 have hP0 : N3 X (w.heap.size) (.bool false) (.slice none 0 0) (.int .i64 0):=by
  rw [hX]
  have:=(N3.new (w) (.bool false) (.slice none 0 0) (.int .i64 0) 78)
  simpa using this
 obtain ⟨B0,hB0⟩ : ∃ B,B = w.heap.size:=⟨_,rfl⟩
 rw [← hB0] at hP0
 have oB : Hid (w.heap.size ≤ B0 ∧ B0 < X.heap.size):=(show _ ∧ _ from by omega)
 have lU:=cell_ltU hU
 have xA:=hA.kept hK
 have xR:=hR.kept hK
 have HS : Hid (∀ u,Gs [D] X u → Gs [D] X u ∧ (u.cell? ⟨A,0,none⟩ = some (.bool n1) ∧ u.cell? ⟨A,1,none⟩ = some (.slice a1 l1 c1) ∧ u.cell? ⟨A,2,none⟩ = some (.int .i64 x1)) ∧ (u.cell? ⟨R,0,none⟩ = some (.bool n2) ∧ u.cell? ⟨R,1,none⟩ = some (.slice a2 l2 c2) ∧ u.cell? ⟨R,2,none⟩ = some (.int .i64 x2)) ∧ u.cell? ⟨U,0,none⟩ = some (ufn D)):=fun u k => ⟨k,⟨(xA.gs k (by simpa using nA)).c0,(xA.gs k (by simpa using nA)).c1,(xA.gs k (by simpa using nA)).c2⟩,⟨(xR.gs k (by simpa using nR)).c0,(xR.gs k (by simpa using nR)).c1,(xR.gs k (by simpa using nR)).c2⟩,(k.cell U 0 (by have:=hK.below.size; omega) (by simpa using nU)).trans ((hK.below.cell (p:=⟨U,0,none⟩) lU).trans hU)⟩
 have HD : Hid (Dw X.drew D s t a):=(hD.kept hK).kept (Kept.refl X).drew
 have nB : B0 ≠ D:=by have:=hD.1.lt; omega
 have HR : Hid (∀ u,Gs [D] X u → N3 u B0 (.bool false) (.slice none 0 0) (.int .i64 0)):=fun u k => hP0.gs k (by simpa using nB)
 have gX:=hK.gs [D]
 clear lU xA hA xR hR hU hD
 go_enter Tryz.func104,Tryz.ntmps104
 go_upto_region 1 with fail
 rw [← hX,← hB0]
 clear hX hXs hB0
 refine wp_region_late [6] (fun u => Gs [D] X u ∧ (u.cell? ⟨A,0,none⟩ = some (.bool n1) ∧ u.cell? ⟨A,1,none⟩ = some (.slice a1 l1 c1) ∧ u.cell? ⟨A,2,none⟩ = some (.int .i64 x1)) ∧ (u.cell? ⟨R,0,none⟩ = some (.bool n2) ∧ u.cell? ⟨R,1,none⟩ = some (.slice a2 l2 c2) ∧ u.cell? ⟨R,2,none⟩ = some (.int .i64 x2)) ∧ u.cell? ⟨U,0,none⟩ = some (ufn D)) (by kernel_rfl) (HS.out _ ((Kept.refl X).drew.gs [D])) (fun hHeld => ?_)
 refine tkD (i:=0) (v:=?_) rfl hHeld ?_
 (try simp only [Act.put,zA,zB,zC,zD,zE,zF])
 refine tkD (i:=1) (v:=?_) rfl hHeld ?_
 (try simp only [Act.put,zA,zB,zC,zD,zE,zF])
 refine tkD (i:=2) (v:=?_) rfl hHeld ?_
 (try simp only [Act.put,zA,zB,zC,zD,zE,zF])
 refine wpAnyD_step (i:=3) (by kernel_rfl) rfl (fun K hK9 => ?_)
 go_simp
 go_wp2_with fail
 refine (KU.out _ HD.out).mono ?_
 rintro e u1 ⟨rfl,d1,g1⟩
 refine hK9.out _ _ (HS.out _ (hHeld.1.trans g1)) (fun hH1 => ?_)
 clear hK9 K
 (try simp only [Act.put,zA,zB,zC,zD,zE,zF])
 refine wpAnyD_step (i:=4) (by kernel_rfl) rfl (fun K hK9 => ?_)
 go_simp
 go_wp2_with fail
 refine (KT.out _ (gX.trans hH1.1)).mono ?_
 rintro e u2 ⟨v2,rfl,q2,k2⟩
 refine hK9.out _ _ (HS.out _ (hH1.1.kept k2)) (fun hH2 => ?_)
 clear hK9 K
 (try simp only [Act.put,zA,zB,zC,zD,zE,zF])
 refine wpAnyD_step (i:=5) (by kernel_rfl) rfl (fun K hK9 => ?_)
 go_simp
 go_wp2_with fail
 refine (KA.out _ _ (gX.trans hH2.1) q2.numAt).mono ?_
 rintro e u3 ⟨v3,rfl,q3,k3⟩
 refine hK9.out _ _ (HS.out _ (hH2.1.kept k3)) (fun hH3 => ?_)
 clear hK9 K
 (try simp only [Act.put,zA,zB,zC,zD,zE,zF])
 obtain ⟨vn,va,vl,vc,vx,rfl⟩:=q3.shape
 obtain ⟨f0,f1,f2,f3⟩:=HR.out _ hH3.1
 have oq : B0 < u2.heap.size:=Nat.lt_of_lt_of_le oB.out.2 hH2.1.size
 have q9:=((q3.setLow (p:=⟨B0,0,none⟩) oq (.bool vn)).setLow (p:=⟨B0,1,none⟩) oq (.slice va vl vc)).setLow (p:=⟨B0,2,none⟩) oq (.int .i64 vx)
 have q9:=q9.low (Nat.le_trans gX.size hH2.1.size)
 have d9:=(((d1.kept (k2.trans k3)).far ⟨B0,0,none⟩ nB (.bool vn)).far ⟨B0,1,none⟩ nB (.slice va vl vc)).far ⟨B0,2,none⟩ nB (.int .i64 vx)
 have g9:=(((gX.trans hH3.1).setCell (p:=⟨B0,0,none⟩) (.inr oB.out.1) (.bool vn)).setCell (p:=⟨B0,1,none⟩) (.inr oB.out.1) (.slice va vl vc)).setCell (p:=⟨B0,2,none⟩) (.inr oB.out.1) (.int .i64 vx)
 refine wpAnyD_late (i:=6) (by kernel_rfl) rfl rfl (fun K hK9 => ?_)
 go_simp
 refine hK9.out _ _ ?_
 clear hK9 K
 (try simp only [Act.put,zA,zB,zC,zD,zE,zF])
 refine wpAnyD_done (by kernel_rfl) ?_ _
 (try simp only [Act.put,zA,zB,zC,zD,zE,zF])
 go_wp2_with fail
 exact bodyPost_ret (v:=.agg #[.bool vn,.slice va vl vc,.int .i64 vx]) (by simp [results,Tryz.results104,go_sem,f0,f1,f2]) rfl ⟨_,rfl,q9,d9,g9⟩
theorem elem2_walk (A U D : Nat) (n1 : Bool) (a1 : Option Addr) (l1 c1 : Nat) (x1 : Int) (s t a b U0 U1 U2 : Int) (r : Nm) (h1 : IntKind.i64.wrap (2 * U0) = U1) (h2 : IntKind.i64.wrap (U1 - 9007199254740992) = U2) (w : World) (hA : N3 w A (.bool n1) (.slice a1 l1 c1) (.int .i64 x1)) (hU : w.cell? ⟨U,0,none⟩ = some (ufn D)) (hD : Dw w D s t a) (nA : A ≠ D) (nU : U ≠ D)
  (KU : Hid (∀ u,Dw u D s t a → Calls Tryz.prog 182 #[.pointer (some ⟨D,0,none⟩)] u fun e w' => e = .returned (.int .i64 U0) ∧ Dw w' D s t b ∧ Gs [D] u w'))
  (KT : Hid (∀ u,Gs [D] w u → Calls Tryz.prog 106 #[.agg #[.bool n1,.slice a1 l1 c1,.int .i64 x1],.int .i64 U2] u fun e w' => ∃ v,e = .returned v ∧ New u w' v r ∧ Kept u w')) :
  Calls Tryz.prog 108 #[.pointer (some ⟨A,0,none⟩),.pointer (some ⟨U,0,none⟩)] w fun e w' => ∃ v,e = .returned v ∧ New w w' v r ∧ Dw w' D s t b ∧ Gs [D] w w':=by
 obtain ⟨X,hX⟩ : ∃ X,X = w.alloc (.cells #[.bool false,.slice none 0 0,.int .i64 0] 78):=⟨_,rfl⟩
 have hK : Kept w X:=by rw [hX]; exact (Kept.refl w).alloc _ _
 have hXs : X.heap.size = w.heap.size + 1:=by rw [hX]; simp
 have hP0 : N3 X (w.heap.size) (.bool false) (.slice none 0 0) (.int .i64 0):=by
  rw [hX]
  have:=(N3.new (w) (.bool false) (.slice none 0 0) (.int .i64 0) 78)
  simpa using this
 obtain ⟨B0,hB0⟩ : ∃ B,B = w.heap.size:=⟨_,rfl⟩
 rw [← hB0] at hP0
 have oB : Hid (w.heap.size ≤ B0 ∧ B0 < X.heap.size):=(show _ ∧ _ from by omega)
 have lU:=cell_ltU hU
 have xA:=hA.kept hK
 have HS : Hid (∀ u,Gs [D] X u → Gs [D] X u ∧ (u.cell? ⟨A,0,none⟩ = some (.bool n1) ∧ u.cell? ⟨A,1,none⟩ = some (.slice a1 l1 c1) ∧ u.cell? ⟨A,2,none⟩ = some (.int .i64 x1)) ∧ u.cell? ⟨U,0,none⟩ = some (ufn D)):=fun u k => ⟨k,⟨(xA.gs k (by simpa using nA)).c0,(xA.gs k (by simpa using nA)).c1,(xA.gs k (by simpa using nA)).c2⟩,(k.cell U 0 (by have:=hK.below.size; omega) (by simpa using nU)).trans ((hK.below.cell (p:=⟨U,0,none⟩) lU).trans hU)⟩
 have HD : Hid (Dw X.drew D s t a):=(hD.kept hK).kept (Kept.refl X).drew
 have nB : B0 ≠ D:=by have:=hD.1.lt; omega
 have HR : Hid (∀ u,Gs [D] X u → N3 u B0 (.bool false) (.slice none 0 0) (.int .i64 0)):=fun u k => hP0.gs k (by simpa using nB)
 have gX:=hK.gs [D]
 clear lU xA hA hU hD
 go_enter Tryz.func108,Tryz.ntmps108
 go_upto_region 1 with fail
 rw [← hX,← hB0]
 clear hX hXs hB0
 refine wp_region_late [6] (fun u => Gs [D] X u ∧ (u.cell? ⟨A,0,none⟩ = some (.bool n1) ∧ u.cell? ⟨A,1,none⟩ = some (.slice a1 l1 c1) ∧ u.cell? ⟨A,2,none⟩ = some (.int .i64 x1)) ∧ u.cell? ⟨U,0,none⟩ = some (ufn D)) (by kernel_rfl) (HS.out _ ((Kept.refl X).drew.gs [D])) (fun hHeld => ?_)
 refine tkD (i:=0) (v:=?_) rfl hHeld ?_
 (try simp only [Act.put,zA,zB,zC,zD,zE,zF])
 refine tkD (i:=1) (v:=?_) rfl hHeld ?_
 (try simp only [Act.put,zA,zB,zC,zD,zE,zF])
 refine wpAnyD_step (i:=2) (by kernel_rfl) rfl (fun K hK9 => ?_)
 go_simp
 go_wp2_with fail
 refine (KU.out _ HD.out).mono ?_
 rintro e u1 ⟨rfl,d1,g1⟩
 refine hK9.out _ _ (HS.out _ (hHeld.1.trans g1)) (fun hH1 => ?_)
 clear hK9 K
 (try simp only [Act.put,zA,zB,zC,zD,zE,zF])
 refine tkD (i:=3) (v:=?_) rfl hH1 ?_
 (try simp only [Act.put,zA,zB,zC,zD,zE,zF])
 refine tkD (i:=4) (v:=?_) rfl hH1 ?_
 (try simp only [Act.put,zA,zB,zC,zD,zE,zF])
 refine wpAnyD_step (i:=5) (by kernel_rfl) rfl (fun K hK9 => ?_)
 go_simp
 go_wp2_with fail
 refine (KT.out _ (gX.trans hH1.1)).mono ?_
 rintro e u2 ⟨v2,rfl,q2,k2⟩
 refine hK9.out _ _ (HS.out _ (hH1.1.kept k2)) (fun hH2 => ?_)
 clear hK9 K
 (try simp only [Act.put,zA,zB,zC,zD,zE,zF])
 obtain ⟨vn,va,vl,vc,vx,rfl⟩:=q2.shape
 obtain ⟨f0,f1,f2,f3⟩:=HR.out _ hH2.1
 have oq : B0 < u1.heap.size:=Nat.lt_of_lt_of_le oB.out.2 hH1.1.size
 have q9:=((q2.setLow (p:=⟨B0,0,none⟩) oq (.bool vn)).setLow (p:=⟨B0,1,none⟩) oq (.slice va vl vc)).setLow (p:=⟨B0,2,none⟩) oq (.int .i64 vx)
 have q9:=q9.low (Nat.le_trans gX.size hH1.1.size)
 have d9:=(((d1.kept k2).far ⟨B0,0,none⟩ nB (.bool vn)).far ⟨B0,1,none⟩ nB (.slice va vl vc)).far ⟨B0,2,none⟩ nB (.int .i64 vx)
 have g9:=(((gX.trans hH2.1).setCell (p:=⟨B0,0,none⟩) (.inr oB.out.1) (.bool vn)).setCell (p:=⟨B0,1,none⟩) (.inr oB.out.1) (.slice va vl vc)).setCell (p:=⟨B0,2,none⟩) (.inr oB.out.1) (.int .i64 vx)
 refine wpAnyD_late (i:=6) (by kernel_rfl) rfl rfl (fun K hK9 => ?_)
 go_simp
 refine hK9.out _ _ ?_
 clear hK9 K
 (try simp only [Act.put,zA,zB,zC,zD,zE,zF])
 refine wpAnyD_done (by kernel_rfl) ?_ _
 (try simp only [Act.put,zA,zB,zC,zD,zE,zF])
 go_wp2_with fail
 exact bodyPost_ret (v:=.agg #[.bool vn,.slice va vl vc,.int .i64 vx]) (by simp [results,Tryz.results108,go_sem,f0,f1,f2]) rfl ⟨_,rfl,q9,d9,g9⟩
theorem elem3_walk (A U D : Nat) (n1 : Bool) (a1 : Option Addr) (l1 c1 : Nat) (x1 : Int) (s t a b U0 : Int) (r : Nm) (w : World) (hA : N3 w A (.bool n1) (.slice a1 l1 c1) (.int .i64 x1)) (hU : w.cell? ⟨U,0,none⟩ = some (ufn D)) (hD : Dw w D s t a) (nA : A ≠ D) (nU : U ≠ D)
  (KN : Hid (∀ u,Dw u D s t a → Calls Tryz.prog 110 #[ufn D] u fun e w' => e = .returned (.int .i64 U0) ∧ Dw w' D s t b ∧ Gs [D] u w'))
  (KT : Hid (∀ u,Gs [D] w u → Calls Tryz.prog 106 #[.agg #[.bool n1,.slice a1 l1 c1,.int .i64 x1],.int .i64 U0] u fun e w' => ∃ v,e = .returned v ∧ New u w' v r ∧ Kept u w')) :
  Calls Tryz.prog 109 #[.pointer (some ⟨A,0,none⟩),.pointer (some ⟨U,0,none⟩)] w fun e w' => ∃ v,e = .returned v ∧ New w w' v r ∧ Dw w' D s t b ∧ Gs [D] w w':=by
 obtain ⟨X,hX⟩ : ∃ X,X = w.alloc (.cells #[.bool false,.slice none 0 0,.int .i64 0] 78):=⟨_,rfl⟩
 have hK : Kept w X:=by rw [hX]; exact (Kept.refl w).alloc _ _
 have hXs : X.heap.size = w.heap.size + 1:=by rw [hX]; simp
 have hP0 : N3 X (w.heap.size) (.bool false) (.slice none 0 0) (.int .i64 0):=by
  rw [hX]
  have:=(N3.new (w) (.bool false) (.slice none 0 0) (.int .i64 0) 78)
  simpa using this
 obtain ⟨B0,hB0⟩ : ∃ B,B = w.heap.size:=⟨_,rfl⟩
 rw [← hB0] at hP0
 have oB : Hid (w.heap.size ≤ B0 ∧ B0 < X.heap.size):=(show _ ∧ _ from by omega)
 have lU:=cell_ltU hU
 have xA:=hA.kept hK
 have HS : Hid (∀ u,Gs [D] X u → Gs [D] X u ∧ (u.cell? ⟨A,0,none⟩ = some (.bool n1) ∧ u.cell? ⟨A,1,none⟩ = some (.slice a1 l1 c1) ∧ u.cell? ⟨A,2,none⟩ = some (.int .i64 x1)) ∧ u.cell? ⟨U,0,none⟩ = some (ufn D)):=fun u k => ⟨k,⟨(xA.gs k (by simpa using nA)).c0,(xA.gs k (by simpa using nA)).c1,(xA.gs k (by simpa using nA)).c2⟩,(k.cell U 0 (by have:=hK.below.size; omega) (by simpa using nU)).trans ((hK.below.cell (p:=⟨U,0,none⟩) lU).trans hU)⟩
 have HD : Hid (Dw X.drew D s t a):=(hD.kept hK).kept (Kept.refl X).drew
 have nB : B0 ≠ D:=by have:=hD.1.lt; omega
 have HR : Hid (∀ u,Gs [D] X u → N3 u B0 (.bool false) (.slice none 0 0) (.int .i64 0)):=fun u k => hP0.gs k (by simpa using nB)
 have gX:=hK.gs [D]
 clear lU xA hA hU hD
 go_enter Tryz.func109,Tryz.ntmps109
 go_upto_region 1 with fail
 rw [← hX,← hB0]
 clear hX hXs hB0
 refine wp_region_late [4] (fun u => Gs [D] X u ∧ (u.cell? ⟨A,0,none⟩ = some (.bool n1) ∧ u.cell? ⟨A,1,none⟩ = some (.slice a1 l1 c1) ∧ u.cell? ⟨A,2,none⟩ = some (.int .i64 x1)) ∧ u.cell? ⟨U,0,none⟩ = some (ufn D)) (by kernel_rfl) (HS.out _ ((Kept.refl X).drew.gs [D])) (fun hHeld => ?_)
 refine tkD (i:=0) (v:=?_) rfl hHeld ?_
 (try simp only [Act.put,zA,zB,zC,zD,zE,zF])
 refine tkD (i:=1) (v:=?_) rfl hHeld ?_
 (try simp only [Act.put,zA,zB,zC,zD,zE,zF])
 refine wpAnyD_step (i:=2) (by kernel_rfl) rfl (fun K hK9 => ?_)
 go_simp
 go_wp2_with fail
 refine (KN.out _ HD.out).mono ?_
 rintro e u1 ⟨rfl,d1,g1⟩
 refine hK9.out _ _ (HS.out _ (hHeld.1.trans g1)) (fun hH1 => ?_)
 clear hK9 K
 (try simp only [Act.put,zA,zB,zC,zD,zE,zF])
 refine wpAnyD_step (i:=3) (by kernel_rfl) rfl (fun K hK9 => ?_)
 go_simp
 go_wp2_with fail
 refine (KT.out _ (gX.trans hH1.1)).mono ?_
 rintro e u2 ⟨v2,rfl,q2,k2⟩
 refine hK9.out _ _ (HS.out _ (hH1.1.kept k2)) (fun hH2 => ?_)
 clear hK9 K
 (try simp only [Act.put,zA,zB,zC,zD,zE,zF])
 obtain ⟨vn,va,vl,vc,vx,rfl⟩:=q2.shape
 obtain ⟨f0,f1,f2,f3⟩:=HR.out _ hH2.1
 have oq : B0 < u1.heap.size:=Nat.lt_of_lt_of_le oB.out.2 hH1.1.size
 have q9:=((q2.setLow (p:=⟨B0,0,none⟩) oq (.bool vn)).setLow (p:=⟨B0,1,none⟩) oq (.slice va vl vc)).setLow (p:=⟨B0,2,none⟩) oq (.int .i64 vx)
 have q9:=q9.low (Nat.le_trans gX.size hH1.1.size)
 have d9:=(((d1.kept k2).far ⟨B0,0,none⟩ nB (.bool vn)).far ⟨B0,1,none⟩ nB (.slice va vl vc)).far ⟨B0,2,none⟩ nB (.int .i64 vx)
 have g9:=(((gX.trans hH2.1).setCell (p:=⟨B0,0,none⟩) (.inr oB.out.1) (.bool vn)).setCell (p:=⟨B0,1,none⟩) (.inr oB.out.1) (.slice va vl vc)).setCell (p:=⟨B0,2,none⟩) (.inr oB.out.1) (.int .i64 vx)
 refine wpAnyD_late (i:=4) (by kernel_rfl) rfl rfl (fun K hK9 => ?_)
 go_simp
 refine hK9.out _ _ ?_
 clear hK9 K
 (try simp only [Act.put,zA,zB,zC,zD,zE,zF])
 refine wpAnyD_done (by kernel_rfl) ?_ _
 (try simp only [Act.put,zA,zB,zC,zD,zE,zF])
 go_wp2_with fail
 exact bodyPost_ret (v:=.agg #[.bool vn,.slice va vl vc,.int .i64 vx]) (by simp [results,Tryz.results109,go_sem,f0,f1,f2]) rfl ⟨_,rfl,q9,d9,g9⟩
theorem elem4_walk (A : Nat) (n1 : Bool) (a1 : Option Addr) (l1 c1 : Nat) (x1 : Int) (w : World) (hA : N3 w A (.bool n1) (.slice a1 l1 c1) (.int .i64 x1)) :
  Calls Tryz.prog 111 #[.pointer (some ⟨A,0,none⟩)] w fun e w' => e = .returned (.agg #[.bool n1,.slice a1 l1 c1,.int .i64 x1]) ∧ Kept w w':=by
 obtain ⟨X,hX⟩ : ∃ X,X = w.alloc (.cells #[.bool false,.slice none 0 0,.int .i64 0] 78):=⟨_,rfl⟩
 have hK : Kept w X:=by rw [hX]; exact (Kept.refl w).alloc _ _
 have hXs : X.heap.size = w.heap.size + 1:=by rw [hX]; simp
 have hP0 : N3 X (w.heap.size) (.bool false) (.slice none 0 0) (.int .i64 0):=by
  rw [hX]
  have:=(N3.new (w) (.bool false) (.slice none 0 0) (.int .i64 0) 78)
  simpa using this
 obtain ⟨B0,hB0⟩ : ∃ B,B = w.heap.size:=⟨_,rfl⟩
 rw [← hB0] at hP0
 have oB : Hid (w.heap.size ≤ B0 ∧ B0 < X.heap.size):=(show _ ∧ _ from by omega)
 have xA:=hA.kept hK
 have nA : B0 ≠ A:=by have:=hA.lt; omega
 have oB1:=oB.out.1
 go_enter Tryz.func111,Tryz.ntmps111
 go_upto_region 1 with fail
 rw [← hX,← hB0]
 clear hX hXs hB0
 obtain ⟨p0,p1,p2,pf⟩:=hP0
 obtain ⟨e0,e1,e2,ef⟩:=xA
 go_wp2_with fail
 exact bodyPost_ret (v:=.agg #[.bool n1,.slice a1 l1 c1,.int .i64 x1]) (by simp [results,Tryz.results111,go_sem,p0,p1,p2]) rfl ⟨rfl,((hK.setCell (p:=⟨B0,0,none⟩) oB1 _).setCell (p:=⟨B0,1,none⟩) oB1 _).setCell (p:=⟨B0,2,none⟩) oB1 _⟩
end Go.Proofs.YtelbefihigkhjaaGreatDoor
