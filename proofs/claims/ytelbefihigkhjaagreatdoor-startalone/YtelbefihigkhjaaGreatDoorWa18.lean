/- Package sure: exact numbers where nothing is refused. The walks of exact's kindOf,ways,roundingOf at width 64,to the nearest; pieces; below and take of one digit. -/
import Derived.Test.YtelbefihigkhjaaGreatDoorWa17
import Derived.Test.YtelbefihigkhjaaGreatDoorWa12
import Derived.Laws.EntriesVeiled
namespace Go.Proofs.YtelbefihigkhjaaGreatDoor
open Go.ChangeShapes Go.WideShapes Go.ChangeAt Go.RowKit
set_option maxHeartbeats 16000000
set_option maxRecDepth 100000
set_option linter.unusedVariables false
set_option linter.unusedSimpArgs false
structure N3 (w : World) (b : Nat) (u v x : Value) : Prop where
 c0 : w.cell? ⟨b,0,none⟩ = some u
 c1 : w.cell? ⟨b,1,none⟩ = some v
 c2 : w.cell? ⟨b,2,none⟩ = some x
 fz : ∀ o,w.frozen? ⟨b,o,none⟩ = false
theorem N3.new (w : World) (u v x : Value) (t : TypeId) : N3 (w.alloc (.cells #[u,v,x] t)) w.heap.size u v x:=⟨by simp [go_sem],by simp [go_sem],by simp [go_sem],fun o => by simp [go_sem]⟩
theorem N3.lt {w : World} {b : Nat} {u v x : Value} (h : N3 w b u v x) : b < w.heap.size:=World.block_lt_of_cell? _ _ h.c0
theorem N3.kept {w w' : World} {b : Nat} {u v x : Value} (h : N3 w b u v x) (k : Kept w w') : N3 w' b u v x :=
 ⟨(k.below.cell (p:=⟨b,0,none⟩) h.lt).trans h.c0,(k.below.cell (p:=⟨b,1,none⟩) h.lt).trans h.c1,(k.below.cell (p:=⟨b,2,none⟩) h.lt).trans h.c2,fun o => (k.frozen _).trans (h.fz o)⟩
theorem N3.alloc {w : World} {b : Nat} {u v x : Value} (h : N3 w b u v x) (c : Array Value) (t : TypeId) : N3 (w.alloc (.cells c t)) b u v x:=h.kept ((Kept.refl w).alloc c t)
theorem sof_walk (b n : Int) (r : Nm) (w : World)
  (KE : Hid (∀ u,Kept w u → Calls Tryz.prog 184 #[.int .i64 b,.int .i64 n] u fun e w' => ∃ v,e = .returned (.tuple #[v,.int .i64 0]) ∧ New u w' v r ∧ Kept u w')) :
  Calls Tryz.prog 102 #[.int .i64 b,.int .i64 n] w fun e w' => ∃ v,e = .returned v ∧ New w w' v r ∧ Kept w w':=by
 obtain ⟨X,hX⟩ : ∃ X,X = w.alloc (.cells #[.bool false,.slice none 0 0,.int .i64 0] 78):=⟨_,rfl⟩
 have hK : Kept w X:=by rw [hX]; exact (Kept.refl w).alloc _ _
 have hXs : X.heap.size = w.heap.size + 1:=by rw [hX]; simp
 have hP0 : N3 X (w.heap.size) (.bool false) (.slice none 0 0) (.int .i64 0):=by
  rw [hX]
  have:=(N3.new (w) (.bool false) (.slice none 0 0) (.int .i64 0) 78)
  simpa using this
 obtain ⟨B0,hB0⟩ : ∃ B,B = w.heap.size:=⟨_,rfl⟩
 rw [← hB0] at hP0
 have oB : Hid (w.heap.size ≤ B0 ∧ B0 < X.heap.size):=(show _ ∧ _ from by omega)
 have HR : Hid (∀ u,Kept X u → N3 u B0 (.bool false) (.slice none 0 0) (.int .i64 0)):=fun u k => hP0.kept k
 go_enter Tryz.func102,Tryz.ntmps102
 go_upto_region 1 with fail
 rw [← hX,← hB0]
 clear hX hXs hB0
 obtain ⟨p00,p01,p02,p0f⟩:=hP0
 go_wp2_with (first | (go_at_call 184; refine (KE.out _ hK).mono ?_; rintro e w2 ⟨v,rfl,hN,k2⟩; obtain ⟨vn,va,vl,vc,vx,rfl⟩:=hN.shape; clear p00 p01 p02 p0f; obtain ⟨f0,f1,f2,f3⟩:=HR.out _ k2; have hlt : B0 < w2.heap.size:=(HR.out _ k2).lt; have hne : B0 ≠ w2.heap.size:=Nat.ne_of_lt hlt))
 have:=res_done B0 oB.out.1 oB.out.2 hK hN k2 (.bool vn) (.slice va vl vc) (.int .i64 vx)
 exact bodyPost_ret (v:=.agg #[.bool vn,.slice va vl vc,.int .i64 vx]) (by simp [results,Tryz.results102,go_sem,f0,f1,f2,hlt]) rfl ⟨_,rfl,this.1.kept ((Kept.refl _).alloc _ _),this.2.alloc _ _⟩
theorem sint_walk (n : Int) (r : Nm) (w : World)
  (KE : Hid (∀ u,Kept w u → Calls Tryz.prog 253 #[.int .i64 n] u fun e w' => ∃ v,e = .returned (v) ∧ New u w' v r ∧ Kept u w')) :
  Calls Tryz.prog 188 #[.int .i64 n] w fun e w' => ∃ v,e = .returned v ∧ New w w' v r ∧ Kept w w':=by
 obtain ⟨X,hX⟩ : ∃ X,X = w.alloc (.cells #[.bool false,.slice none 0 0,.int .i64 0] 78):=⟨_,rfl⟩
 have hK : Kept w X:=by rw [hX]; exact (Kept.refl w).alloc _ _
 have hXs : X.heap.size = w.heap.size + 1:=by rw [hX]; simp
 have hP0 : N3 X (w.heap.size) (.bool false) (.slice none 0 0) (.int .i64 0):=by
  rw [hX]
  have:=(N3.new (w) (.bool false) (.slice none 0 0) (.int .i64 0) 78)
  simpa using this
 obtain ⟨B0,hB0⟩ : ∃ B,B = w.heap.size:=⟨_,rfl⟩
 rw [← hB0] at hP0
 have oB : Hid (w.heap.size ≤ B0 ∧ B0 < X.heap.size):=(show _ ∧ _ from by omega)
 have HR : Hid (∀ u,Kept X u → N3 u B0 (.bool false) (.slice none 0 0) (.int .i64 0)):=fun u k => hP0.kept k
 go_enter Tryz.func188,Tryz.ntmps188
 go_upto_region 1 with fail
 rw [← hX,← hB0]
 clear hX hXs hB0
 obtain ⟨p00,p01,p02,p0f⟩:=hP0
 go_wp2_with (first | (go_at_call 253; refine (KE.out _ hK).mono ?_; rintro e w2 ⟨v,rfl,hN,k2⟩; obtain ⟨vn,va,vl,vc,vx,rfl⟩:=hN.shape; clear p00 p01 p02 p0f; obtain ⟨f0,f1,f2,f3⟩:=HR.out _ k2; have hlt : B0 < w2.heap.size:=(HR.out _ k2).lt; have hne : B0 ≠ w2.heap.size:=Nat.ne_of_lt hlt))
 have:=res_done B0 oB.out.1 oB.out.2 hK hN k2 (.bool vn) (.slice va vl vc) (.int .i64 vx)
 exact bodyPost_ret (v:=.agg #[.bool vn,.slice va vl vc,.int .i64 vx]) (by simp [results,Tryz.results188,go_sem,f0,f1,f2,hlt]) rfl ⟨_,rfl,this.1,this.2⟩
theorem sadd_walk (n1 : Bool) (a1 : Option Addr) (l1 c1 : Nat) (x1 : Int) (n2 : Bool) (a2 : Option Addr) (l2 c2 : Nat) (x2 : Int) (r : Nm) (w : World)
  (KE : Hid (∀ u,Kept w u → Calls Tryz.prog 186 #[.agg #[.bool n1,.slice a1 l1 c1,.int .i64 x1],.agg #[.bool n2,.slice a2 l2 c2,.int .i64 x2]] u fun e w' => ∃ v,e = .returned (.tuple #[v,.int .i64 0]) ∧ New u w' v r ∧ Kept u w')) :
  Calls Tryz.prog 105 #[.agg #[.bool n1,.slice a1 l1 c1,.int .i64 x1],.agg #[.bool n2,.slice a2 l2 c2,.int .i64 x2]] w fun e w' => ∃ v,e = .returned v ∧ New w w' v r ∧ Kept w w':=by
 obtain ⟨X,hX⟩ : ∃ X,X = ((w.alloc (.cells #[.bool n1,.slice a1 l1 c1,.int .i64 x1] 78)).alloc (.cells #[.bool n2,.slice a2 l2 c2,.int .i64 x2] 78)).alloc (.cells #[.bool false,.slice none 0 0,.int .i64 0] 78):=⟨_,rfl⟩
 have hK : Kept w X:=by rw [hX]; exact (((Kept.refl w).alloc _ _).alloc _ _).alloc _ _
 have hXs : X.heap.size = w.heap.size + 3:=by rw [hX]; simp
 have hP0 : N3 X (w.heap.size) (.bool n1) (.slice a1 l1 c1) (.int .i64 x1):=by
  rw [hX]
  have:=(((N3.new (w) (.bool n1) (.slice a1 l1 c1) (.int .i64 x1) 78).alloc #[.bool n2,.slice a2 l2 c2,.int .i64 x2] 78).alloc #[.bool false,.slice none 0 0,.int .i64 0] 78)
  simpa using this
 have hP1 : N3 X (w.heap.size + 1) (.bool n2) (.slice a2 l2 c2) (.int .i64 x2):=by
  rw [hX]
  have:=((N3.new (w.alloc (.cells #[.bool n1,.slice a1 l1 c1,.int .i64 x1] 78)) (.bool n2) (.slice a2 l2 c2) (.int .i64 x2) 78).alloc #[.bool false,.slice none 0 0,.int .i64 0] 78)
  simpa using this
 have hP2 : N3 X (w.heap.size + 1 + 1) (.bool false) (.slice none 0 0) (.int .i64 0):=by
  rw [hX]
  have:=(N3.new ((w.alloc (.cells #[.bool n1,.slice a1 l1 c1,.int .i64 x1] 78)).alloc (.cells #[.bool n2,.slice a2 l2 c2,.int .i64 x2] 78)) (.bool false) (.slice none 0 0) (.int .i64 0) 78)
  simpa using this
 obtain ⟨B0,hB0⟩ : ∃ B,B = w.heap.size:=⟨_,rfl⟩
 obtain ⟨B1,hB1⟩ : ∃ B,B = B0 + 1:=⟨_,rfl⟩
 obtain ⟨B2,hB2⟩ : ∃ B,B = B1 + 1:=⟨_,rfl⟩
 rw [← hB0] at hP0
 rw [← hB0,← hB1] at hP1
 rw [← hB0,← hB1,← hB2] at hP2
 have oB : Hid (w.heap.size ≤ B0 ∧ B0 < X.heap.size ∧ w.heap.size ≤ B1 ∧ B1 < X.heap.size ∧ w.heap.size ≤ B2 ∧ B2 < X.heap.size):=(show _ ∧ _ ∧ _ ∧ _ ∧ _ ∧ _ from by omega)
 have HR : Hid (∀ u,Kept X u → N3 u B2 (.bool false) (.slice none 0 0) (.int .i64 0)):=fun u k => hP2.kept k
 go_enter Tryz.func105,Tryz.ntmps105
 go_upto_region 1 with fail
 rw [← hX,← hB0,← hB1,← hB2]
 clear hX hXs hB0 hB1 hB2
 obtain ⟨p00,p01,p02,p0f⟩:=hP0
 obtain ⟨p10,p11,p12,p1f⟩:=hP1
 obtain ⟨p20,p21,p22,p2f⟩:=hP2
 go_wp2_with (first | (go_at_call 186; refine (KE.out _ hK).mono ?_; rintro e w2 ⟨v,rfl,hN,k2⟩; obtain ⟨vn,va,vl,vc,vx,rfl⟩:=hN.shape; clear p00 p01 p02 p0f; clear p10 p11 p12 p1f; clear p20 p21 p22 p2f; obtain ⟨f0,f1,f2,f3⟩:=HR.out _ k2; have hlt : B2 < w2.heap.size:=(HR.out _ k2).lt; have hne : B2 ≠ w2.heap.size:=Nat.ne_of_lt hlt))
 have:=res_done B2 oB.out.2.2.2.2.1 oB.out.2.2.2.2.2 hK hN k2 (.bool vn) (.slice va vl vc) (.int .i64 vx)
 exact bodyPost_ret (v:=.agg #[.bool vn,.slice va vl vc,.int .i64 vx]) (by simp [results,Tryz.results105,go_sem,f0,f1,f2,hlt]) rfl ⟨_,rfl,this.1.kept ((Kept.refl _).alloc _ _),this.2.alloc _ _⟩
theorem ssub_walk (n1 : Bool) (a1 : Option Addr) (l1 c1 : Nat) (x1 : Int) (n2 : Bool) (a2 : Option Addr) (l2 c2 : Nat) (x2 : Int) (r : Nm) (w : World)
  (KE : Hid (∀ u,Kept w u → Calls Tryz.prog 185 #[.agg #[.bool n1,.slice a1 l1 c1,.int .i64 x1],.agg #[.bool n2,.slice a2 l2 c2,.int .i64 x2]] u fun e w' => ∃ v,e = .returned (.tuple #[v,.int .i64 0]) ∧ New u w' v r ∧ Kept u w')) :
  Calls Tryz.prog 103 #[.agg #[.bool n1,.slice a1 l1 c1,.int .i64 x1],.agg #[.bool n2,.slice a2 l2 c2,.int .i64 x2]] w fun e w' => ∃ v,e = .returned v ∧ New w w' v r ∧ Kept w w':=by
 obtain ⟨X,hX⟩ : ∃ X,X = ((w.alloc (.cells #[.bool n1,.slice a1 l1 c1,.int .i64 x1] 78)).alloc (.cells #[.bool n2,.slice a2 l2 c2,.int .i64 x2] 78)).alloc (.cells #[.bool false,.slice none 0 0,.int .i64 0] 78):=⟨_,rfl⟩
 have hK : Kept w X:=by rw [hX]; exact (((Kept.refl w).alloc _ _).alloc _ _).alloc _ _
 have hXs : X.heap.size = w.heap.size + 3:=by rw [hX]; simp
 have hP0 : N3 X (w.heap.size) (.bool n1) (.slice a1 l1 c1) (.int .i64 x1):=by
  rw [hX]
  have:=(((N3.new (w) (.bool n1) (.slice a1 l1 c1) (.int .i64 x1) 78).alloc #[.bool n2,.slice a2 l2 c2,.int .i64 x2] 78).alloc #[.bool false,.slice none 0 0,.int .i64 0] 78)
  simpa using this
 have hP1 : N3 X (w.heap.size + 1) (.bool n2) (.slice a2 l2 c2) (.int .i64 x2):=by
  rw [hX]
  have:=((N3.new (w.alloc (.cells #[.bool n1,.slice a1 l1 c1,.int .i64 x1] 78)) (.bool n2) (.slice a2 l2 c2) (.int .i64 x2) 78).alloc #[.bool false,.slice none 0 0,.int .i64 0] 78)
  simpa using this
 have hP2 : N3 X (w.heap.size + 1 + 1) (.bool false) (.slice none 0 0) (.int .i64 0):=by
  rw [hX]
  have:=(N3.new ((w.alloc (.cells #[.bool n1,.slice a1 l1 c1,.int .i64 x1] 78)).alloc (.cells #[.bool n2,.slice a2 l2 c2,.int .i64 x2] 78)) (.bool false) (.slice none 0 0) (.int .i64 0) 78)
  simpa using this
 obtain ⟨B0,hB0⟩ : ∃ B,B = w.heap.size:=⟨_,rfl⟩
 obtain ⟨B1,hB1⟩ : ∃ B,B = B0 + 1:=⟨_,rfl⟩
 obtain ⟨B2,hB2⟩ : ∃ B,B = B1 + 1:=⟨_,rfl⟩
 rw [← hB0] at hP0
 rw [← hB0,← hB1] at hP1
 rw [← hB0,← hB1,← hB2] at hP2
 have oB : Hid (w.heap.size ≤ B0 ∧ B0 < X.heap.size ∧ w.heap.size ≤ B1 ∧ B1 < X.heap.size ∧ w.heap.size ≤ B2 ∧ B2 < X.heap.size):=(show _ ∧ _ ∧ _ ∧ _ ∧ _ ∧ _ from by omega)
 have HR : Hid (∀ u,Kept X u → N3 u B2 (.bool false) (.slice none 0 0) (.int .i64 0)):=fun u k => hP2.kept k
 go_enter Tryz.func103,Tryz.ntmps103
 go_upto_region 1 with fail
 rw [← hX,← hB0,← hB1,← hB2]
 clear hX hXs hB0 hB1 hB2
 obtain ⟨p00,p01,p02,p0f⟩:=hP0
 obtain ⟨p10,p11,p12,p1f⟩:=hP1
 obtain ⟨p20,p21,p22,p2f⟩:=hP2
 go_wp2_with (first | (go_at_call 185; refine (KE.out _ hK).mono ?_; rintro e w2 ⟨v,rfl,hN,k2⟩; obtain ⟨vn,va,vl,vc,vx,rfl⟩:=hN.shape; clear p00 p01 p02 p0f; clear p10 p11 p12 p1f; clear p20 p21 p22 p2f; obtain ⟨f0,f1,f2,f3⟩:=HR.out _ k2; have hlt : B2 < w2.heap.size:=(HR.out _ k2).lt; have hne : B2 ≠ w2.heap.size:=Nat.ne_of_lt hlt))
 have:=res_done B2 oB.out.2.2.2.2.1 oB.out.2.2.2.2.2 hK hN k2 (.bool vn) (.slice va vl vc) (.int .i64 vx)
 exact bodyPost_ret (v:=.agg #[.bool vn,.slice va vl vc,.int .i64 vx]) (by simp [results,Tryz.results103,go_sem,f0,f1,f2,hlt]) rfl ⟨_,rfl,this.1.kept ((Kept.refl _).alloc _ _),this.2.alloc _ _⟩
theorem smul_walk (n1 : Bool) (a1 : Option Addr) (l1 c1 : Nat) (x1 : Int) (n2 : Bool) (a2 : Option Addr) (l2 c2 : Nat) (x2 : Int) (r : Nm) (w : World)
  (KE : Hid (∀ u,Kept w u → Calls Tryz.prog 235 #[.agg #[.bool n1,.slice a1 l1 c1,.int .i64 x1],.agg #[.bool n2,.slice a2 l2 c2,.int .i64 x2]] u fun e w' => ∃ v,e = .returned (.tuple #[v,.int .i64 0]) ∧ New u w' v r ∧ Kept u w')) :
  Calls Tryz.prog 165 #[.agg #[.bool n1,.slice a1 l1 c1,.int .i64 x1],.agg #[.bool n2,.slice a2 l2 c2,.int .i64 x2]] w fun e w' => ∃ v,e = .returned v ∧ New w w' v r ∧ Kept w w':=by
 obtain ⟨X,hX⟩ : ∃ X,X = ((w.alloc (.cells #[.bool n1,.slice a1 l1 c1,.int .i64 x1] 78)).alloc (.cells #[.bool n2,.slice a2 l2 c2,.int .i64 x2] 78)).alloc (.cells #[.bool false,.slice none 0 0,.int .i64 0] 78):=⟨_,rfl⟩
 have hK : Kept w X:=by rw [hX]; exact (((Kept.refl w).alloc _ _).alloc _ _).alloc _ _
 have hXs : X.heap.size = w.heap.size + 3:=by rw [hX]; simp
 have hP0 : N3 X (w.heap.size) (.bool n1) (.slice a1 l1 c1) (.int .i64 x1):=by
  rw [hX]
  have:=(((N3.new (w) (.bool n1) (.slice a1 l1 c1) (.int .i64 x1) 78).alloc #[.bool n2,.slice a2 l2 c2,.int .i64 x2] 78).alloc #[.bool false,.slice none 0 0,.int .i64 0] 78)
  simpa using this
 have hP1 : N3 X (w.heap.size + 1) (.bool n2) (.slice a2 l2 c2) (.int .i64 x2):=by
  rw [hX]
  have:=((N3.new (w.alloc (.cells #[.bool n1,.slice a1 l1 c1,.int .i64 x1] 78)) (.bool n2) (.slice a2 l2 c2) (.int .i64 x2) 78).alloc #[.bool false,.slice none 0 0,.int .i64 0] 78)
  simpa using this
 have hP2 : N3 X (w.heap.size + 1 + 1) (.bool false) (.slice none 0 0) (.int .i64 0):=by
  rw [hX]
  have:=(N3.new ((w.alloc (.cells #[.bool n1,.slice a1 l1 c1,.int .i64 x1] 78)).alloc (.cells #[.bool n2,.slice a2 l2 c2,.int .i64 x2] 78)) (.bool false) (.slice none 0 0) (.int .i64 0) 78)
  simpa using this
 obtain ⟨B0,hB0⟩ : ∃ B,B = w.heap.size:=⟨_,rfl⟩
 obtain ⟨B1,hB1⟩ : ∃ B,B = B0 + 1:=⟨_,rfl⟩
 obtain ⟨B2,hB2⟩ : ∃ B,B = B1 + 1:=⟨_,rfl⟩
 rw [← hB0] at hP0
 rw [← hB0,← hB1] at hP1
 rw [← hB0,← hB1,← hB2] at hP2
 have oB : Hid (w.heap.size ≤ B0 ∧ B0 < X.heap.size ∧ w.heap.size ≤ B1 ∧ B1 < X.heap.size ∧ w.heap.size ≤ B2 ∧ B2 < X.heap.size):=(show _ ∧ _ ∧ _ ∧ _ ∧ _ ∧ _ from by omega)
 have HR : Hid (∀ u,Kept X u → N3 u B2 (.bool false) (.slice none 0 0) (.int .i64 0)):=fun u k => hP2.kept k
 go_enter Tryz.func165,Tryz.ntmps165
 go_upto_region 1 with fail
 rw [← hX,← hB0,← hB1,← hB2]
 clear hX hXs hB0 hB1 hB2
 obtain ⟨p00,p01,p02,p0f⟩:=hP0
 obtain ⟨p10,p11,p12,p1f⟩:=hP1
 obtain ⟨p20,p21,p22,p2f⟩:=hP2
 go_wp2_with (first | (go_at_call 235; refine (KE.out _ hK).mono ?_; rintro e w2 ⟨v,rfl,hN,k2⟩; obtain ⟨vn,va,vl,vc,vx,rfl⟩:=hN.shape; clear p00 p01 p02 p0f; clear p10 p11 p12 p1f; clear p20 p21 p22 p2f; obtain ⟨f0,f1,f2,f3⟩:=HR.out _ k2; have hlt : B2 < w2.heap.size:=(HR.out _ k2).lt; have hne : B2 ≠ w2.heap.size:=Nat.ne_of_lt hlt))
 have:=res_done B2 oB.out.2.2.2.2.1 oB.out.2.2.2.2.2 hK hN k2 (.bool vn) (.slice va vl vc) (.int .i64 vx)
 exact bodyPost_ret (v:=.agg #[.bool vn,.slice va vl vc,.int .i64 vx]) (by simp [results,Tryz.results165,go_sem,f0,f1,f2,hlt]) rfl ⟨_,rfl,this.1.kept ((Kept.refl _).alloc _ _),this.2.alloc _ _⟩
theorem sscale_walk (n1 : Bool) (a1 : Option Addr) (l1 c1 : Nat) (x1 : Int) (k : Int) (r : Nm) (w : World)
  (KE : Hid (∀ u,Kept w u → Calls Tryz.prog 252 #[.agg #[.bool n1,.slice a1 l1 c1,.int .i64 x1],.int .i64 k] u fun e w' => ∃ v,e = .returned (.tuple #[v,.int .i64 0]) ∧ New u w' v r ∧ Kept u w')) :
  Calls Tryz.prog 187 #[.agg #[.bool n1,.slice a1 l1 c1,.int .i64 x1],.int .i64 k] w fun e w' => ∃ v,e = .returned v ∧ New w w' v r ∧ Kept w w':=by
 obtain ⟨X,hX⟩ : ∃ X,X = (w.alloc (.cells #[.bool n1,.slice a1 l1 c1,.int .i64 x1] 78)).alloc (.cells #[.bool false,.slice none 0 0,.int .i64 0] 78):=⟨_,rfl⟩
 have hK : Kept w X:=by rw [hX]; exact ((Kept.refl w).alloc _ _).alloc _ _
 have hXs : X.heap.size = w.heap.size + 2:=by rw [hX]; simp
 have hP0 : N3 X (w.heap.size) (.bool n1) (.slice a1 l1 c1) (.int .i64 x1):=by
  rw [hX]
  have:=((N3.new (w) (.bool n1) (.slice a1 l1 c1) (.int .i64 x1) 78).alloc #[.bool false,.slice none 0 0,.int .i64 0] 78)
  simpa using this
 have hP1 : N3 X (w.heap.size + 1) (.bool false) (.slice none 0 0) (.int .i64 0):=by
  rw [hX]
  have:=(N3.new (w.alloc (.cells #[.bool n1,.slice a1 l1 c1,.int .i64 x1] 78)) (.bool false) (.slice none 0 0) (.int .i64 0) 78)
  simpa using this
 obtain ⟨B0,hB0⟩ : ∃ B,B = w.heap.size:=⟨_,rfl⟩
 obtain ⟨B1,hB1⟩ : ∃ B,B = B0 + 1:=⟨_,rfl⟩
 rw [← hB0] at hP0
 rw [← hB0,← hB1] at hP1
 have oB : Hid (w.heap.size ≤ B0 ∧ B0 < X.heap.size ∧ w.heap.size ≤ B1 ∧ B1 < X.heap.size):=(show _ ∧ _ ∧ _ ∧ _ from by omega)
 have HR : Hid (∀ u,Kept X u → N3 u B1 (.bool false) (.slice none 0 0) (.int .i64 0)):=fun u k => hP1.kept k
 go_enter Tryz.func187,Tryz.ntmps187
 go_upto_region 1 with fail
 rw [← hX,← hB0,← hB1]
 clear hX hXs hB0 hB1
 obtain ⟨p00,p01,p02,p0f⟩:=hP0
 obtain ⟨p10,p11,p12,p1f⟩:=hP1
 go_wp2_with (first | (go_at_call 252; refine (KE.out _ hK).mono ?_; rintro e w2 ⟨v,rfl,hN,k2⟩; obtain ⟨vn,va,vl,vc,vx,rfl⟩:=hN.shape; clear p00 p01 p02 p0f; clear p10 p11 p12 p1f; obtain ⟨f0,f1,f2,f3⟩:=HR.out _ k2; have hlt : B1 < w2.heap.size:=(HR.out _ k2).lt; have hne : B1 ≠ w2.heap.size:=Nat.ne_of_lt hlt))
 have:=res_done B1 oB.out.2.2.1 oB.out.2.2.2 hK hN k2 (.bool vn) (.slice va vl vc) (.int .i64 vx)
 exact bodyPost_ret (v:=.agg #[.bool vn,.slice va vl vc,.int .i64 vx]) (by simp [results,Tryz.results187,go_sem,f0,f1,f2,hlt]) rfl ⟨_,rfl,this.1.kept ((Kept.refl _).alloc _ _),this.2.alloc _ _⟩
theorem sround_walk (n1 : Bool) (a1 : Option Addr) (l1 c1 : Nat) (x1 : Int) (n s q : Int) (o : Bool) (w : World)
  (KE : Hid (∀ u,Kept w u → Calls Tryz.prog 181 #[.agg #[.bool n1,.slice a1 l1 c1,.int .i64 x1],.int .i64 n,.int .i64 0] u fun e w' => e = .returned (.tuple #[.int .i64 s,.bool o,.int .i64 q]) ∧ Kept u w')) :
  Calls Tryz.prog 100 #[.agg #[.bool n1,.slice a1 l1 c1,.int .i64 x1],.int .i64 n] w fun e w' => e = .returned (.int .i64 s) ∧ Kept w w':=by
 obtain ⟨X,hX⟩ : ∃ X,X = w.alloc (.cells #[.bool n1,.slice a1 l1 c1,.int .i64 x1] 78):=⟨_,rfl⟩
 have hK : Kept w X:=by rw [hX]; exact (Kept.refl w).alloc _ _
 have hXs : X.heap.size = w.heap.size + 1:=by rw [hX]; simp
 have hP0 : N3 X (w.heap.size) (.bool n1) (.slice a1 l1 c1) (.int .i64 x1):=by
  rw [hX]
  have:=(N3.new (w) (.bool n1) (.slice a1 l1 c1) (.int .i64 x1) 78)
  simpa using this
 obtain ⟨B0,hB0⟩ : ∃ B,B = w.heap.size:=⟨_,rfl⟩
 rw [← hB0] at hP0
 have oB : Hid (w.heap.size ≤ B0 ∧ B0 < X.heap.size):=(show _ ∧ _ from by omega)
 go_enter Tryz.func100,Tryz.ntmps100
 go_upto_region 1 with fail
 rw [← hX,← hB0]
 clear hX hXs hB0
 obtain ⟨p00,p01,p02,p0f⟩:=hP0
 go_wp2_with (first | (go_at_call 181; refine (KE.out _ hK).mono ?_; rintro e w2 ⟨rfl,k2⟩))
 go_ret
 exact ⟨rfl,hK.trans k2⟩
end Go.Proofs.YtelbefihigkhjaaGreatDoor

namespace Go.Proofs.YtelbefihigkhjaaGreatDoor
open Go.ChangeShapes Go.WideShapes Go.ChangeAt Go.RowKit
set_option maxHeartbeats 16000000
set_option maxRecDepth 100000
set_option linter.unusedVariables false
set_option linter.unusedSimpArgs false
abbrev kind64 : Value:=.agg #[.int .i64 64,.int .i64 53,.int .i64 (-1074),.int .i64 9218868437227405312]
theorem kindOf_64 (w : World) : Calls Tryz.prog 244 #[.int .i64 64] w fun e w' => e = .returned (.tuple #[kind64,.bool true]) ∧ Kept w w':=by
 go_enter Tryz.func244,Tryz.ntmps244
 go_wp2
 exact bodyPost_ret (v:=.tuple #[kind64,.bool true]) (by simp [results,Tryz.results244,go_sem]) rfl ⟨rfl,(Kept.refl _).alloc _ _⟩
theorem ways_any (w : World) : Calls Tryz.prog 283 #[] w fun e w' => e = .returned (.agg #[.func (.func 312) #[] #[],.func (.func 313) #[] #[],.func (.func 314) #[] #[]]) ∧ Kept w w':=by
 go_enter Tryz.func283,Tryz.ntmps283
 go_wp2
 refine bodyPost_ret (v:=.agg #[.func (.func 312) #[] #[],.func (.func 313) #[] #[],.func (.func 314) #[] #[]]) (by simp [results,Tryz.results283,go_sem]) rfl ⟨rfl,(Kept.refl _).alloc _ _⟩
theorem index_ways (a b c : Value) (w : World) : (Instr.index 315 (.agg #[a,b,c]) (.int .i64 0)).run Tryz.prog w = .ok (.agg #[a]) w:=by
 kernel_rfl
theorem set5 (u : World) (b c o : Nat) (h : c ≠ b) (v0 v1 v2 v3 v4 : Value) : (((((u.setCell ⟨b,0,none⟩ v0).setCell ⟨b,1,none⟩ v1).setCell ⟨b,2,none⟩ v2).setCell ⟨b,3,none⟩ v3).setCell ⟨b,4,none⟩ v4).cell? ⟨c,o,none⟩ = u.cell? ⟨c,o,none⟩ :=
 World.cell?_of_block (a:=⟨c,o,none⟩) ((Below.heap_setCell _ _ _ c h).trans ((Below.heap_setCell _ _ _ c h).trans ((Below.heap_setCell _ _ _ c h).trans ((Below.heap_setCell _ _ _ c h).trans (Below.heap_setCell _ _ _ c h)))))
abbrev nilRound : Obj:=.cells #[.int .i64 0,.int .i64 0,.int .i64 0,.int .i64 0,.nilFunc] 275
end Go.Proofs.YtelbefihigkhjaaGreatDoor
