/- Package state: what is given up is caught: the deferred calls of Read,Write,Check. -/
import Derived.Test.YtocjfdiimapojaaVK
import Derived.Defers
import Derived.Recover
namespace Go.Proofs.Ytocjfdiimapojaa
open Go.ChangeShapes Go.WideShapes Go.ChangeAt Go.RowKit
set_option maxHeartbeats 16000000
set_option maxRecDepth 100000
set_option linter.unusedVariables false
set_option linter.unusedSimpArgs false
theorem rcatch_idle (A E : Nat) (hne : A ≠ E) (x y : Int) (w : World) (hA : w.cell? ⟨A,0,none⟩ = some (.int .i64 x)) (hE : w.cell? ⟨E,0,none⟩ = some (.int .i64 y)) (fA : w.frozen? ⟨A,0,none⟩ = false) (fE : w.frozen? ⟨E,0,none⟩ = false) :
  CallsD Try.prog 27 #[.pointer (some ⟨A,0,none⟩),.pointer (some ⟨E,0,none⟩)] .returning w fun e u' w' => e = .returned (.tuple #[]) ∧ u' = .returning ∧ KX (fun b => b = A ∨ b = E) w w' ∧ w'.cell? ⟨A,0,none⟩ = some (.int .i64 0) ∧ w'.cell? ⟨E,0,none⟩ = some (.int .i64 0):=by
 refine callsD_of_wpS Try.func27 rfl fun c₀ cs hu => ?_
 apply wpS_seq
 apply wpS_region
 simp [wpOpsS,go_sem,recoverD,hu,Try.ntmps27,Exit.thenS]
 refine (caught_nil _).mono ?_
 rintro e w1 ⟨rfl,k1⟩
 simp [wpOpsS,go_sem,Exit.thenS]
 obtain ⟨X1,hX1⟩ : ∃ X1,w1.alloc (.cells #[.int .i64 0,.int .i64 0] 59) = X1:=⟨_,rfl⟩
 have k2 : Kept w X1:=by rw [← hX1]; exact k1.alloc _ _
 have b2 : Bk X1 w1.heap.size [.int .i64 0,.int .i64 0]:=by rw [← hX1]; exact Bk.new w1 _ _
 rw [hX1]
 clear hX1
 have hAl : A < w1.heap.size:=Nat.lt_of_lt_of_le (World.block_lt_of_cell? _ _ hA) k1.below.size
 have hEl : E < w1.heap.size:=Nat.lt_of_lt_of_le (World.block_lt_of_cell? _ _ hE) k1.below.size
 generalize w1.heap.size = D at *
 refine wpS_of_wp ?_
 have hA1 : X1.cell? ⟨A,0,none⟩ = some (.int .i64 x):=(k2.below.cell (p:=⟨A,0,none⟩) (World.block_lt_of_cell? _ _ hA)).trans hA
 have hE1 : X1.cell? ⟨E,0,none⟩ = some (.int .i64 y):=(k2.below.cell (p:=⟨E,0,none⟩) (World.block_lt_of_cell? _ _ hE)).trans hE
 have fA1 : X1.frozen? ⟨A,0,none⟩ = false:=(k2.frozen _).trans fA
 have fE1 : X1.frozen? ⟨E,0,none⟩ = false:=(k2.frozen _).trans fE
 have d0:=b2.c 0 _ rfl
 have d1:=b2.c 1 _ rfl
 have n1 : ¬ D = A:=by omega
 have n2 : ¬ D = E:=by omega
 have n3 : ¬ A = D:=by omega
 have n4 : ¬ E = D:=by omega
 have n5 : ¬ E = A:=by omega
 have HK2:=hid k2
 clear k1 k2 b2 hA hE fA fE hAl hEl
 change Code.wp _ (Code.region _ _ _) _ ({ tmps:=#[.pointer (some ⟨A,0,none⟩),.pointer (some ⟨E,0,none⟩),.pointer (some ⟨D,0,none⟩),.nilIface,.agg #[.int .i64 0,.int .i64 0],undef,undef,undef,undef],defers:=[] } : Act) X1
 go_region
 refine ⟨rfl,_,?_,.tuple #[],by simp [results,Try.results27],rfl,rfl,?_,?_,?_⟩
 ·cases c₀; simp_all
 ·exact ((HK2.out.kx _).trans ((((Grw.refl A X1).setCell 0 _).kx.mono (Y:=fun b => b = A ∨ b = E) fun b hb => .inl hb).trans (((Grw.refl E _).setCell 0 _).kx.mono (Y:=fun b => b = A ∨ b = E) fun b hb => .inr hb))).trans ((Kept.refl _).drew.kx _)
 ·simp [go_sem,hA1,n5,hne]
 ·simp [go_sem,hE1,n5,hne]
theorem rcatch_up (er pl : Int) (older : List PanicEntry) (A E : Nat) (hne : A ≠ E) (x y : Int) (w : World) (hA : w.cell? ⟨A,0,none⟩ = some (.int .i64 x)) (hE : w.cell? ⟨E,0,none⟩ = some (.int .i64 y)) (fA : w.frozen? ⟨A,0,none⟩ = false) (fE : w.frozen? ⟨E,0,none⟩ = false) :
  CallsD Try.prog 27 #[.pointer (some ⟨A,0,none⟩),.pointer (some ⟨E,0,none⟩)] (.panicking ({ v:=.iface 59 (.agg #[.int .i64 er,.int .i64 pl]),recovered:=false } :: older)) w fun e u' w' => e = .returned (.tuple #[]) ∧ u' = .panicking ({ v:=.iface 59 (.agg #[.int .i64 er,.int .i64 pl]),recovered:=true } :: older) ∧ KX (fun b => b = A ∨ b = E) w w' ∧ w'.cell? ⟨A,0,none⟩ = some (.int .i64 pl) ∧ w'.cell? ⟨E,0,none⟩ = some (.int .i64 er):=by
 refine callsD_of_wpS Try.func27 rfl fun c₀ cs hu => ?_
 apply wpS_seq
 apply wpS_region
 simp [wpOpsS,go_sem,recoverD,hu,Try.ntmps27,Exit.thenS]
 refine (caught_fault er pl _).mono ?_
 rintro e w1 ⟨rfl,k1⟩
 simp [wpOpsS,go_sem,Exit.thenS]
 obtain ⟨X1,hX1⟩ : ∃ X1,w1.alloc (.cells #[.int .i64 er,.int .i64 pl] 59) = X1:=⟨_,rfl⟩
 have k2 : Kept w X1:=by rw [← hX1]; exact k1.alloc _ _
 have b2 : Bk X1 w1.heap.size [.int .i64 er,.int .i64 pl]:=by rw [← hX1]; exact Bk.new w1 _ _
 rw [hX1]
 clear hX1
 have hAl : A < w1.heap.size:=Nat.lt_of_lt_of_le (World.block_lt_of_cell? _ _ hA) k1.below.size
 have hEl : E < w1.heap.size:=Nat.lt_of_lt_of_le (World.block_lt_of_cell? _ _ hE) k1.below.size
 generalize w1.heap.size = D at *
 refine wpS_of_wp ?_
 have hA1 : X1.cell? ⟨A,0,none⟩ = some (.int .i64 x):=(k2.below.cell (p:=⟨A,0,none⟩) (World.block_lt_of_cell? _ _ hA)).trans hA
 have hE1 : X1.cell? ⟨E,0,none⟩ = some (.int .i64 y):=(k2.below.cell (p:=⟨E,0,none⟩) (World.block_lt_of_cell? _ _ hE)).trans hE
 have fA1 : X1.frozen? ⟨A,0,none⟩ = false:=(k2.frozen _).trans fA
 have fE1 : X1.frozen? ⟨E,0,none⟩ = false:=(k2.frozen _).trans fE
 have d0:=b2.c 0 _ rfl
 have d1:=b2.c 1 _ rfl
 have n1 : ¬ D = A:=by omega
 have n2 : ¬ D = E:=by omega
 have n3 : ¬ A = D:=by omega
 have n4 : ¬ E = D:=by omega
 have n5 : ¬ E = A:=by omega
 have HK2:=hid k2
 clear k1 k2 b2 hA hE fA fE hAl hEl
 change Code.wp _ (Code.region _ _ _) _ ({ tmps:=#[.pointer (some ⟨A,0,none⟩),.pointer (some ⟨E,0,none⟩),.pointer (some ⟨D,0,none⟩),.iface 59 (.agg #[.int .i64 er,.int .i64 pl]),.agg #[.int .i64 er,.int .i64 pl],undef,undef,undef,undef],defers:=[] } : Act) X1
 go_region
 refine ⟨rfl,_,?_,.tuple #[],by simp [results,Try.results27],rfl,rfl,?_,?_,?_⟩
 ·cases c₀; simp_all
 ·exact ((HK2.out.kx _).trans ((((Grw.refl A X1).setCell 0 _).kx.mono (Y:=fun b => b = A ∨ b = E) fun b hb => .inl hb).trans (((Grw.refl E _).setCell 0 _).kx.mono (Y:=fun b => b = A ∨ b = E) fun b hb => .inr hb))).trans ((Kept.refl _).drew.kx _)
 ·simp [go_sem,hA1,n5,hne]
 ·simp [go_sem,hE1,n5,hne]
theorem wcatch_idle (E : Nat) (y : Int) (w : World) (hE : w.cell? ⟨E,0,none⟩ = some (.int .i64 y)) (fE : w.frozen? ⟨E,0,none⟩ = false) :
  CallsD Try.prog 23 #[.pointer (some ⟨E,0,none⟩)] .returning w fun e u' w' => e = .returned (.tuple #[]) ∧ u' = .returning ∧ KX (fun b => b = E) w w' ∧ w'.cell? ⟨E,0,none⟩ = some (.int .i64 0):=by
 have hfl : ∀ (w : World),(Instr.field 59 (.agg #[.int .i64 0,.int .i64 0]) 0).run Try.prog w = .ok (.int .i64 0) w:=fun _ => by kernel_rfl
 refine callsD_of_wpS Try.func23 rfl fun c₀ cs hu => ?_
 apply wpS_region
 simp [wpOpsS,go_sem,recoverD,hu,Try.ntmps23,Exit.thenS]
 refine (caught_nil _).mono ?_
 rintro e w1 ⟨rfl,k1⟩
 have hE1 : w1.cell? ⟨E,0,none⟩ = some (.int .i64 y):=(k1.below.cell (p:=⟨E,0,none⟩) (World.block_lt_of_cell? _ _ hE)).trans hE
 have fE1 : w1.frozen? ⟨E,0,none⟩ = false:=(k1.frozen _).trans fE
 simp [wpOpsS,go_sem,Exit.thenS,hfl,hE1,fE1]
 refine ⟨rfl,_,?_,.tuple #[],by simp [results,Try.results23],rfl,rfl,?_,?_⟩
 ·cases c₀; simp_all
 ·exact (k1.kx _).trans (((Grw.refl E w1).setCell 0 _).kx)
 ·simp [go_sem,hE1]
theorem wcatch_up (er pl : Int) (older : List PanicEntry) (E : Nat) (y : Int) (w : World) (hE : w.cell? ⟨E,0,none⟩ = some (.int .i64 y)) (fE : w.frozen? ⟨E,0,none⟩ = false) :
  CallsD Try.prog 23 #[.pointer (some ⟨E,0,none⟩)] (.panicking ({ v:=.iface 59 (.agg #[.int .i64 er,.int .i64 pl]),recovered:=false } :: older)) w fun e u' w' => e = .returned (.tuple #[]) ∧ u' = .panicking ({ v:=.iface 59 (.agg #[.int .i64 er,.int .i64 pl]),recovered:=true } :: older) ∧ KX (fun b => b = E) w w' ∧ w'.cell? ⟨E,0,none⟩ = some (.int .i64 er):=by
 have hfl : ∀ (w : World),(Instr.field 59 (.agg #[.int .i64 er,.int .i64 pl]) 0).run Try.prog w = .ok (.int .i64 er) w:=fun _ => by kernel_rfl
 refine callsD_of_wpS Try.func23 rfl fun c₀ cs hu => ?_
 apply wpS_region
 simp [wpOpsS,go_sem,recoverD,hu,Try.ntmps23,Exit.thenS]
 refine (caught_fault er pl _).mono ?_
 rintro e w1 ⟨rfl,k1⟩
 have hE1 : w1.cell? ⟨E,0,none⟩ = some (.int .i64 y):=(k1.below.cell (p:=⟨E,0,none⟩) (World.block_lt_of_cell? _ _ hE)).trans hE
 have fE1 : w1.frozen? ⟨E,0,none⟩ = false:=(k1.frozen _).trans fE
 simp [wpOpsS,go_sem,Exit.thenS,hfl,hE1,fE1]
 refine ⟨rfl,_,?_,.tuple #[],by simp [results,Try.results23],rfl,rfl,?_,?_⟩
 ·cases c₀; simp_all
 ·exact (k1.kx _).trans (((Grw.refl E w1).setCell 0 _).kx)
 ·simp [go_sem,hE1]
theorem wcatch_idleC (E : Nat) (y : Int) (w : World) (hE : w.cell? ⟨E,0,none⟩ = some (.int .i64 y)) (fE : w.frozen? ⟨E,0,none⟩ = false) :
  CallsD Try.prog 31 #[.pointer (some ⟨E,0,none⟩)] .returning w fun e u' w' => e = .returned (.tuple #[]) ∧ u' = .returning ∧ KX (fun b => b = E) w w' ∧ w'.cell? ⟨E,0,none⟩ = some (.int .i64 0):=by
 have hfl : ∀ (w : World),(Instr.field 59 (.agg #[.int .i64 0,.int .i64 0]) 0).run Try.prog w = .ok (.int .i64 0) w:=fun _ => by kernel_rfl
 refine callsD_of_wpS Try.func31 rfl fun c₀ cs hu => ?_
 apply wpS_region
 simp [wpOpsS,go_sem,recoverD,hu,Try.ntmps31,Exit.thenS]
 refine (caught_nil _).mono ?_
 rintro e w1 ⟨rfl,k1⟩
 have hE1 : w1.cell? ⟨E,0,none⟩ = some (.int .i64 y):=(k1.below.cell (p:=⟨E,0,none⟩) (World.block_lt_of_cell? _ _ hE)).trans hE
 have fE1 : w1.frozen? ⟨E,0,none⟩ = false:=(k1.frozen _).trans fE
 simp [wpOpsS,go_sem,Exit.thenS,hfl,hE1,fE1]
 refine ⟨rfl,_,?_,.tuple #[],by simp [results,Try.results31],rfl,rfl,?_,?_⟩
 ·cases c₀; simp_all
 ·exact (k1.kx _).trans (((Grw.refl E w1).setCell 0 _).kx)
 ·simp [go_sem,hE1]
theorem wcatch_upC (er pl : Int) (older : List PanicEntry) (E : Nat) (y : Int) (w : World) (hE : w.cell? ⟨E,0,none⟩ = some (.int .i64 y)) (fE : w.frozen? ⟨E,0,none⟩ = false) :
  CallsD Try.prog 31 #[.pointer (some ⟨E,0,none⟩)] (.panicking ({ v:=.iface 59 (.agg #[.int .i64 er,.int .i64 pl]),recovered:=false } :: older)) w fun e u' w' => e = .returned (.tuple #[]) ∧ u' = .panicking ({ v:=.iface 59 (.agg #[.int .i64 er,.int .i64 pl]),recovered:=true } :: older) ∧ KX (fun b => b = E) w w' ∧ w'.cell? ⟨E,0,none⟩ = some (.int .i64 er):=by
 have hfl : ∀ (w : World),(Instr.field 59 (.agg #[.int .i64 er,.int .i64 pl]) 0).run Try.prog w = .ok (.int .i64 er) w:=fun _ => by kernel_rfl
 refine callsD_of_wpS Try.func31 rfl fun c₀ cs hu => ?_
 apply wpS_region
 simp [wpOpsS,go_sem,recoverD,hu,Try.ntmps31,Exit.thenS]
 refine (caught_fault er pl _).mono ?_
 rintro e w1 ⟨rfl,k1⟩
 have hE1 : w1.cell? ⟨E,0,none⟩ = some (.int .i64 y):=(k1.below.cell (p:=⟨E,0,none⟩) (World.block_lt_of_cell? _ _ hE)).trans hE
 have fE1 : w1.frozen? ⟨E,0,none⟩ = false:=(k1.frozen _).trans fE
 simp [wpOpsS,go_sem,Exit.thenS,hfl,hE1,fE1]
 refine ⟨rfl,_,?_,.tuple #[],by simp [results,Try.results31],rfl,rfl,?_,?_⟩
 ·cases c₀; simp_all
 ·exact (k1.kx _).trans (((Grw.refl E w1).setCell 0 _).kx)
 ·simp [go_sem,hE1]
end Go.Proofs.Ytocjfdiimapojaa
