/- The walks of exact's kindOf,ways,roundingOf at width 64,to the nearest; pieces; below and take of one digit. -/
import Derived.Test.YtnniljhdcplkgaaGreatDoorWr11
import Derived.Laws.EntriesVeiled
namespace Go.Proofs.YtnniljhdcplkgaaGreatDoor
open Go.ChangeShapes Go.WideShapes Go.ChangeAt Go.RowKit
set_option maxHeartbeats 16000000
set_option maxRecDepth 100000
set_option linter.unusedVariables false
set_option linter.unusedSimpArgs false
abbrev kind64 : Value:=.agg #[.int .i64 64,.int .i64 53,.int .i64 (-1074),.int .i64 9218868437227405312]
theorem kindOf_64 (w : World) : Calls Tryz.prog 109 #[.int .i64 64] w fun e w' => e = .returned (.tuple #[kind64,.bool true]) ∧ Kept w w':=by
 go_enter Tryz.func109,Tryz.ntmps109
 go_wp2
 exact bodyPost_ret (v:=.tuple #[kind64,.bool true]) (by simp [results,Tryz.results109,go_sem]) rfl ⟨rfl,(Kept.refl _).alloc _ _⟩
theorem ways_any (w : World) : Calls Tryz.prog 125 #[] w fun e w' => e = .returned (.agg #[.func (.func 146) #[] #[],.func (.func 147) #[] #[],.func (.func 148) #[] #[]]) ∧ Kept w w':=by
 go_enter Tryz.func125,Tryz.ntmps125
 go_wp2
 refine bodyPost_ret (v:=.agg #[.func (.func 146) #[] #[],.func (.func 147) #[] #[],.func (.func 148) #[] #[]]) (by simp [results,Tryz.results125,go_sem]) rfl ⟨rfl,(Kept.refl _).alloc _ _⟩
theorem index_ways (a b c : Value) (w : World) : (Instr.index 139 (.agg #[a,b,c]) (.int .i64 0)).run Tryz.prog w = .ok (.agg #[a]) w:=by
 kernel_rfl
theorem set5 (u : World) (b c o : Nat) (h : c ≠ b) (v0 v1 v2 v3 v4 : Value) : (((((u.setCell ⟨b,0,none⟩ v0).setCell ⟨b,1,none⟩ v1).setCell ⟨b,2,none⟩ v2).setCell ⟨b,3,none⟩ v3).setCell ⟨b,4,none⟩ v4).cell? ⟨c,o,none⟩ = u.cell? ⟨c,o,none⟩ :=
 World.cell?_of_block (a:=⟨c,o,none⟩) ((Below.heap_setCell _ _ _ c h).trans ((Below.heap_setCell _ _ _ c h).trans ((Below.heap_setCell _ _ _ c h).trans ((Below.heap_setCell _ _ _ c h).trans (Below.heap_setCell _ _ _ c h)))))
abbrev nilRound : Obj:=.cells #[.int .i64 0,.int .i64 0,.int .i64 0,.int .i64 0,.nilFunc] 112
end Go.Proofs.YtnniljhdcplkgaaGreatDoor
