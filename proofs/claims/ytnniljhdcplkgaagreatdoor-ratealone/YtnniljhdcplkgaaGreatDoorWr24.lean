/- The walks of exact's pieces. The walk of exact's quotient at 1 by 3. The walks of exact's split,of the nearest way,and of round at the lead of a third. The walks of exact's round at the lead of a third. The walks of the laws' own Same and SameNum at what is the same. The walk of exact's Quot at 1 by 3. A few values: 6 by 2,1,3,and 1 - 3. The walk of the laws' own test of life. -/
import Derived.Test.YtnniljhdcplkgaaGreatDoorWr11
import Derived.Laws.EntriesVeiled
import Derived.Test.YtnniljhdcplkgaaGreatDoorWr17
import Derived.OwnWalk
import Derived.Laws.OwnMore
import Derived.Test.YtnniljhdcplkgaaGreatDoorWr12
import Derived.Test.YtnniljhdcplkgaaGreatDoorWr06
import Derived.Test.YtnniljhdcplkgaaGreatDoorWr07
import Derived.Test.YtnniljhdcplkgaaGreatDoorWr16
import Derived.Test.YtnniljhdcplkgaaGreatDoorWr15
import Derived.Deep.Cut
namespace Go.Proofs.YtnniljhdcplkgaaGreatDoor
open Go.ChangeShapes Go.WideShapes Go.ChangeAt Go.RowKit
set_option maxHeartbeats 16000000
set_option maxRecDepth 100000
set_option linter.unusedVariables false
set_option linter.unusedSimpArgs false
/-! ### pieces -/
theorem pieces_any (L : List Int) (hL : Dg L) (v : Value) (n : Nat) (hn : n < 100000) (p : Int) (hp : -10000000 < p ∧ p < 10000000) (w : World) (h : Sl w v L) : Calls Tryz.prog 152 #[v,.int .i64 (n : Int),.int .i64 p] w fun e w' => e = .returned (.slice (some ⟨w.heap.size,0,none⟩) n n) ∧ Own w' w.heap.size n ((List.range n).map fun i : Nat => pcz (nv L) (p + 30 * (i : Int))) ∧ Kept w w':=by
 have HM:=make_run n (by omega)
 have hO:=own_made n (by omega) w
 have hK0 : Kept w (w.alloc (.cells (madeCells #[.int .i64 0] n) 3)):=(Kept.refl w).alloc _ _
 have HL : Hid (Sl w v L):=h
 have HO : Hid (Own (w.alloc (.cells (madeCells #[.int .i64 0] n) 3)) w.heap.size n (List.replicate n 0)):=hO
 have HK : Hid (Kept w (w.alloc (.cells (madeCells #[.int .i64 0] n) 3))):=hK0
 clear h hO hK0
 go_enter Tryz.func152,Tryz.ntmps152
 go_wp2
 go_loopw [12] (fun i wr => ∃ (k : Nat),k ≤ n ∧ i = .int .i64 k ∧ Own wr w.heap.size n ((List.range k).map (fun i : Nat => pcz (nv L) (p + 30 * (i : Int))) ++ List.replicate (n - k) 0) ∧ Kept w wr) (fun i _ => n - (intOf i).toNat)
 case atStart => exact ⟨0,Nat.zero_le _,rfl,by simpa using HO.out,HK.out⟩
 case round =>
  obtain ⟨k,hk,rfl,hO,hG⟩:=hrel
  by_cases hkn : k < n
  ·have KP : Hid (Calls Tryz.prog 114 #[v,.int .i64 (p + (k : Int) * 30)] wr fun e w' => e = .returned (.int .i64 (pcz (nv L) (p + (k : Int) * 30))) ∧ Kept wr w'):=piece_any L hL v _ (by omega) (by omega) wr (HL.out.kept hG)
   have HO2 : Hid (Own wr w.heap.size n ((List.range k).map (fun i : Nat => pcz (nv L) (p + 30 * (i : Int))) ++ List.replicate (n - k) 0)):=hO
   have HG : Hid (Kept w wr):=hG
   have hlen : ((List.range k).map (fun i : Nat => pcz (nv L) (p + 30 * (i : Int))) ++ List.replicate (n - k) 0).length = n:=by simp; omega
   have HLn : Hid (((List.range k).map (fun i : Nat => pcz (nv L) (p + 30 * (i : Int))) ++ List.replicate (n - k) 0).length = n):=hlen
   clear hO hG hlen
   generalize hq : pcz (nv L) (p + (k : Int) * 30) = pv at KP
   have HQ : Hid (pcz (nv L) (p + (k : Int) * 30) = pv):=hq
   clear hq
   go_wp2_with (first | (go_at_call 114; refine KP.out.mono ?_; rintro e w2 ⟨rfl,hk2⟩; have hO2:=HO2.out.kept hk2; have hcc:=hO2.cell k (by rw [HLn.out]; exact hkn); have hff:=hO2.free k))
   go_roundw
   case rel =>
    have hO2:=(HO2.out.kept hk2).set k pv
    refine ⟨k + 1,by omega,by go_num,?_,(HG.out.trans hk2).setCell (by simp) _⟩
    obtain ⟨m,hm⟩ : ∃ m,n - k = m + 1:=⟨n - k - 1,by omega⟩
    rw [hm,List.replicate_succ,set_app _ _ _ _ _ (by simp)] at hO2
    rw [show n - (k + 1) = m by omega,List.range_succ,List.map_append]
    have:=HQ.out
    rw [Int.mul_comm] at this
    simpa [this] using hO2
   case measure => simp [intOf]; omega
  ·obtain rfl : k = n:=by omega
   rw [Nat.sub_self,List.replicate_zero,List.append_nil] at hO
   go_wp2
   go_ret
   exact ⟨rfl,hO,hG⟩
end Go.Proofs.YtnniljhdcplkgaaGreatDoor
namespace Go.Proofs.YtnniljhdcplkgaaGreatDoor
open Go.ChangeShapes Go.WideShapes Go.ChangeAt Go.RowKit
set_option maxHeartbeats 16000000
set_option maxRecDepth 100000
set_option linter.unusedVariables false
set_option linter.unusedSimpArgs false
abbrev third : Value:=.agg #[.bool false,.int .i64 768614336404564650,.int .i64 (-61),.bool true]
end Go.Proofs.YtnniljhdcplkgaaGreatDoor

namespace Go.Proofs.YtnniljhdcplkgaaGreatDoor
open Go.ChangeShapes Go.WideShapes Go.ChangeAt Go.RowKit
set_option maxHeartbeats 16000000
set_option maxRecDepth 100000
set_option linter.unusedVariables false
set_option linter.unusedSimpArgs false
theorem set4 (u : World) (b c o : Nat) (h : c ≠ b) (v0 v1 v2 v3 : Value) : ((((u.setCell ⟨b,0,none⟩ v0).setCell ⟨b,1,none⟩ v1).setCell ⟨b,2,none⟩ v2).setCell ⟨b,3,none⟩ v3).cell? ⟨c,o,none⟩ = u.cell? ⟨c,o,none⟩ :=
 World.cell?_of_block (a:=⟨c,o,none⟩) ((Below.heap_setCell _ _ _ c h).trans ((Below.heap_setCell _ _ _ c h).trans ((Below.heap_setCell _ _ _ c h).trans (Below.heap_setCell _ _ _ c h))))
end Go.Proofs.YtnniljhdcplkgaaGreatDoor
namespace Go.Proofs.YtnniljhdcplkgaaGreatDoor
open Go.ChangeShapes Go.WideShapes Go.ChangeAt Go.RowKit
set_option maxHeartbeats 16000000
set_option maxRecDepth 100000
set_option linter.unusedVariables false
set_option linter.unusedSimpArgs false
end Go.Proofs.YtnniljhdcplkgaaGreatDoor

namespace Go.Proofs.YtnniljhdcplkgaaGreatDoor
open Go.ChangeShapes Go.WideShapes Go.ChangeAt Go.RowKit
set_option maxHeartbeats 16000000
set_option maxRecDepth 100000
set_option linter.unusedVariables false
set_option linter.unusedSimpArgs false
end Go.Proofs.YtnniljhdcplkgaaGreatDoor

namespace Go.Proofs.YtnniljhdcplkgaaGreatDoor
open Go.ChangeShapes Go.WideShapes Go.ChangeAt Go.RowKit
set_option maxHeartbeats 16000000
set_option maxRecDepth 100000
set_option linter.unusedVariables false
set_option linter.unusedSimpArgs false
end Go.Proofs.YtnniljhdcplkgaaGreatDoor
namespace Go.Proofs.YtnniljhdcplkgaaGreatDoor
open Go.RowKit
set_option maxHeartbeats 16000000
set_option maxRecDepth 100000
end Go.Proofs.YtnniljhdcplkgaaGreatDoor
namespace Go.Proofs.YtnniljhdcplkgaaGreatDoor
open Go.ChangeShapes Go.WideShapes Go.ChangeAt Go.RowKit
set_option maxHeartbeats 16000000
set_option maxRecDepth 100000
set_option linter.unusedVariables false
set_option linter.unusedSimpArgs false
theorem New.some {w0 w : World} {v : Value} {neg : Bool} {d : Int} {x : Int} (h : New w0 w v ⟨neg,[d],x⟩) : ∃ g cap,v = .agg #[.bool neg,.slice (some ⟨g,0,none⟩) 1 cap,.int .i64 x] ∧ w0.heap.size ≤ g ∧ Own w g cap [d]:=by
 rcases h with ⟨h,-⟩ | ⟨g,cap,e,hg,ho,-⟩
 ·cases h
 ·exact ⟨g,cap,e,hg,ho⟩
end Go.Proofs.YtnniljhdcplkgaaGreatDoor
