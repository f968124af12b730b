/- Pick: the document's own; package rng's refusals. -/
import Derived.Test.YtedghjededicpaaGP
import Derived.Test.YtedghjededicpaaGRm
import Derived.Test.YtedghjededicpaaG8
namespace Go.Proofs.Ytedghjededicpaa
open Go.ChangeShapes Go.WideShapes Go.ChangeAt Go.RowKit
set_option linter.unusedVariables false
set_option linter.unusedSimpArgs false

theorem bool_info : (Try.prog.info? 4).map (fun i => (i.zero, i.size, i.bytes)) = some (some (.bool false), 1, 1) := by kernel_rfl
theorem lb_under : Try.prog.underlying 59 = some (.slice 4) := by kernel_rfl
theorem make_runb (n : Nat) (hn : n < 100000000) (w : World) : (Instr.makeSlice 59 (.int .i64 (n : Int)) (.int .i64 (n : Int))).run Try.prog w = .ok (.slice (some ⟨w.heap.size, 0, none⟩) n n) (w.alloc (.cells (madeCells #[.bool false] n) 4)) := by
  obtain ⟨i, hi, hz, hs, hby⟩ := info_parts (bool_info)
  have := run_make (P := Try.prog) w 59 4 i (.bool false) lb_under hi hz .i64 .i64 (n : Int) (n : Int) (by omega) (Int.le_refl _) (by rw [hby]; omega) (by omega)
  rw [hs, Int.toNat_natCast, Nat.mul_one] at this
  exact this
theorem ownV_made (n : Nat) (hn : n < 100000000) (w : World) : OwnV (w.alloc (.cells (madeCells #[.bool false] n) 4)) w.heap.size n 4 ((List.replicate n false).map Value.bool) := by
  refine ⟨_, heap_alloc_new w _, by simp, by simp [maxLen]; omega, by simp [size_madeCells], ?_⟩
  rw [List.length_map, List.length_replicate, toList_madeCells_one]
  simp

end Go.Proofs.Ytedghjededicpaa
