/- The greatest state in form: how it lies while it is made, its bytes. -/
import Derived.Test.YtfbcdbfalopkeaaWH
namespace Go.Proofs.Ytfbcdbfalopkeaa
open Go.ChangeShapes Go.WideShapes Go.ChangeAt Go.RowKit
set_option linter.unusedVariables false
set_option linter.unusedSimpArgs false

abbrev grM : Mat := ⟨64, 64, 64, List.replicate 4096 0⟩
def grS : Sta := ⟨1099511627776, 1099511627776, 1099511627776, List.replicate 64 grM, List.replicate 64 (List.replicate 4 grM), -9223372036854775808, 9223372036854775807⟩
theorem gr_get (i : Nat) : (List.replicate 4096 (0 : Int)).getD i 0 = 0 := by
  rw [List.getD_eq_getElem?_getD, List.getElem?_replicate]
  split <;> rfl
theorem gr_ok : matOk grM := by
  refine ⟨?_, fun i _ => ?_⟩
  · unfold ckM
    rw [if_neg (by decide), if_neg (by rw [List.length_replicate]; decide), if_pos]
    rw [List.all_replicate]
    simp
    decide
  · show fin ((List.replicate 4096 (0 : Int)).getD i 0) 64 = true
    rw [gr_get]
    decide
theorem oks_rep (n : Nat) : Oks (List.replicate n grM) := fun i m hi => by
  obtain ⟨h1, h2⟩ := List.getElem?_eq_some_iff.1 hi
  rw [List.getElem_replicate] at h2
  rw [← h2]
  exact gr_ok
theorem gr_frm : Frm grS := by
  refine ⟨by decide, by decide, by decide, ?_, ?_, oks_rep 64, fun i l hi => ?_⟩
  · show (List.replicate 64 grM).length ≤ 64
    rw [List.length_replicate]; decide
  · show (List.replicate 64 (List.replicate 4 grM)).length ≤ 64
    rw [List.length_replicate]; decide
  · obtain ⟨h1, h2⟩ := List.getElem?_eq_some_iff.1 hi
    rw [show l = List.replicate 4 grM by rw [← h2]; exact List.getElem_replicate _]
    exact ⟨by rw [List.length_replicate]; decide, oks_rep 4⟩
theorem gr_rg : SRg grS := by
  have hM : MRg grM := fun x hx => by rw [(List.mem_replicate.1 hx).2]; decide
  refine ⟨by decide, by decide, fun m hm => ?_, fun l hl m hm => ?_⟩
  · rw [(List.mem_replicate.1 hm).2]; exact hM
  · rw [(List.mem_replicate.1 hl).2] at hm
    rw [(List.mem_replicate.1 hm).2]; exact hM
theorem szl_rep (m : Mat) : ∀ n : Nat, szl (List.replicate n m) = n * szM m
  | 0 => by simp [szl]
  | n + 1 => by
    rw [List.replicate_succ]
    show szM m + szl (List.replicate n m) = _
    rw [szl_rep m n, Int.natCast_add, Int.add_mul]
    simp
    omega
theorem szq_rep (l : List Mat) : ∀ n : Nat, szq (List.replicate n l) = n * (1 + szl l)
  | 0 => by simp [szq]
  | n + 1 => by
    rw [List.replicate_succ]
    show 1 + szl l + szq (List.replicate n l) = _
    rw [szq_rep l n, Int.natCast_add, Int.add_mul]
    simp
    omega
theorem gr_len : (enc grS).length = 10487476 := by
  have h := enc_len gr_frm
  have h1 : szM grM = 32773 := by
    show 5 + Int.tdiv (((List.replicate 4096 (0 : Int)).length : Int) * 64) 8 = 32773
    rw [List.length_replicate]
    decide
  have h2 : szS grS = 10487476 := by
    show 52 + szl (List.replicate 64 grM) + szq (List.replicate 64 (List.replicate 4 grM)) = _
    rw [szq_rep, szl_rep, szl_rep, h1]
    decide
  omega
end Go.Proofs.Ytfbcdbfalopkeaa
