/- The first element that is not finite: the document's Stop, package tensor's Finite. How a matrix is read. Finite and At of package tensor where they refuse. make, bare, matrix, rowOf of package tensor. -/
import Derived.Test.YtcjgdfnbjbboeaaWr24
import Derived.Test.YtcjgdfnbjbboeaaWr22
import Derived.Test.YtcjgdfnbjbboeaaWr21
namespace Go.Proofs.Ytcjgdfnbjbboeaa
open Go.ChangeShapes Go.WideShapes Go.ChangeAt Go.RowKit
set_option linter.unusedVariables false
set_option linter.unusedSimpArgs false

/-- The place of the first element that is not finite, and its error. -/
def stp (n : Int) : List Int → Nat → Int × Int
  | [], _ => (0, 0)
  | b :: l, k => if cls b n = 4 then ((k : Int), 30) else if cls b n = 3 then ((k : Int), 31) else stp n l (k + 1)
theorem cls_le (b n : Int) : cls b n ≤ 4 := by
  unfold cls clsOf
  (repeat' split) <;> omega
theorem stp_nan (n : Int) (L : List Int) (k : Nat) (hk : k < L.length) (h : cls (L.getD k 0) n = 4) : stp n (L.drop k) k = ((k : Int), 30) := by
  rw [List.drop_eq_getElem_cons hk]
  unfold stp
  rw [List.getD_eq_getElem?_getD, List.getElem?_eq_getElem hk] at h
  change cls L[k] n = 4 at h
  rw [if_pos h]
theorem stp_inf (n : Int) (L : List Int) (k : Nat) (hk : k < L.length) (h : cls (L.getD k 0) n = 3) : stp n (L.drop k) k = ((k : Int), 31) := by
  rw [List.drop_eq_getElem_cons hk]
  unfold stp
  rw [List.getD_eq_getElem?_getD, List.getElem?_eq_getElem hk] at h
  change cls L[k] n = 3 at h
  rw [if_neg (by omega), if_pos h]
theorem stp_fin (n : Int) (L : List Int) (k : Nat) (hk : k < L.length) (h : cls (L.getD k 0) n < 3) : stp n (L.drop k) k = stp n (L.drop (k + 1)) (k + 1) := by
  rw [List.drop_eq_getElem_cons hk]
  conv => lhs; unfold stp
  rw [List.getD_eq_getElem?_getD, List.getElem?_eq_getElem hk] at h
  change cls L[k] n < 3 at h
  rw [if_neg (by omega), if_neg (by omega)]
theorem stp_end (n : Int) (L : List Int) : stp n (L.drop L.length) L.length = (0, 0) := by
  rw [List.drop_length]
  rfl

set_option maxHeartbeats 400000 in
theorem rfinite_any (b n : Int) (hb1 : -9223372036854775808 ≤ b) (hb2 : b ≤ 9223372036854775807) (w : World) : Calls Try.prog 94 #[.int .i64 b, .int .i64 n] w fun e w' => e = .returned (.bool (decide (cls b n < 3))) ∧ Kept w w' := by
  have KC : Hid (∀ u, Calls Try.prog 113 #[.int .i64 b, .int .i64 n] u fun e w' => e = .returned (.int .i64 (cls b n)) ∧ Kept u w') := fun u => rclass_any b n hb1 hb2 u
  generalize cls b n = q at *
  go_enter Try.func94, Try.ntmps94
  go_wp2_with (first | (go_at_call 113; refine (KC.out _).mono ?_; rintro e w1 ⟨rfl, k1⟩))
  go_ret
  exact ⟨rfl, k1⟩

set_option maxHeartbeats 4000000 in
set_option maxRecDepth 100000 in
theorem finite_ok (r c n : Int) (b off cap : Nat) (L : List Int) (hck : ckM r c n L = 0) (hlen : L.length ≤ 4096) (w : World) (hb : b < w.heap.size) (hrd : Reads w b off L) (hS : Sl w (.slice (some ⟨b, off, none⟩) L.length cap) L) : Calls Try.prog 98 #[.agg #[.int .i64 r, .int .i64 c, .int .i64 n, .slice (some ⟨b, off, none⟩) L.length cap]] w fun e w' => e = .returned (.tuple #[.int .i64 (stp n L 0).1, .int .i64 (stp n L 0).2]) ∧ Kept w w' := by
  obtain ⟨X, hX⟩ : ∃ X, X = w.alloc (.cells #[.int .i64 r, .int .i64 c, .int .i64 n, .slice (some ⟨b, off, none⟩) L.length cap] 24) := ⟨_, rfl⟩
  have hK : Kept w X := by rw [hX]; exact (Kept.refl w).alloc _ _
  have hM : M4 X w.heap.size (.int .i64 r) (.int .i64 c) (.int .i64 n) (.slice (some ⟨b, off, none⟩) L.length cap) := by rw [hX]; exact M4.new _ _ _ _ _ _
  have KC : Hid (Calls Try.prog 96 #[.agg #[.int .i64 r, .int .i64 c, .int .i64 n, .slice (some ⟨b, off, none⟩) L.length cap]] X fun e w' => e = .returned (.int .i64 0) ∧ Kept X w') := by
    have := check_any r c n (some ⟨b, off, none⟩) cap L X (hS.kept hK)
    rw [hck] at this
    exact this
  have HR : Hid (∀ u, Kept X u → ∀ i, i < L.length → u.cell? ⟨b, off + i, none⟩ = some (.int .i64 (L.getD i 0))) := fun u k i hi => (hrd.kept hb (hK.trans k)) i hi
  have KL : Hid (∀ u i, Calls Try.prog 117 #[.int .i64 (L.getD i 0), .int .i64 n] u fun e w' => e = .returned (.int .i64 (cls (L.getD i 0) n)) ∧ Kept u w') := fun u i => class_any _ n u
  have HN : Hid (∀ k, k < L.length → cls (L.getD k 0) n = 4 → stp n (L.drop k) k = ((k : Int), 30)) := fun k hk h => stp_nan n L k hk h
  have HI : Hid (∀ k, k < L.length → cls (L.getD k 0) n = 3 → stp n (L.drop k) k = ((k : Int), 31)) := fun k hk h => stp_inf n L k hk h
  have HF : Hid (∀ k, k < L.length → cls (L.getD k 0) n < 3 → stp n (L.drop k) k = stp n (L.drop (k + 1)) (k + 1)) := fun k hk h => stp_fin n L k hk h
  have HE : Hid (stp n (L.drop L.length) L.length = (0, 0)) := stp_end n L
  have HC4 : Hid (∀ k, cls (L.getD k 0) n ≤ 4) := fun k => cls_le _ n
  obtain ⟨P, hP⟩ : ∃ P, stp n L 0 = P := ⟨_, rfl⟩
  have H0 : Hid (stp n (L.drop 0) 0 = P) := hP
  rw [hP]
  clear hck hrd hS hP
  generalize hl : L.length = l at *
  clear hl
  go_enter Try.func98, Try.ntmps98
  go_upto_region 1 with fail
  rw [← hX]
  clear hX
  have hM' := hM
  obtain ⟨m0, m1, m2, m3⟩ := hM'
  go_wp2_with (first | (go_at_call 96; refine (KC.out).mono ?_; rintro e w1 ⟨rfl, k1⟩; clear m0 m1 m2 m3; obtain ⟨m0, m1, m2, m3⟩ := hM.bl k1.bl))
  go_loopw [15] (fun iv wr => ∃ k : Nat, k ≤ l ∧ iv = .int .i64 k ∧ Hid (stp n (L.drop k) k = P) ∧ Kept X wr) (fun iv _ => l - (intOf iv).toNat)
  case atStart => exact ⟨0, Nat.zero_le _, rfl, H0, k1⟩
  case round =>
    clear m0 m1 m2 m3 H0
    obtain ⟨k, hk, rfl, hst, kk⟩ := hrel
    obtain ⟨m0, m1, m2, m3⟩ := hM.bl kk.bl
    by_cases hkl : k < l
    · have q0 := HR.out _ kk k hkl
      have KL2 : Hid (∀ u, Calls Try.prog 117 #[.int .i64 (L.getD k 0), .int .i64 n] u fun e w' => e = .returned (.int .i64 (cls (L.getD k 0) n)) ∧ Kept u w') := fun u => KL.out u k
      have h4 := HC4.out k
      have z1 : IntKind.i64.wrap ((k : Int) + 1) = (k : Int) + 1 := by rw [wrap_i64]; omega
      rcases (show cls (L.getD k 0) n = 4 ∨ cls (L.getD k 0) n = 3 ∨ cls (L.getD k 0) n < 3 by omega) with hc | hc | hc
      · have hPk : Hid (P = ((k : Int), 30)) := hst.out.symm.trans (HN.out k hkl hc)
        rw [hc] at KL2
        generalize L.getD k 0 = d at *
        clear hc h4 hst HN HI HF HE HC4 KL HR
        go_wp2_with (first | (go_at_call 117; refine (KL2.out _).mono ?_; rintro e w3 ⟨rfl, k3⟩))
        refine bodyPost_ret (v := .tuple #[.int .i64 k, .int .i64 30]) (by simp [results, Try.results98, go_sem]) rfl ⟨by rw [hPk.out], hK.trans (kk.trans k3)⟩
      · have hPk : Hid (P = ((k : Int), 31)) := hst.out.symm.trans (HI.out k hkl hc)
        rw [hc] at KL2
        generalize L.getD k 0 = d at *
        clear hc h4 hst HN HI HF HE HC4 KL HR
        go_wp2_with (first | (go_at_call 117; refine (KL2.out _).mono ?_; rintro e w3 ⟨rfl, k3⟩))
        refine bodyPost_ret (v := .tuple #[.int .i64 k, .int .i64 31]) (by simp [results, Try.results98, go_sem]) rfl ⟨by rw [hPk.out], hK.trans (kk.trans k3)⟩
      · have hPk : Hid (stp n (L.drop (k + 1)) (k + 1) = P) := (HF.out k hkl hc).symm.trans hst.out
        have c4 : (cls (L.getD k 0) n == 4) = false := by rw [beq_eq_false_iff_ne]; omega
        have c3 : (cls (L.getD k 0) n == 3) = false := by rw [beq_eq_false_iff_ne]; omega
        generalize cls (L.getD k 0) n = q at *
        generalize L.getD k 0 = d at *
        clear hc h4 hst HN HI HF HE HC4 KL HR
        go_wp2_with (first | (go_at_call 117; refine (KL2.out _).mono ?_; rintro e w3 ⟨rfl, k3⟩))
        go_roundw
        case rel => exact ⟨k + 1, by omega, by go_num, hPk, kk.trans k3⟩
        case measure => simp [intOf]; omega
    · obtain rfl : k = l := by omega
      have hPk : Hid (P = (0, 0)) := hst.out.symm.trans HE.out
      clear hst HN HI HF HE HC4 KL HR
      go_wp2_with fail
      refine bodyPost_ret (v := .tuple #[.int .i64 0, .int .i64 0]) (by simp [results, Try.results98, go_sem]) rfl ⟨by rw [hPk.out], hK.trans kk⟩
end Go.Proofs.Ytcjgdfnbjbboeaa

namespace Go.Proofs.Ytcjgdfnbjbboeaa
open Go.ChangeShapes Go.WideShapes Go.ChangeAt Go.RowKit
set_option linter.unusedVariables false
set_option linter.unusedSimpArgs false

end Go.Proofs.Ytcjgdfnbjbboeaa

namespace Go.Proofs.Ytcjgdfnbjbboeaa
open Go.ChangeShapes Go.WideShapes Go.ChangeAt Go.RowKit
set_option linter.unusedVariables false
set_option linter.unusedSimpArgs false

theorem tmake_run (l n : Nat) (hl : l ≤ n) (hn : n < 100000000) (w : World) : (Instr.makeSlice 22 (.int .i64 (l : Int)) (.int .i64 (n : Int))).run Try.prog w = .ok (.slice (some ⟨w.heap.size, 0, none⟩) l n) (w.alloc (.cells (madeCells #[.int .i64 0] n) 3)) := by
  obtain ⟨i, hi, hz, hs, hby⟩ := info_parts (int_info)
  have := run_make (P := Try.prog) w 22 3 i (.int .i64 0) li_under hi hz .i64 .i64 (l : Int) (n : Int) (by omega) (by omega) (by rw [hby]; omega) (by omega)
  rw [hs, Int.toNat_natCast, Int.toNat_natCast, Nat.mul_one] at this
  exact this
theorem town_made (l n : Nat) (hl : l ≤ n) (hn : n < 100000000) (w : World) : Own (w.alloc (.cells (madeCells #[.int .i64 0] n) 3)) w.heap.size n (List.replicate l 0) := by
  refine ⟨_, heap_alloc_new w _, by simpa using hl, by simp [maxLen]; omega, by simp [size_madeCells], ?_⟩
  rw [List.length_replicate, toList_madeCells_one]
  simp [List.take_replicate, Nat.min_eq_left hl]

theorem Grw.size {g : Nat} {a b : World} (h : Grw g a b) : a.heap.size ≤ b.heap.size := h.grown.size

/-- Every element is an int. -/
def Rgl (L : List Int) : Prop := ∀ i, i < L.length → -9223372036854775808 ≤ L.getD i 0 ∧ L.getD i 0 ≤ 9223372036854775807

theorem res4 (w : World) (B : Nat) (a b c d : Value) (h : M4 w B a b c d) (x y z u : Value) : M4 ((((w.setCell ⟨B, 0, none⟩ x).setCell ⟨B, 1, none⟩ y).setCell ⟨B, 2, none⟩ z).setCell ⟨B, 3, none⟩ u) B x y z u := by
  obtain ⟨c0, c1, c2, c3⟩ := h
  exact ⟨by simp [go_sem, *], by simp [go_sem, *], by simp [go_sem, *], by simp [go_sem, *]⟩

end Go.Proofs.Ytcjgdfnbjbboeaa
