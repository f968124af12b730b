/- Rows picked out of a matrix. -/
import Derived.Test.YtcjgdfnbjbboeaaWr36
import Derived.Test.YtcjgdfnbjbboeaaWr37
namespace Go.Proofs.Ytcjgdfnbjbboeaa
open Go.ChangeShapes Go.WideShapes Go.ChangeAt Go.RowKit
set_option linter.unusedVariables false
set_option linter.unusedSimpArgs false

/-- rows, one behind the other -/
def pkl (M : List Int) (C : Nat) (J : List Int) : List Int := J.flatMap fun r => bpt M (r.toNat * C) C
theorem pkl_snoc (M : List Int) (C : Nat) (J : List Int) (r : Int) : pkl M C (J ++ [r]) = pkl M C J ++ bpt M (r.toNat * C) C := by simp [pkl]
/-- all are rows -/
def Jin (R : Nat) (J : List Int) : Prop := ∀ i, i < J.length → 0 ≤ J.getD i 0 ∧ J.getD i 0 < R
theorem jrow {R C : Nat} {M : List Int} (hM : M.length = R * C) {r : Int} (h0 : 0 ≤ r) (h1 : r < R) : r.toNat * C + C ≤ M.length ∧ (bpt M (r.toNat * C) C).length = C := by
  have h2 : (r.toNat + 1) * C ≤ R * C := Nat.mul_le_mul_right _ (by omega)
  rw [Nat.succ_mul] at h2
  exact ⟨by omega, bpt_len _ _ _ (by omega)⟩
theorem pkl_len (R C : Nat) (M : List Int) (hM : M.length = R * C) (J : List Int) (hJ : Jin R J) : ∀ i, i ≤ J.length → (pkl M C (J.take i)).length = i * C := by
  intro i
  induction i with
  | zero => intro _; simp [pkl]
  | succ i ih =>
    intro hi
    have e : J.take (i + 1) = J.take i ++ [J.getD i 0] := by
      rw [List.take_succ_eq_append_getElem (by omega), List.getD_eq_getElem?_getD, List.getElem?_eq_getElem (by omega)]
      rfl
    rw [e, pkl_snoc, List.length_append, ih (by omega), (jrow hM (hJ i (by omega)).1 (hJ i (by omega)).2).2, Nat.succ_mul]
theorem take_snoc (J : List Int) (i : Nat) (hi : i < J.length) : J.take (i + 1) = J.take i ++ [J.getD i 0] := by
  rw [List.take_succ_eq_append_getElem hi, List.getD_eq_getElem?_getD, List.getElem?_eq_getElem hi]
  rfl

theorem Bq.grw {w w' : World} {b g : Nat} {vs : List Value} (h : Bq w b vs) (k : Grw g w w') (hne : b ≠ g) : Bq w' b vs := by
  have hb := k.grown.block b h.lt (by simpa using hne)
  exact ⟨fun i v e => (World.cell?_of_block (w := w) (a := ⟨b, i, none⟩) hb).trans (h.c i v e), fun o => (k.frozen _).trans (h.fz o), Nat.lt_of_lt_of_le h.lt k.grown.size⟩

set_option maxHeartbeats 8000000 in
set_option maxRecDepth 100000 in
theorem picked_any (R C k : Nat) (n : Int) (hR : 0 < R) (hC : 0 < C) (hRC : R * C ≤ 4096) (M : List Int) (hM : M.length = R * C) (J : List Int) (hJl : J.length = k) (hJ : Jin R J) (hk0 : 0 < k) (hkC : k * C ≤ 4096) (b off l cap : Nat) (hl : l = R * C) (hcap : l ≤ cap) (jb jo jc : Nat) (w : World) (hb : b < w.heap.size) (hr : Reads w b off M) (hjb : jb < w.heap.size) (hjr : Reads w jb jo J) :
    Calls Try.prog 31 #[.agg #[.int .i64 R, .int .i64 C, .int .i64 n, .slice (some ⟨b, off, none⟩) l cap], .slice (some ⟨jb, jo, none⟩) k jc] w fun e w' => ∃ g, e = .returned (.agg #[.int .i64 k, .int .i64 C, .int .i64 n, .slice (some ⟨g, 0, none⟩) (k * C) (k * C)]) ∧ w.heap.size ≤ g ∧ Own w' g (k * C) (pkl M C J) ∧ Kept w w' := by
  have hk4 : k ≤ 4096 := Nat.le_trans (Nat.le_mul_of_pos_right k hC) hkC
  obtain ⟨kc, hkc⟩ : ∃ kc, k * C = kc := ⟨_, rfl⟩
  rw [hkc]
  have zk : IntKind.i64.wrap ((k : Int) * (C : Int)) = (kc : Int) := by rw [← Int.natCast_mul, hkc, wrap_i64]; omega
  obtain ⟨X, hX⟩ : ∃ X, X = (w.alloc (.cells #[.int .i64 R, .int .i64 C, .int .i64 n, .slice (some ⟨b, off, none⟩) l cap] 24)).alloc (.cells #[.int .i64 0, .int .i64 0, .int .i64 0, .slice none 0 0] 24) := ⟨_, rfl⟩
  have hK : Kept w X := by rw [hX]; exact ((Kept.refl w).alloc _ _).alloc _ _
  have hXs : X.heap.size = w.heap.size + 2 := by rw [hX]; simp
  have hQ : Bq X w.heap.size [.int .i64 R, .int .i64 C, .int .i64 n, .slice (some ⟨b, off, none⟩) l cap] := by rw [hX]; exact (Bq.new w _ 24).kept ((Kept.refl _).alloc _ _)
  have hN : Bq X (w.heap.size + 1) [.int .i64 0, .int .i64 0, .int .i64 0, .slice none 0 0] := by
    have := Bq.new (w.alloc (.cells #[.int .i64 R, .int .i64 C, .int .i64 n, .slice (some ⟨b, off, none⟩) l cap] 24)) [.int .i64 0, .int .i64 0, .int .i64 0, .slice none 0 0] 24
    rw [hX]
    simpa using this
  have HM := tmake_run 0 kc (Nat.zero_le _) (by omega) X
  have hO := town_made 0 kc (Nat.zero_le _) (by omega) X
  have kZ := (Kept.refl X).alloc (madeCells #[.int .i64 0] kc) 3
  obtain ⟨g, hg⟩ : ∃ g, g = X.heap.size := ⟨_, rfl⟩
  obtain ⟨Z, hZ⟩ : ∃ Z, Z = X.alloc (.cells (madeCells #[.int .i64 0] kc) 3) := ⟨_, rfl⟩
  rw [← hg] at HM hO
  rw [show ((0 : Nat) : Int) = 0 from rfl] at HM
  rw [← hZ] at HM hO kZ
  have hgw : w.heap.size + 2 ≤ g := by omega
  have KR : Hid (∀ (r : Nat) (u : World), r < R → Calls Try.prog 73 #[.agg #[.int .i64 R, .int .i64 C, .int .i64 n, .slice (some ⟨b, off, none⟩) l cap], .int .i64 r] u fun e w' => e = .returned (.agg #[.int .i64 1, .int .i64 C, .int .i64 n, .slice (some ⟨b, off + r * C, none⟩) C C]) ∧ Kept u w') := fun r u hr => drowOf_any R C r n hr hC (by omega) b off l cap hl hcap u
  have H0 := hidq (show Own Z g kc (pkl M C (J.take 0)) ∧ Bq Z w.heap.size [.int .i64 R, .int .i64 C, .int .i64 n, .slice (some ⟨b, off, none⟩) l cap] ∧ Bq Z (w.heap.size + 1) [.int .i64 0, .int .i64 0, .int .i64 0, .slice none 0 0] ∧ Kept w Z from ⟨by simpa [pkl] using hO, hQ.kept kZ, hN.kept kZ, hK.trans kZ⟩)
  have HR := hidq hr
  have HJ := hidq hjr
  have HP := hidq (pkl_len R C M hM J hJ)
  have HJI := hidq hJ
  have HMl := hidq hM
  have HKC := hidq hkc
  have HJL := hidq hJl
  clear hg hZ hO kZ hN hr hjr hJ hM hkc hJl hl
  go_enter Try.func31, Try.ntmps31
  go_upto_region 1 with fail
  rw [← hX]
  clear hX
  have c1 := hQ.c 1 _ rfl
  go_wp2_with fail
  clear c1
  go_loopw [5, 16] (fun lv iv wr => ∃ i : Nat, i ≤ k ∧ iv = .int .i64 i ∧ lv = .slice (some ⟨g, 0, none⟩) (i * C) kc ∧ Own wr g kc (pkl M C (J.take i)) ∧ Bq wr w.heap.size [.int .i64 R, .int .i64 C, .int .i64 n, .slice (some ⟨b, off, none⟩) l cap] ∧ Bq wr (w.heap.size + 1) [.int .i64 0, .int .i64 0, .int .i64 0, .slice none 0 0] ∧ Kept w wr) (fun _ iv _ => k - (intOf iv).toNat)
  case atStart => exact ⟨0, Nat.zero_le _, rfl, by simp, H0.out⟩
  case round =>
    obtain ⟨i, hi, rfl, rfl, ho, hq, hn, kr⟩ := hrel
    by_cases hlt : i < k
    · obtain ⟨j0, j1⟩ := HJI.out i (by rw [HJL.out]; exact hlt)
      have q1 := (kr.below.cell (p := ⟨jb, jo + i, none⟩) hjb).trans (HJ.out i (by rw [HJL.out]; exact hlt))
      obtain ⟨r, hrr⟩ : ∃ r : Nat, J.getD i 0 = (r : Int) := ⟨(J.getD i 0).toNat, by omega⟩
      rw [hrr] at q1
      have hrR : r < R := by omega
      obtain ⟨f1, f2⟩ := jrow HMl.out j0 j1
      rw [hrr, Int.toNat_natCast] at f1 f2
      have hts := take_snoc J i (by rw [HJL.out]; exact hlt)
      rw [hrr] at hts
      have hPl := HP.out i (by rw [HJL.out]; omega)
      have hroom : i * C + C ≤ kc := by
        have : (i + 1) * C ≤ k * C := Nat.mul_le_mul_right _ hlt
        rw [Nat.succ_mul, HKC.out] at this
        exact this
      have KA : Hid (∀ u, Kept wr u → (∀ ty, (Builtin.append_ #[22, 22] ty #[.slice (some ⟨g, 0, none⟩) (i * C) kc, .slice (some ⟨b, off + r * C, none⟩) C C]).run Try.prog u = .ok (.slice (some ⟨g, 0, none⟩) (i * C + C) kc) (u.setCells g (i * C) ((bpt M (r * C) C).map (Value.int .i64)))) ∧ Own (u.setCells g (i * C) ((bpt M (r * C) C).map (Value.int .i64))) g kc (pkl M C (J.take (i + 1))) ∧ Grw g u (u.setCells g (i * C) ((bpt M (r * C) C).map (Value.int .i64)))) := fun u ku => by
        have := app_room u g kc (pkl M C (J.take i)) (ho.kept ku) (bpt M (r * C) C) b (off + r * C) C C f2 (bpt_reads (fun q hq => ((kr.trans ku).below.cell hb).trans (HR.out q hq)) _ _ f1) (by rw [hPl]; exact hroom) (i * C) hPl
        rw [hts, pkl_snoc, Int.toNat_natCast]
        exact this
      have HQ := hidq (show Bq wr w.heap.size [.int .i64 R, .int .i64 C, .int .i64 n, .slice (some ⟨b, off, none⟩) l cap] ∧ Bq wr (w.heap.size + 1) [.int .i64 0, .int .i64 0, .int .i64 0, .slice none 0 0] ∧ Kept w wr from ⟨hq, hn, kr⟩)
      have c0 := hq.c 0 _ rfl
      have c1 := hq.c 1 _ rfl
      have c2 := hq.c 2 _ rfl
      have c3 := hq.c 3 _ rfl
      have b4 : (i : Int) < (k : Int) := by omega
      have z1 : IntKind.i64.wrap ((i : Int) + 1) = (i : Int) + 1 := by rw [wrap_i64]; omega
      have hfr : ∀ (x y z t : Value) (u : World), (Instr.field 24 (.agg #[x, y, z, t]) 3).run Try.prog u = .ok t u := fun x y z t u => by kernel_rfl
      obtain ⟨ic, hic⟩ : ∃ ic, i * C = ic := ⟨_, rfl⟩
      rw [hic] at KA hroom hPl
      rw [hic]
      have HIC := hidq hic
      clear ho hq hn kr j0 j1 hrr f1 f2 hts hPl hic
      go_upto_region 6 with (first | (go_at_call 73; refine (KR.out r _ hrR).mono ?_; rintro e w1 ⟨rfl, k1⟩; obtain ⟨a1, a2, a3⟩ := KA.out _ k1; have HA1 := hidq a1; clear a1) | (at_builtin; refine wpList_append_run rfl _ _ _ rfl _ _ rfl rfl _ _ (HA1.out _) ?_))
      obtain ⟨V, hV⟩ : ∃ V, V = w1.setCells g ic ((bpt M (r * C) C).map (Value.int .i64)) := ⟨_, rfl⟩
      rw [← hV] at a2 a3 ⊢
      clear hV
      go_wp2_with fail
      go_roundw
      case rel =>
        obtain ⟨h1, h2, h3⟩ := HQ.out
        exact ⟨i + 1, by omega, by go_num, by rw [Nat.succ_mul, HIC.out], a2, (h1.kept k1).grw a3 (by omega), (h2.kept k1).grw a3 (by omega), (h3.trans k1).grw (by omega) a3⟩
      case measure => simp [intOf]; omega
    · obtain rfl : i = k := by omega
      rw [HKC.out]
      have c1 := hq.c 1 _ rfl
      have c2 := hq.c 2 _ rfl
      have d0 := hn.c 0 _ rfl
      have d1 := hn.c 1 _ rfl
      have d2 := hn.c 2 _ rfl
      have d3 := hn.c 3 _ rfl
      have fz := hn.fz
      have hfin : pkl M C (J.take i) = pkl M C J := by rw [List.take_of_length_le (by rw [HJL.out]; exact Nat.le_refl _)]
      rw [hfin] at ho
      clear hfin
      go_wp2_with fail
      have hR := res4 wr (w.heap.size + 1) _ _ _ _ ⟨d0, d1, d2, d3⟩ (.int .i64 i) (.int .i64 C) (.int .i64 n) (.slice (some ⟨g, 0, none⟩) kc kc)
      obtain ⟨r0, r1, r2, r3⟩ := hR
      have hoZ := (((ho.setOther (p := ⟨w.heap.size + 1, 0, none⟩) (by show g ≠ w.heap.size + 1; omega) (.int .i64 i)).setOther (p := ⟨w.heap.size + 1, 1, none⟩) (by show g ≠ w.heap.size + 1; omega) (.int .i64 C)).setOther (p := ⟨w.heap.size + 1, 2, none⟩) (by show g ≠ w.heap.size + 1; omega) (.int .i64 n)).setOther (p := ⟨w.heap.size + 1, 3, none⟩) (by show g ≠ w.heap.size + 1; omega) (.slice (some ⟨g, 0, none⟩) kc kc)
      have hKZ := (((kr.setCell (p := ⟨w.heap.size + 1, 0, none⟩) (by simp) (.int .i64 i)).setCell (p := ⟨w.heap.size + 1, 1, none⟩) (by simp) (.int .i64 C)).setCell (p := ⟨w.heap.size + 1, 2, none⟩) (by simp) (.int .i64 n)).setCell (p := ⟨w.heap.size + 1, 3, none⟩) (by simp) (.slice (some ⟨g, 0, none⟩) kc kc)
      exact bodyPost_ret (v := .agg #[.int .i64 i, .int .i64 C, .int .i64 n, .slice (some ⟨g, 0, none⟩) kc kc]) (by simp [results, Try.f31, go_sem, r0, r1, r2, r3]) rfl ⟨g, rfl, by omega, hoZ, hKZ⟩
end Go.Proofs.Ytcjgdfnbjbboeaa
