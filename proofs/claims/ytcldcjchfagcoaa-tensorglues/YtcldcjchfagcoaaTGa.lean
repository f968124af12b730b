/- Lists of matrices: how they lie; checkAll of package tensor. Shapes, ColsGlued and RowsGlued of package tensor. ColsGlued and RowsGlued of package tensor. GlueRows of package tensor. GlueCols of package tensor. -/
import Derived.Test.YtcldcjchfagcoaaT42
import Derived.Test.YtcldcjchfagcoaaT8
import Derived.Test.YtcldcjchfagcoaaTP
namespace Go.Proofs.Ytcldcjchfagcoaa
open Go.ChangeShapes Go.WideShapes Go.ChangeAt Go.RowKit
set_option linter.unusedVariables false
set_option linter.unusedSimpArgs false

/-- A list of matrices, as it lies: k of them from a place on. -/
structure Lm (u : World) (B off k : Nat) (r c n : Nat → Int) (a : Nat → Option Addr) (cap : Nat → Nat) (L : Nat → List Int) : Prop where
  lt : B < u.heap.size
  rd : ∀ i, i < k → u.cell? ⟨B, off + i * 4, none⟩ = some (.int .i64 (r i)) ∧ u.cell? ⟨B, off + i * 4 + 1, none⟩ = some (.int .i64 (c i)) ∧ u.cell? ⟨B, off + i * 4 + 2, none⟩ = some (.int .i64 (n i)) ∧ u.cell? ⟨B, off + i * 4 + 3, none⟩ = some (.slice (a i) (L i).length (cap i))
  sl : ∀ i, i < k → Sl u (.slice (a i) (L i).length (cap i)) (L i)
theorem Lm.bl {u u' : World} {B off k : Nat} {r c n : Nat → Int} {a : Nat → Option Addr} {cap : Nat → Nat} {L : Nat → List Int} (h : Lm u B off k r c n a cap L) (kk : Bl u u') : Lm u' B off k r c n a cap L := by
  refine ⟨Nat.lt_of_lt_of_le h.lt kk.size, fun i hi => ?_, fun i hi => (h.sl i hi).bl kk⟩
  obtain ⟨h0, h1, h2, h3⟩ := h.rd i hi
  exact ⟨(kk.cell B _ h.lt).trans h0, (kk.cell B _ h.lt).trans h1, (kk.cell B _ h.lt).trans h2, (kk.cell B _ h.lt).trans h3⟩

set_option maxHeartbeats 2000000 in
theorem checkAll_nil (la : Option Addr) (lc : Nat) (w : World) : Calls Try.prog 67 #[.slice la 0 lc] w fun e w' => e = .returned (.int .i64 1) ∧ Kept w w' := by
  go_enter Try.func67, Try.ntmps67
  go_wp2_with fail
  go_ret
  exact ⟨rfl, Kept.refl w⟩

set_option maxHeartbeats 4000000 in
set_option maxRecDepth 100000 in
/-- checkAll: the first one's error; none, if all are in form. -/
theorem checkAll_any (B off k lc : Nat) (hk0 : 0 < k) (hk : k ≤ 1000000) (r c n : Nat → Int) (a : Nat → Option Addr) (cap : Nat → Nat) (L : Nat → List Int) (w : World) (hM : Lm w B off k r c n a cap L) (q : Int)
    (hq : (q = 0 ∧ ∀ i, i < k → ckM (r i) (c i) (n i) (L i) = 0) ∨ (q ≠ 0 ∧ ∃ j, j < k ∧ ckM (r j) (c j) (n j) (L j) = q ∧ ∀ i, i < j → ckM (r i) (c i) (n i) (L i) = 0)) :
    Calls Try.prog 67 #[.slice (some ⟨B, off, none⟩) k lc] w fun e w' => e = .returned (.int .i64 q) ∧ Kept w w' := by
  have HM : Hid (∀ u, Kept w u → Lm u B off k r c n a cap L) := fun u kk => hM.bl kk.bl
  have HC : Hid (∀ i u, i < k → Kept w u → Calls Try.prog 11 #[.agg #[.int .i64 (r i), .int .i64 (c i), .int .i64 (n i), .slice (a i) (L i).length (cap i)]] u fun e w' => e = .returned (.int .i64 (ckM (r i) (c i) (n i) (L i))) ∧ Kept w w') := fun i u hi kk => by
    refine (check_any (r i) (c i) (n i) (a i) (cap i) (L i) u ((HM.out u kk).sl i hi)).mono ?_
    rintro e w' ⟨rfl, k2⟩
    exact ⟨rfl, kk.trans k2⟩
  have HQ : Hid ((q = 0 ∧ ∀ i, i < k → ckM (r i) (c i) (n i) (L i) = 0) ∨ (q ≠ 0 ∧ ∃ j, j < k ∧ ckM (r j) (c j) (n j) (L j) = q ∧ ∀ i, i < j → ckM (r i) (c i) (n i) (L i) = 0)) := hq
  have hkz : ((k : Int) == 0) = false := by simp; omega
  clear hq hM
  go_enter Try.func67, Try.ntmps67
  go_wp2_with fail
  go_loopw [11] (fun iv wr => ∃ i : Nat, i ≤ k ∧ iv = .int .i64 i ∧ Kept w wr ∧ ∀ x, x < i → ckM (r x) (c x) (n x) (L x) = 0) (fun iv _ => k - (intOf iv).toNat)
  case atStart => exact ⟨0, Nat.zero_le _, rfl, Kept.refl w, fun x hx => by omega⟩
  case round =>
    obtain ⟨i, hi, rfl, kr, hall⟩ := hrel
    have HA : Hid (∀ x, x < i → ckM (r x) (c x) (n x) (L x) = 0) := hall
    clear hall
    by_cases hik : i < k
    · obtain ⟨c0, c1, c2, c3⟩ := (HM.out wr kr).rd i hik
      have z0 : IntKind.i64.wrap ((i : Int) + 1) = (i : Int) + 1 := by rw [wrap_i64]; omega
      have KC := fun u => HC.out i u hik
      have HK : Hid _ := KC
      clear KC HC HM
      by_cases hz : ckM (r i) (c i) (n i) (L i) = 0
      · rw [hz] at HK
        go_wp2_with (first | (go_at_call 11; refine (HK.out _ (kr.alloc _ _)).mono ?_; rintro e w5 ⟨rfl, k5⟩))
        go_roundw
        case rel => exact ⟨i + 1, by omega, by go_num, k5, fun x hx => (Nat.lt_succ_iff_lt_or_eq.1 hx).elim (fun h => HA.out x h) (fun h => by rw [h]; exact hz)⟩
        case measure => simp [intOf]; omega
      · have hqe : ckM (r i) (c i) (n i) (L i) = q := by
          rcases HQ.out with ⟨-, h⟩ | ⟨hn0, j, hj, he, h⟩
          · exact absurd (h i hik) hz
          · rcases Nat.lt_trichotomy i j with h1 | h1 | h1
            · exact absurd (h i h1) hz
            · subst h1; exact he
            · exact absurd ((HA.out j h1).symm.trans he).symm (by assumption)
        rw [hqe] at HK hz
        have hz2 : (q != 0) = true := by simpa using hz
        go_wp2_with (first | (go_at_call 11; refine (HK.out _ (kr.alloc _ _)).mono ?_; rintro e w5 ⟨rfl, k5⟩))
        go_ret
        exact ⟨rfl, k5⟩
    · obtain rfl : i = k := by omega
      have hq0 : q = 0 := by
        rcases HQ.out with ⟨h, -⟩ | ⟨h0, j, hj, he, h⟩
        · exact h
        · exact absurd ((HA.out j hj).symm.trans he).symm h0
      subst hq0
      go_wp2_with fail
      go_ret
      exact ⟨rfl, kr⟩

/-- A list of shapes, as it lies. -/
structure Ls (u : World) (B off k : Nat) (r c n : Nat → Int) : Prop where
  lt : B < u.heap.size
  rd : ∀ i, i < k → u.cell? ⟨B, off + i * 3, none⟩ = some (.int .i64 (r i)) ∧ u.cell? ⟨B, off + i * 3 + 1, none⟩ = some (.int .i64 (c i)) ∧ u.cell? ⟨B, off + i * 3 + 2, none⟩ = some (.int .i64 (n i))
theorem Ls.bl {u u' : World} {B off k : Nat} {r c n : Nat → Int} (h : Ls u B off k r c n) (kk : Bl u u') : Ls u' B off k r c n := by
  refine ⟨Nat.lt_of_lt_of_le h.lt kk.size, fun i hi => ?_⟩
  obtain ⟨h0, h1, h2⟩ := h.rd i hi
  exact ⟨(kk.cell B _ h.lt).trans h0, (kk.cell B _ h.lt).trans h1, (kk.cell B _ h.lt).trans h2⟩

end Go.Proofs.Ytcldcjchfagcoaa

namespace Go.Proofs.Ytcldcjchfagcoaa
open Go.ChangeShapes Go.WideShapes Go.ChangeAt Go.RowKit
set_option linter.unusedVariables false
set_option linter.unusedSimpArgs false

/-- The cells of the first i shapes. -/
def shl (i : Nat) (r c n : Nat → Int) : List Value := (List.range i).flatMap fun j => [.int .i64 (r j), .int .i64 (c j), .int .i64 (n j)]
theorem shl_succ (i : Nat) (r c n : Nat → Int) : shl (i + 1) r c n = shl i r c n ++ [.int .i64 (r i), .int .i64 (c i), .int .i64 (n i)] := by
  unfold shl
  rw [List.range_succ, List.flatMap_append]
  simp
theorem shl_length (i : Nat) (r c n : Nat → Int) : (shl i r c n).length = i * 3 := by
  induction i with
  | zero => rfl
  | succ i ih => rw [shl_succ, List.length_append, ih, Nat.succ_mul]; rfl
theorem shl_get (i : Nat) (r c n : Nat → Int) (j : Nat) (hj : j < i) : (shl i r c n)[j * 3]? = some (.int .i64 (r j)) ∧ (shl i r c n)[j * 3 + 1]? = some (.int .i64 (c j)) ∧ (shl i r c n)[j * 3 + 2]? = some (.int .i64 (n j)) := by
  induction i with
  | zero => omega
  | succ i ih =>
    rw [shl_succ]
    have hl := shl_length i r c n
    rcases Nat.lt_or_ge j i with h | h
    · obtain ⟨h0, h1, h2⟩ := ih h
      rw [List.getElem?_append_left (by omega), List.getElem?_append_left (by omega), List.getElem?_append_left (by omega)]
      exact ⟨h0, h1, h2⟩
    · obtain rfl : j = i := by omega
      rw [List.getElem?_append_right (by omega), List.getElem?_append_right (by omega), List.getElem?_append_right (by omega), hl]
      refine ⟨?_, ?_, ?_⟩
      · rw [Nat.sub_self]; rfl
      · rw [show j * 3 + 1 - j * 3 = 1 by omega]; rfl
      · rw [show j * 3 + 2 - j * 3 = 2 by omega]; rfl
theorem ls_own {u : World} {g k : Nat} {r c n : Nat → Int} (h : OwnS u g k 3 44 (shl k r c n)) : Ls u g 0 k r c n := by
  refine ⟨h.lt, fun i hi => ?_⟩
  obtain ⟨h0, h1, h2⟩ := shl_get k r c n i hi
  rw [Nat.zero_add]
  exact ⟨h.cell _ _ h0, h.cell _ _ h1, h.cell _ _ h2⟩
theorem own_put3 {u : World} {g k i : Nat} {r c n : Nat → Int} (h : OwnS u g k 3 44 (shl i r c n)) (hi : i < k) : OwnS (((u.setCell ⟨g, i * 3, none⟩ (.int .i64 (r i))).setCell ⟨g, i * 3 + 1, none⟩ (.int .i64 (c i))).setCell ⟨g, i * 3 + 2, none⟩ (.int .i64 (n i))) g k 3 44 (shl (i + 1) r c n) := by
  have hl := shl_length i r c n
  have h1 := h.push (by omega) (.int .i64 (r i))
  have h2 := h1.push (by simp; omega) (.int .i64 (c i))
  have h3 := h2.push (by simp; omega) (.int .i64 (n i))
  simp only [List.length_append, List.length_singleton, hl] at h3
  rw [shl_succ]
  simpa using h3

theorem shp_info : (Try.prog.info? 44).map (fun i => (i.zero, i.size, i.bytes)) = some (some (.agg #[.int .i64 0, .int .i64 0, .int .i64 0]), 3, 24) := by kernel_rfl
theorem shp_under : Try.prog.underlying 71 = some (.slice 44) := by kernel_rfl
theorem makeS_run (k : Nat) (hk : k ≤ 1000000) (w : World) : (Instr.makeSlice 71 (.int .i64 (k : Int)) (.int .i64 (k : Int))).run Try.prog w = .ok (.slice (some ⟨w.heap.size, 0, none⟩) k k) (w.alloc (.cells (madeCells #[.int .i64 0, .int .i64 0, .int .i64 0] (k * 3)) 44)) := by
  obtain ⟨i, hi, hz, hs, hby⟩ := info_parts shp_info
  have := run_make (P := Try.prog) w 71 44 i _ shp_under hi hz .i64 .i64 (k : Int) (k : Int) (by omega) (Int.le_refl _) (by rw [hby]; omega) (by omega)
  rw [hs, Int.toNat_natCast] at this
  exact this
theorem ownS_made (k : Nat) (hk : k ≤ 1000000) (r c n : Nat → Int) (w : World) : OwnS (w.alloc (.cells (madeCells #[.int .i64 0, .int .i64 0, .int .i64 0] (k * 3)) 44)) w.heap.size k 3 44 (shl 0 r c n) :=
  ⟨_, heap_alloc_new w _, by simp [shl], by simp [maxLen]; omega, by simp [size_madeCells], by simp [shl]⟩

set_option maxHeartbeats 4000000 in
set_option maxRecDepth 100000 in
theorem shapes_any (B off k lc : Nat) (hk : k ≤ 1000000) (r c n : Nat → Int) (a : Nat → Option Addr) (cap : Nat → Nat) (L : Nat → List Int) (w : World) (hM : Lm w B off k r c n a cap L) :
    Calls Try.prog 69 #[.slice (some ⟨B, off, none⟩) k lc] w fun e w' => ∃ g, e = .returned (.slice (some ⟨g, 0, none⟩) k k) ∧ Ls w' g 0 k r c n ∧ Kept w w' := by
  have hm := makeS_run k hk w
  have ho := ownS_made k hk r c n w
  have hK0 : Kept w (w.alloc (.cells (madeCells #[.int .i64 0, .int .i64 0, .int .i64 0] (k * 3)) 44)) := (Kept.refl w).alloc _ _
  obtain ⟨X, hX⟩ : ∃ X, X = w.alloc (.cells (madeCells #[.int .i64 0, .int .i64 0, .int .i64 0] (k * 3)) 44) := ⟨_, rfl⟩
  rw [← hX] at hm ho hK0
  clear hX
  have hBl := hM.lt
  have HM : Hid (∀ u, Kept w u → Lm u B off k r c n a cap L) := fun u kk => hM.bl kk.bl
  have KA : Hid (∀ i u, Calls Try.prog 45 #[.agg #[.int .i64 (r i), .int .i64 (c i), .int .i64 (n i), .slice (a i) (L i).length (cap i)]] u fun e w' => e = .returned (.agg #[.int .i64 (r i), .int .i64 (c i), .int .i64 (n i)]) ∧ Kept u w') := fun i u => shapeOf_any _ _ _ _ u
  clear hM
  go_enter Try.func69, Try.ntmps69
  go_wp2_with fail
  clear hm
  go_loopw [11] (fun iv wr => ∃ i : Nat, i ≤ k ∧ iv = .int .i64 i ∧ Kept w wr ∧ OwnS wr w.heap.size k 3 44 (shl i r c n)) (fun iv _ => k - (intOf iv).toNat)
  case atStart => exact ⟨0, Nat.zero_le _, rfl, hK0, ho⟩
  case round =>
    obtain ⟨i, hi, rfl, kr, hO⟩ := hrel
    clear ho hK0
    by_cases hik : i < k
    · obtain ⟨c0, c1, c2, c3⟩ := (HM.out wr kr).rd i hik
      have z0 : IntKind.i64.wrap ((i : Int) + 1) = (i : Int) + 1 := by rw [wrap_i64]; omega
      have KA2 := KA.out i
      have HK : Hid _ := KA2
      have HO : Hid (∀ u, Kept wr u → OwnS u w.heap.size k 3 44 (shl i r c n)) := fun u kk => hO.kept kk
      clear KA KA2 HM hO
      have hsz := kr.below.size
      generalize (L i).length = li at *
      go_wp2_with (first | (go_at_call 45; refine (HK.out _).mono ?_; rintro e w5 ⟨rfl, k5⟩; have k5' := ((Kept.refl wr).alloc _ _).trans k5; have hO5 := HO.out _ k5'; have s0 := hO5.some (i * 3) (by omega); have s1 := hO5.some (i * 3 + 1) (by omega); have s2 := hO5.some (i * 3 + 2) (by omega); obtain ⟨v0, s0⟩ := Option.isSome_iff_exists.1 s0; obtain ⟨v1, s1⟩ := Option.isSome_iff_exists.1 s1; obtain ⟨v2, s2⟩ := Option.isSome_iff_exists.1 s2; have f0 := hO5.free (i * 3); have f1 := hO5.free (i * 3 + 1); have f2 := hO5.free (i * 3 + 2)))
      go_roundw
      case rel => exact ⟨i + 1, by omega, by go_num, (((kr.trans k5').setCell (by simp) _).setCell (by simp) _).setCell (by simp) _, own_put3 hO5 hik⟩
      case measure => simp [intOf]; omega
    · obtain rfl : i = k := by omega
      have hL := ls_own hO
      go_wp2_with fail
      go_ret
      exact ⟨_, rfl, hL, kr⟩
end Go.Proofs.Ytcldcjchfagcoaa

namespace Go.Proofs.Ytcldcjchfagcoaa
open Go.ChangeShapes Go.WideShapes Go.ChangeAt Go.RowKit
set_option linter.unusedVariables false
set_option linter.unusedSimpArgs false

/-- The sum of the first k. -/
def sm (c : Nat → Int) : Nat → Int
  | 0 => 0
  | k + 1 => sm c k + c k
theorem sm_le (c : Nat → Int) (m : Int) (k : Nat) (h : ∀ i, i < k → 0 ≤ c i ∧ c i ≤ m) : 0 ≤ sm c k ∧ sm c k ≤ m * k := by
  induction k with
  | zero => simp [sm]
  | succ k ih =>
    have h1 := ih (fun i hi => h i (by omega))
    have h2 := h k (by omega)
    rw [sm, Int.natCast_add, Int.mul_add]
    simp only [Int.natCast_one, Int.mul_one]
    omega
/-- What glueing shapes side by side answers. -/
def GlE (k : Nat) (r c n : Nat → Int) (a b d e : Int) : Prop :=
  ((∃ i, i < k ∧ n i ≠ n 0) ∧ a = 0 ∧ b = 0 ∧ d = 0 ∧ e = 3) ∨
  ((∀ i, i < k → n i = n 0) ∧ (∃ i, i < k ∧ r i ≠ r 0) ∧ a = 0 ∧ b = 0 ∧ d = 0 ∧ e = 4) ∨
  ((∀ i, i < k → n i = n 0) ∧ (∀ i, i < k → r i = r 0) ∧ e = ckR (r 0) (sm c k) ∧ (e = 0 → a = r 0 ∧ b = sm c k ∧ d = n 0) ∧ (e ≠ 0 → a = 0 ∧ b = 0 ∧ d = 0))

set_option maxHeartbeats 4000000 in
set_option maxRecDepth 100000 in
theorem colsGlued_any (B off k lc : Nat) (hk0 : 0 < k) (hk : k ≤ 1000000) (r c n : Nat → Int) (hc : ∀ i, i < k → 1 ≤ c i ∧ c i ≤ 1000000) (w : World) (hM : Ls w B off k r c n) (ea eb ed e : Int) (hE : GlE k r c n ea eb ed e) :
    Calls Try.prog 68 #[.slice (some ⟨B, off, none⟩) k lc] w fun x w' => x = .returned (.tuple #[.agg #[.int .i64 ea, .int .i64 eb, .int .i64 ed], .int .i64 e]) ∧ Kept w w' := by
  obtain ⟨X, hX⟩ : ∃ X, X = w.alloc (.cells #[.int .i64 0, .int .i64 0, .int .i64 0] 44) := ⟨_, rfl⟩
  have hK : Kept w X := by rw [hX]; exact (Kept.refl w).alloc _ _
  have hR : M3 X w.heap.size (.int .i64 0) (.int .i64 0) (.int .i64 0) := by rw [hX]; exact M3.new _ _ _ _ _
  have hF : ∀ o, X.frozen? ⟨w.heap.size, o, none⟩ = false := fun o => by rw [hX]; simp [go_sem]
  have HM : Hid (∀ u, Kept X u → Ls u B off k r c n) := fun u kk => hM.bl (hK.trans kk).bl
  have HF : Hid (∀ o, X.frozen? ⟨w.heap.size, o, none⟩ = false) := hF
  have HE : Hid (GlE k r c n ea eb ed e) := hE
  have HS : Hid (∀ j, j ≤ k → 0 ≤ sm c j ∧ sm c j ≤ 1000000 * j) := fun j hj => sm_le c 1000000 j (fun i hi => by have := hc i (by omega); omega)
  have HC : Hid (∀ i, i < k → 1 ≤ c i ∧ c i ≤ 1000000) := hc
  have HD : Hid (∀ u, Kept w u → Kept w u ∧ u.cell? ⟨B, off, none⟩ = some (.int .i64 (r 0)) ∧ u.cell? ⟨B, off + 2, none⟩ = some (.int .i64 (n 0))) := fun u ku => by
    obtain ⟨d0, d1, d2⟩ := (hM.bl ku.bl).rd 0 hk0
    rw [Nat.zero_mul, Nat.add_zero] at d0 d1 d2
    exact ⟨ku, d0, d2⟩
  clear hE hF hM hc
  go_enter Try.func68, Try.ntmps68
  go_upto_region 1 with fail
  rw [← hX]
  clear hX
  go_wp2_with fail
  go_loopw [11] (fun iv wr => ∃ i : Nat, i ≤ k ∧ iv = .int .i64 i ∧ Kept X wr ∧ ∀ x, x < i → n x = n 0) (fun iv _ => k - (intOf iv).toNat)
  case atStart => exact ⟨0, Nat.zero_le _, rfl, Kept.refl X, fun x hx => by omega⟩
  case round =>
    obtain ⟨i, hi, rfl, kr, hall⟩ := hrel
    have HA : Hid (∀ x, x < i → n x = n 0) := hall
    clear hall
    by_cases hik : i < k
    · obtain ⟨c0, c1, c2⟩ := (HM.out wr kr).rd i hik
      obtain ⟨d0, d1, d2⟩ := (HM.out wr kr).rd 0 hk0
      rw [Nat.zero_mul, Nat.add_zero] at d0 d1 d2
      have z0 : IntKind.i64.wrap ((i : Int) + 1) = (i : Int) + 1 := by rw [wrap_i64]; omega
      have HLt := (HM.out wr kr).lt
      clear HM
      by_cases hz : n i = n 0
      · have hz2 : (n i != n 0) = false := by simpa using hz
        have hz3 : (n i == n 0) = true := by simpa using hz
        go_upto_region 4 with fail
        go_quiet (fail)
        go_wp2_with fail
        go_roundw
        case rel => exact ⟨i + 1, by omega, by go_num, by (repeat' first | exact kr | exact Kept.drew (by assumption) | exact Kept.alloc kr _ _ | refine Kept.drewN ?_ _ | refine Kept.drew ?_ | refine Kept.alloc ?_ _ _), fun x hx => (Nat.lt_succ_iff_lt_or_eq.1 hx).elim (fun h => HA.out x h) (fun h => by rw [h]; exact hz)⟩
        case measure => simp [intOf]; omega
      · have hz2 : (n i != n 0) = true := by simpa using hz
        have hz3 : (n i == n 0) = false := by simpa using hz
        obtain ⟨rfl, rfl, rfl, rfl⟩ : ea = 0 ∧ eb = 0 ∧ ed = 0 ∧ e = 3 := by
          rcases HE.out with ⟨-, h⟩ | ⟨h, -⟩ | ⟨h, -⟩
          · exact h
          · exact absurd (h i hik) hz
          · exact absurd (h i hik) hz
        go_upto_region 4 with fail
        obtain ⟨Y, hY⟩ : ∃ Y, Y = wr.alloc (.cells #[.int .i64 (r i), .int .i64 (c i), .int .i64 (n i)] 44) := ⟨_, rfl⟩
        rw [← hY]
        have kY : Kept X Y := by rw [hY]; exact kr.alloc _ _
        have hYs : M3 Y wr.heap.size (.int .i64 (r i)) (.int .i64 (c i)) (.int .i64 (n i)) := by rw [hY]; exact M3.new _ _ _ _ _
        have e2 : Y.cell? ⟨B, off + 2, none⟩ = some (.int .i64 (n 0)) := by rw [hY]; exact (((Bl.refl wr).alloc _).cell B _ HLt).trans d2
        have hr1 := hR.bl kY.bl
        have f1 : ∀ o, Y.frozen? ⟨w.heap.size, o, none⟩ = false := fun o => (kY.frozen _).trans (HF.out o)
        obtain ⟨s0, s1, s2⟩ := hYs
        clear hY c0 c1 c2 d0 d1 d2 HE HA HS HC
        go_quiet (fail)
        obtain ⟨p0, p1, p2⟩ := M3.put (Y.drewN 3) _ _ _ _ (hr1.bl ((Bl.refl Y).drewN 3)) (.int .i64 0) (.int .i64 0) (.int .i64 0)
        obtain ⟨r0, r1, r2⟩ := hr1
        go_wp2_with fail
        exact bodyPost_ret (v := .tuple #[.agg #[.int .i64 0, .int .i64 0, .int .i64 0], .int .i64 3]) (by simp [results, Try.results68, go_sem, *]) rfl ⟨rfl, (((hK.trans kY).drewN _).setCell (by simp) _).setCell (by simp) _ |>.setCell (by simp) _⟩
    · obtain rfl : i = k := by omega
      have HA1 : Hid (∀ x, x < i → n x = n 0) := HA
      clear HA
      go_wp2_with fail
      have k1 := kr
      clear kr
      go_loopw [6, 26] (fun sv iv wq => ∃ j : Nat, j ≤ i ∧ iv = .int .i64 j ∧ sv = .int .i64 (sm c j) ∧ Kept X wq ∧ ∀ x, x < j → r x = r 0) (fun _ iv _ => i - (intOf iv).toNat)
      case atStart => exact ⟨0, Nat.zero_le _, rfl, rfl, k1, fun x hx => by omega⟩
      case round =>
        obtain ⟨j, hj, rfl, rfl, kr, hall⟩ := hrel
        have HA : Hid (∀ x, x < j → r x = r 0) := hall
        clear hall k1
        obtain ⟨d0, d1, d2⟩ := (HM.out wr kr).rd 0 hk0
        rw [Nat.zero_mul, Nat.add_zero] at d0 d1 d2
        have HLt := (HM.out wr kr).lt
        by_cases hik : j < i
        · obtain ⟨c0, c1, c2⟩ := (HM.out wr kr).rd j hik
          have z0 : IntKind.i64.wrap ((j : Int) + 1) = (j : Int) + 1 := by rw [wrap_i64]; omega
          have z1 : IntKind.i64.wrap (sm c j + c j) = sm c (j + 1) := by
            have h1 := HS.out (j + 1) (by omega)
            rw [sm] at h1 ⊢
            rw [wrap_i64]
            omega
          clear HM
          go_upto_region 11 with fail
          obtain ⟨Y, hY⟩ : ∃ Y, Y = wr.alloc (.cells #[.int .i64 (r j), .int .i64 (c j), .int .i64 (n j)] 44) := ⟨_, rfl⟩
          rw [← hY]
          have kY : Kept X Y := by rw [hY]; exact kr.alloc _ _
          have hYs : M3 Y wr.heap.size (.int .i64 (r j)) (.int .i64 (c j)) (.int .i64 (n j)) := by rw [hY]; exact M3.new _ _ _ _ _
          have e0 : Y.cell? ⟨B, off, none⟩ = some (.int .i64 (r 0)) := by rw [hY]; exact (((Bl.refl wr).alloc _).cell B _ HLt).trans d0
          obtain ⟨s0, s1, s2⟩ := hYs
          clear hY c0 c1 c2 d0 d1 d2
          by_cases hz : r j = r 0
          · have hz2 : (r j != r 0) = false := by simpa using hz
            have hz3 : (r j == r 0) = true := by simpa using hz
            go_quiet (fail)
            go_wp2_with fail
            go_roundw
            case rel => exact ⟨j + 1, by omega, by go_num, rfl, kY.drewN _, fun x hx => (Nat.lt_succ_iff_lt_or_eq.1 hx).elim (fun h => HA.out x h) (fun h => by rw [h]; exact hz)⟩
            case measure => simp [intOf]; omega
          · have hz2 : (r j != r 0) = true := by simpa using hz
            have hz3 : (r j == r 0) = false := by simpa using hz
            obtain ⟨rfl, rfl, rfl, rfl⟩ : ea = 0 ∧ eb = 0 ∧ ed = 0 ∧ e = 4 := by
              rcases HE.out with ⟨⟨x, hx, h⟩, -⟩ | ⟨-, -, h⟩ | ⟨-, h, -⟩
              · exact absurd (HA1.out x hx) h
              · exact h
              · exact absurd (h j hik) hz
            have hr1 := hR.bl kY.bl
            have f1 : ∀ o, Y.frozen? ⟨w.heap.size, o, none⟩ = false := fun o => (kY.frozen _).trans (HF.out o)
            clear HE HA HS HC HA1
            go_quiet (fail)
            obtain ⟨p0, p1, p2⟩ := M3.put (Y.drewN 3) _ _ _ _ (hr1.bl ((Bl.refl Y).drewN 3)) (.int .i64 0) (.int .i64 0) (.int .i64 0)
            obtain ⟨r0, r1, r2⟩ := hr1
            go_wp2_with fail
            exact bodyPost_ret (v := .tuple #[.agg #[.int .i64 0, .int .i64 0, .int .i64 0], .int .i64 4]) (by simp [results, Try.results68, go_sem, *]) rfl ⟨rfl, (((hK.trans kY).drewN _).setCell (by simp) _).setCell (by simp) _ |>.setCell (by simp) _⟩
        · obtain rfl : j = i := by omega
          have hall : e = ckR (r 0) (sm c j) ∧ (e = 0 → ea = r 0 ∧ eb = sm c j ∧ ed = n 0) ∧ (e ≠ 0 → ea = 0 ∧ eb = 0 ∧ ed = 0) := by
            rcases HE.out with ⟨⟨x, hx, h⟩, -⟩ | ⟨-, ⟨x, hx, h⟩, -⟩ | ⟨-, -, h⟩
            · exact absurd (HA1.out x hx) h
            · exact absurd (HA.out x hx) h
            · exact h
          have hpos : 1 ≤ sm c j := by
            obtain ⟨m, rfl⟩ : ∃ m, j = m + 1 := ⟨j - 1, by omega⟩
            rw [sm]
            have h1 := HC.out m (by omega)
            have h2 := HS.out m (by omega)
            omega
          have KR : Hid (∀ u, Kept wr u → Calls Try.prog 60 #[.agg #[.int .i64 (r 0), .int .i64 (sm c j), .int .i64 (n 0)]] u fun x w' => x = .returned (.tuple #[.agg #[.int .i64 ea, .int .i64 eb, .int .i64 ed], .int .i64 e]) ∧ Kept wr w') := fun u ku => by
            refine (roomy_any (r 0) (sm c j) (n 0) hpos u).mono ?_
            rintro x w' ⟨rfl, k2⟩
            obtain ⟨h1, h2, h3⟩ := hall
            refine ⟨?_, ku.trans k2⟩
            by_cases he : e = 0
            · obtain ⟨rfl, rfl, rfl⟩ := h2 he
              rw [← h1, he, if_pos rfl]
            · obtain ⟨rfl, rfl, rfl⟩ := h3 he
              rw [← h1, if_neg he]
          have HR : Hid (∀ u, Kept wr u → M3 u w.heap.size (.int .i64 0) (.int .i64 0) (.int .i64 0) ∧ ∀ o, u.frozen? ⟨w.heap.size, o, none⟩ = false) := fun u ku => ⟨hR.bl (kr.trans ku).bl, fun o => ((kr.trans ku).frozen _).trans (HF.out o)⟩
          clear HE HA HS HC HA1 HM hall
          generalize sm c j = q at *
          go_upto_region 15 with fail
          have kd := (Kept.refl wr).drew
          have kdw := (hK.trans kr).drew
          go_region_held (fun u => Kept w u ∧ u.cell? ⟨B, off, none⟩ = some (.int .i64 (r 0)) ∧ u.cell? ⟨B, off + 2, none⟩ = some (.int .i64 (n 0))) (first | assumption | exact HD.out _ kdw | exact HD.out _ (by assumption) | exact HD.out _ ((((hK.trans kr).trans k7).setCell (by simp) _).setCell (by simp) _ |>.setCell (by simp) _)) (first | (go_at_call 60; refine (KR.out _ (by first | exact kd | assumption)).mono ?_; rintro x w7 ⟨rfl, k7⟩; have k7w := (hK.trans kr).trans k7; obtain ⟨hr1, f1⟩ := HR.out _ k7; obtain ⟨p0, p1, p2⟩ := M3.put w7 _ _ _ _ hr1 (.int .i64 ea) (.int .i64 eb) (.int .i64 ed); obtain ⟨r0, r1, r2⟩ := hr1))
          all_goals go_wp2_with fail
          all_goals exact bodyPost_ret (v := .tuple #[.agg #[.int .i64 ea, .int .i64 eb, .int .i64 ed], .int .i64 e]) (by simp [results, Try.results68, go_sem, *]) rfl ⟨rfl, (((hK.trans kr).trans k7).setCell (by simp) _).setCell (by simp) _ |>.setCell (by simp) _⟩

set_option maxHeartbeats 4000000 in
set_option maxRecDepth 100000 in
theorem rowsGlued_any (B off k lc : Nat) (hk0 : 0 < k) (hk : k ≤ 1000000) (r c n : Nat → Int) (hr : ∀ i, i < k → 1 ≤ r i ∧ r i ≤ 1000000) (w : World) (hM : Ls w B off k r c n) (ea eb ed e : Int) (hE : GlE k c r n ea eb ed e) :
    Calls Try.prog 70 #[.slice (some ⟨B, off, none⟩) k lc] w fun x w' => x = .returned (.tuple #[.agg #[.int .i64 eb, .int .i64 ea, .int .i64 ed], .int .i64 e]) ∧ Kept w w' := by
  obtain ⟨W, hW⟩ : ∃ W, W = w.alloc (.cells #[.int .i64 0, .int .i64 0, .int .i64 0] 44) := ⟨_, rfl⟩
  have hKW : Kept w W := by rw [hW]; exact (Kept.refl w).alloc _ _
  have hR : M3 W w.heap.size (.int .i64 0) (.int .i64 0) (.int .i64 0) := by rw [hW]; exact M3.new _ _ _ _ _
  have hF : ∀ o, W.frozen? ⟨w.heap.size, o, none⟩ = false := fun o => by rw [hW]; simp [go_sem]
  have hm := makeS_run k hk W
  have ho := ownS_made k hk c r n W
  have hK0 : Kept W (W.alloc (.cells (madeCells #[.int .i64 0, .int .i64 0, .int .i64 0] (k * 3)) 44)) := (Kept.refl W).alloc _ _
  obtain ⟨X, hX⟩ : ∃ X, X = W.alloc (.cells (madeCells #[.int .i64 0, .int .i64 0, .int .i64 0] (k * 3)) 44) := ⟨_, rfl⟩
  rw [← hX] at hm ho hK0
  clear hX
  have HM : Hid (∀ u, Kept W u → Ls u B off k r c n) := fun u kk => hM.bl (hKW.trans kk).bl
  have KA : Hid (∀ i u, Calls Try.prog 62 #[.agg #[.int .i64 (r i), .int .i64 (c i), .int .i64 (n i)]] u fun e w' => e = .returned (.agg #[.int .i64 (c i), .int .i64 (r i), .int .i64 (n i)]) ∧ Kept u w') := fun i u => turned_any _ _ _ u
  have KT : Hid (∀ u, Calls Try.prog 62 #[.agg #[.int .i64 ea, .int .i64 eb, .int .i64 ed]] u fun e w' => e = .returned (.agg #[.int .i64 eb, .int .i64 ea, .int .i64 ed]) ∧ Kept u w') := fun u => turned_any _ _ _ u
  have KG : Hid (∀ u g, Ls u g 0 k c r n → Calls Try.prog 68 #[.slice (some ⟨g, 0, none⟩) k k] u fun x w' => x = .returned (.tuple #[.agg #[.int .i64 ea, .int .i64 eb, .int .i64 ed], .int .i64 e]) ∧ Kept u w') := fun u g hL => colsGlued_any g 0 k k hk0 hk c r n hr u hL ea eb ed e hE
  clear hM hE hr
  go_enter Try.func70, Try.ntmps70
  go_upto_region 1 with fail
  rw [← hW]
  clear hW
  go_wp2_with fail
  clear hm
  go_loopw [14] (fun iv wr => ∃ i : Nat, i ≤ k ∧ iv = .int .i64 i ∧ Kept W wr ∧ OwnS wr W.heap.size k 3 44 (shl i c r n)) (fun iv _ => k - (intOf iv).toNat)
  case atStart => exact ⟨0, Nat.zero_le _, rfl, hK0, ho⟩
  case round =>
    obtain ⟨i, hi, rfl, kr, hO⟩ := hrel
    clear ho hK0
    by_cases hik : i < k
    · obtain ⟨c0, c1, c2⟩ := (HM.out wr kr).rd i hik
      have z0 : IntKind.i64.wrap ((i : Int) + 1) = (i : Int) + 1 := by rw [wrap_i64]; omega
      have KA2 := KA.out i
      have HK : Hid _ := KA2
      have HO : Hid (∀ u, Kept wr u → OwnS u W.heap.size k 3 44 (shl i c r n)) := fun u kk => hO.kept kk
      clear KA KA2 HM hO KT KG
      have hsz := kr.below.size
      go_wp2_with (first | (go_at_call 62; refine (HK.out _).mono ?_; rintro e w5 ⟨rfl, k5⟩; have k5' := ((Kept.refl wr).alloc _ _).trans k5; have hO5 := HO.out _ k5'; have s0 := hO5.some (i * 3) (by omega); have s1 := hO5.some (i * 3 + 1) (by omega); have s2 := hO5.some (i * 3 + 2) (by omega); obtain ⟨v0, s0⟩ := Option.isSome_iff_exists.1 s0; obtain ⟨v1, s1⟩ := Option.isSome_iff_exists.1 s1; obtain ⟨v2, s2⟩ := Option.isSome_iff_exists.1 s2; have f0 := hO5.free (i * 3); have f1 := hO5.free (i * 3 + 1); have f2 := hO5.free (i * 3 + 2)))
      go_roundw
      case rel => exact ⟨i + 1, by omega, by go_num, (((kr.trans k5').setCell (by simp) _).setCell (by simp) _).setCell (by simp) _, own_put3 hO5 hik⟩
      case measure => simp [intOf]; omega
    · obtain rfl : i = k := by omega
      have KG2 := KG.out wr W.heap.size (ls_own hO)
      have HR : Hid (∀ u, Kept wr u → M3 u w.heap.size (.int .i64 0) (.int .i64 0) (.int .i64 0) ∧ ∀ o, u.frozen? ⟨w.heap.size, o, none⟩ = false) := fun u ku => ⟨hR.bl (kr.trans ku).bl, fun o => ((kr.trans ku).frozen _).trans (hF o)⟩
      clear KG hO KA HM
      go_upto_region 8 with (first | (go_at_call 68; refine KG2.mono ?_; rintro x w5 ⟨rfl, k5⟩))
      have k6 := k5.alloc #[.int .i64 ea, .int .i64 eb, .int .i64 ed] 44
      go_wp2_with (first | (go_at_call 62; refine (KT.out _).mono ?_; rintro x w7 ⟨rfl, k7⟩; obtain ⟨hr1, f1⟩ := HR.out _ (k6.trans k7); obtain ⟨p0, p1, p2⟩ := M3.put w7 _ _ _ _ hr1 (.int .i64 eb) (.int .i64 ea) (.int .i64 ed); obtain ⟨r0, r1, r2⟩ := hr1))
      exact bodyPost_ret (v := .tuple #[.agg #[.int .i64 eb, .int .i64 ea, .int .i64 ed], .int .i64 e]) (by simp [results, Try.results70, go_sem, *]) rfl ⟨rfl, ((((hKW.trans kr).trans k6).trans k7).setCell (by simp) _).setCell (by simp) _ |>.setCell (by simp) _⟩
end Go.Proofs.Ytcldcjchfagcoaa

namespace Go.Proofs.Ytcldcjchfagcoaa
open Go.ChangeShapes Go.WideShapes Go.ChangeAt Go.RowKit
set_option linter.unusedVariables false
set_option linter.unusedSimpArgs false

/-- Lists one behind the other. -/
def catL (L : Nat → List Int) : Nat → List Int
  | 0 => []
  | k + 1 => catL L k ++ L k
theorem catL_mono (L : Nat → List Int) (i k : Nat) (h : i ≤ k) : (catL L i).length ≤ (catL L k).length := by
  induction k with
  | zero =>
    have h0 : i = 0 := by omega
    rw [h0]
    exact Nat.le_refl _
  | succ k ih =>
    rcases Nat.lt_or_ge k i with h1 | h1
    · obtain rfl : i = k + 1 := by omega
      exact Nat.le_refl _
    · rw [catL, List.length_append]
      have := ih h1
      omega
theorem catL_rgl (L : Nat → List Int) (k : Nat) (h : ∀ i, i < k → Rgl (L i)) : Rgl (catL L k) := by
  induction k with
  | zero => intro i hi; simp [catL] at hi
  | succ k ih =>
    intro i hi
    rw [catL] at hi ⊢
    rw [List.length_append] at hi
    rcases Nat.lt_or_ge i (catL L k).length with h1 | h1
    · have := ih (fun j hj => h j (by omega)) i h1
      rw [List.getD_eq_getElem?_getD, List.getElem?_append_left h1, ← List.getD_eq_getElem?_getD]
      exact this
    · have := h k (by omega) (i - (catL L k).length) (by omega)
      rw [List.getD_eq_getElem?_getD, List.getElem?_append_right h1, ← List.getD_eq_getElem?_getD]
      exact this
theorem Lm.congr {u : World} {B off k : Nat} {r c n r' c' n' : Nat → Int} {a : Nat → Option Addr} {cap : Nat → Nat} {L : Nat → List Int} (h : Lm u B off k r c n a cap L) (hr : ∀ i, i < k → r i = r' i) (hc : ∀ i, i < k → c i = c' i) (hn : ∀ i, i < k → n i = n' i) : Lm u B off k r' c' n' a cap L := by
  refine ⟨h.lt, fun i hi => ?_, h.sl⟩
  rw [← hr i hi, ← hc i hi, ← hn i hi]
  exact h.rd i hi

/-- The world behind region 0: the answer's cells. -/
def st1 (w : World) : World := w.alloc (.cells #[.int .i64 0, .int .i64 0, .int .i64 0, .slice none 0 0] 24)
theorem st1_facts (w : World) : M4 (st1 w) w.heap.size (.int .i64 0) (.int .i64 0) (.int .i64 0) (.slice none 0 0) ∧ (∀ o, (st1 w).frozen? ⟨w.heap.size, o, none⟩ = false) ∧ Kept w (st1 w) := by
  unfold st1
  exact ⟨M4.new _ _ _ _ _ _, fun o => by simp [go_sem], (Kept.refl w).alloc _ _⟩

set_option maxHeartbeats 4000000 in
set_option maxRecDepth 100000 in
theorem glueRows_no (v : Value) (q : Int) (hq0 : q ≠ 0) (w : World) (KC0 : ∀ u, Kept w u → Calls Try.prog 67 #[v] u fun e w' => e = .returned (.int .i64 q) ∧ Kept u w') :
    Calls Try.prog 41 #[v] w fun e w' => e = .returned (.tuple #[zeroMat, .int .i64 q]) ∧ Kept w w' := by
  obtain ⟨hM, hF, hK⟩ := st1_facts w
  obtain ⟨X, hX⟩ : ∃ X, X = st1 w := ⟨_, rfl⟩
  rw [← hX] at hM hF hK
  have KC : Hid (Calls Try.prog 67 #[v] X fun e w' => e = .returned (.int .i64 q) ∧ Kept X w') := KC0 X hK
  have hqb : (q != 0) = true := by simpa using hq0
  clear KC0
  unfold st1 at hX
  go_enter Try.func41, Try.ntmps41
  go_upto_region 1 with fail
  rw [← hX]
  clear hX
  go_wp2_with (first | (go_at_call 67; refine (KC.out).mono ?_; rintro e w1 ⟨rfl, k1⟩; have hr1 := hM.bl k1.bl; have f1 : ∀ o, w1.frozen? ⟨w.heap.size, o, none⟩ = false := fun o => (k1.frozen _).trans (hF o); obtain ⟨p0, p1, p2, p3⟩ := res4 w1 _ _ _ _ _ hr1 (.int .i64 0) (.int .i64 0) (.int .i64 0) (.slice none 0 0); obtain ⟨r0, r1, r2, r3⟩ := hr1))
  exact bodyPost_ret (v := .tuple #[zeroMat, .int .i64 q]) (by simp [results, Try.results41, go_sem, *]) rfl ⟨rfl, (hK.trans k1).setCell (by simp) _ |>.setCell (by simp) _ |>.setCell (by simp) _ |>.setCell (by simp) _⟩

set_option maxHeartbeats 4000000 in
set_option maxRecDepth 100000 in
theorem glueRows_bad (B off k lc : Nat) (hk0 : 0 < k) (hk : k ≤ 1000000) (r c n : Nat → Int) (a : Nat → Option Addr) (cap : Nat → Nat) (L : Nat → List Int) (hr : ∀ i, i < k → 1 ≤ r i ∧ r i ≤ 1000000) (w : World) (hM0 : Lm w B off k r c n a cap L) (hck : ∀ i, i < k → ckM (r i) (c i) (n i) (L i) = 0) (e : Int) (he0 : e ≠ 0) (hE : GlE k c r n 0 0 0 e) :
    Calls Try.prog 41 #[.slice (some ⟨B, off, none⟩) k lc] w fun x w' => x = .returned (.tuple #[zeroMat, .int .i64 e]) ∧ Kept w w' := by
  obtain ⟨hM, hF, hK⟩ := st1_facts w
  obtain ⟨X, hX⟩ : ∃ X, X = st1 w := ⟨_, rfl⟩
  rw [← hX] at hM hF hK
  have KC : Hid (Calls Try.prog 67 #[.slice (some ⟨B, off, none⟩) k lc] X fun e w' => e = .returned (.int .i64 0) ∧ Kept X w') := checkAll_any B off k lc hk0 hk r c n a cap L X (hM0.bl hK.bl) 0 (.inl ⟨rfl, hck⟩)
  have KS : Hid (∀ u, Kept X u → Calls Try.prog 69 #[.slice (some ⟨B, off, none⟩) k lc] u fun e w' => ∃ g, e = .returned (.slice (some ⟨g, 0, none⟩) k k) ∧ Ls w' g 0 k r c n ∧ Kept u w') := fun u ku => shapes_any B off k lc hk r c n a cap L u (hM0.bl (hK.trans ku).bl)
  have KG : Hid (∀ u g, Ls u g 0 k r c n → Calls Try.prog 70 #[.slice (some ⟨g, 0, none⟩) k k] u fun x w' => x = .returned (.tuple #[.agg #[.int .i64 0, .int .i64 0, .int .i64 0], .int .i64 e]) ∧ Kept u w') := fun u g hL => rowsGlued_any g 0 k k hk0 hk r c n hr u hL 0 0 0 e hE
  have hqb : (e != 0) = true := by simpa using he0
  clear hM0 hck hE hr
  unfold st1 at hX
  go_enter Try.func41, Try.ntmps41
  go_upto_region 1 with fail
  rw [← hX]
  clear hX
  go_upto_region 5 with (first | (go_at_call 67; refine (KC.out).mono ?_; rintro x w1 ⟨rfl, k1⟩) | (go_at_call 69; refine (KS.out _ k1).mono ?_; rintro x w2 ⟨g, rfl, hL2, k2⟩) | (go_at_call 70; refine (KG.out _ _ hL2).mono ?_; rintro x w3 ⟨rfl, k3⟩))
  obtain ⟨Y, hY⟩ : ∃ Y, Y = w3.alloc (.cells #[.int .i64 0, .int .i64 0, .int .i64 0] 44) := ⟨_, rfl⟩
  rw [← hY]
  have kY : Kept X Y := by rw [hY]; exact (k1.trans (k2.trans k3)).alloc _ _
  clear hY
  have hr1 := hM.bl kY.bl
  have f1 : ∀ o, Y.frozen? ⟨w.heap.size, o, none⟩ = false := fun o => (kY.frozen _).trans (hF o)
  obtain ⟨p0, p1, p2, p3⟩ := res4 Y _ _ _ _ _ hr1 (.int .i64 0) (.int .i64 0) (.int .i64 0) (.slice none 0 0)
  obtain ⟨r0, r1, r2, r3⟩ := hr1
  go_wp2_with fail
  exact bodyPost_ret (v := .tuple #[zeroMat, .int .i64 e]) (by simp [results, Try.results41, go_sem, *]) rfl ⟨rfl, (hK.trans kY).setCell (by simp) _ |>.setCell (by simp) _ |>.setCell (by simp) _ |>.setCell (by simp) _⟩

set_option maxHeartbeats 4000000 in
set_option maxRecDepth 100000 in
theorem glueRows_ok (B off k lc : Nat) (hk0 : 0 < k) (hk : k ≤ 1000000) (r c n : Nat → Int) (a : Nat → Option Addr) (cap : Nat → Nat) (L : Nat → List Int) (hr : ∀ i, i < k → 1 ≤ r i ∧ r i ≤ 1000000) (w : World) (hM0 : Lm w B off k r c n a cap L) (hck : ∀ i, i < k → ckM (r i) (c i) (n i) (L i) = 0) (hE : GlE k c r n (c 0) (sm r k) (n 0) 0) (hne : ∀ i, i < k → L i ≠ []) (hRg : ∀ i, i < k → Rgl (L i)) (hn : n 0 = 64 ∨ n 0 = 32) (htot : sm r k * c 0 = ((catL L k).length : Int)) (ht4 : (catL L k).length ≤ 4096) :
    Calls Try.prog 41 #[.slice (some ⟨B, off, none⟩) k lc] w fun x w' => ∃ g, x = .returned (.tuple #[.agg #[.int .i64 (sm r k), .int .i64 (c 0), .int .i64 (n 0), .slice (some ⟨g, 0, none⟩) (catL L k).length (catL L k).length], .int .i64 0]) ∧ w.heap.size ≤ g ∧ Own w' g (catL L k).length ((catL L k).map (cln · (n 0))) ∧ Kept w w' := by
  obtain ⟨hM, hF, hK⟩ := st1_facts w
  obtain ⟨X, hX⟩ : ∃ X, X = st1 w := ⟨_, rfl⟩
  rw [← hX] at hM hF hK
  have KC : Hid (Calls Try.prog 67 #[.slice (some ⟨B, off, none⟩) k lc] X fun e w' => e = .returned (.int .i64 0) ∧ Kept X w') := checkAll_any B off k lc hk0 hk r c n a cap L X (hM0.bl hK.bl) 0 (.inl ⟨rfl, hck⟩)
  have KS : Hid (∀ u, Kept X u → Calls Try.prog 69 #[.slice (some ⟨B, off, none⟩) k lc] u fun e w' => ∃ g, e = .returned (.slice (some ⟨g, 0, none⟩) k k) ∧ Ls w' g 0 k r c n ∧ Kept u w') := fun u ku => shapes_any B off k lc hk r c n a cap L u (hM0.bl (hK.trans ku).bl)
  have KG : Hid (∀ u g, Ls u g 0 k r c n → Calls Try.prog 70 #[.slice (some ⟨g, 0, none⟩) k k] u fun x w' => x = .returned (.tuple #[.agg #[.int .i64 (sm r k), .int .i64 (c 0), .int .i64 (n 0)], .int .i64 0]) ∧ Kept u w') := fun u g hL => rowsGlued_any g 0 k k hk0 hk r c n hr u hL (c 0) (sm r k) (n 0) 0 hE
  obtain ⟨q, hq⟩ : ∃ q, (catL L k).length = q := ⟨_, rfl⟩
  rw [hq] at htot ht4 ⊢
  have HQ : Hid ((catL L k).length = q) := hq
  have KW : Hid (∀ u, Calls Try.prog 55 #[.agg #[.int .i64 (sm r k), .int .i64 (c 0), .int .i64 (n 0)]] u fun e w' => ∃ g, e = .returned (.slice (some ⟨g, 0, none⟩) 0 q) ∧ u.heap.size ≤ g ∧ Own w' g q [] ∧ Kept u w') := fun u => bare_any _ _ _ q htot (by omega) u
  have HM : Hid (∀ u, Kept X u → Lm u B off k r c n a cap L) := fun u ku => hM0.bl (hK.trans ku).bl
  have HNE : Hid (∀ i, i < k → L i ≠ []) := hne
  have HRT : Hid (Rgl (catL L k)) := catL_rgl L k hRg
  have HMO : Hid (∀ i, i ≤ k → (catL L i).length ≤ q) := fun i hi => by rw [← hq]; exact catL_mono L i k hi
  clear hM0 hck hE hr hne hRg htot hq
  generalize hsr : sm r k = sr at *
  unfold st1 at hX
  go_enter Try.func41, Try.ntmps41
  go_upto_region 1 with fail
  rw [← hX]
  clear hX
  go_upto_region 5 with (first | (go_at_call 67; refine (KC.out).mono ?_; rintro x w1 ⟨rfl, k1⟩) | (go_at_call 69; refine (KS.out _ k1).mono ?_; rintro x w2 ⟨g2, rfl, hL2, k2⟩) | (go_at_call 70; refine (KG.out _ _ hL2).mono ?_; rintro x w3 ⟨rfl, k3⟩))
  obtain ⟨Y, hY⟩ : ∃ Y, Y = w3.alloc (.cells #[.int .i64 sr, .int .i64 (c 0), .int .i64 (n 0)] 44) := ⟨_, rfl⟩
  rw [← hY]
  have kY : Kept X Y := by rw [hY]; exact (k1.trans (k2.trans k3)).alloc _ _
  have hBY : M3 Y w3.heap.size (.int .i64 sr) (.int .i64 (c 0)) (.int .i64 (n 0)) := by rw [hY]; exact M3.new _ _ _ _ _
  have hB3 := (k1.trans (k2.trans k3)).below.size
  generalize w3.heap.size = B3 at *
  clear hY KC KS KG k1 k2 k3 hL2
  have hBY' := hBY
  obtain ⟨b0, b1, b2⟩ := hBY'
  go_upto_region 8 with (first | (go_at_call 55; refine (KW.out _).mono ?_; rintro x V ⟨g, rfl, hg, hOV, kV⟩))
  clear b0 b1 b2
  have hBV := hBY.bl kV.bl
  have kXV := kY.trans kV
  have hgX : X.heap.size ≤ g := Nat.le_trans kY.below.size hg
  have hBlt := hBY.lt
  clear KW kV hBY kY
  go_wp2_with fail
  go_loopw [7, 30] (fun lv iv wr => ∃ i : Nat, i ≤ k ∧ iv = .int .i64 i ∧ lv = .slice (some ⟨g, 0, none⟩) (catL L i).length q ∧ Own wr g q (catL L i) ∧ Grw g V wr) (fun _ iv _ => k - (intOf iv).toNat)
  case atStart => exact ⟨0, Nat.zero_le _, rfl, rfl, hOV, Grw.refl _ _⟩
  case round =>
    obtain ⟨i, hi, rfl, rfl, hOk, hGk⟩ := hrel
    have kXr : Kept X wr := kXV.grw hgX hGk
    by_cases hik : i < k
    · obtain ⟨c0, c1, c2, c3⟩ := (HM.out wr kXr).rd i hik
      have hmo := HMO.out (i + 1) (by omega)
      have z0 : IntKind.i64.wrap ((i : Int) + 1) = (i : Int) + 1 := by rw [wrap_i64]; omega
      have HAP : Hid (∀ u, Kept wr u → ∃ U, (∀ ty, (Builtin.append_ #[22, 22] ty #[.slice (some ⟨g, 0, none⟩) (catL L i).length q, .slice (a i) (L i).length (cap i)]).run Try.prog u = .ok (.slice (some ⟨g, 0, none⟩) (catL L (i + 1)).length q) U) ∧ Own U g q (catL L (i + 1)) ∧ Grw g V U) := fun u ku => by
        obtain ⟨ao, cp, e1, -, -, hrd⟩ := (HM.out u (kXr.trans ku)).sl i hik
        injection e1 with e1 e2 e3
        rw [e1, e3]
        obtain ⟨b, o, rfl, hb, hrd⟩ := hrd (HNE.out i hik)
        have hlen : (catL L (i + 1)).length = (catL L i).length + (L i).length := by rw [catL, List.length_append]
        obtain ⟨hr, hO2, hG2⟩ := app_room u g q _ (hOk.kept ku) (L i) b o (L i).length cp rfl hrd (by omega) _ rfl
        rw [← hlen] at hr
        exact ⟨_, hr, hO2, (hGk.trans (ku.toGrw g)).trans hG2⟩
      clear HM HNE HRT HMO hOk
      generalize (L i).length = li at *
      generalize (catL L i).length = ln at *
      go_wp2_with (first | (at_builtin; obtain ⟨U, hr, hOU, hGU⟩ := HAP.out _ ((Kept.refl wr).alloc _ _); have HR9 : Hid _ := hr; clear hr; refine wpList_append_run rfl _ _ _ rfl _ _ rfl rfl _ _ (HR9.out _) ?_))
      go_roundw
      case rel => exact ⟨i + 1, by omega, by go_num, rfl, hOU, hGU⟩
      case measure => simp [intOf]; omega
    · obtain rfl : i = k := by omega
      have hql := HQ.out
      have KM : Hid (Calls Try.prog 52 #[.agg #[.int .i64 sr, .int .i64 (c 0), .int .i64 (n 0)], .slice (some ⟨g, 0, none⟩) q q] wr fun e w' => e = .returned (.agg #[.int .i64 sr, .int .i64 (c 0), .int .i64 (n 0), .slice (some ⟨g, 0, none⟩) q q]) ∧ Own w' g q ((catL L i).map (cln · (n 0))) ∧ Kept X w') := by
        have := matrix_any sr (c 0) (n 0) hn (catL L i) HRT.out (by omega) g q wr hOk
        rw [hql] at this
        refine this.mono ?_
        rintro e w' ⟨rfl, h1, h2⟩
        exact ⟨rfl, h1, kXr.grw (by omega) h2⟩
      rw [hql]
      have hgs := hOV.lt
      have hB7 : M3 wr B3 (.int .i64 sr) (.int .i64 (c 0)) (.int .i64 (n 0)) := ⟨(hGk.cellx B3 0 hBV.lt (by omega)).trans hBV.c0, (hGk.cellx B3 1 hBV.lt (by omega)).trans hBV.c1, (hGk.cellx B3 2 hBV.lt (by omega)).trans hBV.c2⟩
      have hgw := hM.lt
      obtain ⟨s0, s1, s2⟩ := hB7
      clear hOk HM HNE HRT HMO HQ hql hOV
      go_wp2_with (first | (go_at_call 52; refine (KM.out).mono ?_; rintro x u6 ⟨rfl, hO4, hk6⟩; have hr4 := hM.bl hk6.bl; have f4 : ∀ o, u6.frozen? ⟨w.heap.size, o, none⟩ = false := fun o => (hk6.frozen _).trans (hF o); obtain ⟨p0, p1, p2, p3⟩ := res4 u6 _ _ _ _ _ hr4 (.int .i64 sr) (.int .i64 (c 0)) (.int .i64 (n 0)) (.slice (some ⟨g, 0, none⟩) q q); obtain ⟨r0, r1, r2, r3⟩ := hr4))
      have hO5 := (((hO4.setOther (p := ⟨w.heap.size, 0, none⟩) (by simp; omega) (.int .i64 sr)).setOther (p := ⟨w.heap.size, 1, none⟩) (by simp; omega) (.int .i64 (c 0))).setOther (p := ⟨w.heap.size, 2, none⟩) (by simp; omega) (.int .i64 (n 0))).setOther (p := ⟨w.heap.size, 3, none⟩) (by simp; omega) (.slice (some ⟨g, 0, none⟩) q q)
      have hk5 := (((hK.trans hk6).setCell (p := ⟨w.heap.size, 0, none⟩) (by simp) (.int .i64 sr)).setCell (p := ⟨w.heap.size, 1, none⟩) (by simp) (.int .i64 (c 0))).setCell (p := ⟨w.heap.size, 2, none⟩) (by simp) (.int .i64 (n 0)) |>.setCell (p := ⟨w.heap.size, 3, none⟩) (by simp) (.slice (some ⟨g, 0, none⟩) q q)
      exact bodyPost_ret (v := .tuple #[.agg #[.int .i64 sr, .int .i64 (c 0), .int .i64 (n 0), .slice (some ⟨g, 0, none⟩) q q], .int .i64 0]) (by simp [results, Try.results41, go_sem, *]) rfl ⟨g, rfl, by omega, hO5, hk5⟩
end Go.Proofs.Ytcldcjchfagcoaa

namespace Go.Proofs.Ytcldcjchfagcoaa
open Go.ChangeShapes Go.WideShapes Go.ChangeAt Go.RowKit
set_option linter.unusedVariables false
set_option linter.unusedSimpArgs false

set_option maxHeartbeats 4000000 in
set_option maxRecDepth 100000 in
theorem glueCols_no (v : Value) (q : Int) (hq0 : q ≠ 0) (w : World) (KC0 : ∀ u, Kept w u → Calls Try.prog 67 #[v] u fun e w' => e = .returned (.int .i64 q) ∧ Kept u w') :
    Calls Try.prog 40 #[v] w fun e w' => e = .returned (.tuple #[zeroMat, .int .i64 q]) ∧ Kept w w' := by
  obtain ⟨hM, hF, hK⟩ := st1_facts w
  obtain ⟨X, hX⟩ : ∃ X, X = st1 w := ⟨_, rfl⟩
  rw [← hX] at hM hF hK
  have KC : Hid (Calls Try.prog 67 #[v] X fun e w' => e = .returned (.int .i64 q) ∧ Kept X w') := KC0 X hK
  have hqb : (q != 0) = true := by simpa using hq0
  clear KC0
  unfold st1 at hX
  go_enter Try.func40, Try.ntmps40
  go_upto_region 1 with fail
  rw [← hX]
  clear hX
  go_wp2_with (first | (go_at_call 67; refine (KC.out).mono ?_; rintro e w1 ⟨rfl, k1⟩; have hr1 := hM.bl k1.bl; have f1 : ∀ o, w1.frozen? ⟨w.heap.size, o, none⟩ = false := fun o => (k1.frozen _).trans (hF o); obtain ⟨p0, p1, p2, p3⟩ := res4 w1 _ _ _ _ _ hr1 (.int .i64 0) (.int .i64 0) (.int .i64 0) (.slice none 0 0); obtain ⟨r0, r1, r2, r3⟩ := hr1))
  exact bodyPost_ret (v := .tuple #[zeroMat, .int .i64 q]) (by simp [results, Try.results40, go_sem, *]) rfl ⟨rfl, (hK.trans k1).setCell (by simp) _ |>.setCell (by simp) _ |>.setCell (by simp) _ |>.setCell (by simp) _⟩

set_option maxHeartbeats 4000000 in
set_option maxRecDepth 100000 in
theorem glueCols_bad (B off k lc : Nat) (hk0 : 0 < k) (hk : k ≤ 1000000) (r c n : Nat → Int) (a : Nat → Option Addr) (cap : Nat → Nat) (L : Nat → List Int) (hr : ∀ i, i < k → 1 ≤ c i ∧ c i ≤ 1000000) (w : World) (hM0 : Lm w B off k r c n a cap L) (hck : ∀ i, i < k → ckM (r i) (c i) (n i) (L i) = 0) (e : Int) (he0 : e ≠ 0) (hE : GlE k r c n 0 0 0 e) :
    Calls Try.prog 40 #[.slice (some ⟨B, off, none⟩) k lc] w fun x w' => x = .returned (.tuple #[zeroMat, .int .i64 e]) ∧ Kept w w' := by
  obtain ⟨hM, hF, hK⟩ := st1_facts w
  obtain ⟨X, hX⟩ : ∃ X, X = st1 w := ⟨_, rfl⟩
  rw [← hX] at hM hF hK
  have KC : Hid (Calls Try.prog 67 #[.slice (some ⟨B, off, none⟩) k lc] X fun e w' => e = .returned (.int .i64 0) ∧ Kept X w') := checkAll_any B off k lc hk0 hk r c n a cap L X (hM0.bl hK.bl) 0 (.inl ⟨rfl, hck⟩)
  have KS : Hid (∀ u, Kept X u → Calls Try.prog 69 #[.slice (some ⟨B, off, none⟩) k lc] u fun e w' => ∃ g, e = .returned (.slice (some ⟨g, 0, none⟩) k k) ∧ Ls w' g 0 k r c n ∧ Kept u w') := fun u ku => shapes_any B off k lc hk r c n a cap L u (hM0.bl (hK.trans ku).bl)
  have KG : Hid (∀ u g, Ls u g 0 k r c n → Calls Try.prog 68 #[.slice (some ⟨g, 0, none⟩) k k] u fun x w' => x = .returned (.tuple #[.agg #[.int .i64 0, .int .i64 0, .int .i64 0], .int .i64 e]) ∧ Kept u w') := fun u g hL => colsGlued_any g 0 k k hk0 hk r c n hr u hL 0 0 0 e hE
  have hqb : (e != 0) = true := by simpa using he0
  clear hM0 hck hE hr
  unfold st1 at hX
  go_enter Try.func40, Try.ntmps40
  go_upto_region 1 with fail
  rw [← hX]
  clear hX
  go_upto_region 5 with (first | (go_at_call 67; refine (KC.out).mono ?_; rintro x w1 ⟨rfl, k1⟩) | (go_at_call 69; refine (KS.out _ k1).mono ?_; rintro x w2 ⟨g, rfl, hL2, k2⟩) | (go_at_call 68; refine (KG.out _ _ hL2).mono ?_; rintro x w3 ⟨rfl, k3⟩))
  obtain ⟨Y, hY⟩ : ∃ Y, Y = w3.alloc (.cells #[.int .i64 0, .int .i64 0, .int .i64 0] 44) := ⟨_, rfl⟩
  rw [← hY]
  have kY : Kept X Y := by rw [hY]; exact (k1.trans (k2.trans k3)).alloc _ _
  clear hY
  have hr1 := hM.bl kY.bl
  have f1 : ∀ o, Y.frozen? ⟨w.heap.size, o, none⟩ = false := fun o => (kY.frozen _).trans (hF o)
  obtain ⟨p0, p1, p2, p3⟩ := res4 Y _ _ _ _ _ hr1 (.int .i64 0) (.int .i64 0) (.int .i64 0) (.slice none 0 0)
  obtain ⟨r0, r1, r2, r3⟩ := hr1
  go_wp2_with fail
  exact bodyPost_ret (v := .tuple #[zeroMat, .int .i64 e]) (by simp [results, Try.results40, go_sem, *]) rfl ⟨rfl, (hK.trans kY).setCell (by simp) _ |>.setCell (by simp) _ |>.setCell (by simp) _ |>.setCell (by simp) _⟩


/-- A row of the i-th matrix; rows side by side. -/
def rwL (C : Nat → Nat) (L : Nat → List Int) (r i : Nat) : List Int := lst (C i) (fun x => (L i).getD (r * C i + x) 0)
def rwA (C : Nat → Nat) (L : Nat → List Int) (k r : Nat) : List Int := catL (rwL C L r) k
def rwB (C : Nat → Nat) (L : Nat → List Int) (k r i : Nat) : List Int := catL (rwA C L k) r ++ catL (rwL C L r) i
theorem rwB_zero (C : Nat → Nat) (L : Nat → List Int) (k r : Nat) : rwB C L k r 0 = catL (rwA C L k) r := by simp [rwB, catL]
theorem rwB_succ (C : Nat → Nat) (L : Nat → List Int) (k r i : Nat) : rwB C L k r (i + 1) = rwB C L k r i ++ rwL C L r i := by simp [rwB, catL]
theorem rwB_last (C : Nat → Nat) (L : Nat → List Int) (k r : Nat) : rwB C L k r k = catL (rwA C L k) (r + 1) := rfl
theorem rwB_le (C : Nat → Nat) (L : Nat → List Int) (k r R i : Nat) (hr : r < R) (hi : i ≤ k) : (rwB C L k r i).length ≤ (catL (rwA C L k) R).length := by
  refine Nat.le_trans ?_ (catL_mono (rwA C L k) (r + 1) R hr)
  unfold rwB
  rw [catL, List.length_append, List.length_append]
  have := catL_mono (rwL C L r) i k hi
  unfold rwA
  omega
theorem rwL_length (C : Nat → Nat) (L : Nat → List Int) (r i : Nat) : (rwL C L r i).length = C i := by unfold rwL; rw [lst_length]
theorem row_lt (r R c x : Nat) (hr : r < R) (hx : x < c) : r * c + x < R * c := by
  calc r * c + x < r * c + c := by omega
    _ = (r + 1) * c := by rw [Nat.succ_mul]
    _ ≤ R * c := Nat.mul_le_mul_right _ hr
theorem rw_rgl (C : Nat → Nat) (L : Nat → List Int) (k R : Nat) (hL : ∀ i, i < k → (L i).length = R * C i) (h : ∀ i, i < k → Rgl (L i)) : Rgl (catL (rwA C L k) R) := by
  refine catL_rgl _ _ (fun r hr => ?_)
  unfold rwA
  refine catL_rgl _ _ (fun i hi => ?_)
  intro x hx
  rw [rwL_length] at hx
  unfold rwL
  rw [lst_get _ _ _ hx]
  refine h i hi _ ?_
  rw [hL i hi]
  exact row_lt r R (C i) x hr hx

set_option maxHeartbeats 4000000 in
set_option maxRecDepth 100000 in
theorem glueCols_ok (B off k lc R : Nat) (hk0 : 0 < k) (hk : k ≤ 1000000) (hR4 : R ≤ 4096) (n : Int) (C : Nat → Nat) (a : Nat → Option Addr) (cap : Nat → Nat) (L : Nat → List Int) (hC : ∀ i, i < k → 0 < C i ∧ C i ≤ 4096 ∧ R * C i ≤ 4096) (w : World) (hM0 : Lm w B off k (fun _ => (R : Int)) (fun i => (C i : Int)) (fun _ => n) a cap L) (hck : ∀ i, i < k → ckM R (C i) n (L i) = 0) (hE : GlE k (fun _ => (R : Int)) (fun i => (C i : Int)) (fun _ => n) R (sm (fun i => (C i : Int)) k) n 0) (hL : ∀ i, i < k → (L i).length = R * C i) (hRp : 0 < R) (hRg : ∀ i, i < k → Rgl (L i)) (hn : n = 64 ∨ n = 32) (htot : (R : Int) * sm (fun i => (C i : Int)) k = ((catL (rwA C L k) R).length : Int)) (ht4 : (catL (rwA C L k) R).length ≤ 4096) :
    Calls Try.prog 40 #[.slice (some ⟨B, off, none⟩) k lc] w fun x w' => ∃ g, x = .returned (.tuple #[.agg #[.int .i64 R, .int .i64 (sm (fun i => (C i : Int)) k), .int .i64 n, .slice (some ⟨g, 0, none⟩) (catL (rwA C L k) R).length (catL (rwA C L k) R).length], .int .i64 0]) ∧ w.heap.size ≤ g ∧ Own w' g (catL (rwA C L k) R).length ((catL (rwA C L k) R).map (cln · n)) ∧ Kept w w' := by
  obtain ⟨hM, hF, hK⟩ := st1_facts w
  obtain ⟨X, hX⟩ : ∃ X, X = st1 w := ⟨_, rfl⟩
  rw [← hX] at hM hF hK
  have KC : Hid (Calls Try.prog 67 #[.slice (some ⟨B, off, none⟩) k lc] X fun e w' => e = .returned (.int .i64 0) ∧ Kept X w') := checkAll_any B off k lc hk0 hk _ _ _ a cap L X (hM0.bl hK.bl) 0 (.inl ⟨rfl, hck⟩)
  obtain ⟨sc, hsc⟩ : ∃ sc, sm (fun i => (C i : Int)) k = sc := ⟨_, rfl⟩
  rw [hsc] at hE htot ⊢
  have KS : Hid (∀ u, Kept X u → Calls Try.prog 69 #[.slice (some ⟨B, off, none⟩) k lc] u fun e w' => ∃ g, e = .returned (.slice (some ⟨g, 0, none⟩) k k) ∧ Ls w' g 0 k (fun _ => (R : Int)) (fun i => (C i : Int)) (fun _ => n) ∧ Kept u w') := fun u ku => shapes_any B off k lc hk _ _ _ a cap L u (hM0.bl (hK.trans ku).bl)
  have KG : Hid (∀ u g, Ls u g 0 k (fun _ => (R : Int)) (fun i => (C i : Int)) (fun _ => n) → Calls Try.prog 68 #[.slice (some ⟨g, 0, none⟩) k k] u fun x w' => x = .returned (.tuple #[.agg #[.int .i64 R, .int .i64 sc, .int .i64 n], .int .i64 0]) ∧ Kept u w') := fun u g hL => colsGlued_any g 0 k k hk0 hk _ _ _ (fun i hi => by have := hC i hi; show 1 ≤ (C i : Int) ∧ (C i : Int) ≤ 1000000; omega) u hL R sc n 0 hE
  obtain ⟨q, hq⟩ : ∃ q, (catL (rwA C L k) R).length = q := ⟨_, rfl⟩
  rw [hq] at htot ht4 ⊢
  have HQ : Hid ((catL (rwA C L k) R).length = q) := hq
  have KW : Hid (∀ u, Calls Try.prog 55 #[.agg #[.int .i64 R, .int .i64 sc, .int .i64 n]] u fun e w' => ∃ g, e = .returned (.slice (some ⟨g, 0, none⟩) 0 q) ∧ u.heap.size ≤ g ∧ Own w' g q [] ∧ Kept u w') := fun u => bare_any _ _ _ q htot (by omega) u
  have HM : Hid (∀ u, Kept X u → Lm u B off k (fun _ => (R : Int)) (fun i => (C i : Int)) (fun _ => n) a cap L) := fun u ku => hM0.bl (hK.trans ku).bl
  have HRT : Hid (Rgl (catL (rwA C L k) R)) := rw_rgl C L k R hL hRg
  have HMO : Hid (∀ r i, r < R → i ≤ k → (rwB C L k r i).length ≤ q) := fun r i hr hi => by rw [← hq]; exact rwB_le C L k r R i hr hi
  have HRW : Hid (∀ r i, r < R → i < k → ∃ b o, a i = some ⟨b, o, none⟩ ∧ (∀ u, Kept X u → Reads u b (o + r * C i) (rwL C L r i)) ∧ (∀ v, Calls Try.prog 49 #[.agg #[.int .i64 R, .int .i64 (C i : Int), .int .i64 n, .slice (a i) (L i).length (cap i)], .int .i64 r] v fun e w' => e = .returned (.slice (some ⟨b, o + r * C i, none⟩) (C i) (C i)) ∧ Kept v w')) := fun r i hr hi => by
    obtain ⟨ao, cp, e1, hcp, -, hrd⟩ := (hM0.bl hK.bl).sl i hi
    injection e1 with e1 e2 e3
    have hCi := hC i hi
    have hpos : 0 < R * C i := Nat.mul_pos hRp hCi.1
    obtain ⟨b, o, h1, hb, hrd⟩ := hrd (by intro h0; have := hL i hi; rw [h0] at this; simp at this; omega)
    refine ⟨b, o, e1.trans h1, fun u ku x hx => ?_, fun v => ?_⟩
    · rw [rwL_length] at hx
      have h2 := row_lt r R (C i) x hr hx
      have := hrd.kept hb ku (r * C i + x) (by rw [hL i hi]; exact h2)
      rw [← Nat.add_assoc] at this
      rw [this]
      unfold rwL
      rw [lst_get _ _ _ hx]
    · rw [e1, h1]
      exact rowOf_any R (C i) r n hr hCi.1 (by omega) b o _ (cap i) (hL i hi) (by rw [e3]; exact hcp) v
  clear hM0 hck hE hRg htot hq hL hC
  unfold st1 at hX
  go_enter Try.func40, Try.ntmps40
  go_upto_region 1 with fail
  rw [← hX]
  clear hX
  go_upto_region 5 with (first | (go_at_call 67; refine (KC.out).mono ?_; rintro x w1 ⟨rfl, k1⟩) | (go_at_call 69; refine (KS.out _ k1).mono ?_; rintro x w2 ⟨g2, rfl, hL2, k2⟩) | (go_at_call 68; refine (KG.out _ _ hL2).mono ?_; rintro x w3 ⟨rfl, k3⟩))
  obtain ⟨Y, hY⟩ : ∃ Y, Y = w3.alloc (.cells #[.int .i64 R, .int .i64 sc, .int .i64 n] 44) := ⟨_, rfl⟩
  rw [← hY]
  have kY : Kept X Y := by rw [hY]; exact (k1.trans (k2.trans k3)).alloc _ _
  have hBY : M3 Y w3.heap.size (.int .i64 R) (.int .i64 sc) (.int .i64 n) := by rw [hY]; exact M3.new _ _ _ _ _
  have hB3 := (k1.trans (k2.trans k3)).below.size
  generalize w3.heap.size = B3 at *
  clear hY KC KS KG k1 k2 k3 hL2
  have hBY' := hBY
  obtain ⟨b0, b1, b2⟩ := hBY'
  go_upto_region 8 with (first | (go_at_call 55; refine (KW.out _).mono ?_; rintro x V ⟨g, rfl, hg, hOV, kV⟩))
  clear b0 b1 b2
  have hBV := hBY.bl kV.bl
  have kXV := kY.trans kV
  have hgX : X.heap.size ≤ g := Nat.le_trans kY.below.size hg
  have hBlt := hBY.lt
  clear KW kV hBY kY
  have hBV' := hBV
  obtain ⟨b0, b1, b2⟩ := hBV'
  go_wp2_with fail
  go_loopw [7, 31] (fun lv iv wr => ∃ r : Nat, r ≤ R ∧ iv = .int .i64 r ∧ lv = .slice (some ⟨g, 0, none⟩) (catL (rwA C L k) r).length q ∧ Own wr g q (catL (rwA C L k) r) ∧ Grw g V wr) (fun _ iv _ => R - (intOf iv).toNat)
  case atStart => exact ⟨0, Nat.zero_le _, rfl, rfl, hOV, Grw.refl _ _⟩
  case round =>
    clear b0 b1 b2
    obtain ⟨r, hr, rfl, rfl, hOk, hGk⟩ := hrel
    by_cases hrR : r < R
    · have z0 : IntKind.i64.wrap ((r : Int) + 1) = (r : Int) + 1 := by rw [wrap_i64]; omega
      have ho0 : Own wr g q (rwB C L k r 0) := by rw [rwB_zero]; exact hOk
      rw [← rwB_zero]
      clear hOk
      go_wp2_with fail
      go_loopw [7, 36] (fun lv iv wq => ∃ i : Nat, i ≤ k ∧ iv = .int .i64 i ∧ lv = .slice (some ⟨g, 0, none⟩) (rwB C L k r i).length q ∧ Own wq g q (rwB C L k r i) ∧ Grw g V wq) (fun _ iv _ => k - (intOf iv).toNat)
      case atStart => exact ⟨0, Nat.zero_le _, rfl, rfl, ho0, hGk⟩
      case round =>
        clear ho0 hGk
        obtain ⟨i, hi, rfl, rfl, hOk, hGk⟩ := hrel
        have kXr : Kept X wr := kXV.grw hgX hGk
        by_cases hik : i < k
        · obtain ⟨c0, c1, c2, c3⟩ := (HM.out wr kXr).rd i hik
          have hmo := HMO.out r (i + 1) hrR (by omega)
          have z1 : IntKind.i64.wrap ((i : Int) + 1) = (i : Int) + 1 := by rw [wrap_i64]; omega
          obtain ⟨b, o, ha, hrd, hro⟩ := HRW.out r i hrR hik
          have KR : Hid (∀ v, Calls Try.prog 49 #[.agg #[.int .i64 R, .int .i64 (C i : Int), .int .i64 n, .slice (a i) (L i).length (cap i)], .int .i64 r] v fun e w' => e = .returned (.slice (some ⟨b, o + r * C i, none⟩) (C i) (C i)) ∧ Kept v w') := hro
          have HAP : Hid (∀ u, Kept wr u → ∃ U, (∀ ty, (Builtin.append_ #[22, 22] ty #[.slice (some ⟨g, 0, none⟩) (rwB C L k r i).length q, .slice (some ⟨b, o + r * C i, none⟩) (C i) (C i)]).run Try.prog u = .ok (.slice (some ⟨g, 0, none⟩) (rwB C L k r (i + 1)).length q) U) ∧ Own U g q (rwB C L k r (i + 1)) ∧ Grw g V U) := fun u ku => by
            have hlen : (rwB C L k r (i + 1)).length = (rwB C L k r i).length + C i := by rw [rwB_succ, List.length_append, rwL_length]
            obtain ⟨h1, hO2, hG2⟩ := app_room u g q _ (hOk.kept ku) (rwL C L r i) b (o + r * C i) (C i) (C i) (rwL_length _ _ _ _) (hrd u (kXr.trans ku)) (by omega) _ rfl
            rw [← hlen] at h1
            rw [← rwB_succ] at hO2
            exact ⟨_, h1, hO2, (hGk.trans (ku.toGrw g)).trans hG2⟩
          clear HM HRT HMO hOk hro hrd HRW ha
          generalize (L i).length = li at *
          generalize (rwB C L k r i).length = ln at *
          generalize o + r * C i = oo at *
          generalize C i = ci at *
          go_wp2_with (first | (go_at_call 49; refine (KR.out _).mono ?_; rintro x w5 ⟨rfl, k5⟩; obtain ⟨U, h9, hOU, hGU⟩ := HAP.out _ (((Kept.refl wr).alloc _ _).trans k5); have HR9 : Hid _ := h9; clear h9) | (at_builtin; refine wpList_append_run rfl _ _ _ rfl _ _ rfl rfl _ _ (HR9.out _) ?_))
          go_roundw
          case rel => exact ⟨i + 1, by omega, by go_num, rfl, hOU, hGU⟩
          case measure => simp [intOf]; omega
        · obtain rfl : i = k := by omega
          have hO9 : Own wr g q (catL (rwA C L i) (r + 1)) := hOk
          rw [rwB_last]
          clear HM HRT HMO hOk HRW
          go_wp2_with fail
          go_roundw
          case rel => exact ⟨r + 1, by omega, by go_num, rfl, hO9, hGk⟩
          case measure => simp [intOf]; omega
    · obtain rfl : r = R := by omega
      have kXr : Kept X wr := kXV.grw hgX hGk
      have hql := HQ.out
      have KM : Hid (Calls Try.prog 52 #[.agg #[.int .i64 r, .int .i64 sc, .int .i64 n], .slice (some ⟨g, 0, none⟩) q q] wr fun e w' => e = .returned (.agg #[.int .i64 r, .int .i64 sc, .int .i64 n, .slice (some ⟨g, 0, none⟩) q q]) ∧ Own w' g q ((catL (rwA C L k) r).map (cln · n)) ∧ Kept X w') := by
        have := matrix_any r sc n hn (catL (rwA C L k) r) HRT.out (by omega) g q wr hOk
        rw [hql] at this
        refine this.mono ?_
        rintro e w' ⟨rfl, h1, h2⟩
        exact ⟨rfl, h1, kXr.grw (by omega) h2⟩
      rw [hql]
      have hgs := hOV.lt
      have hB7 : M3 wr B3 (.int .i64 r) (.int .i64 sc) (.int .i64 n) := ⟨(hGk.cellx B3 0 hBV.lt (by omega)).trans hBV.c0, (hGk.cellx B3 1 hBV.lt (by omega)).trans hBV.c1, (hGk.cellx B3 2 hBV.lt (by omega)).trans hBV.c2⟩
      have hgw := hM.lt
      obtain ⟨s0, s1, s2⟩ := hB7
      clear hOk HM HRT HMO HQ hql hOV HRW
      go_wp2_with (first | (go_at_call 52; refine (KM.out).mono ?_; rintro x u6 ⟨rfl, hO4, hk6⟩; have hr4 := hM.bl hk6.bl; have f4 : ∀ o, u6.frozen? ⟨w.heap.size, o, none⟩ = false := fun o => (hk6.frozen _).trans (hF o); obtain ⟨p0, p1, p2, p3⟩ := res4 u6 _ _ _ _ _ hr4 (.int .i64 r) (.int .i64 sc) (.int .i64 n) (.slice (some ⟨g, 0, none⟩) q q); obtain ⟨r0, r1, r2, r3⟩ := hr4))
      have hO5 := (((hO4.setOther (p := ⟨w.heap.size, 0, none⟩) (by simp; omega) (.int .i64 r)).setOther (p := ⟨w.heap.size, 1, none⟩) (by simp; omega) (.int .i64 sc)).setOther (p := ⟨w.heap.size, 2, none⟩) (by simp; omega) (.int .i64 n)).setOther (p := ⟨w.heap.size, 3, none⟩) (by simp; omega) (.slice (some ⟨g, 0, none⟩) q q)
      have hk5 := (((hK.trans hk6).setCell (p := ⟨w.heap.size, 0, none⟩) (by simp) (.int .i64 r)).setCell (p := ⟨w.heap.size, 1, none⟩) (by simp) (.int .i64 sc)).setCell (p := ⟨w.heap.size, 2, none⟩) (by simp) (.int .i64 n) |>.setCell (p := ⟨w.heap.size, 3, none⟩) (by simp) (.slice (some ⟨g, 0, none⟩) q q)
      exact bodyPost_ret (v := .tuple #[.agg #[.int .i64 r, .int .i64 sc, .int .i64 n, .slice (some ⟨g, 0, none⟩) q q], .int .i64 0]) (by simp [results, Try.results40, go_sem, *]) rfl ⟨g, rfl, by omega, hO5, hk5⟩
end Go.Proofs.Ytcldcjchfagcoaa
