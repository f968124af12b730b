/- Package span: Meet, Join, Holds. Package span: Join, Holds. The walks of exact's small functions over digits: areDigits, digit, piece, length, signOf, top. -/
import Derived.Test.YtdhimkpfnhoagaaGreatDoorWh08
import Derived.Test.YtdhimkpfnhoagaaGreatDoorWh02
import Derived.Test.YtdhimkpfnhoagaaGreatDoorWh01
import Derived.Deep.RegionHeld
namespace Go.Proofs.YtdhimkpfnhoagaaGreatDoor
open Go.ChangeShapes Go.WideShapes Go.ChangeAt Go.RowKit Ieee
set_option linter.unusedVariables false
set_option linter.unusedSimpArgs false

/-- the first error of two intervals -/
def btE (a1 b1 a2 b2 n : Int) : Int := if opE a1 b1 n = 0 then opE a2 b2 n else opE a1 b1 n
theorem btE_zero (a1 b1 a2 b2 n : Int) : btE a1 b1 a2 b2 n = 0 ↔ vsp a1 b1 n = true ∧ vsp a2 b2 n = true := by
  unfold btE
  rw [← opE_zero, ← opE_zero]
  split
  · rename_i h; simp [h]
  · rename_i h; simp [h]
/-- the ends as both tells them -/
structure Bt (a1 b1 a2 b2 n : Int) (x1 y1 x2 y2 : Nat) (q : Int) : Prop where
  err : q = btE a1 b1 a2 b2 n
  ok : q = 0 → Fl n x1 (keyOf a1 n) ∧ Fl n y1 (keyOf b1 n) ∧ Fl n x2 (keyOf a2 n) ∧ Fl n y2 (keyOf b2 n)
  no : q ≠ 0 → x1 = 0 ∧ y1 = 0 ∧ x2 = 0 ∧ y2 = 0
theorem vsp_num (a b n : Int) (h : vsp a b n = true) : isnum a n = true ∧ isnum b n = true ∧ keyOf a n ≤ keyOf b n ∧ keyOf a n ≠ (ifn n : Int) ∧ keyOf b n ≠ -(ifn n : Int) := by
  unfold vsp at h
  simp only [Bool.and_eq_true, decide_eq_true_eq] at h
  exact ⟨h.1.1.1.1, h.1.1.1.2, h.1.1.2, h.1.2, h.2⟩
theorem both_any (a1 b1 a2 b2 n : Int) (r1 : RB a1) (r2 : RB b1) (r3 : RB a2) (r4 : RB b2) : ∃ x1 y1 x2 y2 q, Bt a1 b1 a2 b2 n x1 y1 x2 y2 q ∧ ∀ w, Calls Tryz.prog 67 #[sp2 a1 b1, sp2 a2 b2, .int .i64 n] w fun e w' => e = .returned (.tuple #[fv2 x1 y1, fv2 x2 y2, .int .i64 q]) ∧ Kept w w' := by
  obtain ⟨x1, y1, f1, g1, -⟩ := opV_form a1 b1 n
  obtain ⟨x2, y2, f2, g2, -⟩ := opV_form a2 b2 n
  have KO : Hid (∀ u a b x y q, (a = a1 ∧ b = b1 ∧ x = x1 ∧ y = y1 ∧ q = opE a1 b1 n ∨ a = a2 ∧ b = b2 ∧ x = x2 ∧ y = y2 ∧ q = opE a2 b2 n) → Calls Tryz.prog 73 #[sp2 a b, .int .i64 n] u fun e w' => e = .returned (.tuple #[fv2 x y, .int .i64 q]) ∧ Kept u w') := fun u a b x y q h => by
    rcases h with ⟨rfl, rfl, rfl, rfl, rfl⟩ | ⟨rfl, rfl, rfl, rfl, rfl⟩
    · rw [← f1]; exact opened_any _ _ n r1 r2 u
    · rw [← f2]; exact opened_any _ _ n r3 r4 u
  by_cases h : opE a1 b1 n = 0 ∧ opE a2 b2 n = 0
  · have hv1 := (opE_zero _ _ _).1 h.1
    have hv2 := (opE_zero _ _ _).1 h.2
    obtain ⟨i1, i2, -⟩ := vsp_num _ _ _ hv1
    obtain ⟨i3, i4, -⟩ := vsp_num _ _ _ hv2
    refine ⟨x1, y1, x2, y2, 0, ⟨((btE_zero _ _ _ _ _).2 ⟨hv1, hv2⟩).symm, fun _ => ?_, fun h => absurd rfl h⟩, fun w => ?_⟩
    · rw [(g1 hv1).1, (g1 hv1).2, (g2 hv2).1, (g2 hv2).2]
      exact ⟨Fl.flv i1 r1.1 r1.2, Fl.flv i2 r2.1 r2.2, Fl.flv i3 r3.1 r3.2, Fl.flv i4 r4.1 r4.2⟩
    · have := both_walk a1 b1 a2 b2 n x1 y1 x2 y2 _ _ w KO
      rw [if_pos h] at this
      exact this
  · refine ⟨0, 0, 0, 0, btE a1 b1 a2 b2 n, ⟨rfl, fun g => ?_, fun _ => ⟨rfl, rfl, rfl, rfl⟩⟩, fun w => ?_⟩
    · have := (btE_zero _ _ _ _ _).1 g
      exact absurd ⟨(opE_zero _ _ _).2 this.1, (opE_zero _ _ _).2 this.2⟩ h
    · have := both_walk a1 b1 a2 b2 n x1 y1 x2 y2 _ _ w KO
      rw [if_neg h] at this
      exact this
theorem Bt.fl {a1 b1 a2 b2 n : Int} {x1 y1 x2 y2 : Nat} {q : Int} (h : Bt a1 b1 a2 b2 n x1 y1 x2 y2 q) : ∃ (m : Int) (k1 j1 k2 j2 : Int), Fl m x1 k1 ∧ Fl m y1 j1 ∧ Fl m x2 k2 ∧ Fl m y2 j2 ∧ (q = 0 → m = n ∧ k1 = keyOf a1 n ∧ j1 = keyOf b1 n ∧ k2 = keyOf a2 n ∧ j2 = keyOf b2 n) := by
  by_cases hq : q = 0
  · obtain ⟨f1, f2, f3, f4⟩ := h.ok hq
    exact ⟨n, _, _, _, _, f1, f2, f3, f4, fun _ => ⟨rfl, rfl, rfl, rfl, rfl⟩⟩
  · obtain ⟨rfl, rfl, rfl, rfl⟩ := h.no hq
    have z := Fl.zero 64 (.inl rfl)
    exact ⟨64, 0, 0, 0, 0, z, z, z, z, fun g => absurd g hq⟩

abbrev zsp : Value := sp2 0 0
end Go.Proofs.YtdhimkpfnhoagaaGreatDoor

namespace Go.Proofs.YtdhimkpfnhoagaaGreatDoor
open Go.ChangeShapes Go.WideShapes Go.ChangeAt Go.RowKit Ieee
set_option linter.unusedVariables false
set_option linter.unusedSimpArgs false

set_option maxHeartbeats 2000000 in
set_option maxRecDepth 100000 in
theorem join_walk (a1 b1 a2 b2 n : Int) (x1 y1 x2 y2 : Nat) (q p1 p2 : Int) (J : Nat → Nat → Prop) (w : World)
    (KB : Hid (∀ u, Calls Tryz.prog 67 #[sp2 a1 b1, sp2 a2 b2, .int .i64 n] u fun e w' => e = .returned (.tuple #[fv2 x1 y1, fv2 x2 y2, .int .i64 q]) ∧ Kept u w'))
    (KJ : Hid (∀ (u v : World) (B : Nat), B = v.heap.size → Kept (v.alloc (.cells #[.float .f64 x2, .float .f64 y2] 87)) u → Calls Tryz.prog 74 #[fv2 x1 y1, .slice (some ⟨B, 0, none⟩) 1 1] u fun e w' => ∃ x y, e = .returned (fv2 x y) ∧ J x y ∧ Kept u w'))
    (KT : Hid (∀ u x y, J x y → Calls Tryz.prog 68 #[fv2 x y, .int .i64 n, .int .i64 q] u fun e w' => e = .returned (.tuple #[sp2 p1 p2, .int .i64 q]) ∧ Kept u w')) :
    Calls Tryz.prog 21 #[sp2 a1 b1, sp2 a2 b2, .int .i64 n] w fun e w' => e = .returned (.tuple #[sp2 p1 p2, .int .i64 q]) ∧ Kept w w' := by
  obtain ⟨X, hX⟩ : ∃ X, X = ((w.alloc (.cells #[.int .i64 a1, .int .i64 b1] 23)).alloc (.cells #[.int .i64 a2, .int .i64 b2] 23)).alloc (.cells #[.int .i64 0, .int .i64 0] 23) := ⟨_, rfl⟩
  have hP1 : P2 X w.heap.size (.int .i64 a1) (.int .i64 b1) := by
    rw [hX]
    exact ((P2.new w _ _ _).alloc _ _).alloc _ _
  have hP2 : P2 X (w.heap.size + 1) (.int .i64 a2) (.int .i64 b2) := by
    rw [hX]
    have := (P2.new (w.alloc (.cells #[.int .i64 a1, .int .i64 b1] 23)) (.int .i64 a2) (.int .i64 b2) 23).alloc #[.int .i64 0, .int .i64 0] 23
    simpa using this
  have hQ : P2 X (w.heap.size + 1 + 1) (.int .i64 0) (.int .i64 0) := by
    rw [hX]
    have := P2.new ((w.alloc (.cells #[.int .i64 a1, .int .i64 b1] 23)).alloc (.cells #[.int .i64 a2, .int .i64 b2] 23)) (.int .i64 0) (.int .i64 0) 23
    simpa using this
  have hK : Kept w X := by
    rw [hX]
    exact (((Kept.refl w).alloc _ _).alloc _ _).alloc _ _
  obtain ⟨H1, hH1⟩ : ∃ H, H = w.heap.size + 1 := ⟨_, rfl⟩
  obtain ⟨H2, hH2⟩ : ∃ H, H = H1 + 1 := ⟨_, rfl⟩
  rw [← hH1] at hP2 hQ
  rw [← hH2] at hQ
  have o2 : w.heap.size ≤ H2 := by omega
  have hSF := sto_f
  go_enter Tryz.func21, Tryz.ntmps21
  go_upto_region 1 with fail
  rw [← hX, ← hH1, ← hH2]
  clear hX hH1 hH2
  obtain ⟨p10, p11, p1f⟩ := hP1
  obtain ⟨p20, p21, p2f⟩ := hP2
  go_upto_region 2 with (first | (go_at_call 67; refine (KB.out _).mono ?_; rintro e w1 ⟨rfl, k1⟩))
  have hQ1 := hQ.kept k1
  have kw1 := hK.trans k1
  clear p10 p11 p1f p20 p21 p2f KB hK hQ k1
  obtain ⟨Y, hY⟩ : ∃ Y, Y = (w1.alloc (.cells #[.float .f64 x1, .float .f64 y1] 87)).alloc (.cells #[.float .f64 x2, .float .f64 y2] 87) := ⟨_, rfl⟩
  have hC1 : P2 Y w1.heap.size (.float .f64 x1) (.float .f64 y1) := by
    rw [hY]
    exact (P2.new w1 _ _ _).alloc _ _
  have hC2 : P2 Y (w1.heap.size + 1) (.float .f64 x2) (.float .f64 y2) := by
    rw [hY]
    have := P2.new (w1.alloc (.cells #[.float .f64 x1, .float .f64 y1] 87)) (.float .f64 x2) (.float .f64 y2) 87
    simpa using this
  have kY : Kept w1 Y := by
    rw [hY]
    exact ((Kept.refl w1).alloc _ _).alloc _ _
  have hQY := hQ1.kept kY
  have kwY := kw1.trans kY
  rw [← hY]
  clear hY kw1 kY hQ1
  obtain ⟨b0, b1', bf⟩ := hC1
  obtain ⟨c0, c1, cf⟩ := hC2
  go_wp2_with (first | (go_at_call 74; refine (KJ.out _ _ _ rfl (Kept.refl _)).mono ?_; rintro e w2 ⟨x, y, rfl, hJ, k2⟩) | (go_at_call 68; refine (KT.out _ _ _ hJ).mono ?_; rintro e w3 ⟨rfl, k3⟩; have k4 := ((Kept.refl Y).alloc _ _).trans (k2.trans k3); have hz := (hQY.kept k4).put (.int .i64 p1) (.int .i64 p2); obtain ⟨d0, d1, df⟩ := hQY.kept k4; obtain ⟨e0, e1, ef⟩ := hz))
  refine bodyPost_ret (v := .tuple #[sp2 p1 p2, .int .i64 q]) ?_ rfl ⟨rfl, ?_⟩
  · simp [results, Tryz.results21, go_sem, *]
  · (repeat' first | exact kwY.trans k4 | refine Kept.setCell ?_ ?_ _ | exact o2)
theorem join5_any (a1 b1 a2 b2 n : Int) (s1 : RB a1) (s2 : RB b1) (s3 : RB a2) (s4 : RB b2) (w : World) : Calls Tryz.prog 21 #[sp2 a1 b1, sp2 a2 b2, .int .i64 n] w fun e w' => e = .returned (if btE a1 b1 a2 b2 n = 0 then .tuple #[sp2 (pz n (min (keyOf a1 n) (keyOf a2 n))) (pz n (max (keyOf b1 n) (keyOf b2 n))), .int .i64 0] else .tuple #[zsp, .int .i64 (btE a1 b1 a2 b2 n)]) ∧ Kept w w' := by
  obtain ⟨x1, y1, x2, y2, q, hB, KB⟩ := both_any a1 b1 a2 b2 n s1 s2 s3 s4
  obtain ⟨m, k1, j1, k2, j2, f1, f2, f3, f4, hE⟩ := hB.fl
  have KJ : Hid (∀ (u v : World) (B : Nat), B = v.heap.size → Kept (v.alloc (.cells #[.float .f64 x2, .float .f64 y2] 87)) u → Calls Tryz.prog 74 #[fv2 x1 y1, .slice (some ⟨B, 0, none⟩) 1 1] u fun e w' => ∃ x y, e = .returned (fv2 x y) ∧ (Fl m x (min k1 k2) ∧ Fl m y (max j1 j2)) ∧ Kept u w') := fun u v B hB k => by
    subst hB
    refine (joined_any m x1 y1 k1 j1 f1 f2 1 (by decide) (fun _ => x2) (fun _ => y2) (fun _ => k2) (fun _ => j2) (fun _ _ => ⟨f3, f4⟩) _ _ u (ivs_one k)).mono ?_
    rintro e w' ⟨x, y, rfl, h1, h2, k'⟩
    exact ⟨x, y, rfl, ⟨h1, h2⟩, k'⟩
  have he := hB.err
  by_cases hq : q = 0
  · subst hq
    obtain ⟨rfl, rfl, rfl, rfl, rfl⟩ := hE rfl
    rw [← he, if_pos rfl]
    exact join_walk a1 b1 a2 b2 _ x1 y1 x2 y2 0 _ _ _ w KB KJ (fun u x y h => told_ok5 h.1 h.2 u)
  · rw [← he, if_neg hq]
    exact join_walk a1 b1 a2 b2 _ x1 y1 x2 y2 q 0 0 _ w KB KJ (fun u x y h => told_err5 x y n q (by simpa using hq) u)

end Go.Proofs.YtdhimkpfnhoagaaGreatDoor

namespace Go.Proofs.YtdhimkpfnhoagaaGreatDoor
open Go.ChangeShapes Go.WideShapes Go.ChangeAt Go.RowKit

def Reads (w : World) (b off : Nat) (L : List Int) : Prop := ∀ i, i < L.length → w.cell? ⟨b, off + i, none⟩ = some (.int .i64 (L.getD i 0))
def Sl (w : World) (v : Value) (L : List Int) : Prop :=
  ∃ ao cap, v = .slice ao L.length cap ∧ L.length ≤ cap ∧ cap ≤ maxLen ∧ (L ≠ [] → ∃ b off, ao = some ⟨b, off, none⟩ ∧ b < w.heap.size ∧ Reads w b off L)

theorem Reads.kept {w w' : World} {b off : Nat} {L : List Int} (h : Reads w b off L) (hb : b < w.heap.size) (k : Kept w w') : Reads w' b off L :=
  fun i hi => (k.below.cell (p := ⟨b, off + i, none⟩) hb).trans (h i hi)
theorem Sl.kept {w w' : World} {v : Value} {L : List Int} (h : Sl w v L) (k : Kept w w') : Sl w' v L := by
  obtain ⟨ao, cap, e, hc, hm, hr⟩ := h
  refine ⟨ao, cap, e, hc, hm, fun hne => ?_⟩
  obtain ⟨b, off, e2, hb, hr⟩ := hr hne
  exact ⟨b, off, e2, Nat.lt_of_lt_of_le hb k.below.size, hr.kept hb k⟩

def dig (L : List Int) (i : Int) : Int := if 0 ≤ i then L.getD i.toNat 0 else 0

set_option maxHeartbeats 400000 in
theorem digit_in (L : List Int) (b off cap : Nat) (i : Nat) (hi : i < L.length) (w : World) (hr : Reads w b off L) : Calls Tryz.prog 156 #[.slice (some ⟨b, off, none⟩) L.length cap, .int .i64 (i : Int)] w fun e w' => e = .returned (.int .i64 (L.getD i 0)) ∧ w = w' := by
  have h1 := hr i hi
  have h2 : ((i : Int) < 0) = False := by simp
  have h3 : ((L.length : Int) ≤ (i : Int)) = False := by simp; omega
  generalize L.getD i 0 = d at *
  generalize L.length = n at *
  clear hr
  go_enter Tryz.func156, Tryz.ntmps156
  go_wp2
  go_ret
  exact ⟨rfl, rfl⟩

set_option maxHeartbeats 400000 in
theorem digit_out (n : Nat) (ao : Option Addr) (cap : Nat) (i : Int) (hi : i < 0 ∨ (n : Int) ≤ i) (w : World) : Calls Tryz.prog 156 #[.slice ao n cap, .int .i64 i] w fun e w' => e = .returned (.int .i64 0) ∧ w = w' := by
  rcases (show i < 0 ∨ (0 ≤ i ∧ (n : Int) ≤ i) by omega) with h | ⟨h0, h⟩
  · go_enter Tryz.func156, Tryz.ntmps156
    go_wp2
    go_ret
    exact ⟨rfl, rfl⟩
  · go_enter Tryz.func156, Tryz.ntmps156
    go_wp2
    go_ret
    exact ⟨rfl, rfl⟩

theorem digit_any (L : List Int) (v : Value) (i : Int) (w : World) (h : Sl w v L) : Calls Tryz.prog 156 #[v, .int .i64 i] w fun e w' => e = .returned (.int .i64 (dig L i)) ∧ w = w' := by
  obtain ⟨ao, cap, rfl, hc, hm, hr⟩ := h
  by_cases hi : 0 ≤ i ∧ i < L.length
  · obtain ⟨b, off, rfl, -, hr⟩ := hr (by intro h; subst h; simp at hi; omega)
    have := digit_in L b off cap i.toNat (by omega) w hr
    rw [Int.toNat_of_nonneg hi.1] at this
    rw [dig, if_pos hi.1]
    exact this
  · have : dig L i = 0 := by
      unfold dig
      split
      · rw [List.getD_eq_getElem?_getD, List.getElem?_eq_none (by omega)]; rfl
      · rfl
    rw [this]
    exact digit_out _ _ _ _ (by omega) w

theorem dig_nat (L : List Int) (h : Dg L) (q : Nat) : dig L (q : Int) = ((nv L / 2 ^ (30 * q) % 1073741824 : Nat) : Int) := by
  have h1 := nv_getD L h q
  have h2 := h.getD q
  rw [dig, if_pos (by omega), Int.toNat_natCast]
  omega
theorem dig_neg (L : List Int) (q : Int) (h : q < 0) : dig L q = 0 := by rw [dig, if_neg (by omega)]
def pcq (L : List Int) (q : Int) (s : Nat) : Int := bits .and .i64 (bits .or .i64 (dig L q / 2 ^ s) (IntKind.i64.wrap (dig L (q + 1) * 2 ^ (30 - s)))) 1073741823

theorem pcq_nat (x y s : Nat) (hs : s < 30) (hx : x < 1073741824) (hy : y < 1073741824) : bits .and .i64 (bits .or .i64 ((x : Int) / 2 ^ s) (IntKind.i64.wrap ((y : Int) * 2 ^ (30 - s)))) 1073741823 = (((x / 2 ^ s + y * 2 ^ (30 - s)) % 1073741824 : Nat) : Int) := by
  obtain ⟨p, q, hp, hq, e⟩ : ∃ p q : Nat, 2 ^ s = p ∧ 2 ^ (30 - s) = q ∧ p * q = 1073741824 := ⟨_, _, rfl, rfl, by rw [← Nat.pow_add, show s + (30 - s) = 30 by omega]⟩
  have hp0 : 0 < p := by rw [← hp]; exact Nat.two_pow_pos _
  have hq0 : 0 < q := by rw [← hq]; exact Nat.two_pow_pos _
  have hq1 : q ≤ 1073741824 := by rw [← e]; exact Nat.le_mul_of_pos_left _ hp0
  have e1 : (x : Int) / 2 ^ s = ((x / 2 ^ s : Nat) : Int) := by rw [Int.natCast_ediv, Int.natCast_pow]; rfl
  have e2 : (y : Int) * 2 ^ (30 - s) = ((y * 2 ^ (30 - s) : Nat) : Int) := by rw [Int.natCast_mul, Int.natCast_pow]; rfl
  have h1 : x / 2 ^ s < 2 ^ (30 - s) := by
    rw [hp, hq]
    exact (Nat.div_lt_iff_lt_mul hp0).2 (by rw [Nat.mul_comm]; omega)
  have h2 : y * 2 ^ (30 - s) < 1152921504606846976 := by
    rw [hq]
    calc y * q ≤ y * 1073741824 := Nat.mul_le_mul_left _ hq1
      _ < 1152921504606846976 := by omega
  have e3 : IntKind.i64.wrap ((y * 2 ^ (30 - s) : Nat) : Int) = ((y * 2 ^ (30 - s) : Nat) : Int) := by
    rw [wrap_i64]; omega
  rw [e1, e2, e3, or_sum _ _ _ h1 (by have : x / 2 ^ s ≤ x := Nat.div_le_self _ _; omega), mask30]
  rfl

theorem pcq_eq (L : List Int) (h : Dg L) (q : Int) (s : Nat) (hs : s < 30) : pcq L q s = pcz (nv L) (30 * q + s) := by
  unfold pcq pcz
  by_cases h0 : 0 ≤ q
  · obtain ⟨n, rfl⟩ : ∃ n : Nat, q = n := ⟨q.toNat, by omega⟩
    rw [if_pos (by omega), show ((n : Int) + 1) = ((n + 1 : Nat) : Int) by omega, dig_nat L h, dig_nat L h, pcq_nat _ _ s hs (Nat.mod_lt _ (by decide)) (Nat.mod_lt _ (by decide)), piece_nat _ s hs, show (30 * (n : Int) + (s : Int)).toNat = 30 * n + s by omega]
  · rw [if_neg (by omega), dig_neg L q (by omega)]
    by_cases h1 : q = -1
    · subst h1
      have e := dig_nat L h 0
      rw [show (-1 + 1 : Int) = ((0 : Nat) : Int) by rfl, e, show (0 : Int) = ((0 : Nat) : Int) from rfl, pcq_nat 0 _ s hs (by decide) (Nat.mod_lt _ (by decide)), show (-(30 * (-1) + (s : Int))).toNat = 30 - s by omega]
      simp [Nat.mod_mul_mod]
    · rw [dig_neg L (q + 1) (by omega), show (0 : Int) = ((0 : Nat) : Int) from rfl, pcq_nat 0 0 s hs (by decide) (by decide)]
      obtain ⟨k, hk⟩ : ∃ k, (-(30 * q + (s : Int))).toNat = 30 + k := ⟨(-(30 * q + (s : Int))).toNat - 30, by omega⟩
      have e : nv L * (2 ^ 30 * 2 ^ k) % 1073741824 = 0 := by
        rw [Nat.mul_left_comm]
        exact Nat.mul_mod_right _ _
      rw [hk, Nat.pow_add, e]
      simp

theorem tdiv_at (p q s : Int) (h0 : 0 ≤ s) (hs : s < 30) (hp : p = 30 * q + s) (hc : 0 ≤ q ∨ s = 0) : p.tdiv 30 = q ∧ p.tmod 30 = s := by
  by_cases h : 0 ≤ p
  · rw [Int.tdiv_eq_ediv_of_nonneg (by omega), Int.tmod_eq_emod_of_nonneg (by omega)]
    omega
  · have e : p.tdiv 30 = -((-p).tdiv 30) := by rw [Int.neg_tdiv]; omega
    have f : p.tmod 30 = -((-p).tmod 30) := by rw [Int.neg_tmod]; omega
    rw [e, f, Int.tdiv_eq_ediv_of_nonneg (by omega), Int.tmod_eq_emod_of_nonneg (by omega)]
    omega
theorem tdiv_below (p q s : Int) (h0 : 0 < s) (hs : s < 30) (hp : p = 30 * q + s) (hc : q < 0) : p.tdiv 30 = q + 1 ∧ p.tmod 30 = s - 30 := by
  have e : p.tdiv 30 = -((-p).tdiv 30) := by rw [Int.neg_tdiv]; omega
  have f : p.tmod 30 = -((-p).tmod 30) := by rw [Int.neg_tmod]; omega
  rw [e, f, Int.tdiv_eq_ediv_of_nonneg (by omega), Int.tmod_eq_emod_of_nonneg (by omega)]
  omega

set_option maxHeartbeats 400000 in
theorem piece_at (L : List Int) (v : Value) (q : Int) (s : Nat) (hs : s < 30) (hq : q < 100000000) (hq0 : -100000000 < q) (p : Int) (hp : p = 30 * (q : Int) + s) (hc : 0 ≤ q ∨ (s : Int) = 0) (w : World) (h : Sl w v L) : Calls Tryz.prog 116 #[v, .int .i64 p] w fun e w' => e = .returned (.int .i64 (pcq L q s)) ∧ Kept w w' := by
  have H : Hid (Sl w v L) := h
  clear h
  obtain ⟨e1, e2⟩ := tdiv_at p q s (by omega) (by omega) hp hc
  clear hp hc
  have hK := Kept.refl w
  have e3 : IntKind.i64.wrap (q + 1) = q + 1 := by rw [wrap_i64]; omega
  have e4 : IntKind.i64.wrap (30 - (s : Int)) = ((30 - s : Nat) : Int) := by rw [wrap_i64]; omega
  go_enter Tryz.func116, Tryz.ntmps116
  go_wp2_with fail
  go_region_held (fun u => Kept w u) (first | exact hK.drew | assumption) (first | (go_at_call 156; refine (digit_any L v _ _ (H.out.kept (by assumption))).mono ?_; rintro e w1 ⟨rfl, rfl⟩))
  go_wp2
  go_ret
  exact ⟨rfl, hK.drew⟩

set_option maxHeartbeats 400000 in
theorem piece_below (L : List Int) (v : Value) (q : Int) (s : Nat) (hs : s < 30) (hq : q < 0) (hq0 : -100000000 < q) (p : Int) (hp : p = 30 * (q : Int) + s) (hc : 0 < s) (w : World) (h : Sl w v L) : Calls Tryz.prog 116 #[v, .int .i64 p] w fun e w' => e = .returned (.int .i64 (pcq L q s)) ∧ Kept w w' := by
  have H : Hid (Sl w v L) := h
  clear h
  obtain ⟨e1, e2⟩ := tdiv_below p q s (by omega) (by omega) hp hq
  clear hp
  have hK := Kept.refl w
  have e3 : IntKind.i64.wrap (q + 1) = q + 1 := by rw [wrap_i64]; omega
  have e5 : IntKind.i64.wrap (q + 1 - 1) = q := by rw [wrap_i64]; omega
  have e6 : IntKind.i64.wrap ((s : Int) - 30 + 30) = (s : Int) := by rw [wrap_i64]; omega
  have e4 : IntKind.i64.wrap (30 - (s : Int)) = ((30 - s : Nat) : Int) := by rw [wrap_i64]; omega
  go_enter Tryz.func116, Tryz.ntmps116
  go_wp2_with fail
  go_region_held (fun u => Kept w u) (first | exact hK.drew | assumption) (first | (go_at_call 156; refine (digit_any L v _ _ (H.out.kept (by assumption))).mono ?_; rintro e w1 ⟨rfl, rfl⟩))
  go_wp2
  go_ret
  exact ⟨rfl, hK.drew⟩

theorem piece_any (L : List Int) (hL : Dg L) (v : Value) (p : Int) (h1 : -1000000000 < p) (h2 : p < 1000000000) (w : World) (h : Sl w v L) : Calls Tryz.prog 116 #[v, .int .i64 p] w fun e w' => e = .returned (.int .i64 (pcz (nv L) p)) ∧ Kept w w' := by
  obtain ⟨s, hs⟩ : ∃ s : Nat, p % 30 = s := ⟨(p % 30).toNat, by omega⟩
  have e : 30 * (p / 30) + (s : Int) = p := by omega
  have := pcq_eq L hL (p / 30) s (by omega)
  rw [e] at this
  rw [← this]
  by_cases hc : 0 ≤ p / 30 ∨ (s : Int) = 0
  · exact piece_at L v (p / 30) s (by omega) (by omega) (by omega) p e.symm hc w h
  · exact piece_below L v (p / 30) s (by omega) (by omega) (by omega) p e.symm (by omega) w h
end Go.Proofs.YtdhimkpfnhoagaaGreatDoor