/- Package span: Join, Holds. The walks of exact's small functions over digits: areDigits, digit, piece, length, signOf, top. -/
import Derived.Test.YtalhnaakbekboaaDoorV10
import Derived.Test.YtalhnaakbekboaaDoorV02
import Derived.Test.YtalhnaakbekboaaDoorV01
import Derived.Deep.RegionHeld
namespace Go.Proofs.YtalhnaakbekboaaDoor
open Go.ChangeShapes Go.WideShapes Go.ChangeAt Go.RowKit Ieee
set_option linter.unusedVariables false
set_option linter.unusedSimpArgs false

set_option maxHeartbeats 2000000 in
set_option maxRecDepth 100000 in
theorem join_walk (a1 b1 a2 b2 n : Int) (x1 y1 x2 y2 : Nat) (q p1 p2 : Int) (J : Nat → Nat → Prop) (w : World)
    (KB : Hid (∀ u, Calls Tryd.prog 30 #[sp2 a1 b1, sp2 a2 b2, .int .i64 n] u fun e w' => e = .returned (.tuple #[fv2 x1 y1, fv2 x2 y2, .int .i64 q]) ∧ Kept u w'))
    (KJ : Hid (∀ (u v : World) (B : Nat), B = v.heap.size → Kept (v.alloc (.cells #[.float .f64 x2, .float .f64 y2] 55)) u → Calls Tryd.prog 46 #[fv2 x1 y1, .slice (some ⟨B, 0, none⟩) 1 1] u fun e w' => ∃ x y, e = .returned (fv2 x y) ∧ J x y ∧ Kept u w'))
    (KT : Hid (∀ u x y, J x y → Calls Tryd.prog 31 #[fv2 x y, .int .i64 n, .int .i64 q] u fun e w' => e = .returned (.tuple #[sp2 p1 p2, .int .i64 q]) ∧ Kept u w')) :
    Calls Tryd.prog 20 #[sp2 a1 b1, sp2 a2 b2, .int .i64 n] w fun e w' => e = .returned (.tuple #[sp2 p1 p2, .int .i64 q]) ∧ Kept w w' := by
  obtain ⟨X, hX⟩ : ∃ X, X = ((w.alloc (.cells #[.int .i64 a1, .int .i64 b1] 23)).alloc (.cells #[.int .i64 a2, .int .i64 b2] 23)).alloc (.cells #[.int .i64 0, .int .i64 0] 23) := ⟨_, rfl⟩
  have hP1 : P2 X w.heap.size (.int .i64 a1) (.int .i64 b1) := by
    rw [hX]
    exact ((P2.new w _ _ _).alloc _ _).alloc _ _
  have hP2 : P2 X (w.heap.size + 1) (.int .i64 a2) (.int .i64 b2) := by
    rw [hX]
    have := (P2.new (w.alloc (.cells #[.int .i64 a1, .int .i64 b1] 23)) (.int .i64 a2) (.int .i64 b2) 23).alloc #[.int .i64 0, .int .i64 0] 23
    simpa using this
  have hQ : P2 X (w.heap.size + 1 + 1) (.int .i64 0) (.int .i64 0) := by
    rw [hX]
    have := P2.new ((w.alloc (.cells #[.int .i64 a1, .int .i64 b1] 23)).alloc (.cells #[.int .i64 a2, .int .i64 b2] 23)) (.int .i64 0) (.int .i64 0) 23
    simpa using this
  have hK : Kept w X := by
    rw [hX]
    exact (((Kept.refl w).alloc _ _).alloc _ _).alloc _ _
  obtain ⟨H1, hH1⟩ : ∃ H, H = w.heap.size + 1 := ⟨_, rfl⟩
  obtain ⟨H2, hH2⟩ : ∃ H, H = H1 + 1 := ⟨_, rfl⟩
  rw [← hH1] at hP2 hQ
  rw [← hH2] at hQ
  have o2 : w.heap.size ≤ H2 := by omega
  have hSF := sto_f
  go_enter Tryd.func20, Tryd.ntmps20
  go_upto_region 1 with fail
  rw [← hX, ← hH1, ← hH2]
  clear hX hH1 hH2
  obtain ⟨p10, p11, p1f⟩ := hP1
  obtain ⟨p20, p21, p2f⟩ := hP2
  go_upto_region 2 with (first | (go_at_call 30; refine (KB.out _).mono ?_; rintro e w1 ⟨rfl, k1⟩))
  have hQ1 := hQ.kept k1
  have kw1 := hK.trans k1
  clear p10 p11 p1f p20 p21 p2f KB hK hQ k1
  obtain ⟨Y, hY⟩ : ∃ Y, Y = (w1.alloc (.cells #[.float .f64 x1, .float .f64 y1] 55)).alloc (.cells #[.float .f64 x2, .float .f64 y2] 55) := ⟨_, rfl⟩
  have hC1 : P2 Y w1.heap.size (.float .f64 x1) (.float .f64 y1) := by
    rw [hY]
    exact (P2.new w1 _ _ _).alloc _ _
  have hC2 : P2 Y (w1.heap.size + 1) (.float .f64 x2) (.float .f64 y2) := by
    rw [hY]
    have := P2.new (w1.alloc (.cells #[.float .f64 x1, .float .f64 y1] 55)) (.float .f64 x2) (.float .f64 y2) 55
    simpa using this
  have kY : Kept w1 Y := by
    rw [hY]
    exact ((Kept.refl w1).alloc _ _).alloc _ _
  have hQY := hQ1.kept kY
  have kwY := kw1.trans kY
  rw [← hY]
  clear hY kw1 kY hQ1
  obtain ⟨b0, b1', bf⟩ := hC1
  obtain ⟨c0, c1, cf⟩ := hC2
  go_wp2_with (first | (go_at_call 46; refine (KJ.out _ _ _ rfl (Kept.refl _)).mono ?_; rintro e w2 ⟨x, y, rfl, hJ, k2⟩) | (go_at_call 31; refine (KT.out _ _ _ hJ).mono ?_; rintro e w3 ⟨rfl, k3⟩; have k4 := ((Kept.refl Y).alloc _ _).trans (k2.trans k3); have hz := (hQY.kept k4).put (.int .i64 p1) (.int .i64 p2); obtain ⟨d0, d1, df⟩ := hQY.kept k4; obtain ⟨e0, e1, ef⟩ := hz))
  refine bodyPost_ret (v := .tuple #[sp2 p1 p2, .int .i64 q]) ?_ rfl ⟨rfl, ?_⟩
  · simp [results, Tryd.results20, go_sem, *]
  · (repeat' first | exact kwY.trans k4 | refine Kept.setCell ?_ ?_ _ | exact o2)
theorem join5_any (a1 b1 a2 b2 n : Int) (s1 : RB a1) (s2 : RB b1) (s3 : RB a2) (s4 : RB b2) (w : World) : Calls Tryd.prog 20 #[sp2 a1 b1, sp2 a2 b2, .int .i64 n] w fun e w' => e = .returned (if btE a1 b1 a2 b2 n = 0 then .tuple #[sp2 (pz n (min (keyOf a1 n) (keyOf a2 n))) (pz n (max (keyOf b1 n) (keyOf b2 n))), .int .i64 0] else .tuple #[zsp, .int .i64 (btE a1 b1 a2 b2 n)]) ∧ Kept w w' := by
  obtain ⟨x1, y1, x2, y2, q, hB, KB⟩ := both_any a1 b1 a2 b2 n s1 s2 s3 s4
  obtain ⟨m, k1, j1, k2, j2, f1, f2, f3, f4, hE⟩ := hB.fl
  have KJ : Hid (∀ (u v : World) (B : Nat), B = v.heap.size → Kept (v.alloc (.cells #[.float .f64 x2, .float .f64 y2] 55)) u → Calls Tryd.prog 46 #[fv2 x1 y1, .slice (some ⟨B, 0, none⟩) 1 1] u fun e w' => ∃ x y, e = .returned (fv2 x y) ∧ (Fl m x (min k1 k2) ∧ Fl m y (max j1 j2)) ∧ Kept u w') := fun u v B hB k => by
    subst hB
    refine (joined_any m x1 y1 k1 j1 f1 f2 1 (by decide) (fun _ => x2) (fun _ => y2) (fun _ => k2) (fun _ => j2) (fun _ _ => ⟨f3, f4⟩) _ _ u (ivs_one k)).mono ?_
    rintro e w' ⟨x, y, rfl, h1, h2, k'⟩
    exact ⟨x, y, rfl, ⟨h1, h2⟩, k'⟩
  have he := hB.err
  by_cases hq : q = 0
  · subst hq
    obtain ⟨rfl, rfl, rfl, rfl, rfl⟩ := hE rfl
    rw [← he, if_pos rfl]
    exact join_walk a1 b1 a2 b2 _ x1 y1 x2 y2 0 _ _ _ w KB KJ (fun u x y h => told_ok5 h.1 h.2 u)
  · rw [← he, if_neg hq]
    exact join_walk a1 b1 a2 b2 _ x1 y1 x2 y2 q 0 0 _ w KB KJ (fun u x y h => told_err5 x y n q (by simpa using hq) u)

set_option maxHeartbeats 2000000 in
set_option maxRecDepth 100000 in
theorem holds5_walk (lo hi b n : Int) (x y f : Nat) (q r : Int) (hr06 : q = 0 → r = 0 ∨ r = 6) (t : Bool) (w : World)
    (KO : Hid (∀ u, Calls Tryd.prog 42 #[sp2 lo hi, .int .i64 n] u fun e w' => e = .returned (.tuple #[fv2 x y, .int .i64 q]) ∧ Kept u w'))
    (KN : Hid (∀ u, Calls Tryd.prog 45 #[.int .i64 b, .int .i64 n] u fun e w' => e = .returned (.tuple #[.float .f64 f, .int .i64 r]) ∧ Kept u w'))
    (KP : Hid (∀ u, Calls Tryd.prog 40 #[.float .f64 f] u fun e w' => e = .returned (fv2 f f) ∧ Kept u w'))
    (KH : Hid (q = 0 → r = 0 → ∀ u, Calls Tryd.prog 39 #[fv2 x y, fv2 f f] u fun e w' => e = .returned (.bool t) ∧ Kept u w')) :
    Calls Tryd.prog 19 #[sp2 lo hi, .int .i64 b, .int .i64 n] w fun e w' => e = .returned (.tuple #[.bool (decide (q = 0) && decide (r = 0) && t), .int .i64 (if q = 0 then r else q)]) ∧ Kept w w' := by
  have hSF := sto_f
  by_cases hq : q = 0
  · have hr := hr06 hq
    have KH2 := KH.out hq
    clear hr06 KH
    subst hq
    rw [if_pos rfl]
    have KH : Hid (r = 0 → ∀ u, Calls Tryd.prog 39 #[fv2 x y, fv2 f f] u fun e w' => e = .returned (.bool t) ∧ Kept u w') := KH2
    clear KH2
    have HR : Hid (r = 0 ∨ r = 6) := hr
    clear hr
    go_enter Tryd.func19, Tryd.ntmps19
    go_upto_region 5 with (first | (go_at_call 42; refine (KO.out _).mono ?_; rintro e w1 ⟨rfl, k1⟩) | (go_at_call 45; refine (KN.out _).mono ?_; rintro e w2 ⟨rfl, k2⟩))
    have kw : Kept w w2 := ((((Kept.refl w).alloc _ _).trans k1).alloc _ _).trans k2
    have hC := P2.newk k2
    have hd0 : Kept w2 w2.drew := (Kept.refl _).drew
    obtain ⟨B, hB⟩ : ∃ B, B = w1.heap.size := ⟨_, rfl⟩
    rw [← hB] at hC ⊢
    clear hB k1 KO KN
    have HS : Hid (∀ u, Kept w2 u → Kept w2 u ∧ u.cell? ⟨B, 0, none⟩ = some (.float .f64 x) ∧ u.cell? ⟨B, 1, none⟩ = some (.float .f64 y)) := fun u k => ⟨k, (hC.kept k).c0, (hC.kept k).c1⟩
    have KP' : Hid (∀ u, Kept w2 u → Calls Tryd.prog 40 #[.float .f64 f] u fun e w' => e = .returned (fv2 f f) ∧ Kept w2 w') := fun u k => by
      refine (KP.out u).mono ?_
      rintro e w' ⟨rfl, k'⟩
      exact ⟨rfl, k.trans k'⟩
    rcases HR.out with rfl | rfl
    · have KH' : Hid (∀ u, Kept w2 u → Calls Tryd.prog 39 #[fv2 x y, fv2 f f] u fun e w' => e = .returned (.bool t) ∧ Kept w2 w') := fun u k => by
        refine (KH.out (by trivial) u).mono ?_
        rintro e w' ⟨rfl, k'⟩
        exact ⟨rfl, k.trans k'⟩
      clear KH KP
      go_region_held (fun u => Kept w2 u ∧ u.cell? ⟨B, 0, none⟩ = some (.float .f64 x) ∧ u.cell? ⟨B, 1, none⟩ = some (.float .f64 y)) (first | assumption | exact HS.out _ hd0 | exact HS.out _ (by assumption)) (first | (go_at_call 40; refine (KP'.out _ (by assumption)).mono ?_; rintro e w3 ⟨rfl, k3⟩) | (go_at_call 39; refine (KH'.out _ (by assumption)).mono ?_; rintro e w4 ⟨rfl, k4⟩))
      go_wp2_with fail
      exact bodyPost_ret (v := .tuple #[.bool t, .int .i64 0]) (by simp [results, Tryd.results19, go_sem]) rfl ⟨by simp, kw.trans k4⟩
    · clear KH KP
      go_quiet (fail)
      go_wp2_with fail
      exact bodyPost_ret (v := .tuple #[.bool false, .int .i64 6]) (by simp [results, Tryd.results19, go_sem]) rfl ⟨by simp, by first | exact kw.trans hd0 | exact kw.drewN _ | exact kw⟩
  · have hqb : (q != 0) = true := by simpa using hq
    rw [if_neg hq, decide_eq_false hq]
    go_enter Tryd.func19, Tryd.ntmps19
    go_wp2_with (first | (go_at_call 42; refine (KO.out _).mono ?_; rintro e w1 ⟨rfl, k1⟩))
    exact bodyPost_ret (v := .tuple #[.bool false, .int .i64 q]) (by simp [results, Tryd.results19, go_sem]) rfl ⟨rfl, (((Kept.refl w).alloc _ _).trans k1).alloc _ _⟩
theorem holds5_any (lo hi b n : Int) (s1 : RB lo) (s2 : RB hi) (s3 : RB b) (w : World) : Calls Tryd.prog 19 #[sp2 lo hi, .int .i64 b, .int .i64 n] w fun e w' => e = .returned (.tuple #[.bool (vsp lo hi n && fin b n && decide (keyOf lo n ≤ keyOf b n ∧ keyOf b n ≤ keyOf hi n)), .int .i64 (if opE lo hi n = 0 then nmE b n else opE lo hi n)]) ∧ Kept w w' := by
  obtain ⟨x, y, hf, g1, -⟩ := opV_form lo hi n
  have KO : Hid (∀ u, Calls Tryd.prog 42 #[sp2 lo hi, .int .i64 n] u fun e w' => e = .returned (.tuple #[fv2 x y, .int .i64 (opE lo hi n)]) ∧ Kept u w') := fun u => by
    rw [← hf]
    exact opened_any lo hi n s1 s2 u
  refine (holds5_walk lo hi b n x y (nmF b n) (opE lo hi n) (nmE b n) (fun hq => by
    obtain ⟨i1, -⟩ := vsp_num _ _ _ ((opE_zero _ _ _).1 hq)
    unfold nmE
    rw [if_pos (isnum_wid _ _ i1)]
    split <;> simp) (decide (keyOf lo n ≤ keyOf b n ∧ keyOf b n ≤ keyOf hi n)) w KO (fun u => number_any b n s3 u) (fun u => point_any _ u) (fun hq hr u => ?_)).mono ?_
  · have hv := (opE_zero _ _ _).1 hq
    obtain ⟨i1, i2, -⟩ := vsp_num _ _ _ hv
    have hn := isnum_wid _ _ i1
    have hfin : fin b n = true := by
      unfold nmE at hr
      rw [if_pos hn] at hr
      split at hr
      · assumption
      · cases hr
    have hib : isnum b n = true := by
      unfold fin at hfin
      unfold isnum
      rw [decide_eq_true_eq] at hfin ⊢
      exact ⟨hn, by omega⟩
    have e : nmF b n = flv b n := by unfold nmF; rw [if_pos hfin]
    rw [e, (g1 hv).1, (g1 hv).2]
    have f := Fl.flv hib s3.1 s3.2
    exact holds_any n _ _ _ _ _ _ _ _ (Fl.flv i1 s1.1 s1.2) (Fl.flv i2 s2.1 s2.2) f f u
  · rintro e w' ⟨rfl, k⟩
    refine ⟨?_, k⟩
    have e1 : decide (opE lo hi n = 0) = vsp lo hi n := by
      rw [Bool.eq_iff_iff, decide_eq_true_eq]
      exact opE_zero _ _ _
    have e2 : vsp lo hi n = true → decide (nmE b n = 0) = fin b n := fun hv => by
      obtain ⟨i1, -⟩ := vsp_num _ _ _ hv
      unfold nmE
      rw [if_pos (isnum_wid _ _ i1)]
      cases fin b n <;> simp
    rw [e1]
    by_cases hv : vsp lo hi n = true
    · rw [e2 hv]
    · have : vsp lo hi n = false := by simpa using hv
      rw [this]
      simp
end Go.Proofs.YtalhnaakbekboaaDoor

namespace Go.Proofs.YtalhnaakbekboaaDoor
open Go.ChangeShapes Go.WideShapes Go.ChangeAt Go.RowKit

def Reads (w : World) (b off : Nat) (L : List Int) : Prop := ∀ i, i < L.length → w.cell? ⟨b, off + i, none⟩ = some (.int .i64 (L.getD i 0))
def Sl (w : World) (v : Value) (L : List Int) : Prop :=
  ∃ ao cap, v = .slice ao L.length cap ∧ L.length ≤ cap ∧ cap ≤ maxLen ∧ (L ≠ [] → ∃ b off, ao = some ⟨b, off, none⟩ ∧ b < w.heap.size ∧ Reads w b off L)

theorem Reads.kept {w w' : World} {b off : Nat} {L : List Int} (h : Reads w b off L) (hb : b < w.heap.size) (k : Kept w w') : Reads w' b off L :=
  fun i hi => (k.below.cell (p := ⟨b, off + i, none⟩) hb).trans (h i hi)
theorem Sl.kept {w w' : World} {v : Value} {L : List Int} (h : Sl w v L) (k : Kept w w') : Sl w' v L := by
  obtain ⟨ao, cap, e, hc, hm, hr⟩ := h
  refine ⟨ao, cap, e, hc, hm, fun hne => ?_⟩
  obtain ⟨b, off, e2, hb, hr⟩ := hr hne
  exact ⟨b, off, e2, Nat.lt_of_lt_of_le hb k.below.size, hr.kept hb k⟩

def dig (L : List Int) (i : Int) : Int := if 0 ≤ i then L.getD i.toNat 0 else 0

set_option maxHeartbeats 400000 in
theorem digit_in (L : List Int) (b off cap : Nat) (i : Nat) (hi : i < L.length) (w : World) (hr : Reads w b off L) : Calls Tryd.prog 95 #[.slice (some ⟨b, off, none⟩) L.length cap, .int .i64 (i : Int)] w fun e w' => e = .returned (.int .i64 (L.getD i 0)) ∧ w = w' := by
  have h1 := hr i hi
  have h2 : ((i : Int) < 0) = False := by simp
  have h3 : ((L.length : Int) ≤ (i : Int)) = False := by simp; omega
  generalize L.getD i 0 = d at *
  generalize L.length = n at *
  clear hr
  go_enter Tryd.func95, Tryd.ntmps95
  go_wp2
  go_ret
  exact ⟨rfl, rfl⟩

set_option maxHeartbeats 400000 in
theorem digit_out (n : Nat) (ao : Option Addr) (cap : Nat) (i : Int) (hi : i < 0 ∨ (n : Int) ≤ i) (w : World) : Calls Tryd.prog 95 #[.slice ao n cap, .int .i64 i] w fun e w' => e = .returned (.int .i64 0) ∧ w = w' := by
  rcases (show i < 0 ∨ (0 ≤ i ∧ (n : Int) ≤ i) by omega) with h | ⟨h0, h⟩
  · go_enter Tryd.func95, Tryd.ntmps95
    go_wp2
    go_ret
    exact ⟨rfl, rfl⟩
  · go_enter Tryd.func95, Tryd.ntmps95
    go_wp2
    go_ret
    exact ⟨rfl, rfl⟩

theorem digit_any (L : List Int) (v : Value) (i : Int) (w : World) (h : Sl w v L) : Calls Tryd.prog 95 #[v, .int .i64 i] w fun e w' => e = .returned (.int .i64 (dig L i)) ∧ w = w' := by
  obtain ⟨ao, cap, rfl, hc, hm, hr⟩ := h
  by_cases hi : 0 ≤ i ∧ i < L.length
  · obtain ⟨b, off, rfl, -, hr⟩ := hr (by intro h; subst h; simp at hi; omega)
    have := digit_in L b off cap i.toNat (by omega) w hr
    rw [Int.toNat_of_nonneg hi.1] at this
    rw [dig, if_pos hi.1]
    exact this
  · have : dig L i = 0 := by
      unfold dig
      split
      · rw [List.getD_eq_getElem?_getD, List.getElem?_eq_none (by omega)]; rfl
      · rfl
    rw [this]
    exact digit_out _ _ _ _ (by omega) w

theorem dig_nat (L : List Int) (h : Dg L) (q : Nat) : dig L (q : Int) = ((nv L / 2 ^ (30 * q) % 1073741824 : Nat) : Int) := by
  have h1 := nv_getD L h q
  have h2 := h.getD q
  rw [dig, if_pos (by omega), Int.toNat_natCast]
  omega
theorem dig_neg (L : List Int) (q : Int) (h : q < 0) : dig L q = 0 := by rw [dig, if_neg (by omega)]
def pcq (L : List Int) (q : Int) (s : Nat) : Int := bits .and .i64 (bits .or .i64 (dig L q / 2 ^ s) (IntKind.i64.wrap (dig L (q + 1) * 2 ^ (30 - s)))) 1073741823

theorem pcq_nat (x y s : Nat) (hs : s < 30) (hx : x < 1073741824) (hy : y < 1073741824) : bits .and .i64 (bits .or .i64 ((x : Int) / 2 ^ s) (IntKind.i64.wrap ((y : Int) * 2 ^ (30 - s)))) 1073741823 = (((x / 2 ^ s + y * 2 ^ (30 - s)) % 1073741824 : Nat) : Int) := by
  obtain ⟨p, q, hp, hq, e⟩ : ∃ p q : Nat, 2 ^ s = p ∧ 2 ^ (30 - s) = q ∧ p * q = 1073741824 := ⟨_, _, rfl, rfl, by rw [← Nat.pow_add, show s + (30 - s) = 30 by omega]⟩
  have hp0 : 0 < p := by rw [← hp]; exact Nat.two_pow_pos _
  have hq0 : 0 < q := by rw [← hq]; exact Nat.two_pow_pos _
  have hq1 : q ≤ 1073741824 := by rw [← e]; exact Nat.le_mul_of_pos_left _ hp0
  have e1 : (x : Int) / 2 ^ s = ((x / 2 ^ s : Nat) : Int) := by rw [Int.natCast_ediv, Int.natCast_pow]; rfl
  have e2 : (y : Int) * 2 ^ (30 - s) = ((y * 2 ^ (30 - s) : Nat) : Int) := by rw [Int.natCast_mul, Int.natCast_pow]; rfl
  have h1 : x / 2 ^ s < 2 ^ (30 - s) := by
    rw [hp, hq]
    exact (Nat.div_lt_iff_lt_mul hp0).2 (by rw [Nat.mul_comm]; omega)
  have h2 : y * 2 ^ (30 - s) < 1152921504606846976 := by
    rw [hq]
    calc y * q ≤ y * 1073741824 := Nat.mul_le_mul_left _ hq1
      _ < 1152921504606846976 := by omega
  have e3 : IntKind.i64.wrap ((y * 2 ^ (30 - s) : Nat) : Int) = ((y * 2 ^ (30 - s) : Nat) : Int) := by
    rw [wrap_i64]; omega
  rw [e1, e2, e3, or_sum _ _ _ h1 (by have : x / 2 ^ s ≤ x := Nat.div_le_self _ _; omega), mask30]
  rfl

theorem pcq_eq (L : List Int) (h : Dg L) (q : Int) (s : Nat) (hs : s < 30) : pcq L q s = pcz (nv L) (30 * q + s) := by
  unfold pcq pcz
  by_cases h0 : 0 ≤ q
  · obtain ⟨n, rfl⟩ : ∃ n : Nat, q = n := ⟨q.toNat, by omega⟩
    rw [if_pos (by omega), show ((n : Int) + 1) = ((n + 1 : Nat) : Int) by omega, dig_nat L h, dig_nat L h, pcq_nat _ _ s hs (Nat.mod_lt _ (by decide)) (Nat.mod_lt _ (by decide)), piece_nat _ s hs, show (30 * (n : Int) + (s : Int)).toNat = 30 * n + s by omega]
  · rw [if_neg (by omega), dig_neg L q (by omega)]
    by_cases h1 : q = -1
    · subst h1
      have e := dig_nat L h 0
      rw [show (-1 + 1 : Int) = ((0 : Nat) : Int) by rfl, e, show (0 : Int) = ((0 : Nat) : Int) from rfl, pcq_nat 0 _ s hs (by decide) (Nat.mod_lt _ (by decide)), show (-(30 * (-1) + (s : Int))).toNat = 30 - s by omega]
      simp [Nat.mod_mul_mod]
    · rw [dig_neg L (q + 1) (by omega), show (0 : Int) = ((0 : Nat) : Int) from rfl, pcq_nat 0 0 s hs (by decide) (by decide)]
      obtain ⟨k, hk⟩ : ∃ k, (-(30 * q + (s : Int))).toNat = 30 + k := ⟨(-(30 * q + (s : Int))).toNat - 30, by omega⟩
      have e : nv L * (2 ^ 30 * 2 ^ k) % 1073741824 = 0 := by
        rw [Nat.mul_left_comm]
        exact Nat.mul_mod_right _ _
      rw [hk, Nat.pow_add, e]
      simp

theorem tdiv_at (p q s : Int) (h0 : 0 ≤ s) (hs : s < 30) (hp : p = 30 * q + s) (hc : 0 ≤ q ∨ s = 0) : p.tdiv 30 = q ∧ p.tmod 30 = s := by
  by_cases h : 0 ≤ p
  · rw [Int.tdiv_eq_ediv_of_nonneg (by omega), Int.tmod_eq_emod_of_nonneg (by omega)]
    omega
  · have e : p.tdiv 30 = -((-p).tdiv 30) := by rw [Int.neg_tdiv]; omega
    have f : p.tmod 30 = -((-p).tmod 30) := by rw [Int.neg_tmod]; omega
    rw [e, f, Int.tdiv_eq_ediv_of_nonneg (by omega), Int.tmod_eq_emod_of_nonneg (by omega)]
    omega
theorem tdiv_below (p q s : Int) (h0 : 0 < s) (hs : s < 30) (hp : p = 30 * q + s) (hc : q < 0) : p.tdiv 30 = q + 1 ∧ p.tmod 30 = s - 30 := by
  have e : p.tdiv 30 = -((-p).tdiv 30) := by rw [Int.neg_tdiv]; omega
  have f : p.tmod 30 = -((-p).tmod 30) := by rw [Int.neg_tmod]; omega
  rw [e, f, Int.tdiv_eq_ediv_of_nonneg (by omega), Int.tmod_eq_emod_of_nonneg (by omega)]
  omega

set_option maxHeartbeats 400000 in
theorem piece_at (L : List Int) (v : Value) (q : Int) (s : Nat) (hs : s < 30) (hq : q < 100000000) (hq0 : -100000000 < q) (p : Int) (hp : p = 30 * (q : Int) + s) (hc : 0 ≤ q ∨ (s : Int) = 0) (w : World) (h : Sl w v L) : Calls Tryd.prog 78 #[v, .int .i64 p] w fun e w' => e = .returned (.int .i64 (pcq L q s)) ∧ Kept w w' := by
  have H : Hid (Sl w v L) := h
  clear h
  obtain ⟨e1, e2⟩ := tdiv_at p q s (by omega) (by omega) hp hc
  clear hp hc
  have hK := Kept.refl w
  have e3 : IntKind.i64.wrap (q + 1) = q + 1 := by rw [wrap_i64]; omega
  have e4 : IntKind.i64.wrap (30 - (s : Int)) = ((30 - s : Nat) : Int) := by rw [wrap_i64]; omega
  go_enter Tryd.func78, Tryd.ntmps78
  go_wp2_with fail
  go_region_held (fun u => Kept w u) (first | exact hK.drew | assumption) (first | (go_at_call 95; refine (digit_any L v _ _ (H.out.kept (by assumption))).mono ?_; rintro e w1 ⟨rfl, rfl⟩))
  go_wp2
  go_ret
  exact ⟨rfl, hK.drew⟩

set_option maxHeartbeats 400000 in
theorem piece_below (L : List Int) (v : Value) (q : Int) (s : Nat) (hs : s < 30) (hq : q < 0) (hq0 : -100000000 < q) (p : Int) (hp : p = 30 * (q : Int) + s) (hc : 0 < s) (w : World) (h : Sl w v L) : Calls Tryd.prog 78 #[v, .int .i64 p] w fun e w' => e = .returned (.int .i64 (pcq L q s)) ∧ Kept w w' := by
  have H : Hid (Sl w v L) := h
  clear h
  obtain ⟨e1, e2⟩ := tdiv_below p q s (by omega) (by omega) hp hq
  clear hp
  have hK := Kept.refl w
  have e3 : IntKind.i64.wrap (q + 1) = q + 1 := by rw [wrap_i64]; omega
  have e5 : IntKind.i64.wrap (q + 1 - 1) = q := by rw [wrap_i64]; omega
  have e6 : IntKind.i64.wrap ((s : Int) - 30 + 30) = (s : Int) := by rw [wrap_i64]; omega
  have e4 : IntKind.i64.wrap (30 - (s : Int)) = ((30 - s : Nat) : Int) := by rw [wrap_i64]; omega
  go_enter Tryd.func78, Tryd.ntmps78
  go_wp2_with fail
  go_region_held (fun u => Kept w u) (first | exact hK.drew | assumption) (first | (go_at_call 95; refine (digit_any L v _ _ (H.out.kept (by assumption))).mono ?_; rintro e w1 ⟨rfl, rfl⟩))
  go_wp2
  go_ret
  exact ⟨rfl, hK.drew⟩

theorem piece_any (L : List Int) (hL : Dg L) (v : Value) (p : Int) (h1 : -1000000000 < p) (h2 : p < 1000000000) (w : World) (h : Sl w v L) : Calls Tryd.prog 78 #[v, .int .i64 p] w fun e w' => e = .returned (.int .i64 (pcz (nv L) p)) ∧ Kept w w' := by
  obtain ⟨s, hs⟩ : ∃ s : Nat, p % 30 = s := ⟨(p % 30).toNat, by omega⟩
  have e : 30 * (p / 30) + (s : Int) = p := by omega
  have := pcq_eq L hL (p / 30) s (by omega)
  rw [e] at this
  rw [← this]
  by_cases hc : 0 ≤ p / 30 ∨ (s : Int) = 0
  · exact piece_at L v (p / 30) s (by omega) (by omega) (by omega) p e.symm hc w h
  · exact piece_below L v (p / 30) s (by omega) (by omega) (by omega) p e.symm (by omega) w h
end Go.Proofs.YtalhnaakbekboaaDoor