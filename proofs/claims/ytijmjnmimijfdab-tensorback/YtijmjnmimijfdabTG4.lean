/- GlueRows of package tensor. -/
import Derived.Test.YtijmjnmimijfdabTG3
namespace Go.Proofs.Ytijmjnmimijfdab
open Go.ChangeShapes Go.WideShapes Go.ChangeAt Go.RowKit
set_option linter.unusedVariables false
set_option linter.unusedSimpArgs false

/-- Lists one behind the other. -/
def catL (L : Nat → List Int) : Nat → List Int
  | 0 => []
  | k + 1 => catL L k ++ L k
theorem catL_mono (L : Nat → List Int) (i k : Nat) (h : i ≤ k) : (catL L i).length ≤ (catL L k).length := by
  induction k with
  | zero =>
    have h0 : i = 0 := by omega
    rw [h0]
    exact Nat.le_refl _
  | succ k ih =>
    rcases Nat.lt_or_ge k i with h1 | h1
    · obtain rfl : i = k + 1 := by omega
      exact Nat.le_refl _
    · rw [catL, List.length_append]
      have := ih h1
      omega
theorem catL_rgl (L : Nat → List Int) (k : Nat) (h : ∀ i, i < k → Rgl (L i)) : Rgl (catL L k) := by
  induction k with
  | zero => intro i hi; simp [catL] at hi
  | succ k ih =>
    intro i hi
    rw [catL] at hi ⊢
    rw [List.length_append] at hi
    rcases Nat.lt_or_ge i (catL L k).length with h1 | h1
    · have := ih (fun j hj => h j (by omega)) i h1
      rw [List.getD_eq_getElem?_getD, List.getElem?_append_left h1, ← List.getD_eq_getElem?_getD]
      exact this
    · have := h k (by omega) (i - (catL L k).length) (by omega)
      rw [List.getD_eq_getElem?_getD, List.getElem?_append_right h1, ← List.getD_eq_getElem?_getD]
      exact this
theorem Lm.congr {u : World} {B off k : Nat} {r c n r' c' n' : Nat → Int} {a : Nat → Option Addr} {cap : Nat → Nat} {L : Nat → List Int} (h : Lm u B off k r c n a cap L) (hr : ∀ i, i < k → r i = r' i) (hc : ∀ i, i < k → c i = c' i) (hn : ∀ i, i < k → n i = n' i) : Lm u B off k r' c' n' a cap L := by
  refine ⟨h.lt, fun i hi => ?_, h.sl⟩
  rw [← hr i hi, ← hc i hi, ← hn i hi]
  exact h.rd i hi

/-- The world behind region 0: the answer's cells. -/
def st1 (w : World) : World := w.alloc (.cells #[.int .i64 0, .int .i64 0, .int .i64 0, .slice none 0 0] 24)
theorem st1_facts (w : World) : M4 (st1 w) w.heap.size (.int .i64 0) (.int .i64 0) (.int .i64 0) (.slice none 0 0) ∧ (∀ o, (st1 w).frozen? ⟨w.heap.size, o, none⟩ = false) ∧ Kept w (st1 w) := by
  unfold st1
  exact ⟨M4.new _ _ _ _ _ _, fun o => by simp [go_sem], (Kept.refl w).alloc _ _⟩

set_option maxHeartbeats 4000000 in
set_option maxRecDepth 100000 in
theorem glueRows_no (v : Value) (q : Int) (hq0 : q ≠ 0) (w : World) (KC0 : ∀ u, Kept w u → Calls Try.prog 45 #[v] u fun e w' => e = .returned (.int .i64 q) ∧ Kept u w') :
    Calls Try.prog 23 #[v] w fun e w' => e = .returned (.tuple #[zeroMat, .int .i64 q]) ∧ Kept w w' := by
  obtain ⟨hM, hF, hK⟩ := st1_facts w
  obtain ⟨X, hX⟩ : ∃ X, X = st1 w := ⟨_, rfl⟩
  rw [← hX] at hM hF hK
  have KC : Hid (Calls Try.prog 45 #[v] X fun e w' => e = .returned (.int .i64 q) ∧ Kept X w') := KC0 X hK
  have hqb : (q != 0) = true := by simpa using hq0
  clear KC0
  unfold st1 at hX
  go_enter Try.func23, Try.ntmps23
  go_upto_region 1 with fail
  rw [← hX]
  clear hX
  go_wp2_with (first | (go_at_call 45; refine (KC.out).mono ?_; rintro e w1 ⟨rfl, k1⟩; have hr1 := hM.bl k1.bl; have f1 : ∀ o, w1.frozen? ⟨w.heap.size, o, none⟩ = false := fun o => (k1.frozen _).trans (hF o); obtain ⟨p0, p1, p2, p3⟩ := res4 w1 _ _ _ _ _ hr1 (.int .i64 0) (.int .i64 0) (.int .i64 0) (.slice none 0 0); obtain ⟨r0, r1, r2, r3⟩ := hr1))
  exact bodyPost_ret (v := .tuple #[zeroMat, .int .i64 q]) (by simp [results, Try.results23, go_sem, *]) rfl ⟨rfl, (hK.trans k1).setCell (by simp) _ |>.setCell (by simp) _ |>.setCell (by simp) _ |>.setCell (by simp) _⟩

set_option maxHeartbeats 4000000 in
set_option maxRecDepth 100000 in
theorem glueRows_bad (B off k lc : Nat) (hk0 : 0 < k) (hk : k ≤ 1000000) (r c n : Nat → Int) (a : Nat → Option Addr) (cap : Nat → Nat) (L : Nat → List Int) (hr : ∀ i, i < k → 1 ≤ r i ∧ r i ≤ 1000000) (w : World) (hM0 : Lm w B off k r c n a cap L) (hck : ∀ i, i < k → ckM (r i) (c i) (n i) (L i) = 0) (e : Int) (he0 : e ≠ 0) (hE : GlE k c r n 0 0 0 e) :
    Calls Try.prog 23 #[.slice (some ⟨B, off, none⟩) k lc] w fun x w' => x = .returned (.tuple #[zeroMat, .int .i64 e]) ∧ Kept w w' := by
  obtain ⟨hM, hF, hK⟩ := st1_facts w
  obtain ⟨X, hX⟩ : ∃ X, X = st1 w := ⟨_, rfl⟩
  rw [← hX] at hM hF hK
  have KC : Hid (Calls Try.prog 45 #[.slice (some ⟨B, off, none⟩) k lc] X fun e w' => e = .returned (.int .i64 0) ∧ Kept X w') := checkAll_any B off k lc hk0 hk r c n a cap L X (hM0.bl hK.bl) 0 (.inl ⟨rfl, hck⟩)
  have KS : Hid (∀ u, Kept X u → Calls Try.prog 47 #[.slice (some ⟨B, off, none⟩) k lc] u fun e w' => ∃ g, e = .returned (.slice (some ⟨g, 0, none⟩) k k) ∧ Ls w' g 0 k r c n ∧ Kept u w') := fun u ku => shapes_any B off k lc hk r c n a cap L u (hM0.bl (hK.trans ku).bl)
  have KG : Hid (∀ u g, Ls u g 0 k r c n → Calls Try.prog 49 #[.slice (some ⟨g, 0, none⟩) k k] u fun x w' => x = .returned (.tuple #[.agg #[.int .i64 0, .int .i64 0, .int .i64 0], .int .i64 e]) ∧ Kept u w') := fun u g hL => rowsGlued_any g 0 k k hk0 hk r c n hr u hL 0 0 0 e hE
  have hqb : (e != 0) = true := by simpa using he0
  clear hM0 hck hE hr
  unfold st1 at hX
  go_enter Try.func23, Try.ntmps23
  go_upto_region 1 with fail
  rw [← hX]
  clear hX
  go_upto_region 5 with (first | (go_at_call 45; refine (KC.out).mono ?_; rintro x w1 ⟨rfl, k1⟩) | (go_at_call 47; refine (KS.out _ k1).mono ?_; rintro x w2 ⟨g, rfl, hL2, k2⟩) | (go_at_call 49; refine (KG.out _ _ hL2).mono ?_; rintro x w3 ⟨rfl, k3⟩))
  obtain ⟨Y, hY⟩ : ∃ Y, Y = w3.alloc (.cells #[.int .i64 0, .int .i64 0, .int .i64 0] 50) := ⟨_, rfl⟩
  rw [← hY]
  have kY : Kept X Y := by rw [hY]; exact (k1.trans (k2.trans k3)).alloc _ _
  clear hY
  have hr1 := hM.bl kY.bl
  have f1 : ∀ o, Y.frozen? ⟨w.heap.size, o, none⟩ = false := fun o => (kY.frozen _).trans (hF o)
  obtain ⟨p0, p1, p2, p3⟩ := res4 Y _ _ _ _ _ hr1 (.int .i64 0) (.int .i64 0) (.int .i64 0) (.slice none 0 0)
  obtain ⟨r0, r1, r2, r3⟩ := hr1
  go_wp2_with fail
  exact bodyPost_ret (v := .tuple #[zeroMat, .int .i64 e]) (by simp [results, Try.results23, go_sem, *]) rfl ⟨rfl, (hK.trans kY).setCell (by simp) _ |>.setCell (by simp) _ |>.setCell (by simp) _ |>.setCell (by simp) _⟩

set_option maxHeartbeats 4000000 in
set_option maxRecDepth 100000 in
theorem glueRows_ok (B off k lc : Nat) (hk0 : 0 < k) (hk : k ≤ 1000000) (r c n : Nat → Int) (a : Nat → Option Addr) (cap : Nat → Nat) (L : Nat → List Int) (hr : ∀ i, i < k → 1 ≤ r i ∧ r i ≤ 1000000) (w : World) (hM0 : Lm w B off k r c n a cap L) (hck : ∀ i, i < k → ckM (r i) (c i) (n i) (L i) = 0) (hE : GlE k c r n (c 0) (sm r k) (n 0) 0) (hne : ∀ i, i < k → L i ≠ []) (hRg : ∀ i, i < k → Rgl (L i)) (hn : n 0 = 64 ∨ n 0 = 32) (htot : sm r k * c 0 = ((catL L k).length : Int)) (ht4 : (catL L k).length ≤ 4096) :
    Calls Try.prog 23 #[.slice (some ⟨B, off, none⟩) k lc] w fun x w' => ∃ g, x = .returned (.tuple #[.agg #[.int .i64 (sm r k), .int .i64 (c 0), .int .i64 (n 0), .slice (some ⟨g, 0, none⟩) (catL L k).length (catL L k).length], .int .i64 0]) ∧ w.heap.size ≤ g ∧ Own w' g (catL L k).length ((catL L k).map (cln · (n 0))) ∧ Kept w w' := by
  obtain ⟨hM, hF, hK⟩ := st1_facts w
  obtain ⟨X, hX⟩ : ∃ X, X = st1 w := ⟨_, rfl⟩
  rw [← hX] at hM hF hK
  have KC : Hid (Calls Try.prog 45 #[.slice (some ⟨B, off, none⟩) k lc] X fun e w' => e = .returned (.int .i64 0) ∧ Kept X w') := checkAll_any B off k lc hk0 hk r c n a cap L X (hM0.bl hK.bl) 0 (.inl ⟨rfl, hck⟩)
  have KS : Hid (∀ u, Kept X u → Calls Try.prog 47 #[.slice (some ⟨B, off, none⟩) k lc] u fun e w' => ∃ g, e = .returned (.slice (some ⟨g, 0, none⟩) k k) ∧ Ls w' g 0 k r c n ∧ Kept u w') := fun u ku => shapes_any B off k lc hk r c n a cap L u (hM0.bl (hK.trans ku).bl)
  have KG : Hid (∀ u g, Ls u g 0 k r c n → Calls Try.prog 49 #[.slice (some ⟨g, 0, none⟩) k k] u fun x w' => x = .returned (.tuple #[.agg #[.int .i64 (sm r k), .int .i64 (c 0), .int .i64 (n 0)], .int .i64 0]) ∧ Kept u w') := fun u g hL => rowsGlued_any g 0 k k hk0 hk r c n hr u hL (c 0) (sm r k) (n 0) 0 hE
  obtain ⟨q, hq⟩ : ∃ q, (catL L k).length = q := ⟨_, rfl⟩
  rw [hq] at htot ht4 ⊢
  have HQ : Hid ((catL L k).length = q) := hq
  have KW : Hid (∀ u, Calls Try.prog 43 #[.agg #[.int .i64 (sm r k), .int .i64 (c 0), .int .i64 (n 0)]] u fun e w' => ∃ g, e = .returned (.slice (some ⟨g, 0, none⟩) 0 q) ∧ u.heap.size ≤ g ∧ Own w' g q [] ∧ Kept u w') := fun u => bare_any _ _ _ q htot (by omega) u
  have HM : Hid (∀ u, Kept X u → Lm u B off k r c n a cap L) := fun u ku => hM0.bl (hK.trans ku).bl
  have HNE : Hid (∀ i, i < k → L i ≠ []) := hne
  have HRT : Hid (Rgl (catL L k)) := catL_rgl L k hRg
  have HMO : Hid (∀ i, i ≤ k → (catL L i).length ≤ q) := fun i hi => by rw [← hq]; exact catL_mono L i k hi
  clear hM0 hck hE hr hne hRg htot hq
  generalize hsr : sm r k = sr at *
  unfold st1 at hX
  go_enter Try.func23, Try.ntmps23
  go_upto_region 1 with fail
  rw [← hX]
  clear hX
  go_upto_region 5 with (first | (go_at_call 45; refine (KC.out).mono ?_; rintro x w1 ⟨rfl, k1⟩) | (go_at_call 47; refine (KS.out _ k1).mono ?_; rintro x w2 ⟨g2, rfl, hL2, k2⟩) | (go_at_call 49; refine (KG.out _ _ hL2).mono ?_; rintro x w3 ⟨rfl, k3⟩))
  obtain ⟨Y, hY⟩ : ∃ Y, Y = w3.alloc (.cells #[.int .i64 sr, .int .i64 (c 0), .int .i64 (n 0)] 50) := ⟨_, rfl⟩
  rw [← hY]
  have kY : Kept X Y := by rw [hY]; exact (k1.trans (k2.trans k3)).alloc _ _
  have hBY : M3 Y w3.heap.size (.int .i64 sr) (.int .i64 (c 0)) (.int .i64 (n 0)) := by rw [hY]; exact M3.new _ _ _ _ _
  have hB3 := (k1.trans (k2.trans k3)).below.size
  generalize w3.heap.size = B3 at *
  clear hY KC KS KG k1 k2 k3 hL2
  have hBY' := hBY
  obtain ⟨b0, b1, b2⟩ := hBY'
  go_upto_region 8 with (first | (go_at_call 43; refine (KW.out _).mono ?_; rintro x V ⟨g, rfl, hg, hOV, kV⟩))
  clear b0 b1 b2
  have hBV := hBY.bl kV.bl
  have kXV := kY.trans kV
  have hgX : X.heap.size ≤ g := Nat.le_trans kY.below.size hg
  have hBlt := hBY.lt
  clear KW kV hBY kY
  go_wp2_with fail
  go_loopw [7, 30] (fun lv iv wr => ∃ i : Nat, i ≤ k ∧ iv = .int .i64 i ∧ lv = .slice (some ⟨g, 0, none⟩) (catL L i).length q ∧ Own wr g q (catL L i) ∧ Grw g V wr) (fun _ iv _ => k - (intOf iv).toNat)
  case atStart => exact ⟨0, Nat.zero_le _, rfl, rfl, hOV, Grw.refl _ _⟩
  case round =>
    obtain ⟨i, hi, rfl, rfl, hOk, hGk⟩ := hrel
    have kXr : Kept X wr := kXV.grw hgX hGk
    by_cases hik : i < k
    · obtain ⟨c0, c1, c2, c3⟩ := (HM.out wr kXr).rd i hik
      have hmo := HMO.out (i + 1) (by omega)
      have z0 : IntKind.i64.wrap ((i : Int) + 1) = (i : Int) + 1 := by rw [wrap_i64]; omega
      have HAP : Hid (∀ u, Kept wr u → ∃ U, (∀ ty, (Builtin.append_ #[22, 22] ty #[.slice (some ⟨g, 0, none⟩) (catL L i).length q, .slice (a i) (L i).length (cap i)]).run Try.prog u = .ok (.slice (some ⟨g, 0, none⟩) (catL L (i + 1)).length q) U) ∧ Own U g q (catL L (i + 1)) ∧ Grw g V U) := fun u ku => by
        obtain ⟨ao, cp, e1, -, -, hrd⟩ := (HM.out u (kXr.trans ku)).sl i hik
        injection e1 with e1 e2 e3
        rw [e1, e3]
        obtain ⟨b, o, rfl, hb, hrd⟩ := hrd (HNE.out i hik)
        have hlen : (catL L (i + 1)).length = (catL L i).length + (L i).length := by rw [catL, List.length_append]
        obtain ⟨hr, hO2, hG2⟩ := app_room u g q _ (hOk.kept ku) (L i) b o (L i).length cp rfl hrd (by omega) _ rfl
        rw [← hlen] at hr
        exact ⟨_, hr, hO2, (hGk.trans (ku.toGrw g)).trans hG2⟩
      clear HM HNE HRT HMO hOk
      generalize (L i).length = li at *
      generalize (catL L i).length = ln at *
      go_wp2_with (first | (at_builtin; obtain ⟨U, hr, hOU, hGU⟩ := HAP.out _ ((Kept.refl wr).alloc _ _); have HR9 : Hid _ := hr; clear hr; refine wpList_append_run rfl _ _ _ rfl _ _ rfl rfl _ _ (HR9.out _) ?_))
      go_roundw
      case rel => exact ⟨i + 1, by omega, by go_num, rfl, hOU, hGU⟩
      case measure => simp [intOf]; omega
    · obtain rfl : i = k := by omega
      have hql := HQ.out
      have KM : Hid (Calls Try.prog 30 #[.agg #[.int .i64 sr, .int .i64 (c 0), .int .i64 (n 0)], .slice (some ⟨g, 0, none⟩) q q] wr fun e w' => e = .returned (.agg #[.int .i64 sr, .int .i64 (c 0), .int .i64 (n 0), .slice (some ⟨g, 0, none⟩) q q]) ∧ Own w' g q ((catL L i).map (cln · (n 0))) ∧ Kept X w') := by
        have := matrix_any sr (c 0) (n 0) hn (catL L i) HRT.out (by omega) g q wr hOk
        rw [hql] at this
        refine this.mono ?_
        rintro e w' ⟨rfl, h1, h2⟩
        exact ⟨rfl, h1, kXr.grw (by omega) h2⟩
      rw [hql]
      have hgs := hOV.lt
      have hB7 : M3 wr B3 (.int .i64 sr) (.int .i64 (c 0)) (.int .i64 (n 0)) := ⟨(hGk.cellx B3 0 hBV.lt (by omega)).trans hBV.c0, (hGk.cellx B3 1 hBV.lt (by omega)).trans hBV.c1, (hGk.cellx B3 2 hBV.lt (by omega)).trans hBV.c2⟩
      have hgw := hM.lt
      obtain ⟨s0, s1, s2⟩ := hB7
      clear hOk HM HNE HRT HMO HQ hql hOV
      go_wp2_with (first | (go_at_call 30; refine (KM.out).mono ?_; rintro x u6 ⟨rfl, hO4, hk6⟩; have hr4 := hM.bl hk6.bl; have f4 : ∀ o, u6.frozen? ⟨w.heap.size, o, none⟩ = false := fun o => (hk6.frozen _).trans (hF o); obtain ⟨p0, p1, p2, p3⟩ := res4 u6 _ _ _ _ _ hr4 (.int .i64 sr) (.int .i64 (c 0)) (.int .i64 (n 0)) (.slice (some ⟨g, 0, none⟩) q q); obtain ⟨r0, r1, r2, r3⟩ := hr4))
      have hO5 := (((hO4.setOther (p := ⟨w.heap.size, 0, none⟩) (by simp; omega) (.int .i64 sr)).setOther (p := ⟨w.heap.size, 1, none⟩) (by simp; omega) (.int .i64 (c 0))).setOther (p := ⟨w.heap.size, 2, none⟩) (by simp; omega) (.int .i64 (n 0))).setOther (p := ⟨w.heap.size, 3, none⟩) (by simp; omega) (.slice (some ⟨g, 0, none⟩) q q)
      have hk5 := (((hK.trans hk6).setCell (p := ⟨w.heap.size, 0, none⟩) (by simp) (.int .i64 sr)).setCell (p := ⟨w.heap.size, 1, none⟩) (by simp) (.int .i64 (c 0))).setCell (p := ⟨w.heap.size, 2, none⟩) (by simp) (.int .i64 (n 0)) |>.setCell (p := ⟨w.heap.size, 3, none⟩) (by simp) (.slice (some ⟨g, 0, none⟩) q q)
      exact bodyPost_ret (v := .tuple #[.agg #[.int .i64 sr, .int .i64 (c 0), .int .i64 (n 0), .slice (some ⟨g, 0, none⟩) q q], .int .i64 0]) (by simp [results, Try.results23, go_sem, *]) rfl ⟨g, rfl, by omega, hO5, hk5⟩
end Go.Proofs.Ytijmjnmimijfdab
