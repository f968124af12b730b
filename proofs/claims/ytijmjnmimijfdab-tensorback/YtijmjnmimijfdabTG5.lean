/- GlueCols of package tensor. -/
import Derived.Test.YtijmjnmimijfdabTG4
namespace Go.Proofs.Ytijmjnmimijfdab
open Go.ChangeShapes Go.WideShapes Go.ChangeAt Go.RowKit
set_option linter.unusedVariables false
set_option linter.unusedSimpArgs false

set_option maxHeartbeats 4000000 in
set_option maxRecDepth 100000 in
theorem glueCols_no (v : Value) (q : Int) (hq0 : q ≠ 0) (w : World) (KC0 : ∀ u, Kept w u → Calls Try.prog 45 #[v] u fun e w' => e = .returned (.int .i64 q) ∧ Kept u w') :
    Calls Try.prog 21 #[v] w fun e w' => e = .returned (.tuple #[zeroMat, .int .i64 q]) ∧ Kept w w' := by
  obtain ⟨hM, hF, hK⟩ := st1_facts w
  obtain ⟨X, hX⟩ : ∃ X, X = st1 w := ⟨_, rfl⟩
  rw [← hX] at hM hF hK
  have KC : Hid (Calls Try.prog 45 #[v] X fun e w' => e = .returned (.int .i64 q) ∧ Kept X w') := KC0 X hK
  have hqb : (q != 0) = true := by simpa using hq0
  clear KC0
  unfold st1 at hX
  go_enter Try.func21, Try.ntmps21
  go_upto_region 1 with fail
  rw [← hX]
  clear hX
  go_wp2_with (first | (go_at_call 45; refine (KC.out).mono ?_; rintro e w1 ⟨rfl, k1⟩; have hr1 := hM.bl k1.bl; have f1 : ∀ o, w1.frozen? ⟨w.heap.size, o, none⟩ = false := fun o => (k1.frozen _).trans (hF o); obtain ⟨p0, p1, p2, p3⟩ := res4 w1 _ _ _ _ _ hr1 (.int .i64 0) (.int .i64 0) (.int .i64 0) (.slice none 0 0); obtain ⟨r0, r1, r2, r3⟩ := hr1))
  exact bodyPost_ret (v := .tuple #[zeroMat, .int .i64 q]) (by simp [results, Try.results21, go_sem, *]) rfl ⟨rfl, (hK.trans k1).setCell (by simp) _ |>.setCell (by simp) _ |>.setCell (by simp) _ |>.setCell (by simp) _⟩

set_option maxHeartbeats 4000000 in
set_option maxRecDepth 100000 in
theorem glueCols_bad (B off k lc : Nat) (hk0 : 0 < k) (hk : k ≤ 1000000) (r c n : Nat → Int) (a : Nat → Option Addr) (cap : Nat → Nat) (L : Nat → List Int) (hr : ∀ i, i < k → 1 ≤ c i ∧ c i ≤ 1000000) (w : World) (hM0 : Lm w B off k r c n a cap L) (hck : ∀ i, i < k → ckM (r i) (c i) (n i) (L i) = 0) (e : Int) (he0 : e ≠ 0) (hE : GlE k r c n 0 0 0 e) :
    Calls Try.prog 21 #[.slice (some ⟨B, off, none⟩) k lc] w fun x w' => x = .returned (.tuple #[zeroMat, .int .i64 e]) ∧ Kept w w' := by
  obtain ⟨hM, hF, hK⟩ := st1_facts w
  obtain ⟨X, hX⟩ : ∃ X, X = st1 w := ⟨_, rfl⟩
  rw [← hX] at hM hF hK
  have KC : Hid (Calls Try.prog 45 #[.slice (some ⟨B, off, none⟩) k lc] X fun e w' => e = .returned (.int .i64 0) ∧ Kept X w') := checkAll_any B off k lc hk0 hk r c n a cap L X (hM0.bl hK.bl) 0 (.inl ⟨rfl, hck⟩)
  have KS : Hid (∀ u, Kept X u → Calls Try.prog 47 #[.slice (some ⟨B, off, none⟩) k lc] u fun e w' => ∃ g, e = .returned (.slice (some ⟨g, 0, none⟩) k k) ∧ Ls w' g 0 k r c n ∧ Kept u w') := fun u ku => shapes_any B off k lc hk r c n a cap L u (hM0.bl (hK.trans ku).bl)
  have KG : Hid (∀ u g, Ls u g 0 k r c n → Calls Try.prog 46 #[.slice (some ⟨g, 0, none⟩) k k] u fun x w' => x = .returned (.tuple #[.agg #[.int .i64 0, .int .i64 0, .int .i64 0], .int .i64 e]) ∧ Kept u w') := fun u g hL => colsGlued_any g 0 k k hk0 hk r c n hr u hL 0 0 0 e hE
  have hqb : (e != 0) = true := by simpa using he0
  clear hM0 hck hE hr
  unfold st1 at hX
  go_enter Try.func21, Try.ntmps21
  go_upto_region 1 with fail
  rw [← hX]
  clear hX
  go_upto_region 5 with (first | (go_at_call 45; refine (KC.out).mono ?_; rintro x w1 ⟨rfl, k1⟩) | (go_at_call 47; refine (KS.out _ k1).mono ?_; rintro x w2 ⟨g, rfl, hL2, k2⟩) | (go_at_call 46; refine (KG.out _ _ hL2).mono ?_; rintro x w3 ⟨rfl, k3⟩))
  obtain ⟨Y, hY⟩ : ∃ Y, Y = w3.alloc (.cells #[.int .i64 0, .int .i64 0, .int .i64 0] 50) := ⟨_, rfl⟩
  rw [← hY]
  have kY : Kept X Y := by rw [hY]; exact (k1.trans (k2.trans k3)).alloc _ _
  clear hY
  have hr1 := hM.bl kY.bl
  have f1 : ∀ o, Y.frozen? ⟨w.heap.size, o, none⟩ = false := fun o => (kY.frozen _).trans (hF o)
  obtain ⟨p0, p1, p2, p3⟩ := res4 Y _ _ _ _ _ hr1 (.int .i64 0) (.int .i64 0) (.int .i64 0) (.slice none 0 0)
  obtain ⟨r0, r1, r2, r3⟩ := hr1
  go_wp2_with fail
  exact bodyPost_ret (v := .tuple #[zeroMat, .int .i64 e]) (by simp [results, Try.results21, go_sem, *]) rfl ⟨rfl, (hK.trans kY).setCell (by simp) _ |>.setCell (by simp) _ |>.setCell (by simp) _ |>.setCell (by simp) _⟩


/-- A row of the i-th matrix; rows side by side. -/
def rwL (C : Nat → Nat) (L : Nat → List Int) (r i : Nat) : List Int := lst (C i) (fun x => (L i).getD (r * C i + x) 0)
def rwA (C : Nat → Nat) (L : Nat → List Int) (k r : Nat) : List Int := catL (rwL C L r) k
def rwB (C : Nat → Nat) (L : Nat → List Int) (k r i : Nat) : List Int := catL (rwA C L k) r ++ catL (rwL C L r) i
theorem rwB_zero (C : Nat → Nat) (L : Nat → List Int) (k r : Nat) : rwB C L k r 0 = catL (rwA C L k) r := by simp [rwB, catL]
theorem rwB_succ (C : Nat → Nat) (L : Nat → List Int) (k r i : Nat) : rwB C L k r (i + 1) = rwB C L k r i ++ rwL C L r i := by simp [rwB, catL]
theorem rwB_last (C : Nat → Nat) (L : Nat → List Int) (k r : Nat) : rwB C L k r k = catL (rwA C L k) (r + 1) := rfl
theorem rwB_le (C : Nat → Nat) (L : Nat → List Int) (k r R i : Nat) (hr : r < R) (hi : i ≤ k) : (rwB C L k r i).length ≤ (catL (rwA C L k) R).length := by
  refine Nat.le_trans ?_ (catL_mono (rwA C L k) (r + 1) R hr)
  unfold rwB
  rw [catL, List.length_append, List.length_append]
  have := catL_mono (rwL C L r) i k hi
  unfold rwA
  omega
theorem rwL_length (C : Nat → Nat) (L : Nat → List Int) (r i : Nat) : (rwL C L r i).length = C i := by unfold rwL; rw [lst_length]
theorem row_lt (r R c x : Nat) (hr : r < R) (hx : x < c) : r * c + x < R * c := by
  calc r * c + x < r * c + c := by omega
    _ = (r + 1) * c := by rw [Nat.succ_mul]
    _ ≤ R * c := Nat.mul_le_mul_right _ hr
theorem rw_rgl (C : Nat → Nat) (L : Nat → List Int) (k R : Nat) (hL : ∀ i, i < k → (L i).length = R * C i) (h : ∀ i, i < k → Rgl (L i)) : Rgl (catL (rwA C L k) R) := by
  refine catL_rgl _ _ (fun r hr => ?_)
  unfold rwA
  refine catL_rgl _ _ (fun i hi => ?_)
  intro x hx
  rw [rwL_length] at hx
  unfold rwL
  rw [lst_get _ _ _ hx]
  refine h i hi _ ?_
  rw [hL i hi]
  exact row_lt r R (C i) x hr hx

set_option maxHeartbeats 4000000 in
set_option maxRecDepth 100000 in
theorem glueCols_ok (B off k lc R : Nat) (hk0 : 0 < k) (hk : k ≤ 1000000) (hR4 : R ≤ 4096) (n : Int) (C : Nat → Nat) (a : Nat → Option Addr) (cap : Nat → Nat) (L : Nat → List Int) (hC : ∀ i, i < k → 0 < C i ∧ C i ≤ 4096 ∧ R * C i ≤ 4096) (w : World) (hM0 : Lm w B off k (fun _ => (R : Int)) (fun i => (C i : Int)) (fun _ => n) a cap L) (hck : ∀ i, i < k → ckM R (C i) n (L i) = 0) (hE : GlE k (fun _ => (R : Int)) (fun i => (C i : Int)) (fun _ => n) R (sm (fun i => (C i : Int)) k) n 0) (hL : ∀ i, i < k → (L i).length = R * C i) (hRp : 0 < R) (hRg : ∀ i, i < k → Rgl (L i)) (hn : n = 64 ∨ n = 32) (htot : (R : Int) * sm (fun i => (C i : Int)) k = ((catL (rwA C L k) R).length : Int)) (ht4 : (catL (rwA C L k) R).length ≤ 4096) :
    Calls Try.prog 21 #[.slice (some ⟨B, off, none⟩) k lc] w fun x w' => ∃ g, x = .returned (.tuple #[.agg #[.int .i64 R, .int .i64 (sm (fun i => (C i : Int)) k), .int .i64 n, .slice (some ⟨g, 0, none⟩) (catL (rwA C L k) R).length (catL (rwA C L k) R).length], .int .i64 0]) ∧ w.heap.size ≤ g ∧ Own w' g (catL (rwA C L k) R).length ((catL (rwA C L k) R).map (cln · n)) ∧ Kept w w' := by
  obtain ⟨hM, hF, hK⟩ := st1_facts w
  obtain ⟨X, hX⟩ : ∃ X, X = st1 w := ⟨_, rfl⟩
  rw [← hX] at hM hF hK
  have KC : Hid (Calls Try.prog 45 #[.slice (some ⟨B, off, none⟩) k lc] X fun e w' => e = .returned (.int .i64 0) ∧ Kept X w') := checkAll_any B off k lc hk0 hk _ _ _ a cap L X (hM0.bl hK.bl) 0 (.inl ⟨rfl, hck⟩)
  obtain ⟨sc, hsc⟩ : ∃ sc, sm (fun i => (C i : Int)) k = sc := ⟨_, rfl⟩
  rw [hsc] at hE htot ⊢
  have KS : Hid (∀ u, Kept X u → Calls Try.prog 47 #[.slice (some ⟨B, off, none⟩) k lc] u fun e w' => ∃ g, e = .returned (.slice (some ⟨g, 0, none⟩) k k) ∧ Ls w' g 0 k (fun _ => (R : Int)) (fun i => (C i : Int)) (fun _ => n) ∧ Kept u w') := fun u ku => shapes_any B off k lc hk _ _ _ a cap L u (hM0.bl (hK.trans ku).bl)
  have KG : Hid (∀ u g, Ls u g 0 k (fun _ => (R : Int)) (fun i => (C i : Int)) (fun _ => n) → Calls Try.prog 46 #[.slice (some ⟨g, 0, none⟩) k k] u fun x w' => x = .returned (.tuple #[.agg #[.int .i64 R, .int .i64 sc, .int .i64 n], .int .i64 0]) ∧ Kept u w') := fun u g hL => colsGlued_any g 0 k k hk0 hk _ _ _ (fun i hi => by have := hC i hi; show 1 ≤ (C i : Int) ∧ (C i : Int) ≤ 1000000; omega) u hL R sc n 0 hE
  obtain ⟨q, hq⟩ : ∃ q, (catL (rwA C L k) R).length = q := ⟨_, rfl⟩
  rw [hq] at htot ht4 ⊢
  have HQ : Hid ((catL (rwA C L k) R).length = q) := hq
  have KW : Hid (∀ u, Calls Try.prog 43 #[.agg #[.int .i64 R, .int .i64 sc, .int .i64 n]] u fun e w' => ∃ g, e = .returned (.slice (some ⟨g, 0, none⟩) 0 q) ∧ u.heap.size ≤ g ∧ Own w' g q [] ∧ Kept u w') := fun u => bare_any _ _ _ q htot (by omega) u
  have HM : Hid (∀ u, Kept X u → Lm u B off k (fun _ => (R : Int)) (fun i => (C i : Int)) (fun _ => n) a cap L) := fun u ku => hM0.bl (hK.trans ku).bl
  have HRT : Hid (Rgl (catL (rwA C L k) R)) := rw_rgl C L k R hL hRg
  have HMO : Hid (∀ r i, r < R → i ≤ k → (rwB C L k r i).length ≤ q) := fun r i hr hi => by rw [← hq]; exact rwB_le C L k r R i hr hi
  have HRW : Hid (∀ r i, r < R → i < k → ∃ b o, a i = some ⟨b, o, none⟩ ∧ (∀ u, Kept X u → Reads u b (o + r * C i) (rwL C L r i)) ∧ (∀ v, Calls Try.prog 33 #[.agg #[.int .i64 R, .int .i64 (C i : Int), .int .i64 n, .slice (a i) (L i).length (cap i)], .int .i64 r] v fun e w' => e = .returned (.slice (some ⟨b, o + r * C i, none⟩) (C i) (C i)) ∧ Kept v w')) := fun r i hr hi => by
    obtain ⟨ao, cp, e1, hcp, -, hrd⟩ := (hM0.bl hK.bl).sl i hi
    injection e1 with e1 e2 e3
    have hCi := hC i hi
    have hpos : 0 < R * C i := Nat.mul_pos hRp hCi.1
    obtain ⟨b, o, h1, hb, hrd⟩ := hrd (by intro h0; have := hL i hi; rw [h0] at this; simp at this; omega)
    refine ⟨b, o, e1.trans h1, fun u ku x hx => ?_, fun v => ?_⟩
    · rw [rwL_length] at hx
      have h2 := row_lt r R (C i) x hr hx
      have := hrd.kept hb ku (r * C i + x) (by rw [hL i hi]; exact h2)
      rw [← Nat.add_assoc] at this
      rw [this]
      unfold rwL
      rw [lst_get _ _ _ hx]
    · rw [e1, h1]
      exact rowOf_any R (C i) r n hr hCi.1 (by omega) b o _ (cap i) (hL i hi) (by rw [e3]; exact hcp) v
  clear hM0 hck hE hRg htot hq hL hC
  unfold st1 at hX
  go_enter Try.func21, Try.ntmps21
  go_upto_region 1 with fail
  rw [← hX]
  clear hX
  go_upto_region 5 with (first | (go_at_call 45; refine (KC.out).mono ?_; rintro x w1 ⟨rfl, k1⟩) | (go_at_call 47; refine (KS.out _ k1).mono ?_; rintro x w2 ⟨g2, rfl, hL2, k2⟩) | (go_at_call 46; refine (KG.out _ _ hL2).mono ?_; rintro x w3 ⟨rfl, k3⟩))
  obtain ⟨Y, hY⟩ : ∃ Y, Y = w3.alloc (.cells #[.int .i64 R, .int .i64 sc, .int .i64 n] 50) := ⟨_, rfl⟩
  rw [← hY]
  have kY : Kept X Y := by rw [hY]; exact (k1.trans (k2.trans k3)).alloc _ _
  have hBY : M3 Y w3.heap.size (.int .i64 R) (.int .i64 sc) (.int .i64 n) := by rw [hY]; exact M3.new _ _ _ _ _
  have hB3 := (k1.trans (k2.trans k3)).below.size
  generalize w3.heap.size = B3 at *
  clear hY KC KS KG k1 k2 k3 hL2
  have hBY' := hBY
  obtain ⟨b0, b1, b2⟩ := hBY'
  go_upto_region 8 with (first | (go_at_call 43; refine (KW.out _).mono ?_; rintro x V ⟨g, rfl, hg, hOV, kV⟩))
  clear b0 b1 b2
  have hBV := hBY.bl kV.bl
  have kXV := kY.trans kV
  have hgX : X.heap.size ≤ g := Nat.le_trans kY.below.size hg
  have hBlt := hBY.lt
  clear KW kV hBY kY
  have hBV' := hBV
  obtain ⟨b0, b1, b2⟩ := hBV'
  go_wp2_with fail
  go_loopw [7, 31] (fun lv iv wr => ∃ r : Nat, r ≤ R ∧ iv = .int .i64 r ∧ lv = .slice (some ⟨g, 0, none⟩) (catL (rwA C L k) r).length q ∧ Own wr g q (catL (rwA C L k) r) ∧ Grw g V wr) (fun _ iv _ => R - (intOf iv).toNat)
  case atStart => exact ⟨0, Nat.zero_le _, rfl, rfl, hOV, Grw.refl _ _⟩
  case round =>
    clear b0 b1 b2
    obtain ⟨r, hr, rfl, rfl, hOk, hGk⟩ := hrel
    by_cases hrR : r < R
    · have z0 : IntKind.i64.wrap ((r : Int) + 1) = (r : Int) + 1 := by rw [wrap_i64]; omega
      have ho0 : Own wr g q (rwB C L k r 0) := by rw [rwB_zero]; exact hOk
      rw [← rwB_zero]
      clear hOk
      go_wp2_with fail
      go_loopw [7, 36] (fun lv iv wq => ∃ i : Nat, i ≤ k ∧ iv = .int .i64 i ∧ lv = .slice (some ⟨g, 0, none⟩) (rwB C L k r i).length q ∧ Own wq g q (rwB C L k r i) ∧ Grw g V wq) (fun _ iv _ => k - (intOf iv).toNat)
      case atStart => exact ⟨0, Nat.zero_le _, rfl, rfl, ho0, hGk⟩
      case round =>
        clear ho0 hGk
        obtain ⟨i, hi, rfl, rfl, hOk, hGk⟩ := hrel
        have kXr : Kept X wr := kXV.grw hgX hGk
        by_cases hik : i < k
        · obtain ⟨c0, c1, c2, c3⟩ := (HM.out wr kXr).rd i hik
          have hmo := HMO.out r (i + 1) hrR (by omega)
          have z1 : IntKind.i64.wrap ((i : Int) + 1) = (i : Int) + 1 := by rw [wrap_i64]; omega
          obtain ⟨b, o, ha, hrd, hro⟩ := HRW.out r i hrR hik
          have KR : Hid (∀ v, Calls Try.prog 33 #[.agg #[.int .i64 R, .int .i64 (C i : Int), .int .i64 n, .slice (a i) (L i).length (cap i)], .int .i64 r] v fun e w' => e = .returned (.slice (some ⟨b, o + r * C i, none⟩) (C i) (C i)) ∧ Kept v w') := hro
          have HAP : Hid (∀ u, Kept wr u → ∃ U, (∀ ty, (Builtin.append_ #[22, 22] ty #[.slice (some ⟨g, 0, none⟩) (rwB C L k r i).length q, .slice (some ⟨b, o + r * C i, none⟩) (C i) (C i)]).run Try.prog u = .ok (.slice (some ⟨g, 0, none⟩) (rwB C L k r (i + 1)).length q) U) ∧ Own U g q (rwB C L k r (i + 1)) ∧ Grw g V U) := fun u ku => by
            have hlen : (rwB C L k r (i + 1)).length = (rwB C L k r i).length + C i := by rw [rwB_succ, List.length_append, rwL_length]
            obtain ⟨h1, hO2, hG2⟩ := app_room u g q _ (hOk.kept ku) (rwL C L r i) b (o + r * C i) (C i) (C i) (rwL_length _ _ _ _) (hrd u (kXr.trans ku)) (by omega) _ rfl
            rw [← hlen] at h1
            rw [← rwB_succ] at hO2
            exact ⟨_, h1, hO2, (hGk.trans (ku.toGrw g)).trans hG2⟩
          clear HM HRT HMO hOk hro hrd HRW ha
          generalize (L i).length = li at *
          generalize (rwB C L k r i).length = ln at *
          generalize o + r * C i = oo at *
          generalize C i = ci at *
          go_wp2_with (first | (go_at_call 33; refine (KR.out _).mono ?_; rintro x w5 ⟨rfl, k5⟩; obtain ⟨U, h9, hOU, hGU⟩ := HAP.out _ (((Kept.refl wr).alloc _ _).trans k5); have HR9 : Hid _ := h9; clear h9) | (at_builtin; refine wpList_append_run rfl _ _ _ rfl _ _ rfl rfl _ _ (HR9.out _) ?_))
          go_roundw
          case rel => exact ⟨i + 1, by omega, by go_num, rfl, hOU, hGU⟩
          case measure => simp [intOf]; omega
        · obtain rfl : i = k := by omega
          have hO9 : Own wr g q (catL (rwA C L i) (r + 1)) := hOk
          rw [rwB_last]
          clear HM HRT HMO hOk HRW
          go_wp2_with fail
          go_roundw
          case rel => exact ⟨r + 1, by omega, by go_num, rfl, hO9, hGk⟩
          case measure => simp [intOf]; omega
    · obtain rfl : r = R := by omega
      have kXr : Kept X wr := kXV.grw hgX hGk
      have hql := HQ.out
      have KM : Hid (Calls Try.prog 30 #[.agg #[.int .i64 r, .int .i64 sc, .int .i64 n], .slice (some ⟨g, 0, none⟩) q q] wr fun e w' => e = .returned (.agg #[.int .i64 r, .int .i64 sc, .int .i64 n, .slice (some ⟨g, 0, none⟩) q q]) ∧ Own w' g q ((catL (rwA C L k) r).map (cln · n)) ∧ Kept X w') := by
        have := matrix_any r sc n hn (catL (rwA C L k) r) HRT.out (by omega) g q wr hOk
        rw [hql] at this
        refine this.mono ?_
        rintro e w' ⟨rfl, h1, h2⟩
        exact ⟨rfl, h1, kXr.grw (by omega) h2⟩
      rw [hql]
      have hgs := hOV.lt
      have hB7 : M3 wr B3 (.int .i64 r) (.int .i64 sc) (.int .i64 n) := ⟨(hGk.cellx B3 0 hBV.lt (by omega)).trans hBV.c0, (hGk.cellx B3 1 hBV.lt (by omega)).trans hBV.c1, (hGk.cellx B3 2 hBV.lt (by omega)).trans hBV.c2⟩
      have hgw := hM.lt
      obtain ⟨s0, s1, s2⟩ := hB7
      clear hOk HM HRT HMO HQ hql hOV HRW
      go_wp2_with (first | (go_at_call 30; refine (KM.out).mono ?_; rintro x u6 ⟨rfl, hO4, hk6⟩; have hr4 := hM.bl hk6.bl; have f4 : ∀ o, u6.frozen? ⟨w.heap.size, o, none⟩ = false := fun o => (hk6.frozen _).trans (hF o); obtain ⟨p0, p1, p2, p3⟩ := res4 u6 _ _ _ _ _ hr4 (.int .i64 r) (.int .i64 sc) (.int .i64 n) (.slice (some ⟨g, 0, none⟩) q q); obtain ⟨r0, r1, r2, r3⟩ := hr4))
      have hO5 := (((hO4.setOther (p := ⟨w.heap.size, 0, none⟩) (by simp; omega) (.int .i64 r)).setOther (p := ⟨w.heap.size, 1, none⟩) (by simp; omega) (.int .i64 sc)).setOther (p := ⟨w.heap.size, 2, none⟩) (by simp; omega) (.int .i64 n)).setOther (p := ⟨w.heap.size, 3, none⟩) (by simp; omega) (.slice (some ⟨g, 0, none⟩) q q)
      have hk5 := (((hK.trans hk6).setCell (p := ⟨w.heap.size, 0, none⟩) (by simp) (.int .i64 r)).setCell (p := ⟨w.heap.size, 1, none⟩) (by simp) (.int .i64 sc)).setCell (p := ⟨w.heap.size, 2, none⟩) (by simp) (.int .i64 n) |>.setCell (p := ⟨w.heap.size, 3, none⟩) (by simp) (.slice (some ⟨g, 0, none⟩) q q)
      exact bodyPost_ret (v := .tuple #[.agg #[.int .i64 r, .int .i64 sc, .int .i64 n, .slice (some ⟨g, 0, none⟩) q q], .int .i64 0]) (by simp [results, Try.results21, go_sem, *]) rfl ⟨g, rfl, by omega, hO5, hk5⟩
end Go.Proofs.Ytijmjnmimijfdab
