/- The walk of TensorGlues. TensorGlues of every list. -/
import Derived.Test.YtcldcjchfagcoaaTGf
namespace Go.Proofs.Ytcldcjchfagcoaa
open Go.ChangeShapes Go.WideShapes Go.ChangeAt Go.RowKit
set_option linter.unusedVariables false
set_option linter.unusedSimpArgs false

/-- How many ints the matrices hold, one more for each. -/
def cn (L : Nat → List Int) : Nat → Nat
  | 0 => 0
  | k + 1 => cn L k + (L k).length + 1
/-- The first error. -/
def BadAt (r c n : Nat → Int) (L : Nat → List Int) (k : Nat) (bd : Int) : Prop := (bd = 0 ∧ ∀ i, i < k → ckM (r i) (c i) (n i) (L i) = 0) ∨ (bd ≠ 0 ∧ ∃ j, j < k ∧ ckM (r j) (c j) (n j) (L j) = bd ∧ ∀ i, i < j → ckM (r i) (c i) (n i) (L i) = 0)
theorem badAt_zero {r c n : Nat → Int} {L : Nat → List Int} {i : Nat} {bd : Int} (h : BadAt r c n L i bd) (hb : bd = 0) : BadAt r c n L (i + 1) (ckM (r i) (c i) (n i) (L i)) := by
  rcases h with ⟨-, h⟩ | ⟨h, -⟩
  · by_cases hz : ckM (r i) (c i) (n i) (L i) = 0
    · exact .inl ⟨hz, fun x hx => (Nat.lt_succ_iff_lt_or_eq.1 hx).elim (fun h1 => h x h1) (fun h1 => by rw [h1]; exact hz)⟩
    · exact .inr ⟨hz, i, by omega, rfl, h⟩
  · exact absurd hb h
theorem badAt_keep {r c n : Nat → Int} {L : Nat → List Int} {i : Nat} {bd : Int} (h : BadAt r c n L i bd) (hb : bd ≠ 0) : BadAt r c n L (i + 1) bd := by
  rcases h with ⟨h, -⟩ | ⟨-, j, hj, h⟩
  · exact absurd h hb
  · exact .inr ⟨hb, j, by omega, h⟩
/-- The document's answer at a world, and what Moved makes of it later. -/
def GlV (A : An) (side : Bool) (wr : World) (sv lv : Value) : Prop := ∀ u, Kept wr u → Calls Try.prog 42 #[sv, .bool side] u fun x w' => ∃ vr vc vn va vl vk, x = .returned (.tuple #[.agg #[.int .i64 vr, .int .i64 vc, .int .i64 vn, .slice va vl vk], .int .i64 A.q]) ∧ Kept u w' ∧
  (A.q = 0 → ∀ (W : World), Kept w' W → Calls Try.prog 43 #[.agg #[.int .i64 vr, .int .i64 vc, .int .i64 vn, .slice va vl vk], lv] W fun e w2 => ∃ v, e = .returned (.agg #[.int .i64 A.r, .int .i64 A.c, .int .i64 A.n, v]) ∧ MR W.heap.size w2 v A.T ∧ Kept W w2)
structure Tail (wr : World) (fv sv lv : Value) (bd : Int) (A A' : An) : Prop where
  t1 : A.T.length ≤ 100000
  t2 : A'.T.length ≤ 100000
  p1 : ∀ u, Kept wr u → GivesK A 40 #[fv] u
  p2 : ∀ u, Kept wr u → GivesK A' 41 #[fv] u
  d : (bd ≠ 0 ∧ A = ⟨0, 0, 0, bd, []⟩ ∧ A' = ⟨0, 0, 0, bd, []⟩) ∨ (bd = 0 ∧ AnZ A ∧ AnZ A' ∧ GlV A true wr sv lv ∧ GlV A' false wr sv lv)

set_option maxHeartbeats 8000000 in
set_option maxRecDepth 100000 in
theorem tg_walk (k : Nat) (hkm : k ≤ 140737488351232) (r c n : Nat → Int) (a : Nat → Option Addr) (cap : Nat → Nat) (L : Nat → List Int) (la : Option Addr) (lc : Nat) (w : World) (hL : 0 < k → ∃ B off, la = some ⟨B, off, none⟩ ∧ Lm w B off k r c n a cap L)
    (hln : ∀ i, i < k → (L i).length ≤ 140737488351232) (HX0 : ∀ W wr fv sv bd, Bl w W → GI W wr r c n L k k fv sv → BadAt r c n L k bd → cn L k ≤ 5000 → ∃ A A', Tail wr fv sv (.slice la k lc) bd A A')
    : Calls Try.prog 8 #[.slice la k lc] w fun e w' => e = .returned (.bool true) ∧ Bl w w' := by
  have KA : Hid (∀ u, Calls Try.prog 9 #[] u fun e w' => e = .returned (.bool true) ∧ Bl u w') := fun u => alive_true u
  have HL : Hid (0 < k → ∃ B off, la = some ⟨B, off, none⟩ ∧ Lm w B off k r c n a cap L) := hL
  have HX : Hid (∀ W wr fv sv bd, Bl w W → GI W wr r c n L k k fv sv → BadAt r c n L k bd → cn L k ≤ 5000 → ∃ A A', Tail wr fv sv (.slice la k lc) bd A A') := HX0
  have HLN : Hid (∀ i, i < k → (L i).length ≤ 140737488351232) := hln
  clear hL HX0 hln
  go_enter Try.func8, Try.ntmps8
  go_upto_region 2 with (first | (go_at_call 9; refine (KA.out _).mono ?_; rintro e w1 ⟨rfl, k1⟩))
  clear KA
  go_wp2_with fail
  go_loopw [4, 5] (fun nv iv wr => ∃ i : Nat, i ≤ k ∧ iv = .int .i64 i ∧ nv = .int .i64 (cn L i : Nat) ∧ Kept w1 wr ∧ (cn L i : Int) ≤ 2000000000000000) (fun _ iv _ => k - (intOf iv).toNat)
  case atStart => exact ⟨0, Nat.zero_le _, rfl, rfl, Kept.refl _, by simp [cn]⟩
  case round =>
    obtain ⟨i, hi, rfl, rfl, kr, hcb⟩ := hrel
    replace k1 := k1.trans kr.bl
    by_cases hgo : i < k ∧ cn L i ≤ 5000
    · obtain ⟨hik, hc5⟩ := hgo
      obtain ⟨B, off, rfl, hM⟩ := HL.out (by omega)
      have hM1 := hM.bl k1
      obtain ⟨c0, c1, c2, c3⟩ := hM1.rd i hik
      have hlen := HLN.out i hik
      have hs : (cn L (i + 1) : Int) = (cn L i : Int) + ((L i).length : Int) + 1 := by rw [cn]; simp
      have z0 : IntKind.i64.wrap ((i : Int) + 1) = (i : Int) + 1 := by rw [wrap_i64]; omega
      have z1 : IntKind.i64.wrap ((cn L i : Int) + ((L i).length : Int)) = (cn L i : Int) + ((L i).length : Int) := by rw [wrap_i64]; omega
      have z2 : IntKind.i64.wrap ((cn L i : Int) + ((L i).length : Int) + 1) = (cn L (i + 1) : Int) := by rw [hs, wrap_i64]; omega
      have g1 : (i : Int) < (k : Int) := by omega
      have g2 : (cn L i : Int) ≤ 5000 := by omega
      have HC : Hid ((cn L (i + 1) : Int) ≤ 2000000000000000) := by show (cn L (i + 1) : Int) ≤ 2000000000000000; omega
      clear HX HL hM hM1 hs HLN
      go_wp2_with fail
      go_roundw
      case rel => exact ⟨i + 1, by omega, by go_num, rfl, kr, HC.out⟩
      case measure => simp [intOf]; omega
    · by_cases hc5 : cn L i ≤ 5000
      · obtain rfl : i = k := by omega
        have g1 : ¬ (i : Int) < (i : Int) := by omega
        have g2 : ¬ (5000 : Int) < (cn L i : Int) := by omega
        have hk5 : i ≤ 5000 := by
          have h1 : ∀ j, j ≤ cn L j := fun j => by
            induction j with
            | zero => exact Nat.le_refl _
            | succ j ih => rw [cn]; omega
          have := h1 i
          omega
        have hlens : ∀ x, x < i → (L x).length ≤ 5000 := fun x hx => by
          have h1 : ∀ j, ∀ x, x < j → (L x).length ≤ cn L j := fun j => by
            induction j with
            | zero => intro x hx; omega
            | succ j ih =>
              intro x hx
              rw [cn]
              rcases Nat.lt_succ_iff_lt_or_eq.1 hx with h | h
              · have := ih x h; omega
              · rw [h]; omega
          have := h1 i x hx
          omega
        have HLen : Hid (∀ x, x < i → (L x).length ≤ 5000) := hlens
        have HX1 : Hid (∀ wq fv sv bd, GI wr wq r c n L i i fv sv → BadAt r c n L i bd → ∃ A A', Tail wq fv sv (.slice la i lc) bd A A') := fun wq fv sv bd h1 h2 => HX.out wr wq fv sv bd k1 h1 h2 hc5
        have HL1 : Hid (0 < i → ∃ B off, la = some ⟨B, off, none⟩ ∧ Lm wr B off i r c n a cap L) := fun h0 => by
          obtain ⟨B, off, h1, h2⟩ := HL.out h0
          exact ⟨B, off, h1, h2.bl k1⟩
        clear HX HL hcb hgo hlens hc5 HLN kr
        go_wp2_with fail
        obtain ⟨W0, hW0⟩ : ∃ W0, W0 = wr := ⟨_, rfl⟩
        rw [← hW0] at HX1 HL1 k1 ⊢
        clear hW0
        have hst : GI W0 W0 r c n L 0 0 (.slice none 0 0) (.slice none 0 0) := GI.start W0 r c n L W0 (Kept.refl _)
        have hb0 : BadAt r c n L 0 0 := .inl ⟨rfl, fun x hx => by omega⟩
        go_loopw [6, 7, 8, 9] (fun fv bv sv iv wr => ∃ (j : Nat) (bd : Int), j ≤ i ∧ iv = .int .i64 j ∧ bv = .int .i64 bd ∧ GI W0 wr r c n L j j fv sv ∧ BadAt r c n L j bd) (fun _ _ _ iv _ => i - (intOf iv).toNat)
        case atStart => exact ⟨0, 0, Nat.zero_le _, rfl, rfl, hst, hb0⟩
        case round =>
          clear hst hb0
          obtain ⟨j, bd, hj, rfl, rfl, hGI, hbad⟩ := hrel
          by_cases hji : j < i
          · obtain ⟨B, off, rfl, hM0⟩ := HL1.out (by omega)
            have z0 : IntKind.i64.wrap ((j : Int) + 1) = (j : Int) + 1 := by rw [wrap_i64]; omega
            have hlj := HLen.out j hji
            have HLm : Hid (∀ u, Kept W0 u → Lm u B off i r c n a cap L) := fun u ku => hM0.bl ku.bl
            obtain ⟨c0, c1, c2, c3⟩ := (HLm.out wr hGI.k).rd j hji
            have KL : Hid (∀ u, Kept W0 u → Calls Try.prog 10 #[.agg #[.int .i64 (r j), .int .i64 (c j), .int .i64 (n j), .slice (a j) (L j).length (cap j)]] u fun e w' => ∃ g cp, e = .returned (.agg #[.int .i64 (r j), .int .i64 (c j), .int .i64 (n j), .slice (some ⟨g, 0, none⟩) (L j).length cp]) ∧ u.heap.size ≤ g ∧ Own w' g cp (L j ++ [-71]) ∧ Kept u w') := fun u ku => lent_any (r j) (c j) (n j) (L j) (by omega) (a j) (cap j) u ((HLm.out u ku).sl j hji)
            have KC : Hid (∀ u, Kept W0 u → Calls Try.prog 15 #[.agg #[.int .i64 (r j), .int .i64 (c j), .int .i64 (n j), .slice (a j) (L j).length (cap j)]] u fun e w' => e = .returned (.int .i64 (ckM (r j) (c j) (n j) (L j))) ∧ Kept u w') := fun u ku => rcheck_any (r j) (c j) (n j) (a j) (cap j) (L j) u ((HLm.out u ku).sl j hji)
            have KO : Hid (∀ u, Calls Try.prog 34 #[.agg #[.int .i64 (r j), .int .i64 (c j), .int .i64 (n j), .slice (a j) (L j).length (cap j)]] u fun e w' => e = .returned (.agg #[.int .i64 (r j), .int .i64 (c j), .int .i64 (n j)]) ∧ Kept u w') := fun u => rof_any (r j) (c j) (n j) _ u
            have HGI : Hid _ := hGI
            have kW := hGI.k
            clear hM0 hGI HX1 HL1
            generalize hlj' : (L j).length = lj at *
            go_upto_region 16 with (first | (go_at_call 10; refine (KL.out _ kW).mono ?_; rintro e w2 ⟨g, cp, rfl, hg, ho, k2⟩; obtain ⟨fa, fc, w3, hr, hG3⟩ := HGI.out.full k2 g cp hg ho (by omega); rw [hlj'] at hr; have HR9 : Hid _ := hr; have HG3 : Hid _ := hG3; have kW3 := hG3.k; clear hr hG3) | (at_builtin; refine wpList_append_run rfl _ _ _ rfl _ _ rfl rfl _ _ (HR9.out _) ?_))
            clear c0 c1 c2 c3
            obtain ⟨c0, c1, c2, c3⟩ := (HLm.out w3 kW3).rd j hji
            rw [hlj'] at c3
            go_upto_region 17 with (first | (go_at_call 15; refine (KC.out _ kW3).mono ?_; rintro e w4 ⟨rfl, k4⟩))
            clear c0 c1 c2 c3
            obtain ⟨c0, c1, c2, c3⟩ := (HLm.out w4 (kW3.trans k4)).rd j hji
            rw [hlj'] at c3
            by_cases hb : bd = 0
            · have hbq : (bd == 0) = true := by simpa using hb
              have HBD : Hid (BadAt r c n L (j + 1) (ckM (r j) (c j) (n j) (L j))) := badAt_zero hbad hb
              clear HLm KL KC hbad
              generalize ckM (r j) (c j) (n j) (L j) = q at *
              go_wp2_with (first | (go_at_call 34; refine (KO.out _).mono ?_; rintro e w5 ⟨rfl, k5⟩; obtain ⟨sa, sc, w6, hr6, hG6⟩ := (HG3.out.kept (k4.trans k5)).shape (by omega); have HR6 : Hid _ := hr6; have HG6 : Hid _ := hG6; clear hr6 hG6) | (at_builtin; refine wpList_append_run rfl _ _ _ rfl _ _ rfl rfl _ _ (HR6.out _) ?_))
              go_roundw
              case rel => exact ⟨j + 1, _, by omega, by go_num, rfl, HG6.out, HBD.out⟩
              case measure => simp [intOf]; omega
            · have hbq : (bd == 0) = false := by simpa using hb
              have HBD : Hid (BadAt r c n L (j + 1) bd) := badAt_keep hbad hb
              clear HLm KL KC hbad
              generalize ckM (r j) (c j) (n j) (L j) = q at *
              go_wp2_with (first | (go_at_call 34; refine (KO.out _).mono ?_; rintro e w5 ⟨rfl, k5⟩; obtain ⟨sa, sc, w6, hr6, hG6⟩ := (HG3.out.kept (k4.trans k5)).shape (by omega); have HR6 : Hid _ := hr6; have HG6 : Hid _ := hG6; clear hr6 hG6) | (at_builtin; refine wpList_append_run rfl _ _ _ rfl _ _ rfl rfl _ _ (HR6.out _) ?_))
              go_roundw
              case rel => exact ⟨j + 1, _, by omega, by go_num, rfl, HG6.out, HBD.out⟩
              case measure => simp [intOf]; omega
          · obtain rfl : j = i := by omega
            obtain ⟨W2, hW2⟩ : ∃ W2, W2 = wr := ⟨_, rfl⟩
            rw [← hW2] at hGI ⊢
            clear hW2
            obtain ⟨A, A', hT⟩ := HX1.out W2 _ _ bd hGI hbad
            have kW := hGI.k
            have HGI : Hid _ := hGI
            clear hGI hbad HX1
            have KP1 := hT.p1 W2 (Kept.refl _)
            unfold GivesK at KP1
            go_upto_region 21 with (first | (go_at_call 40; refine KP1.mono ?_; rintro e w2 ⟨s, rfl, mr1, k2⟩; obtain ⟨xa, xl, xk, rfl⟩ := mr1.form))
            clear KP1
            obtain ⟨Y1, hY1⟩ : ∃ Y, Y = w2.alloc (.cells #[.int .i64 A.r, .int .i64 A.c, .int .i64 A.n, .slice xa xl xk] 24) := ⟨_, rfl⟩
            rw [← hY1]
            have kY1 : Kept W2 Y1 := by rw [hY1]; exact k2.alloc _ _
            have mA : M4 Y1 w2.heap.size (.int .i64 A.r) (.int .i64 A.c) (.int .i64 A.n) (.slice xa xl xk) := by rw [hY1]; exact M4.new _ _ _ _ _ _
            have rA : MR W2.heap.size Y1 (.slice xa xl xk) A.T := by rw [hY1]; exact mr1.kept ((Kept.refl _).alloc _ _)
            generalize w2.heap.size = b11 at *
            clear hY1 k2 mr1
            have KP2 := hT.p2 Y1 kY1
            unfold GivesK at KP2
            go_upto_region 22 with (first | (go_at_call 41; refine KP2.mono ?_; rintro e w2 ⟨s, rfl, mr1, k2⟩; obtain ⟨ya, yl, yk, rfl⟩ := mr1.form))
            clear KP2
            obtain ⟨Y2, hY2⟩ : ∃ Y, Y = w2.alloc (.cells #[.int .i64 A'.r, .int .i64 A'.c, .int .i64 A'.n, .slice ya yl yk] 24) := ⟨_, rfl⟩
            rw [← hY2]
            have kY2 : Kept Y1 Y2 := by rw [hY2]; exact k2.alloc _ _
            have mB : M4 Y2 w2.heap.size (.int .i64 A'.r) (.int .i64 A'.c) (.int .i64 A'.n) (.slice ya yl yk) := by rw [hY2]; exact M4.new _ _ _ _ _ _
            have rB : MR Y1.heap.size Y2 (.slice ya yl yk) A'.T := by rw [hY2]; exact mr1.kept ((Kept.refl _).alloc _ _)
            generalize w2.heap.size = b13 at *
            clear hY2 k2 mr1
            have HmA : Hid (∀ u, Kept Y2 u → M4 u b11 (.int .i64 A.r) (.int .i64 A.c) (.int .i64 A.n) (.slice xa xl xk) ∧ MR W2.heap.size u (.slice xa xl xk) A.T) := fun u ku => ⟨mA.bl (kY2.trans ku).bl, rA.kept (kY2.trans ku)⟩
            have HmB : Hid (∀ u, Kept Y2 u → M4 u b13 (.int .i64 A'.r) (.int .i64 A'.c) (.int .i64 A'.n) (.slice ya yl yk) ∧ MR Y1.heap.size u (.slice ya yl yk) A'.T) := fun u ku => ⟨mB.bl ku.bl, rB.kept ku⟩
            have kW2 : Kept W2 Y2 := kY1.trans kY2
            have HT : Hid (Tail W2 u6 u8 (.slice la j lc) bd A A') := hT
            clear mA rA mB rB hT kY1 kY2
            go_wp2_with fail
            go_loopw [15] (fun iv wr => ∃ x : Nat, x ≤ j ∧ iv = .int .i64 x ∧ Kept Y2 wr) (fun iv _ => j - (intOf iv).toNat)
            case atStart => exact ⟨0, Nat.zero_le _, rfl, Kept.refl _⟩
            case round =>
              obtain ⟨x, hx, rfl, kx⟩ := hrel
              by_cases hxj : x < j
              · have kW9 : Kept W0 wr := (kW.trans kW2).trans kx
                obtain ⟨B, off, hla, hM0⟩ := HL1.out (by omega)
                obtain ⟨gF, cF, gS, cS, g, cp, hfv, hsv, hF, hS, hO⟩ := HGI.out.lists (by omega)
                have z0 : IntKind.i64.wrap ((x : Int) + 1) = (x : Int) + 1 := by rw [wrap_i64]; omega
                have hlx := HLen.out x hxj
                have HS1 : Hid (∀ u, Kept wr u → Kept wr u ∧ (u.cell? ⟨gF, x * 4, none⟩ = some (.int .i64 (r x)) ∧ u.cell? ⟨gF, x * 4 + 1, none⟩ = some (.int .i64 (c x)) ∧ u.cell? ⟨gF, x * 4 + 2, none⟩ = some (.int .i64 (n x)) ∧ u.cell? ⟨gF, x * 4 + 3, none⟩ = some (.slice (some ⟨g x, 0, none⟩) (L x).length (cp x))) ∧ (u.cell? ⟨B, off + x * 4, none⟩ = some (.int .i64 (r x)) ∧ u.cell? ⟨B, off + x * 4 + 1, none⟩ = some (.int .i64 (c x)) ∧ u.cell? ⟨B, off + x * 4 + 2, none⟩ = some (.int .i64 (n x)) ∧ u.cell? ⟨B, off + x * 4 + 3, none⟩ = some (.slice (a x) (L x).length (cap x)))) := fun u ku => by
                  have h1 := (hF.bl ((kW2.trans kx).trans ku).bl).rd x hxj
                  rw [Nat.zero_add] at h1
                  exact ⟨ku, h1, (hM0.bl (kW9.trans ku).bl).rd x hxj⟩
                have KY : Hid (∀ u, Kept wr u → Calls Try.prog 14 #[.agg #[.int .i64 (r x), .int .i64 (c x), .int .i64 (n x), .slice (some ⟨g x, 0, none⟩) (L x).length (cp x)], .agg #[.int .i64 (r x), .int .i64 (c x), .int .i64 (n x), .slice (a x) (L x).length (cap x)]] u fun e w' => e = .returned (.bool true) ∧ Kept wr w') := fun u ku => by
                  refine (stays_true (r x) (c x) (n x) (L x) (by omega) (g x) (cp x) (a x) (cap x) u ((hO x hxj).kept ((kW2.trans kx).trans ku)) ((hM0.bl (kW9.trans ku).bl).sl x hxj)).mono ?_
                  rintro e w' ⟨rfl, k2⟩
                  exact ⟨rfl, ku.trans k2⟩
                subst hla hfv
                clear hM0 hF hS hO HGI HL1 HT HmA HmB hsv HLen
                generalize r x = rx at *
                generalize c x = cx at *
                generalize n x = nx at *
                generalize a x = ax at *
                generalize cap x = qx at *
                generalize cp x = px at *
                generalize g x = gx at *
                generalize (L x).length = lx at *
                go_upto_region 25 with fail
                have kd := (Kept.refl wr).drew
                go_region_held (fun u => Kept wr u ∧ (u.cell? ⟨gF, x * 4, none⟩ = some (.int .i64 rx) ∧ u.cell? ⟨gF, x * 4 + 1, none⟩ = some (.int .i64 cx) ∧ u.cell? ⟨gF, x * 4 + 2, none⟩ = some (.int .i64 nx) ∧ u.cell? ⟨gF, x * 4 + 3, none⟩ = some (.slice (some ⟨gx, 0, none⟩) lx px)) ∧ (u.cell? ⟨B, off + x * 4, none⟩ = some (.int .i64 rx) ∧ u.cell? ⟨B, off + x * 4 + 1, none⟩ = some (.int .i64 cx) ∧ u.cell? ⟨B, off + x * 4 + 2, none⟩ = some (.int .i64 nx) ∧ u.cell? ⟨B, off + x * 4 + 3, none⟩ = some (.slice ax lx qx))) (first | assumption | exact HS1.out _ kd | exact HS1.out _ (by assumption)) (first | (go_at_call 14; refine (KY.out _ (by first | exact kd | assumption)).mono ?_; rintro e w7 ⟨rfl, k7⟩))
                all_goals go_wp2_with fail
                all_goals go_roundw
                all_goals first
                  | exact ⟨x + 1, by omega, by go_num, kx.trans (by assumption)⟩
                  | (simp [intOf]; omega)
              · obtain rfl : x = j := by omega
                have HmA1 : Hid (∀ u, Kept wr u → M4 u b11 (.int .i64 A.r) (.int .i64 A.c) (.int .i64 A.n) (.slice xa xl xk) ∧ MR W2.heap.size u (.slice xa xl xk) A.T) := fun u ku => HmA.out u (kx.trans ku)
                have HmB1 : Hid (∀ u, Kept wr u → M4 u b13 (.int .i64 A'.r) (.int .i64 A'.c) (.int .i64 A'.n) (.slice ya yl yk) ∧ MR Y1.heap.size u (.slice ya yl yk) A'.T) := fun u ku => HmB.out u (kx.trans ku)
                have hBw : Bl w wr := k1.trans ((kW.trans kW2).trans kx).bl
                have KN : Hid (∀ u e, Calls Try.prog 16 #[.int .i64 e] u fun r w' => r = .returned (.int .i64 e) ∧ u = w') := fun u e => num_any e u
                clear HmA HmB HGI HL1 HLen
                have KE : Hid (∀ u (p q s : Int) (z z' : Value), Kept wr u → (∃ H H' T, T.length ≤ 100000 ∧ MR H u z T ∧ MR H' u z' T) → Calls Try.prog 21 #[.agg #[.int .i64 p, .int .i64 q, .int .i64 s, z], .agg #[.int .i64 p, .int .i64 q, .int .i64 s, z']] u fun e w' => e = .returned (.bool true) ∧ Kept wr w') := fun u p q s z z' ku ⟨H, H', T, h1, h2, h3⟩ => by
                  refine (exact_mr p q s T h1 H H' z z' u h2 h3).mono ?_
                  rintro e w' ⟨rfl, k2⟩
                  exact ⟨rfl, ku.trans k2⟩
                rcases HT.out.d with ⟨hb, rfl, rfl⟩ | ⟨rfl, zA, zB, vA, vB⟩
                · dsimp only at HmA1 HmB1 ⊢
                  have hbq : (bd != 0) = true := by simpa using hb
                  have hbe : (bd == bd) = true := by simp
                  obtain ⟨⟨a0, a1, a2, a3⟩, -⟩ := HmA1.out _ (Kept.refl _)
                  clear HT
                  go_wp2_with (first | (go_at_call 16; refine (KN.out _ _).mono ?_; rintro e w8 ⟨rfl, rfl⟩) | (go_at_call 21; refine (KE.out _ _ _ _ _ _ (by first | assumption | exact Kept.refl _) (by first | exact ⟨_, 0, [], by simp, (HmA1.out _ (Kept.refl _)).2, mr_nil _ _⟩ | exact ⟨_, 0, [], by simp, (HmB1.out _ (by assumption)).2, mr_nil _ _⟩)).mono ?_; rintro e w9 ⟨rfl, k9⟩; obtain ⟨⟨b0, b1, b2, b3⟩, -⟩ := HmB1.out _ k9))
                  go_ret
                  exact ⟨rfl, hBw.trans (by first | assumption | exact Kept.bl (by assumption))⟩
                · unfold AnZ at zA zB
                  unfold GlV at vA vB
                  have tA := HT.out.t1
                  have tB := HT.out.t2
                  have vA' : Hid _ := vA
                  have vB' : Hid _ := vB
                  have zA' : Hid _ := zA
                  have zB' : Hid _ := zB
                  clear vA vB zA zB HT
                  generalize A.q = qa at *
                  generalize A'.q = qb at *
                  generalize A.r = ra at *
                  generalize A.c = ca at *
                  generalize A.n = na at *
                  generalize A.T = TA at *
                  generalize A'.r = rb at *
                  generalize A'.c = cb at *
                  generalize A'.n = nb at *
                  generalize A'.T = TB at *
                  have kW9 : Kept W2 wr := kW2.trans kx
                  have KG1 := vA'.out wr kW9
                  go_upto_region 31 with (first | (go_at_call 42; refine KG1.mono ?_; rintro e w3 ⟨vr, vc, vn, va, vl, vk, rfl, k3, hm1⟩))
                  clear KG1
                  obtain ⟨Y3, hY3⟩ : ∃ Y, Y = w3.alloc (.cells #[.int .i64 vr, .int .i64 vc, .int .i64 vn, .slice va vl vk] 60) := ⟨_, rfl⟩
                  rw [← hY3]
                  have k3Y : Kept w3 Y3 := by rw [hY3]; exact (Kept.refl _).alloc _ _
                  have mU : M4 Y3 w3.heap.size (.int .i64 vr) (.int .i64 vc) (.int .i64 vn) (.slice va vl vk) := by rw [hY3]; exact M4.new _ _ _ _ _ _
                  have kY3 : Kept wr Y3 := k3.trans k3Y
                  generalize w3.heap.size = b17 at *
                  have HM1 : Hid _ := hm1
                  clear hY3 hm1
                  have KG2 := vB'.out Y3 (kW9.trans kY3)
                  go_upto_region 32 with (first | (go_at_call 42; refine KG2.mono ?_; rintro e w4 ⟨ur, uc, un, ua, ul, uk, rfl, k4, hm2⟩))
                  clear KG2
                  obtain ⟨Y4, hY4⟩ : ∃ Y, Y = w4.alloc (.cells #[.int .i64 ur, .int .i64 uc, .int .i64 un, .slice ua ul uk] 60) := ⟨_, rfl⟩
                  rw [← hY4]
                  have k4Y : Kept w4 Y4 := by rw [hY4]; exact (Kept.refl _).alloc _ _
                  have mV : M4 Y4 w4.heap.size (.int .i64 ur) (.int .i64 uc) (.int .i64 un) (.slice ua ul uk) := by rw [hY4]; exact M4.new _ _ _ _ _ _
                  have kY4 : Kept Y3 Y4 := k4.trans k4Y
                  generalize w4.heap.size = b19 at *
                  have HM2 : Hid _ := hm2
                  clear hY4 hm2
                  have hq1 : (qa != qa) = false := by simp
                  have hq2 : (qb != qb) = false := by simp
                  go_upto_region 36 with (first | (go_at_call 16; refine (KN.out _ _).mono ?_; rintro e w8 ⟨rfl, rfl⟩))
                  obtain ⟨Y5, hY5⟩ : ∃ Y, Y = (Y4.alloc (.cells #[.int .i64 0, .int .i64 0, .int .i64 0, .slice none 0 0] 24)).alloc (.cells #[.int .i64 0, .int .i64 0, .int .i64 0, .slice none 0 0] 24) := ⟨_, rfl⟩
                  rw [← hY5]
                  have kY5 : Kept Y4 Y5 := by rw [hY5]; exact ((Kept.refl _).alloc _ _).alloc _ _
                  have mX0 : M4 Y5 Y4.heap.size (.int .i64 0) (.int .i64 0) (.int .i64 0) (.slice none 0 0) := by rw [hY5]; exact ⟨by simp [go_sem], by simp [go_sem], by simp [go_sem], by simp [go_sem]⟩
                  have mY0 : M4 Y5 (Y4.heap.size + 1) (.int .i64 0) (.int .i64 0) (.int .i64 0) (.slice none 0 0) := by rw [hY5]; exact ⟨by simp [go_sem], by simp [go_sem], by simp [go_sem], by simp [go_sem]⟩
                  have fX : Hid (∀ o, Y5.frozen? ⟨Y4.heap.size, o, none⟩ = false) := fun o => by rw [hY5]; simp [go_sem]
                  have fY : Hid (∀ o, Y5.frozen? ⟨Y4.heap.size + 1, o, none⟩ = false) := fun o => by rw [hY5]; simp [go_sem]
                  have hs5 : Y5.heap.size = Y4.heap.size + 2 := by rw [hY5]; simp
                  have hs4 : Y3.heap.size ≤ Y4.heap.size := kY4.below.size
                  have hs3 : wr.heap.size ≤ Y3.heap.size := kY3.below.size
                  have hw4 : w4.heap.size ≤ Y4.heap.size := k4Y.below.size
                  have h17 : b17 < Y3.heap.size := mU.lt
                  have h19 : b19 < Y4.heap.size := mV.lt
                  have kr5 : Kept wr Y5 := (kY3.trans kY4).trans kY5
                  have mU5 := mU.bl (kY4.trans kY5).bl
                  have mV5 := mV.bl kY5.bl
                  have k35 : Kept w3 Y5 := k3Y.trans (kY4.trans kY5)
                  have k45 : Kept w4 Y5 := k4Y.trans kY5
                  generalize hb21 : Y4.heap.size = b21 at *
                  clear hY5 hb21 mU mV kY4 kY3 k3Y k4Y kY5 vA' vB' hq1 hq2
                  by_cases ha : qa = 0
                  · subst ha
                    obtain ⟨u0, u1, u2', u3⟩ := mU5
                    have KMv := HM1.out rfl Y5 k35
                    go_upto_region 38 with (first | (go_at_call 43; refine KMv.mono ?_; rintro e w5 ⟨v, rfl, mrx, k5⟩; obtain ⟨sa, sl, sk, rfl⟩ := mrx.form; have hr9 := mX0.bl k5.bl; obtain ⟨p0, p1, p2, p3⟩ := hr9; have f9 : ∀ o, w5.frozen? ⟨b21, o, none⟩ = false := fun o => (k5.frozen _).trans (fX.out o)))
                    obtain ⟨Z1, hZ⟩ : ∃ Z, Z = (((w5.setCell ⟨b21, 0, none⟩ (.int .i64 ra)).setCell ⟨b21, 1, none⟩ (.int .i64 ca)).setCell ⟨b21, 2, none⟩ (.int .i64 na)).setCell ⟨b21, 3, none⟩ (.slice sa sl sk) := ⟨_, rfl⟩
                    rw [← hZ]
                    obtain ⟨sx, hsx⟩ : ∃ s, s = Value.slice sa sl sk := ⟨_, rfl⟩
                    obtain ⟨hx, hhx⟩ : ∃ h, h = Y5.heap.size := ⟨_, rfl⟩
                    have hsz5 := k5.below.size
                    have mX1 : M4 Z1 (b21) (.int .i64 ra) (.int .i64 ca) (.int .i64 na) sx := by rw [hZ, hsx]; exact res4 w5 _ _ _ _ _ ⟨p0, p1, p2, p3⟩ _ _ _ _
                    have rX1 : MR hx Z1 sx TA := by rw [hZ, hsx, hhx]; exact (((mrx.setOther (by simp; omega) _).setOther (by simp; omega) _).setOther (by simp; omega) _).setOther (by simp; omega) _

                    have kZ1 : Kept wr Z1 := by rw [hZ]; exact ((((kr5.trans k5).setCell (by simp; omega) _).setCell (by simp; omega) _).setCell (by simp; omega) _).setCell (by simp; omega) _
                    have k4Z : Kept w4 Z1 := by rw [hZ]; exact ((((k45.trans k5).setCell (by simp; omega) _).setCell (by simp; omega) _).setCell (by simp; omega) _).setCell (by simp; omega) _
                    have g9 : GrwS [b21] Y5 Z1 := by rw [hZ]; exact (((((GrwS.refl [b21] Y5).kept k5).setCell (by simp) _).setCell (by simp) _).setCell (by simp) _).setCell (by simp) _
                    have mY1 := g9.m4 mY0 (by simp)
                    have mV1 := g9.m4 mV5 (by simp; omega)
                    have fY1 : Hid (∀ o, Z1.frozen? ⟨b21 + 1, o, none⟩ = false) := fun o => (g9.frozen _).trans (fY.out o)
                    have hsZ : b21 + 2 ≤ Z1.heap.size := by have := g9.size; omega
                    have HXR : Hid (∀ (w5 : World) (a b c d : Value), Kept Z1 w5 → MR hx ((((w5.setCell ⟨b21 + 1, 0, none⟩ a).setCell ⟨b21 + 1, 1, none⟩ b).setCell ⟨b21 + 1, 2, none⟩ c).setCell ⟨b21 + 1, 3, none⟩ d) sx TA) := fun w5 a b c d k => ((((rX1.kept k).setOther (by simp; omega) _).setOther (by simp; omega) _).setOther (by simp; omega) _).setOther (by simp; omega) _
                    clear hZ hsx hhx mrx k5 p0 p1 p2 p3 f9 KMv g9 mX0 u0 u1 u2' u3
                    by_cases hb : qb = 0
                    · subst hb
                      obtain ⟨u0, u1, u2', u3⟩ := mV1
                      have KMv := HM2.out rfl Z1 k4Z
                      go_upto_region 40 with (first | (go_at_call 43; refine KMv.mono ?_; rintro e w5 ⟨v, rfl, mrx, k5⟩; obtain ⟨sa, sl, sk, rfl⟩ := mrx.form; have hr9 := mY1.bl k5.bl; obtain ⟨p0, p1, p2, p3⟩ := hr9; have f9 : ∀ o, w5.frozen? ⟨b21 + 1, o, none⟩ = false := fun o => (k5.frozen _).trans (fY1.out o)))
                      obtain ⟨Z2, hZ⟩ : ∃ Z, Z = (((w5.setCell ⟨b21 + 1, 0, none⟩ (.int .i64 rb)).setCell ⟨b21 + 1, 1, none⟩ (.int .i64 cb)).setCell ⟨b21 + 1, 2, none⟩ (.int .i64 nb)).setCell ⟨b21 + 1, 3, none⟩ (.slice sa sl sk) := ⟨_, rfl⟩
                      rw [← hZ]
                      obtain ⟨sy, hsy⟩ : ∃ s, s = Value.slice sa sl sk := ⟨_, rfl⟩
                      obtain ⟨hy, hhy⟩ : ∃ h, h = Z1.heap.size := ⟨_, rfl⟩
                      have hsz5 := k5.below.size
                      have mY2 : M4 Z2 (b21 + 1) (.int .i64 rb) (.int .i64 cb) (.int .i64 nb) sy := by rw [hZ, hsy]; exact res4 w5 _ _ _ _ _ ⟨p0, p1, p2, p3⟩ _ _ _ _
                      have rY2 : MR hy Z2 sy TB := by rw [hZ, hsy, hhy]; exact (((mrx.setOther (by simp; omega) _).setOther (by simp; omega) _).setOther (by simp; omega) _).setOther (by simp; omega) _

                      have kZ2 : Kept wr Z2 := by rw [hZ]; exact ((((kZ1.trans k5).setCell (by simp; omega) _).setCell (by simp; omega) _).setCell (by simp; omega) _).setCell (by simp; omega) _
                      have g9 : GrwS [b21 + 1] Z1 Z2 := by rw [hZ]; exact (((((GrwS.refl [b21 + 1] Z1).kept k5).setCell (by simp) _).setCell (by simp) _).setCell (by simp) _).setCell (by simp) _
                      have mX2 := g9.m4 mX1 (by simp)
                      have rX2 : MR hx Z2 sx TA := by rw [hZ]; exact HXR.out w5 _ _ _ _ k5
                      clear hZ hsy hhy mrx k5 p0 p1 p2 p3 f9 KMv g9 u0 u1 u2' u3
                      obtain ⟨⟨a0, a1, a2, a3⟩, ra9⟩ := HmA1.out _ kZ2
                      have HrX : Hid (MR hx Z2 sx TA) := rX2
                      have HrY : Hid (MR hy Z2 sy TB) := rY2
                      have HmY : Hid (∀ u, Kept Z2 u → M4 u (b21 + 1) (.int .i64 rb) (.int .i64 cb) (.int .i64 nb) sy) := fun u ku => mY2.bl ku.bl
                      obtain ⟨x0, x1, x2, x3⟩ := mX2
                      have KEa : Hid (∀ u (p q s : Int) (z z' : Value), Kept Z2 u → (∃ H H' T, T.length ≤ 100000 ∧ MR H u z T ∧ MR H' u z' T) → Calls Try.prog 21 #[.agg #[.int .i64 p, .int .i64 q, .int .i64 s, z], .agg #[.int .i64 p, .int .i64 q, .int .i64 s, z']] u fun e w' => e = .returned (.bool true) ∧ Kept Z2 w') := fun u p q s z z' ku ⟨H, H', T, h1, h2, h3⟩ => by
                        refine (exact_mr p q s T h1 H H' z z' u h2 h3).mono ?_
                        rintro e w' ⟨rfl, k2⟩
                        exact ⟨rfl, ku.trans k2⟩
                      clear rX2 rY2 ra9 mY2 KE KN
                      go_wp2_with (first | (go_at_call 21; refine (KEa.out _ _ _ _ _ _ (by first | assumption | exact Kept.refl _) (by first | exact ⟨_, _, _, tA, (HmA1.out _ kZ2).2, HrX.out⟩ | exact ⟨_, _, _, tB, (HmB1.out _ (kZ2.trans (by assumption))).2, HrY.out.kept (by assumption)⟩)).mono ?_; rintro e w9 ⟨rfl, k9⟩; obtain ⟨⟨b0, b1, b2, b3⟩, -⟩ := HmB1.out _ (kZ2.trans k9); obtain ⟨y0, y1, y2, y3⟩ := HmY.out _ k9))
                      go_ret
                      exact ⟨rfl, hBw.trans (kZ2.trans (by assumption)).bl⟩
                    · obtain ⟨rfl, rfl, rfl, rfl⟩ := zB'.out hb
                      have hqg : (qb == 0) = false := by simpa using hb
                      go_upto_region 40 with fail
                      obtain ⟨Z2, hZ⟩ : ∃ Z, Z = Z1 := ⟨_, rfl⟩
                      rw [← hZ] at mX1 mY1 kZ1 rX1 ⊢
                      obtain ⟨sy, hsy⟩ : ∃ s, s = Value.slice none 0 0 := ⟨_, rfl⟩
                      obtain ⟨hy, hhy⟩ : ∃ h, h = 0 := ⟨_, rfl⟩
                      have mY2 : M4 Z2 (b21 + 1) (.int .i64 0) (.int .i64 0) (.int .i64 0) sy := by rw [hsy]; exact mY1
                      have rY2 : MR hy Z2 sy [] := by rw [hsy]; exact mr_nil _ _
                      have kZ2 := kZ1
                      have mX2 := mX1
                      have rX2 := rX1
                      clear hZ hsy hhy mV1
                      obtain ⟨⟨a0, a1, a2, a3⟩, ra9⟩ := HmA1.out _ kZ2
                      have HrX : Hid (MR hx Z2 sx TA) := rX2
                      have HrY : Hid (MR hy Z2 sy []) := rY2
                      have HmY : Hid (∀ u, Kept Z2 u → M4 u (b21 + 1) (.int .i64 0) (.int .i64 0) (.int .i64 0) sy) := fun u ku => mY2.bl ku.bl
                      obtain ⟨x0, x1, x2, x3⟩ := mX2
                      have KEa : Hid (∀ u (p q s : Int) (z z' : Value), Kept Z2 u → (∃ H H' T, T.length ≤ 100000 ∧ MR H u z T ∧ MR H' u z' T) → Calls Try.prog 21 #[.agg #[.int .i64 p, .int .i64 q, .int .i64 s, z], .agg #[.int .i64 p, .int .i64 q, .int .i64 s, z']] u fun e w' => e = .returned (.bool true) ∧ Kept Z2 w') := fun u p q s z z' ku ⟨H, H', T, h1, h2, h3⟩ => by
                        refine (exact_mr p q s T h1 H H' z z' u h2 h3).mono ?_
                        rintro e w' ⟨rfl, k2⟩
                        exact ⟨rfl, ku.trans k2⟩
                      clear rX2 rY2 ra9 mY2 KE KN
                      go_wp2_with (first | (go_at_call 21; refine (KEa.out _ _ _ _ _ _ (by first | assumption | exact Kept.refl _) (by first | exact ⟨_, _, _, tA, (HmA1.out _ kZ2).2, HrX.out⟩ | exact ⟨_, _, _, tB, (HmB1.out _ (kZ2.trans (by assumption))).2, HrY.out.kept (by assumption)⟩)).mono ?_; rintro e w9 ⟨rfl, k9⟩; obtain ⟨⟨b0, b1, b2, b3⟩, -⟩ := HmB1.out _ (kZ2.trans k9); obtain ⟨y0, y1, y2, y3⟩ := HmY.out _ k9))
                      go_ret
                      exact ⟨rfl, hBw.trans (kZ2.trans (by assumption)).bl⟩
                  · obtain ⟨rfl, rfl, rfl, rfl⟩ := zA'.out ha
                    have hqf : (qa == 0) = false := by simpa using ha
                    go_upto_region 38 with fail
                    obtain ⟨Z1, hZ⟩ : ∃ Z, Z = Y5 := ⟨_, rfl⟩
                    rw [← hZ] at mX0 mY0 fX fY mV5 kr5 k45 hs5 ⊢
                    obtain ⟨sx, hsx⟩ : ∃ s, s = Value.slice none 0 0 := ⟨_, rfl⟩
                    obtain ⟨hx, hhx⟩ : ∃ h, h = 0 := ⟨_, rfl⟩
                    have mX1 : M4 Z1 b21 (.int .i64 0) (.int .i64 0) (.int .i64 0) sx := by rw [hsx]; exact mX0
                    have rX1 : MR hx Z1 sx [] := by rw [hsx]; exact mr_nil _ _
                    have kZ1 := kr5
                    have k4Z := k45
                    have mY1 := mY0
                    have mV1 := mV5
                    have fY1 := fY
                    have hsZ : b21 + 2 ≤ Z1.heap.size := by omega
                    have HXR : Hid (∀ (w5 : World) (a b c d : Value), Kept Z1 w5 → MR hx ((((w5.setCell ⟨b21 + 1, 0, none⟩ a).setCell ⟨b21 + 1, 1, none⟩ b).setCell ⟨b21 + 1, 2, none⟩ c).setCell ⟨b21 + 1, 3, none⟩ d) sx []) := fun w5 a b c d k => by rw [hsx]; exact mr_nil _ _
                    clear hZ hsx hhx mX0 mU5
                    by_cases hb : qb = 0
                    · subst hb
                      obtain ⟨u0, u1, u2', u3⟩ := mV1
                      have KMv := HM2.out rfl Z1 k4Z
                      go_upto_region 40 with (first | (go_at_call 43; refine KMv.mono ?_; rintro e w5 ⟨v, rfl, mrx, k5⟩; obtain ⟨sa, sl, sk, rfl⟩ := mrx.form; have hr9 := mY1.bl k5.bl; obtain ⟨p0, p1, p2, p3⟩ := hr9; have f9 : ∀ o, w5.frozen? ⟨b21 + 1, o, none⟩ = false := fun o => (k5.frozen _).trans (fY1.out o)))
                      obtain ⟨Z2, hZ⟩ : ∃ Z, Z = (((w5.setCell ⟨b21 + 1, 0, none⟩ (.int .i64 rb)).setCell ⟨b21 + 1, 1, none⟩ (.int .i64 cb)).setCell ⟨b21 + 1, 2, none⟩ (.int .i64 nb)).setCell ⟨b21 + 1, 3, none⟩ (.slice sa sl sk) := ⟨_, rfl⟩
                      rw [← hZ]
                      obtain ⟨sy, hsy⟩ : ∃ s, s = Value.slice sa sl sk := ⟨_, rfl⟩
                      obtain ⟨hy, hhy⟩ : ∃ h, h = Z1.heap.size := ⟨_, rfl⟩
                      have hsz5 := k5.below.size
                      have mY2 : M4 Z2 (b21 + 1) (.int .i64 rb) (.int .i64 cb) (.int .i64 nb) sy := by rw [hZ, hsy]; exact res4 w5 _ _ _ _ _ ⟨p0, p1, p2, p3⟩ _ _ _ _
                      have rY2 : MR hy Z2 sy TB := by rw [hZ, hsy, hhy]; exact (((mrx.setOther (by simp; omega) _).setOther (by simp; omega) _).setOther (by simp; omega) _).setOther (by simp; omega) _

                      have kZ2 : Kept wr Z2 := by rw [hZ]; exact ((((kZ1.trans k5).setCell (by simp; omega) _).setCell (by simp; omega) _).setCell (by simp; omega) _).setCell (by simp; omega) _
                      have g9 : GrwS [b21 + 1] Z1 Z2 := by rw [hZ]; exact (((((GrwS.refl [b21 + 1] Z1).kept k5).setCell (by simp) _).setCell (by simp) _).setCell (by simp) _).setCell (by simp) _
                      have mX2 := g9.m4 mX1 (by simp)
                      have rX2 : MR hx Z2 sx [] := by rw [hZ]; exact HXR.out w5 _ _ _ _ k5
                      clear hZ hsy hhy mrx k5 p0 p1 p2 p3 f9 KMv g9 u0 u1 u2' u3
                      obtain ⟨⟨a0, a1, a2, a3⟩, ra9⟩ := HmA1.out _ kZ2
                      have HrX : Hid (MR hx Z2 sx []) := rX2
                      have HrY : Hid (MR hy Z2 sy TB) := rY2
                      have HmY : Hid (∀ u, Kept Z2 u → M4 u (b21 + 1) (.int .i64 rb) (.int .i64 cb) (.int .i64 nb) sy) := fun u ku => mY2.bl ku.bl
                      obtain ⟨x0, x1, x2, x3⟩ := mX2
                      have KEa : Hid (∀ u (p q s : Int) (z z' : Value), Kept Z2 u → (∃ H H' T, T.length ≤ 100000 ∧ MR H u z T ∧ MR H' u z' T) → Calls Try.prog 21 #[.agg #[.int .i64 p, .int .i64 q, .int .i64 s, z], .agg #[.int .i64 p, .int .i64 q, .int .i64 s, z']] u fun e w' => e = .returned (.bool true) ∧ Kept Z2 w') := fun u p q s z z' ku ⟨H, H', T, h1, h2, h3⟩ => by
                        refine (exact_mr p q s T h1 H H' z z' u h2 h3).mono ?_
                        rintro e w' ⟨rfl, k2⟩
                        exact ⟨rfl, ku.trans k2⟩
                      clear rX2 rY2 ra9 mY2 KE KN
                      go_wp2_with (first | (go_at_call 21; refine (KEa.out _ _ _ _ _ _ (by first | assumption | exact Kept.refl _) (by first | exact ⟨_, _, _, tA, (HmA1.out _ kZ2).2, HrX.out⟩ | exact ⟨_, _, _, tB, (HmB1.out _ (kZ2.trans (by assumption))).2, HrY.out.kept (by assumption)⟩)).mono ?_; rintro e w9 ⟨rfl, k9⟩; obtain ⟨⟨b0, b1, b2, b3⟩, -⟩ := HmB1.out _ (kZ2.trans k9); obtain ⟨y0, y1, y2, y3⟩ := HmY.out _ k9))
                      go_ret
                      exact ⟨rfl, hBw.trans (kZ2.trans (by assumption)).bl⟩
                    · obtain ⟨rfl, rfl, rfl, rfl⟩ := zB'.out hb
                      have hqg : (qb == 0) = false := by simpa using hb
                      go_upto_region 40 with fail
                      obtain ⟨Z2, hZ⟩ : ∃ Z, Z = Z1 := ⟨_, rfl⟩
                      rw [← hZ] at mX1 mY1 kZ1 rX1 ⊢
                      obtain ⟨sy, hsy⟩ : ∃ s, s = Value.slice none 0 0 := ⟨_, rfl⟩
                      obtain ⟨hy, hhy⟩ : ∃ h, h = 0 := ⟨_, rfl⟩
                      have mY2 : M4 Z2 (b21 + 1) (.int .i64 0) (.int .i64 0) (.int .i64 0) sy := by rw [hsy]; exact mY1
                      have rY2 : MR hy Z2 sy [] := by rw [hsy]; exact mr_nil _ _
                      have kZ2 := kZ1
                      have mX2 := mX1
                      have rX2 := rX1
                      clear hZ hsy hhy mV1
                      obtain ⟨⟨a0, a1, a2, a3⟩, ra9⟩ := HmA1.out _ kZ2
                      have HrX : Hid (MR hx Z2 sx []) := rX2
                      have HrY : Hid (MR hy Z2 sy []) := rY2
                      have HmY : Hid (∀ u, Kept Z2 u → M4 u (b21 + 1) (.int .i64 0) (.int .i64 0) (.int .i64 0) sy) := fun u ku => mY2.bl ku.bl
                      obtain ⟨x0, x1, x2, x3⟩ := mX2
                      have KEa : Hid (∀ u (p q s : Int) (z z' : Value), Kept Z2 u → (∃ H H' T, T.length ≤ 100000 ∧ MR H u z T ∧ MR H' u z' T) → Calls Try.prog 21 #[.agg #[.int .i64 p, .int .i64 q, .int .i64 s, z], .agg #[.int .i64 p, .int .i64 q, .int .i64 s, z']] u fun e w' => e = .returned (.bool true) ∧ Kept Z2 w') := fun u p q s z z' ku ⟨H, H', T, h1, h2, h3⟩ => by
                        refine (exact_mr p q s T h1 H H' z z' u h2 h3).mono ?_
                        rintro e w' ⟨rfl, k2⟩
                        exact ⟨rfl, ku.trans k2⟩
                      clear rX2 rY2 ra9 mY2 KE KN
                      go_wp2_with (first | (go_at_call 21; refine (KEa.out _ _ _ _ _ _ (by first | assumption | exact Kept.refl _) (by first | exact ⟨_, _, _, tA, (HmA1.out _ kZ2).2, HrX.out⟩ | exact ⟨_, _, _, tB, (HmB1.out _ (kZ2.trans (by assumption))).2, HrY.out.kept (by assumption)⟩)).mono ?_; rintro e w9 ⟨rfl, k9⟩; obtain ⟨⟨b0, b1, b2, b3⟩, -⟩ := HmB1.out _ (kZ2.trans k9); obtain ⟨y0, y1, y2, y3⟩ := HmY.out _ k9))
                      go_ret
                      exact ⟨rfl, hBw.trans (kZ2.trans (by assumption)).bl⟩
      · have g2 : (5000 : Int) < (cn L i : Int) := by omega
        have g3 : ¬ (cn L i : Int) ≤ 5000 := by omega
        clear HX HL
        by_cases hik : i < k
        · have g1 : (i : Int) < (k : Int) := by omega
          go_wp2_with fail
          go_ret
          exact ⟨rfl, k1⟩
        · have g1 : ¬ (i : Int) < (k : Int) := by omega
          go_wp2_with fail
          go_ret
          exact ⟨rfl, k1⟩
end Go.Proofs.Ytcldcjchfagcoaa

namespace Go.Proofs.Ytcldcjchfagcoaa
open Go.ChangeShapes Go.WideShapes Go.ChangeAt Go.RowKit
set_option linter.unusedVariables false
set_option linter.unusedSimpArgs false

theorem cn_le (L : Nat → List Int) (k : Nat) : k ≤ cn L k := by
  induction k with
  | zero => exact Nat.le_refl _
  | succ k ih => rw [cn]; omega

theorem tg_tail (k : Nat) (r c n : Nat → Int) (a : Nat → Option Addr) (cap : Nat → Nat) (L : Nat → List Int) (la : Option Addr) (lc : Nat) (w : World) (hL : 0 < k → ∃ B off, la = some ⟨B, off, none⟩ ∧ Lm w B off k r c n a cap L) (hRg : ∀ i, i < k → Rgl (L i))
    (W wr : World) (fv sv : Value) (bd : Int) (hW : Bl w W) (hG : GI W wr r c n L k k fv sv) (hb : BadAt r c n L k bd) (hc : cn L k ≤ 5000) : ∃ A A', Tail wr fv sv (.slice la k lc) bd A A' := by
  have hk5 := cn_le L k
  rcases Nat.eq_zero_or_pos k with rfl | hk0
  · obtain ⟨-, ⟨g, cp, h2, -⟩, h4, -⟩ := hG
    have hb0 : bd = 0 := by
      rcases hb with ⟨h, -⟩ | ⟨-, j, hj, -⟩
      · exact h
      · omega
    have hf : ∃ fa fc, fv = .slice fa 0 fc := h2.form
    have hs : ∃ sa sc, sv = .slice sa 0 sc := h4.form
    obtain ⟨fa, fc, rfl⟩ := hf
    obtain ⟨sa, sc, rfl⟩ := hs
    have hz : ∀ (side : Bool), GlV ⟨0, 0, 0, 1, []⟩ side wr (.slice sa 0 sc) (.slice la 0 lc) := fun side u ku => by
      refine (rglue_nil sa sc side u).mono ?_
      rintro x w' ⟨rfl, k2⟩
      exact ⟨0, 0, 0, none, 0, 0, rfl, k2, fun h => absurd h (by decide)⟩
    exact ⟨⟨0, 0, 0, 1, []⟩, ⟨0, 0, 0, 1, []⟩, by simp, by simp, fun u ku => gives_zero (glueCols_no _ 1 (by decide) u (fun v kv => checkAll_nil fa fc v)), fun u ku => gives_zero (glueRows_no _ 1 (by decide) u (fun v kv => checkAll_nil fa fc v)), .inr ⟨hb0, fun _ => ⟨rfl, rfl, rfl, rfl⟩, fun _ => ⟨rfl, rfl, rfl, rfl⟩, hz true, hz false⟩⟩
  · obtain ⟨gF, cF, gS, cS, g, cp, rfl, rfl, hF, hS, hO⟩ := hG.lists hk0
    obtain ⟨B, off, rfl, hM⟩ := hL hk0
    have hkW := hG.k
    rcases hb with ⟨rfl, hck⟩ | ⟨hb, j, hj, hcj, hci⟩
    · obtain ⟨A, t1, z1, p1, d1⟩ := an_glueC k hk0 (by omega) r c n L hck hRg
      obtain ⟨A', t2, z2, p2, d2⟩ := an_glueR k hk0 (by omega) r c n L hck hRg
      have hv : ∀ (A : An) (side : Bool), GlK A side k r c n L → GlV A side wr (.slice (some ⟨gS, 0, none⟩) k cS) (.slice (some ⟨B, off, none⟩) k lc) := fun A side hd u ku => by
        refine (hd u gS 0 cS (hS.bl ku.bl)).mono ?_
        rintro x w' ⟨vr, vc, vn, va, vl, vk, rfl, k2, h⟩
        exact ⟨vr, vc, vn, va, vl, vk, rfl, k2, fun hq V kV => h hq V kV B off lc a cap (hM.bl (hW.trans ((hkW.trans ku).trans (k2.trans kV)).bl))⟩
      exact ⟨A, A', t1, t2, fun u ku => p1 u gF 0 cF _ cp (hF.bl ku.bl), fun u ku => p2 u gF 0 cF _ cp (hF.bl ku.bl), .inr ⟨rfl, z1, z2, hv A true d1, hv A' false d2⟩⟩
    · have hk : ∀ u, Kept wr u → ∀ v, Kept u v → Calls Try.prog 67 #[.slice (some ⟨gF, 0, none⟩) k cF] v fun e w' => e = .returned (.int .i64 bd) ∧ Kept v w' := fun u ku v kv => checkAll_any gF 0 k cF hk0 (by omega) r c n _ cp L v (hF.bl (ku.trans kv).bl) bd (.inr ⟨hb, j, hj, hcj, hci⟩)
      exact ⟨⟨0, 0, 0, bd, []⟩, ⟨0, 0, 0, bd, []⟩, by simp, by simp, fun u ku => gives_zero (glueCols_no _ bd hb u (hk u ku)), fun u ku => gives_zero (glueRows_no _ bd hb u (hk u ku)), .inl ⟨hb, rfl, rfl⟩⟩

theorem tensorGlues_true (k : Nat) (hkm : k ≤ 140737488351232) (r c n : Nat → Int) (a : Nat → Option Addr) (cap : Nat → Nat) (L : Nat → List Int) (la : Option Addr) (lc : Nat) (w : World) (hL : 0 < k → ∃ B off, la = some ⟨B, off, none⟩ ∧ Lm w B off k r c n a cap L) (hln : ∀ i, i < k → (L i).length ≤ 140737488351232) (hR : ∀ i, i < k → ∀ d ∈ L i, -9223372036854775808 ≤ d ∧ d ≤ 9223372036854775807) :
    Calls Try.prog 8 #[.slice la k lc] w fun e w' => e = .returned (.bool true) ∧ Below w.heap.size w w' := by
  have hRg : ∀ i, i < k → Rgl (L i) := fun i hi j hj => by
    rw [List.getD_eq_getElem?_getD, List.getElem?_eq_getElem hj]
    exact hR i hi _ (List.getElem_mem hj)
  refine (tg_walk k hkm r c n a cap L la lc w hL hln (fun W wr fv sv bd h1 h2 h3 h4 => tg_tail k r c n a cap L la lc w hL hRg W wr fv sv bd h1 h2 h3 h4)).mono ?_
  rintro e w' ⟨rfl, k⟩
  exact ⟨rfl, k.below⟩
end Go.Proofs.Ytcldcjchfagcoaa
