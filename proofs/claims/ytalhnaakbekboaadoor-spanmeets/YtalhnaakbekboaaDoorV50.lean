/- SpanMeets. How arguments are read: exact numbers, lists of ints; and that they read behind the call as before. How an interval is read. -/
import Derived.Test.YtalhnaakbekboaaDoorV49
import Derived.Test.YtalhnaakbekboaaDoorV14
import Derived.ProofKit
import Derived.OpenShut
import Derived.Carry
import Derived.Lib.SmallJoins
import Derived.ChangeSlices
namespace Go.Proofs.YtalhnaakbekboaaDoor
open Go.ChangeShapes Go.WideShapes Go.ChangeAt Go.RowKit Ieee
set_option linter.unusedVariables false
set_option linter.unusedSimpArgs false

theorem mask32 (s : Int) : bits .and .i64 s 4294967295 = s % 4294967296 := by
  have e : (BitVec.ofInt 64 4294967295 : BitVec 64).toNat = 2 ^ 32 - 1 := by decide
  have h := ofInt_toNat s
  rw [bits_and, BitVec.toNat_and, e, Nat.and_two_pow_sub_one_eq_mod, wrap_i64]
  omega
theorem vsp_pz (n K1 K2 : Int) (hn : n = 64 ∨ n = 32) (h1 : -(ifn n : Int) ≤ K1) (h2 : K1 < (ifn n : Int)) (h3 : -(ifn n : Int) < K2) (h4 : K2 ≤ (ifn n : Int)) (h5 : K1 ≤ K2) : vsp (pz n K1) (pz n K2) n = true ∧ RB (pz n K1) ∧ RB (pz n K2) ∧ keyOf (pz n K1) n = K1 ∧ keyOf (pz n K2) n = K2 := by
  have e1 := pz_key n K1 hn h1 (by omega)
  have e2 := pz_key n K2 hn (by omega) h4
  refine ⟨?_, pz_range n K1 hn h1 (by omega), pz_range n K2 hn (by omega) h4, e1, e2⟩
  unfold vsp
  rw [pz_num n K1 hn h1 (by omega), pz_num n K2 hn (by omega) h4, e1, e2]
  simp only [Bool.true_and, Bool.and_eq_true, decide_eq_true_eq]
  omega
theorem fin_num (b n : Int) (h : fin b n = true) : isnum b n = true ∧ (n = 64 ∨ n = 32) := by
  unfold fin at h
  unfold isnum
  rw [decide_eq_true_eq] at h ⊢
  exact ⟨⟨h.1, by omega⟩, h.1⟩
theorem nmE_fin (b n : Int) (h : fin b n = true) : nmE b n = 0 := by
  unfold nmE
  rw [if_pos (fin_num b n h).2, if_pos h]
/- Holds of an interval and a finite float -/
theorem holds_fin (lo hi b n : Int) (s1 : RB lo) (s2 : RB hi) (s3 : RB b) (hv : vsp lo hi n = true) (hf : fin b n = true) (w : World) : Calls Tryd.prog 19 #[sp2 lo hi, .int .i64 b, .int .i64 n] w fun e w' => e = .returned (.tuple #[.bool (decide (keyOf lo n ≤ keyOf b n ∧ keyOf b n ≤ keyOf hi n)), .int .i64 0]) ∧ Kept w w' := by
  have := holds5_any lo hi b n s1 s2 s3 w
  rw [hv, hf, (opE_zero _ _ _).2 hv, if_pos rfl, nmE_fin b n hf, Bool.true_and, Bool.true_and] at this
  exact this
theorem spanMeets_true (w : World) (hT : Tab w) (s1 s2 t1 t2 x n : Int) (r1 : RB s1) (r2 : RB s2) (r3 : RB t1) (r4 : RB t2) (r5 : RB x) : Calls Tryd.prog 5 #[sp2 s1 s2, sp2 t1 t2, .int .i64 x, .int .i64 n] w fun e w' => e = .returned (.bool true) ∧ Kept w w' := by
  have KA : Hid (∀ u, Kept w u → Calls Tryd.prog 7 #[] u fun e w' => e = .returned (.bool true) ∧ Kept u w') := fun u k => alive5 u (hT.kept k)
  have KM := fun u => meet_any s1 s2 t1 t2 n r1 r2 r3 r4 u
  by_cases hv : vsp s1 s2 n = true ∧ vsp t1 t2 n = true
  · obtain ⟨hv1, hv2⟩ := hv
    have hb := (btE_zero s1 s2 t1 t2 n).2 ⟨hv1, hv2⟩
    obtain ⟨i1, i2, u3, u4, u5⟩ := vsp_num _ _ _ hv1
    obtain ⟨i3, i4, z3, z4, z5⟩ := vsp_num _ _ _ hv2
    have hn := isnum_wid _ _ i1
    have g1 := key_rng s1 n i1 r1.1 r1.2
    have g2 := key_rng s2 n i2 r2.1 r2.2
    have g3 := key_rng t1 n i3 r3.1 r3.2
    have g4 := key_rng t2 n i4 r4.1 r4.2
    have hpos := ifn_p n
    have KV : Hid (∀ u a b v, (a = s1 ∧ b = s2 ∧ v = true ∨ a = t1 ∧ b = t2 ∧ v = true) → Calls Tryd.prog 17 #[sp2 a b, .int .i64 n] u fun e w' => e = .returned (.bool v) ∧ Kept u w') := fun u a b v h => by
      rcases h with ⟨rfl, rfl, rfl⟩ | ⟨rfl, rfl, rfl⟩
      · have := svalid_any a b n r1 r2 u
        rw [hv1] at this
        exact this
      · have := svalid_any a b n r3 r4 u
        rw [hv2] at this
        exact this
    -- what Meet tells
    obtain ⟨m1, m2, okb, hKM, hm⟩ : ∃ (m1 m2 : Int) (okb : Bool), (∀ u, Calls Tryd.prog 16 #[sp2 s1 s2, sp2 t1 t2, .int .i64 n] u fun e w' => e = .returned (.tuple #[sp2 m1 m2, .bool okb, .int .i64 0]) ∧ Kept u w') ∧ (okb = true ∧ max (keyOf s1 n) (keyOf t1 n) ≤ min (keyOf s2 n) (keyOf t2 n) ∧ m1 = pz n (max (keyOf s1 n) (keyOf t1 n)) ∧ m2 = pz n (min (keyOf s2 n) (keyOf t2 n)) ∨ okb = false ∧ ¬ max (keyOf s1 n) (keyOf t1 n) ≤ min (keyOf s2 n) (keyOf t2 n) ∧ m1 = 0 ∧ m2 = 0) := by
      by_cases hc : max (keyOf s1 n) (keyOf t1 n) ≤ min (keyOf s2 n) (keyOf t2 n)
      · refine ⟨_, _, true, fun u => ?_, .inl ⟨rfl, hc, rfl, rfl⟩⟩
        have := KM u
        rw [hb, if_pos ⟨rfl, hc⟩] at this
        exact this
      · refine ⟨0, 0, false, fun u => ?_, .inr ⟨rfl, hc, rfl, rfl⟩⟩
        have := KM u
        rw [hb, if_neg (fun h => hc h.2)] at this
        exact this
    -- the interval that Meet tells
    have hmv : vsp m1 m2 n = true ∧ RB m1 ∧ RB m2 ∧ (okb = true → keyOf m1 n = max (keyOf s1 n) (keyOf t1 n) ∧ keyOf m2 n = min (keyOf s2 n) (keyOf t2 n)) := by
      rcases hm with ⟨ho, hc, rfl, rfl⟩ | ⟨ho, hc, rfl, rfl⟩
      · obtain ⟨q1, q2, q3, q4, q5⟩ := vsp_pz n (max (keyOf s1 n) (keyOf t1 n)) (min (keyOf s2 n) (keyOf t2 n)) hn (by omega) (by omega) (by omega) (by omega) hc
        exact ⟨q1, q2, q3, fun _ => ⟨q4, q5⟩⟩
      · refine ⟨?_, by unfold RB; omega, by unfold RB; omega, fun h => by rw [ho] at h; cases h⟩
        rcases hn with rfl | rfl <;> decide
    obtain ⟨mv1, mv2, mv3, mv4⟩ := hmv
    obtain ⟨jv1, jv2, jv3, jv4, jv5⟩ := vsp_pz n (min (keyOf s1 n) (keyOf t1 n)) (max (keyOf s2 n) (keyOf t2 n)) hn (by omega) (by omega) (by omega) (by omega) (by omega)
    have KJ : Hid (∀ u, Calls Tryd.prog 20 #[sp2 s1 s2, sp2 t1 t2, .int .i64 n] u fun e w' => e = .returned (.tuple #[sp2 (pz n (min (keyOf s1 n) (keyOf t1 n))) (pz n (max (keyOf s2 n) (keyOf t2 n))), .int .i64 0]) ∧ Kept u w') := fun u => by
      have := join5_any s1 s2 t1 t2 n r1 r2 r3 r4 u
      rw [hb, if_pos rfl] at this
      exact this
    have KL : Hid (∀ u a b r, (a = s2 ∧ b = t1 ∧ r = decide (keyOf s2 n < keyOf t1 n) ∨ a = t2 ∧ b = s1 ∧ r = decide (keyOf t2 n < keyOf s1 n)) → Calls Tryd.prog 21 #[.int .i64 a, .int .i64 b, .int .i64 n] u fun e w' => e = .returned (.bool r) ∧ Kept u w') := fun u a b r h => by
      rcases h with ⟨rfl, rfl, rfl⟩ | ⟨rfl, rfl, rfl⟩
      · have := less_any a b n r2.1 r2.2 r3.1 r3.2 u
        unfold lss at this
        rw [i2, i3, Bool.true_and, Bool.true_and] at this
        exact this
      · have := less_any a b n r4.1 r4.2 r1.1 r1.2 u
        unfold lss at this
        rw [i4, i1, Bool.true_and, Bool.true_and] at this
        exact this
    -- what is left, for the float that is asked for
    have main : ∀ y : Int, RB y → (∀ c : Int, 2 < c → c = cls y n → True) ∧ (cls y n ≤ 2 → fin y n = true ∧ (∀ u a b r, (a = s1 ∧ b = s2 ∧ r = decide (keyOf s1 n ≤ keyOf y n ∧ keyOf y n ≤ keyOf s2 n) ∨ a = t1 ∧ b = t2 ∧ r = decide (keyOf t1 n ≤ keyOf y n ∧ keyOf y n ≤ keyOf t2 n) ∨ a = pz n (min (keyOf s1 n) (keyOf t1 n)) ∧ b = pz n (max (keyOf s2 n) (keyOf t2 n)) ∧ r = decide (min (keyOf s1 n) (keyOf t1 n) ≤ keyOf y n ∧ keyOf y n ≤ max (keyOf s2 n) (keyOf t2 n)) ∨ a = m1 ∧ b = m2 ∧ r = decide (keyOf m1 n ≤ keyOf y n ∧ keyOf y n ≤ keyOf m2 n)) → Calls Tryd.prog 19 #[sp2 a b, .int .i64 y, .int .i64 n] u fun e w' => e = .returned (.tuple #[.bool r, .int .i64 0]) ∧ Kept u w')) := fun y hy => by
      refine ⟨fun _ _ _ => trivial, fun hc => ?_⟩
      have hf : fin y n = true := by
        unfold fin
        rw [decide_eq_true_eq]
        exact ⟨hn, by omega⟩
      refine ⟨hf, fun u a b r h => ?_⟩
      rcases h with ⟨rfl, rfl, rfl⟩ | ⟨rfl, rfl, rfl⟩ | ⟨rfl, rfl, rfl⟩ | ⟨rfl, rfl, rfl⟩
      · exact holds_fin a b y n r1 r2 hy hv1 hf u
      · exact holds_fin a b y n r3 r4 hy hv2 hf u
      · have := holds_fin _ _ y n jv2 jv3 hy jv1 hf u
        rw [jv4, jv5] at this
        exact this
      · exact holds_fin a b y n mv2 mv3 hy mv1 hf u
    have h3 : ∀ y : Int, (decide (keyOf s1 n ≤ keyOf y n ∧ keyOf y n ≤ keyOf s2 n) || decide (keyOf t1 n ≤ keyOf y n ∧ keyOf y n ≤ keyOf t2 n)) = true → decide (min (keyOf s1 n) (keyOf t1 n) ≤ keyOf y n ∧ keyOf y n ≤ max (keyOf s2 n) (keyOf t2 n)) = true := fun y h => by
      rw [Bool.or_eq_true, decide_eq_true_eq, decide_eq_true_eq] at h
      rw [decide_eq_true_eq]
      omega
    have hno : ∀ y : Int, okb = false → (decide (keyOf s1 n ≤ keyOf y n ∧ keyOf y n ≤ keyOf s2 n) && decide (keyOf t1 n ≤ keyOf y n ∧ keyOf y n ≤ keyOf t2 n)) = false ∧ (decide (keyOf s2 n < keyOf t1 n) || decide (keyOf t2 n < keyOf s1 n)) = true := fun y ho => by
      rcases hm with ⟨h, -⟩ | ⟨-, hc, -, -⟩
      · rw [h] at ho; cases ho
      · constructor
        · rw [← Bool.not_eq_true, Bool.and_eq_true, decide_eq_true_eq, decide_eq_true_eq]
          omega
        · rw [Bool.or_eq_true, decide_eq_true_eq, decide_eq_true_eq]
          omega
    have hyes : ∀ y : Int, okb = true → decide (keyOf m1 n ≤ keyOf y n ∧ keyOf y n ≤ keyOf m2 n) = (decide (keyOf s1 n ≤ keyOf y n ∧ keyOf y n ≤ keyOf s2 n) && decide (keyOf t1 n ≤ keyOf y n ∧ keyOf y n ≤ keyOf t2 n)) := fun y ho => by
      obtain ⟨e1, e2⟩ := mv4 ho
      rw [e1, e2, Bool.eq_iff_iff, Bool.and_eq_true, decide_eq_true_eq, decide_eq_true_eq, decide_eq_true_eq]
      omega
    rcases hn with rfl | rfl
    · by_cases hc : 2 < cls x 64
      · exact meets_B1_64 s1 s2 t1 t2 x m1 m2 (cls x 64) okb hc w hKM KA KV (fun u => class_any x 64 u)
      · obtain ⟨-, hM⟩ := main x r5
        exact meets_B2_64 s1 s2 t1 t2 x m1 m2 _ _ (cls x 64) okb _ _ _ _ _ _ hc (h3 x) (hno x) (hyes x) w hKM KA KV (fun u => class_any x 64 u) (hM (by omega)).2 KJ KL
    · have hx := mask32 x
      have hy : RB (x % 4294967296) := by unfold RB; omega
      by_cases hc : 2 < cls (x % 4294967296) 32
      · exact meets_B1_32 s1 s2 t1 t2 x m1 m2 (cls (x % 4294967296) 32) _ hx okb hc w hKM KA KV (fun u => class_any _ 32 u)
      · obtain ⟨-, hM⟩ := main (x % 4294967296) hy
        exact meets_B2_32 s1 s2 t1 t2 x m1 m2 _ _ (cls (x % 4294967296) 32) _ hx okb _ _ _ _ _ _ hc (h3 _) (hno _) (hyes _) w hKM KA KV (fun u => class_any _ 32 u) (hM (by omega)).2 KJ KL
  · have hb : btE s1 s2 t1 t2 n ≠ 0 := fun h => hv ((btE_zero _ _ _ _ _).1 h)
    refine meets_A s1 s2 t1 t2 x n 0 0 (btE s1 s2 t1 t2 n) false (vsp s1 s2 n) (vsp t1 t2 n) ?_ (by simpa using hb) rfl w (fun u => ?_) KA (fun u a b v h => ?_)
    · cases h1 : vsp s1 s2 n <;> cases h2 : vsp t1 t2 n <;> simp_all
    · have := KM u
      rw [if_neg (fun h => hb h.1)] at this
      exact this
    · rcases h with ⟨rfl, rfl, rfl⟩ | ⟨rfl, rfl, rfl⟩
      · exact svalid_any a b n r1 r2 u
      · exact svalid_any a b n r3 r4 u
end Go.Proofs.YtalhnaakbekboaaDoor

namespace Go.Proofs.YtalhnaakbekboaaDoor
open Go.ChangeShapes Go.WideShapes Go.ChangeAt Go.RowKit Go.Joins
set_option linter.unusedVariables false

theorem laid_out : laidOutB Tryd.prog = true := by kernel_rfl
theorem cells_num : Tryd.prog.cellsOf 26 = 3 := by kernel_rfl
theorem cells_int : Tryd.prog.cellsOf 3 = 1 := by kernel_rfl
theorem wf_rng (n : Int) (h : (Lit.int .i64 n).wf = true) : -9223372036854775808 ≤ n ∧ n ≤ 9223372036854775807 := by
  have e1 : IntKind.i64.min = -9223372036854775808 := rfl
  have e2 : IntKind.i64.max = 9223372036854775807 := rfl
  simp [Lit.wf] at h
  omega

section
variable {H : Type} {enc : TypeId × Value → H} {W : World}

theorem open_lst {fuel : Nat} {cs : List Value} {x : DataW H × List MemPlace} (h : DataW.trod enc Tryd.prog W 0 (fun _ => true) true fuel 24 cs = some x) :
    ∃ (L : List Int) (ar : Option Addr) (cr : Nat), cs = [.slice ar L.length cr] ∧ (ar = none → cr = 0) ∧ Rg L ∧ Sl W (.slice ar L.length cr) L := by
  rcases open_ints Tryd.underlying24 Tryd.underlying3 cells_int h with ⟨rfl, -⟩ | ⟨a, len, cap, zs, rfl, -, hl, hm, hz, -, hcell, hwf⟩
  · exact ⟨[], none, 0, rfl, fun _ => rfl, fun d hd => (by cases hd), none, 0, rfl, Nat.le_refl _, by simp [maxLen], fun h => absurd rfl h⟩
  · have hlen : (zs.take len).length = len := by
      rw [List.length_take, hz]
      simp
      omega
    refine ⟨zs.take len, some a, cap, by rw [hlen], fun h => (by cases h), fun d hd => wf_rng d (hwf d (List.mem_of_mem_take hd)), some a, cap, by rw [hlen], by rw [hlen]; exact hl, hm, fun hne => ?_⟩
    have hpos : 0 < len := by
      rcases Nat.eq_zero_or_pos len with h0 | h0
      · subst h0; simp at hne
      · exact h0
    have hzl : len ≤ zs.length := by rw [hz]; simp; omega
    have h0 := hcell 0 (by omega)
    have hs := World.cell?_spot h0
    have hb := World.block_lt_of_cell? W _ h0
    obtain ⟨ab, ao, asp⟩ := a
    simp [Addr.add] at hs hb
    subst hs
    refine ⟨ab, ao, rfl, hb, fun i hi => ?_⟩
    rw [hlen] at hi
    have := hcell i (by omega)
    rw [Addr.add_lit] at this
    rw [this, List.getD_eq_getElem?_getD, List.getD_eq_getElem?_getD, List.getElem?_take, if_pos hi]

set_option maxRecDepth 100000 in
theorem open_num {b0 : Nat} {v : Value} {d : DataW H} {p : List MemPlace} (hv : Value.okWide Tryd.prog W .any b0 26 v) (h : DataW.Trod enc Tryd.prog W 0 (fun _ => true) true 26 v d p) :
    ∃ (ng : Bool) (L : List Int) (x : Int) (ar : Option Addr) (cr : Nat), v = .agg #[.bool ng, .slice ar L.length cr, .int .i64 x] ∧ (ar = none → cr = 0) ∧ Rg L ∧ Sl W (.slice ar L.length cr) L ∧ (Lit.int .i64 x).wf = true := by
  obtain ⟨v0, v1, v2, y0, y1, y2, n, rfl, -, -, h0, h1, h2⟩ := open_agg3 Tryd.underlying26 (by kernel_rfl) cells_num hv h
  obtain ⟨ng, e0, -⟩ := DataW.trod_bool Tryd.underlying4 h0
  obtain ⟨L, ar, cr, e1, hc, hR, hS⟩ := open_lst h1
  obtain ⟨x, e2, -, wx⟩ := DataW.trod_int Tryd.underlying3 h2
  simp only [List.cons.injEq, and_true] at e0 e1 e2
  subst e0 e1 e2
  exact ⟨ng, L, x, ar, cr, rfl, hc, hR, hS, wx⟩

theorem trodAll_stays {W' : World} {sp : Nat → Bool} : ∀ {ts : List TypeId} {vs : List Value} {ds : List (DataW H)} {p : List MemPlace}, (∀ t ∈ ts, Tryd.prog.readableRec t = true ∧ t < Tryd.prog.types.size) → DataW.TrodAll enc Tryd.prog W 0 (fun _ => true) true ts vs ds p → (∀ x ∈ p, W.sameAt W' x) → (∀ x ∈ p, sp x.block = true) → DataW.TrodAll enc Tryd.prog W' 0 sp true ts vs ds p
  | [], _, _, _, _, h, _, _ => by
    obtain ⟨rfl, rfl, rfl⟩ := trodAll_nil h
    exact trodAll_mk0
  | t :: ts, _, _, _, hr, h, hs, hp => by
    obtain ⟨v, vs1, d, ds1, a, b, rfl, rfl, rfl, h1, h2⟩ := trodAll_cons h
    obtain ⟨r1, r2⟩ := hr t (by simp)
    exact trodAll_cons_mk (WideElems.Trod_stays laid_out r1 r2 h1 (fun x hx => hs x (by simp [hx])) (fun x hx => hp x (by simp [hx]))) (trodAll_stays (fun t' ht' => hr t' (by simp [ht'])) h2 (fun x hx => hs x (by simp [hx])) (fun x hx => hp x (by simp [hx])))
end
end Go.Proofs.YtalhnaakbekboaaDoor

namespace Go.Proofs.YtalhnaakbekboaaDoor
open Go.ChangeShapes Go.WideShapes Go.ChangeAt Go.RowKit Go.Joins
set_option linter.unusedVariables false

theorem cells_span : Tryd.prog.cellsOf 23 = 2 := by kernel_rfl

section
variable {H : Type} {enc : TypeId × Value → H} {W : World}
set_option maxRecDepth 100000 in
theorem open_span {b0 : Nat} {v : Value} {d : DataW H} {p : List MemPlace} (hv : Value.okWide Tryd.prog W .any b0 23 v) (h : DataW.Trod enc Tryd.prog W 0 (fun _ => true) true 23 v d p) :
    ∃ (a b : Int), v = .agg #[.int .i64 a, .int .i64 b] ∧ (-9223372036854775808 ≤ a ∧ a ≤ 9223372036854775807) ∧ (-9223372036854775808 ≤ b ∧ b ≤ 9223372036854775807) := by
  obtain ⟨v0, v1, y0, y1, n, rfl, -, -, h0, h1⟩ := open_agg2 Tryd.underlying23 (by kernel_rfl) cells_span hv h
  obtain ⟨a, e0, -, wa⟩ := DataW.trod_int Tryd.underlying3 h0
  obtain ⟨b, e1, -, wb⟩ := DataW.trod_int Tryd.underlying3 h1
  simp only [List.cons.injEq, and_true] at e0 e1
  subst e0 e1
  exact ⟨a, b, rfl, wf_rng a wa, wf_rng b wb⟩
end
end Go.Proofs.YtalhnaakbekboaaDoor
