/- acc's Same of one sum; the laws' added, by values. Sums over a list, in both directions and in parts; a sum that lies in a block of its own. AccOrders: whatever is added, in whatever order and parts: one sum. -/
import Derived.Test.YtoflafgbbjinpaaGreatDoorZm40
import Derived.Test.YtoflafgbbjinpaaGreatDoorZm38
namespace Go.Proofs.YtoflafgbbjinpaaGreatDoor
open Go.ChangeShapes Go.WideShapes Go.ChangeAt Go.RowKit
set_option linter.unusedVariables false
set_option linter.unusedSimpArgs false
set_option maxHeartbeats 16000000
set_option maxRecDepth 100000
theorem accSame_true (r : Nm) (hl : r.mag.length < 100000000) (p m z : Bool) (a b : Option Addr) (c d : Nat) (w : World) (h : Sl w (.slice a r.mag.length c) r.mag) (h' : Sl w (.slice b r.mag.length d) r.mag) :
  Calls Tryz.prog 34 #[accV r.neg (.slice a r.mag.length c) r.exp p m z, accV r.neg (.slice b r.mag.length d) r.exp p m z] w fun e w' => e = .returned (.bool true) ∧ Kept w w' := by
 have KE : Hid (∀ u, Kept w u → Calls Tryz.prog 86 #[.slice a r.mag.length c, .slice b r.mag.length d] u fun e w' => e = .returned (.bool true) ∧ Kept u w') := fun u k => equal_true r.mag hl a b c d u (h.kept k) (h'.kept k)
 clear h h'
 generalize r.mag.length = N at *
 generalize r.neg = ng at *
 generalize r.exp = x at *
 have e1 : (p == p) = true := by simp
 have e2 : (m == m) = true := by simp
 have e3 : (z == z) = true := by simp
 have e4 : (ng == ng) = true := by simp
 have e5 : (x == x) = true := by simp
 have k0 : Kept w ((w.alloc (.cells #[.bool ng, .slice a N c, .int .i64 x, .bool p, .bool m, .bool z] 26)).alloc (.cells #[.bool ng, .slice b N d, .int .i64 x, .bool p, .bool m, .bool z] 26)) := ((Kept.refl w).alloc _ _).alloc _ _
 go_enter Tryz.func34, Tryz.ntmps34
 go_wp2_with fail
 refine (KE.out _ k0).mono ?_
 rintro e w1 ⟨rfl, k1⟩
 go_wp2_with fail
 go_ret
 exact ⟨rfl, k0.trans k1⟩
/- what an item brings -/
def vI (k x y w : Int) : Int := if k % 4 = 1 then pvl (wdI w) (ptI x w) (ptI y w) else if k % 4 = 2 then -(pvl (wdI w) (ptI x w) (oneN (wdI w))) else pvl (wdI w) (ptI x w) (oneN (wdI w))
def iP (k x y w : Int) : Bool := if k % 4 = 1 then fP (wdI w) (ptI x w) (ptI y w) else if k % 4 = 2 then fM (wdI w) (ptI x w) (oneN (wdI w)) else fP (wdI w) (ptI x w) (oneN (wdI w))
def iM (k x y w : Int) : Bool := if k % 4 = 1 then fM (wdI w) (ptI x w) (ptI y w) else if k % 4 = 2 then fP (wdI w) (ptI x w) (oneN (wdI w)) else fM (wdI w) (ptI x w) (oneN (wdI w))
def iN (k x y w : Int) : Bool := if k % 4 = 1 then fN (wdI w) (ptI x w) (ptI y w) else fN (wdI w) (ptI x w) (oneN (wdI w))
theorem vI_lt (k x y w : Int) (x1 : -9223372036854775808 ≤ x) (x2 : x ≤ 9223372036854775807) (y1 : -9223372036854775808 ≤ y) (y2 : y ≤ 9223372036854775807) : (vI k x y w).natAbs < 2 ^ expJ := by
 obtain ⟨a1, a2, a3⟩ := ptI_ok x w x1 x2
 obtain ⟨b1, b2, b3⟩ := ptI_ok y w y1 y2
 obtain ⟨o1, o2, o3⟩ := oneN_ok (wdI w) (wdI_ok w)
 unfold vI
 split
 ·exact pvl_lt _ _ _ (wdI_ok w) a1 a2 b1 b2
 ·split
  ·rw [Int.natAbs_neg]
   exact pvl_lt _ _ _ (wdI_ok w) a1 a2 o1 o2
  ·exact pvl_lt _ _ _ (wdI_ok w) a1 a2 o1 o2
theorem neg_dn {S : Int} {r : Nm} (h : DN S r) : DN (-S) ⟨if r.mag.length = 0 then r.neg else !r.neg, r.mag, r.exp⟩ := by
 refine ⟨by rw [Int.natAbs_neg]; exact h.bd, ?_⟩
 have h1 := h.is
 unfold cfm frm at *
 rw [Int.natAbs_neg]
 by_cases h0 : S.natAbs = 0
 ·rw [if_pos h0] at h1 ⊢
  cases h1
  rfl
 ·rw [if_neg h0] at h1 ⊢
  split at h1
  ·rename_i hc
   rw [if_pos hc]
   cases h1
   have hne : (digs (S.natAbs / 2 ^ tzn S.natAbs)).length ≠ 0 := by
    intro g
    have h2 := nv_digs (S.natAbs / 2 ^ tzn S.natAbs)
    rw [List.eq_nil_of_length_eq_zero g] at h2
    have h3 := (tzn_div S.natAbs h0).1
    have h4 : nv ([] : List Int) = 0 := rfl
    omega
   simp only
   rw [if_neg hne]
   congr 2
   by_cases hs : S < 0
   ·rw [decide_eq_true hs, decide_eq_false (by omega)]
    rfl
   ·rw [decide_eq_false hs, decide_eq_true (by omega)]
    rfl
  ·cases h1
theorem added_dn (k x y wd : Int) (x1 : -9223372036854775808 ≤ x) (x2 : x ≤ 9223372036854775807) (y1 : -9223372036854775808 ≤ y) (y2 : y ≤ 9223372036854775807) {S : Int} {r q : Nm} (hr : DN S r) (hq : DN (S + vI k x y wd) q) (p m z : Bool) (ao : Option Addr) (c : Nat) (hc0 : ao = none → c = 0) (w : World) (hT : Tab w) (h : Sl w (.slice ao r.mag.length c) r.mag) :
  Calls Tryz.prog 27 #[accV r.neg (.slice ao r.mag.length c) r.exp p m z, .agg #[.int .i64 k, .int .i64 x, .int .i64 y, .int .i64 wd]] w fun e w' => ∃ un ua ul uc ux, e = .returned (.tuple #[accV un (.slice ua ul uc) ux (p || iP k x y wd) (m || iM k x y wd) (z || iN k x y wd), .bool true]) ∧ New w w' (.agg #[.bool un, .slice ua ul uc, .int .i64 ux]) q ∧ Kept w w' := by
 obtain ⟨a1, a2, a3⟩ := ptI_ok x wd x1 x2
 obtain ⟨b1, b2, b3⟩ := ptI_ok y wd y1 y2
 have hn := wdI_ok wd
 obtain ⟨o1, o2, o3⟩ := oneN_ok (wdI wd) hn
 obtain ⟨n, hnn⟩ : ∃ n, n = wdI wd := ⟨_, rfl⟩
 obtain ⟨t, ht⟩ : ∃ t, t = wd % 2 := ⟨_, rfl⟩
 have ew1 : bits .and .i64 wd 1 = t := by rw [and_one, ht]
 have ew2 : IntKind.i64.wrap (32 * t) = 32 * t := by rw [wrap_i64]; omega
 have ew3 : IntKind.i64.wrap (32 + 32 * t) = n := by
  rw [hnn, ht, wrap_i64]
  unfold wdI
  split <;> omega
 have KP : Hid (∀ b u, Calls Tryz.prog 15 #[.int .i64 b, .int .i64 wd] u fun e w' => e = .returned (.int .i64 (ptI b wd)) ∧ Kept u w') := fun b u => pattern3 b wd u
 obtain ⟨kk, hkk⟩ : ∃ t, t = k % 4 := ⟨_, rfl⟩
 have ek : bits .and .i64 k 3 = kk := by rw [mask2, hkk]
 obtain ⟨P, hP⟩ : ∃ P, P = (p || iP k x y wd) := ⟨_, rfl⟩
 obtain ⟨M, hM⟩ : ∃ P, P = (m || iM k x y wd) := ⟨_, rfl⟩
 obtain ⟨Z, hZ⟩ : ∃ P, P = (z || iN k x y wd) := ⟨_, rfl⟩
 rw [← hP, ← hM, ← hZ]
 unfold iP at hP
 unfold iM at hM
 unfold iN at hZ
 unfold vI at hq
 rw [← hkk, ← hnn] at hP hM hq
 rw [← hkk, ← hnn] at hZ
 rw [← hnn] at a3 b3 hn o1 o2 o3
 obtain ⟨px, hpx⟩ : ∃ t, t = ptI x wd := ⟨_, rfl⟩
 obtain ⟨py, hpy⟩ : ∃ t, t = ptI y wd := ⟨_, rfl⟩
 rw [← hpx, ← hpy] at hP hM hq hZ
 rw [← hpx] at a1 a2 a3
 rw [← hpy] at b1 b2 b3
 have KPx : Hid (∀ u, Calls Tryz.prog 15 #[.int .i64 x, .int .i64 wd] u fun e w' => e = .returned (.int .i64 px) ∧ Kept u w') := fun u => by rw [hpx]; exact KP.out x u
 have KPy : Hid (∀ u, Calls Tryz.prog 15 #[.int .i64 y, .int .i64 wd] u fun e w' => e = .returned (.int .i64 py) ∧ Kept u w') := fun u => by rw [hpy]; exact KP.out y u
 have KFin : Hid ((kk = 1 → ∀ u, Kept w u → Calls Tryz.prog 19 #[accV r.neg (.slice ao r.mag.length c) r.exp p m z, .int .i64 px, .int .i64 py, .int .i64 n] u fun e w' => ∃ un ua ul uc ux, e = .returned (.tuple #[accV un (.slice ua ul uc) ux P M Z, .int .i64 0]) ∧ New u w' (.agg #[.bool un, .slice ua ul uc, .int .i64 ux]) q ∧ Kept u w') ∧
   (kk ≠ 1 → kk ≠ 2 → ∀ u, Kept w u → Calls Tryz.prog 28 #[accV r.neg (.slice ao r.mag.length c) r.exp p m z, .int .i64 px, .int .i64 n] u fun e w' => ∃ un ua ul uc ux, e = .returned (.tuple #[accV un (.slice ua ul uc) ux P M Z, .int .i64 0]) ∧ New u w' (.agg #[.bool un, .slice ua ul uc, .int .i64 ux]) q ∧ Kept u w') ∧
   (kk = 2 → ∃ (f1 f2 f3 : Bool) (T : Int) (g : Nm), (∀ u, Kept w u → Calls Tryz.prog 38 #[.int .i64 px, .int .i64 n] u fun e w' => ∃ ua uc, e = .returned (.tuple #[accV g.neg (.slice ua g.mag.length uc) g.exp f1 f2 f3, .int .i64 0]) ∧ Hid ((ua = none → uc = 0) ∧ Sl w' (.slice ua g.mag.length uc) g.mag) ∧ Kept u w') ∧
    (∀ u ua uc, Kept w u → (ua = none → uc = 0) → Sl u (.slice ua g.mag.length uc) g.mag → Calls Tryz.prog 33 #[accV g.neg (.slice ua g.mag.length uc) g.exp f1 f2 f3] u fun e w' => ∃ vn va vl vc vx, e = .returned (.tuple #[accV vn (.slice va vl vc) vx f2 f1 f3, .int .i64 0]) ∧ Hid (∀ t, Kept w' t → Calls Tryz.prog 29 #[accV r.neg (.slice ao r.mag.length c) r.exp p m z, accV vn (.slice va vl vc) vx f2 f1 f3] t fun e w' => ∃ un ua ul uc ux, e = .returned (.tuple #[accV un (.slice ua ul uc) ux P M Z, .int .i64 0]) ∧ New t w' (.agg #[.bool un, .slice ua ul uc, .int .i64 ux]) q ∧ Kept t w') ∧ Kept u w'))) := by
  refine ⟨fun h1 u ku => ?_, fun h1 h2 u ku => ?_, fun h2 => ?_⟩
  ·rw [if_pos h1] at hP hM hZ hq
   rw [hP, hM, hZ]
   exact product_dn n px py hn a1 a2 b1 b2 a3 b3 hr hq p m z ao c u (hT.kept ku) (h.kept ku)
  ·rw [if_neg h1, if_neg h2] at hP hM hq
   rw [if_neg h1] at hZ
   rw [hP, hM, hZ]
   exact one_dn n px hn a1 a2 a3 hr hq p m z ao c u (hT.kept ku) (h.kept ku)
  ·have h1 : kk ≠ 1 := by omega
   rw [if_neg h1, if_pos h2] at hP hM hq
   rw [if_neg h1] at hZ
   obtain ⟨g, hg⟩ := dn_some (0 + pvl n px (oneN n)) (by rw [Int.zero_add]; exact big_lt (pvl_lt n px (oneN n) hn a1 a2 o1 o2))
   have hg2 := hg
   rw [Int.zero_add] at hg2
   refine ⟨fP n px (oneN n), fM n px (oneN n), fN n px (oneN n), pvl n px (oneN n), g, fun u ku => ?_, fun u ua uc ku hu hs => ?_⟩
   ·refine (accOf_ok n px u g (fP n px (oneN n)) (fM n px (oneN n)) (fN n px (oneN n)) 0 (fun v kv => ?_)).mono ?_
    ·have := one_dn n px hn a1 a2 a3 dn_zero hg false false false none 0 v (hT.kept (ku.trans kv)) (sl_none v)
     simp only [Bool.false_or] at this
     exact this
    ·rintro e w' ⟨un, ua, ul, uc, ux, rfl, hN, k2⟩
     obtain ⟨rfl, rfl, rfl, e4, hs⟩ := hN.parts
     exact ⟨ua, uc, rfl, ⟨e4, hs⟩, k2⟩
   ·have hneg := neg_dn hg2
    refine (accNeg_ok g.neg ua g.mag.length uc g.exp (fP n px (oneN n)) (fM n px (oneN n)) (fN n px (oneN n)) u ⟨if g.mag.length = 0 then g.neg else !g.neg, g.mag, g.exp⟩ (fun v kv => ?_)).mono ?_
    ·obtain ⟨rp, pe, hcall, -, hok⟩ := neg_all g.neg g.mag g.exp hg.rg.1 (by have := hg.rg.2; omega)
     obtain ⟨rfl, hrp⟩ := hok hg.vld
     rw [← hrp]
     exact hcall v ua uc hu (hs.kept kv) (hT.kept (ku.trans kv))
    ·rintro e w' ⟨vn, va, vl, vc, vx, rfl, hN, k2⟩
     refine ⟨vn, va, vl, vc, vx, rfl, fun v kv => ?_, k2⟩
     obtain ⟨rfl, rfl, rfl, e4, hs2⟩ := hN.parts
     rw [hP, hM, hZ]
     exact merge_dn hr hneg hq p m z _ _ _ ao va c vc v (hT.kept ((ku.trans k2).trans kv)) (h.kept ((ku.trans k2).trans kv)) (hs2.kept kv)
 have hk3 : Hid (kk = 1 ∨ kk = 2 ∨ (kk ≠ 1 ∧ kk ≠ 2)) := (show _ ∨ _ from by omega)
 obtain ⟨X, hX⟩ : ∃ X, X = ((w.alloc (.cells #[.bool r.neg, .slice ao r.mag.length c, .int .i64 r.exp, .bool p, .bool m, .bool z] 26)).alloc (.cells #[.int .i64 k, .int .i64 x, .int .i64 y, .int .i64 wd] 40)).alloc (.cells #[.bool false, .slice none 0 0, .int .i64 0, .bool false, .bool false, .bool false] 26) := ⟨_, rfl⟩
 have k0 : Kept w X := by rw [hX]; exact (((Kept.refl w).alloc _ _).alloc _ _).alloc _ _
 obtain ⟨B1, hB1⟩ : ∃ B, B = w.heap.size + 1 := ⟨_, rfl⟩
 obtain ⟨B2, hB2⟩ : ∃ B, B = w.heap.size + 1 + 1 := ⟨_, rfl⟩
 have HXs : Hid (X.heap.size = w.heap.size + 3 ∧ B2 = w.heap.size + 2 ∧ B1 = w.heap.size + 1) := ⟨by rw [hX]; simp, by omega, by omega⟩
 have HA : Hid (∀ u, Kept X u → _) := acc_cells1 r.neg (.slice ao r.mag.length c) r.exp p m z 26 w.heap.size rfl (X := X) (by rw [hX]; exact ((Kept.refl _).alloc _ _).alloc _ _)
 have HI : Hid (∀ u, Kept X u → u.cell? ⟨B1, 0, none⟩ = some (.int .i64 k) ∧ u.cell? ⟨B1, 1, none⟩ = some (.int .i64 x) ∧ u.cell? ⟨B1, 2, none⟩ = some (.int .i64 y) ∧ u.cell? ⟨B1, 3, none⟩ = some (.int .i64 wd)) := fun u ku => by
  refine ⟨?_, ?_, ?_, ?_⟩
  all_goals exact (ku.below.cell (by have := HXs.out; dsimp only; omega)).trans (by rw [hX, hB1]; simp [go_sem])
 have HR : Hid (∀ u, Kept X u → u.cell? ⟨B2, 0, none⟩ = some (.bool false) ∧ u.cell? ⟨B2, 1, none⟩ = some (.slice none 0 0) ∧ u.cell? ⟨B2, 2, none⟩ = some (.int .i64 0) ∧ u.cell? ⟨B2, 3, none⟩ = some (.bool false) ∧ u.cell? ⟨B2, 4, none⟩ = some (.bool false) ∧ u.cell? ⟨B2, 5, none⟩ = some (.bool false) ∧ ∀ o, u.frozen? ⟨B2, o, none⟩ = false) := fun u ku => by
  refine ⟨?_, ?_, ?_, ?_, ?_, ?_, fun o => ?_⟩
  iterate 6 (exact (ku.below.cell (by have := HXs.out; dsimp only; omega)).trans (by rw [hX, hB2]; simp [go_sem]))
  exact (ku.frozen _).trans (by rw [hX, hB2]; simp [go_sem])
 clear KP hr hq hT h hP hM hZ a1 a2 a3 b1 b2 b3 o1 o2 o3 hn hnn ht hkk hpx hpy
 generalize r.mag.length = N at *
 generalize r.neg = ng at *
 generalize r.exp = xx at *
 go_enter Tryz.func27, Tryz.ntmps27
 go_upto_region 1 with fail
 rw [← hX, ← hB2, ← hB1]
 clear hX hB1 hB2
 obtain ⟨i0, i1, i2, i3⟩ := HI.out _ (Kept.refl _)
 go_wp2_with fail
 refine (KPx.out _).mono ?_
 rintro e w1 ⟨rfl, k1⟩
 clear i0 i1 i2 i3
 obtain ⟨i0, i1, i2, i3⟩ := HI.out _ k1
 go_wp2_with fail
 refine (KPy.out _).mono ?_
 rintro e w2 ⟨rfl, k2⟩
 replace k2 := k1.trans k2
 clear i0 i1 i2 i3 KPx KPy k1
 obtain ⟨i0, i1, i2, i3⟩ := HI.out _ k2
 obtain ⟨c0, c1, c2, c3, c4, c5⟩ := HA.out _ k2
 rcases hk3.out with h1 | h1 | ⟨h1, h2⟩
 ·have KA : Hid (∀ u, Kept w u → _) := KFin.out.1 h1
  subst h1
  clear KFin
  go_wp2_with fail
  refine (KA.out _ (k0.trans k2)).mono ?_
  rintro e w3 ⟨un, ua, ul, uc, ux, rfl, hN, k3⟩
  have kz := k2.trans k3
  clear c0 c1 c2 c3 c4 c5 i0 i1 i2 i3
  obtain ⟨r0, r1, r2, r3, r4, r5, r6⟩ := HR.out _ kz
  obtain ⟨s0, s1, s2, s3, s4, s5, s6⟩ := HR.out _ (kz.alloc #[.bool un, .slice ua ul uc, .int .i64 ux, .bool P, .bool M, .bool Z] 26)
  have nn2 : B2 ≠ w3.heap.size := by have := (kz).below.size; have := HXs.out; omega
  go_wp2_with fail
  refine bodyPost_ret (v := .tuple #[accV un (.slice ua ul uc) ux P M Z, .bool true]) (by simp [results, Tryz.results27, go_sem, r0, r1, r2, r3, r4, r5, s0, s1, s2, s3, s4, s5, nn2]) rfl ⟨un, ua, ul, uc, ux, rfl, ?_, ?_⟩
  ·exact new_six1 B2 (by have := HXs.out; omega) (hN.kept ((Kept.refl _).alloc _ _)) (by have := HXs.out; have := k2.below.size; omega) _ _ _ _ _ _
  ·exact kept_six1 B2 (by have := HXs.out; omega) ((k0.trans kz).alloc _ _) _ _ _ _ _ _
 ·obtain ⟨f1, f2, f3, T, g, hOf, hNg⟩ := KFin.out.2.2 h1
  have KO : Hid (∀ u, Kept w u → _) := hOf
  have KNg : Hid (∀ u ua uc, Kept w u → _) := hNg
  subst h1
  clear KFin hOf hNg
  go_wp2_with fail
  refine (KO.out _ (k0.trans k2)).mono ?_
  rintro e w3 ⟨ya, yc, rfl, hy, k3⟩
  have kz3 := k2.trans k3
  clear c0 c1 c2 c3 c4 c5 i0 i1 i2 i3 KO
  go_wp2_with fail
  refine (KNg.out _ ya yc ((k0.trans kz3).alloc _ _) hy.out.1 (hy.out.2.kept ((Kept.refl _).alloc _ _))).mono ?_
  rintro e w4 ⟨vn, va, vl, vc, vx, rfl, KM, k4⟩
  have kz4 : Kept X w4 := (kz3.alloc _ _).trans k4
  clear KNg hy
  obtain ⟨c0, c1, c2, c3, c4, c5⟩ := HA.out _ kz4
  obtain ⟨d0, d1, d2, d3, d4, d5⟩ := HA.out _ (kz4.alloc #[.bool vn, .slice va vl vc, .int .i64 vx, .bool f2, .bool f1, .bool f3] 26)
  have nw : w.heap.size ≠ w4.heap.size := by have := kz4.below.size; have := HXs.out; omega
  go_wp2_with fail
  refine (KM.out _ ((Kept.refl _).alloc _ _)).mono ?_
  rintro e w5 ⟨un, ua, ul, uc, ux, rfl, hN, k5⟩
  have kz : Kept X w5 := (kz4.alloc _ _).trans k5
  clear c0 c1 c2 c3 c4 c5 d0 d1 d2 d3 d4 d5 KM
  obtain ⟨r0, r1, r2, r3, r4, r5, r6⟩ := HR.out _ kz
  obtain ⟨s0, s1, s2, s3, s4, s5, s6⟩ := HR.out _ (kz.alloc #[.bool un, .slice ua ul uc, .int .i64 ux, .bool P, .bool M, .bool Z] 26)
  have nn2 : B2 ≠ w5.heap.size := by have := (kz).below.size; have := HXs.out; omega
  go_wp2_with fail
  refine bodyPost_ret (v := .tuple #[accV un (.slice ua ul uc) ux P M Z, .bool true]) (by simp [results, Tryz.results27, go_sem, r0, r1, r2, r3, r4, r5, s0, s1, s2, s3, s4, s5, nn2]) rfl ⟨un, ua, ul, uc, ux, rfl, ?_, ?_⟩
  ·exact new_six1 B2 (by have := HXs.out; omega) (hN.kept ((Kept.refl _).alloc _ _)) (by have := HXs.out; have := (kz4.alloc #[.bool vn, .slice va vl vc, .int .i64 vx, .bool f2, .bool f1, .bool f3] 26).below.size; omega) _ _ _ _ _ _
  ·exact kept_six1 B2 (by have := HXs.out; omega) ((k0.trans kz).alloc _ _) _ _ _ _ _ _
 ·have KA : Hid (∀ u, Kept w u → _) := KFin.out.2.1 h1 h2
  have q1 : (kk == 1) = false := by rw [beq_eq_false_iff_ne]; exact h1
  have q2 : (kk == 2) = false := by rw [beq_eq_false_iff_ne]; exact h2
  clear KFin
  go_wp2_with fail
  refine (KA.out _ (k0.trans k2)).mono ?_
  rintro e w3 ⟨un, ua, ul, uc, ux, rfl, hN, k3⟩
  have kz := k2.trans k3
  clear c0 c1 c2 c3 c4 c5 i0 i1 i2 i3
  obtain ⟨r0, r1, r2, r3, r4, r5, r6⟩ := HR.out _ kz
  obtain ⟨s0, s1, s2, s3, s4, s5, s6⟩ := HR.out _ (kz.alloc #[.bool un, .slice ua ul uc, .int .i64 ux, .bool P, .bool M, .bool Z] 26)
  have nn2 : B2 ≠ w3.heap.size := by have := (kz).below.size; have := HXs.out; omega
  go_wp2_with fail
  refine bodyPost_ret (v := .tuple #[accV un (.slice ua ul uc) ux P M Z, .bool true]) (by simp [results, Tryz.results27, go_sem, r0, r1, r2, r3, r4, r5, s0, s1, s2, s3, s4, s5, nn2]) rfl ⟨un, ua, ul, uc, ux, rfl, ?_, ?_⟩
  ·exact new_six1 B2 (by have := HXs.out; omega) (hN.kept ((Kept.refl _).alloc _ _)) (by have := HXs.out; have := k2.below.size; omega) _ _ _ _ _ _
  ·exact kept_six1 B2 (by have := HXs.out; omega) ((k0.trans kz).alloc _ _) _ _ _ _ _ _
def sI (f : Nat → Int) : Nat → Int
 | 0 => 0
 | i + 1 => sI f i + f i
theorem sI_lt (f : Nat → Int) (h : ∀ j, (f j).natAbs < 2 ^ expJ) : ∀ n, (sI f n).natAbs ≤ n * 2 ^ expJ
 | 0 => by simp [sI]
 | n + 1 => by
  have h1 := sI_lt f h n
  have h2 := h n
  rw [sI, Nat.add_mul, Nat.one_mul]
  generalize 2 ^ expJ = B at *
  generalize n * B = A at *
  omega
theorem sI_bd (f : Nat → Int) (h : ∀ j, (f j).natAbs < 2 ^ expJ) (n : Nat) (hn : n ≤ 401) : (sI f n).natAbs < 2 ^ expK := by
 have h1 := sI_lt f h n
 have h2 : n * 2 ^ expJ ≤ 512 * 2 ^ expJ := Nat.mul_le_mul_right _ (by omega)
 have h3 : 512 * 2 ^ expJ < 2 ^ expK := by
  have e : (512 : Nat) = 2 ^ 9 := by decide
  rw [e, ← Nat.pow_add]
  exact Nat.pow_lt_pow_right (by decide) (by rw [expJ_is, expK_is]; omega)
 omega
/- a sum that lies in a block of its own, its digits above a mark -/
structure Box (u : World) (lo B : Nat) (r : Nm) (p m z : Bool) (ao : Option Addr) (c : Nat) : Prop where
 c0 : u.cell? ⟨B, 0, none⟩ = some (.bool r.neg)
 c1 : u.cell? ⟨B, 1, none⟩ = some (.slice ao r.mag.length c)
 c2 : u.cell? ⟨B, 2, none⟩ = some (.int .i64 r.exp)
 c3 : u.cell? ⟨B, 3, none⟩ = some (.bool p)
 c4 : u.cell? ⟨B, 4, none⟩ = some (.bool m)
 c5 : u.cell? ⟨B, 5, none⟩ = some (.bool z)
 fz : ∀ o, u.frozen? ⟨B, o, none⟩ = false
 lt : B < u.heap.size
 hc : ao = none → c = 0
 sl : Sl u (.slice ao r.mag.length c) r.mag
 hi : ∀ b off, ao = some ⟨b, off, none⟩ → r.mag ≠ [] → lo ≤ b
theorem Box.kept {u u' : World} {lo B : Nat} {r : Nm} {p m z : Bool} {ao : Option Addr} {c : Nat} (h : Box u lo B r p m z ao c) (k : Kept u u') : Box u' lo B r p m z ao c :=
 ⟨(k.below.cell (p := ⟨B, 0, none⟩) h.lt).trans h.c0, (k.below.cell (p := ⟨B, 1, none⟩) h.lt).trans h.c1, (k.below.cell (p := ⟨B, 2, none⟩) h.lt).trans h.c2, (k.below.cell (p := ⟨B, 3, none⟩) h.lt).trans h.c3, (k.below.cell (p := ⟨B, 4, none⟩) h.lt).trans h.c4, (k.below.cell (p := ⟨B, 5, none⟩) h.lt).trans h.c5, fun o => (k.frozen _).trans (h.fz o), Nat.lt_of_lt_of_le h.lt k.below.size, h.hc, h.sl.kept k, h.hi⟩
theorem sl_other {u : World} {ao : Option Addr} {l c : Nat} {L : List Int} (h : Sl u (.slice ao l c) L) (p : Addr) (hp : ∀ b off, ao = some ⟨b, off, none⟩ → L ≠ [] → b ≠ p.block) (v : Value) : Sl (u.setCell p v) (.slice ao l c) L := by
 obtain ⟨a', c', e, h1, h2, hr⟩ := h
 cases e
 refine ⟨_, _, rfl, h1, h2, fun hne => ?_⟩
 obtain ⟨b, off, rfl, hb, hr⟩ := hr hne
 have hbp := hp b off rfl hne
 refine ⟨b, off, rfl, by simpa using hb, fun i hi => ?_⟩
 exact (World.cell?_of_block (a := ⟨b, off + i, none⟩) (Below.heap_setCell u p v b hbp)).trans (hr i hi)
theorem Box.other {u : World} {lo B : Nat} {r : Nm} {p m z : Bool} {ao : Option Addr} {c : Nat} (h : Box u lo B r p m z ao c) (q o : Nat) (hq : q ≠ B) (hl : q < lo) (v : Value) : Box (u.setCell ⟨q, o, none⟩ v) lo B r p m z ao c := by
 have hB : B ≠ (⟨q, o, none⟩ : Addr).block := fun e => hq e.symm
 have hcell : ∀ i, (u.setCell ⟨q, o, none⟩ v).cell? ⟨B, i, none⟩ = u.cell? ⟨B, i, none⟩ := fun i => World.cell?_of_block (a := ⟨B, i, none⟩) (Below.heap_setCell u ⟨q, o, none⟩ v B hB)
 exact ⟨(hcell 0).trans h.c0, (hcell 1).trans h.c1, (hcell 2).trans h.c2, (hcell 3).trans h.c3, (hcell 4).trans h.c4, (hcell 5).trans h.c5, fun i => by simpa using h.fz i, by simpa using h.lt, h.hc, sl_other h.sl _ (fun b off e hne => by have := h.hi b off e hne; dsimp only; omega) v, h.hi⟩
abbrev six (u : World) (B : Nat) (v0 v1 v2 v3 v4 v5 : Value) : World := (((((u.setCell ⟨B, 0, none⟩ v0).setCell ⟨B, 1, none⟩ v1).setCell ⟨B, 2, none⟩ v2).setCell ⟨B, 3, none⟩ v3).setCell ⟨B, 4, none⟩ v4).setCell ⟨B, 5, none⟩ v5
theorem Box.six {u : World} {lo B : Nat} {r : Nm} {p m z : Bool} {ao : Option Addr} {c : Nat} (h : Box u lo B r p m z ao c) (q : Nat) (hq : q ≠ B) (hl : q < lo) (v0 v1 v2 v3 v4 v5 : Value) : Box (six u q v0 v1 v2 v3 v4 v5) lo B r p m z ao c :=
 (((((h.other q 0 hq hl v0).other q 1 hq hl v1).other q 2 hq hl v2).other q 3 hq hl v3).other q 4 hq hl v4).other q 5 hq hl v5
theorem Box.new {x u : World} {lo B : Nat} {r q : Nm} {p m z : Bool} {ao : Option Addr} {c : Nat} (h : Box u lo B r p m z ao c) (hB : B < lo) (hx : lo ≤ x.heap.size) (vn : Bool) (va : Option Addr) (vl vc : Nat) (vx : Int) (hN : New x u (.agg #[.bool vn, .slice va vl vc, .int .i64 vx]) q) (P M Z : Bool) : Box (Go.Proofs.YtoflafgbbjinpaaGreatDoor.six u B (.bool vn) (.slice va vl vc) (.int .i64 vx) (.bool P) (.bool M) (.bool Z)) lo B q P M Z va vc := by
 obtain ⟨e1, e2, e3, e4, hs⟩ := hN.parts
 have hb : ∀ b off, va = some ⟨b, off, none⟩ → q.mag ≠ [] → lo ≤ b := fun b off e hne => by
  rcases hN with ⟨rfl, -⟩ | ⟨g, cap, e5, hg, ho, -⟩
  ·exact absurd rfl hne
  ·simp only [Value.agg.injEq, Array.mk.injEq, List.cons.injEq, Value.slice.injEq] at e5
   rw [e] at e5
   have := e5.2.1.1
   simp at this
   omega
 subst e1 e2 e3
 have hne : ∀ b off, va = some ⟨b, off, none⟩ → q.mag ≠ [] → b ≠ B := fun b off e hn => by have := hb b off e hn; omega
 have c0 := h.c0
 have c1 := h.c1
 have c2 := h.c2
 have c3 := h.c3
 have c4 := h.c4
 have c5 := h.c5
 refine ⟨by simp [go_sem, c0, c1, c2, c3, c4, c5], by simp [go_sem, c0, c1, c2, c3, c4, c5], by simp [go_sem, c0, c1, c2, c3, c4, c5], by simp [go_sem, c0, c1, c2, c3, c4, c5], by simp [go_sem, c0, c1, c2, c3, c4, c5], by simp [go_sem, c0, c1, c2, c3, c4, c5], fun o => by simpa using h.fz o, by simpa using h.lt, e4, ?_, hb⟩
 exact sl_other (sl_other (sl_other (sl_other (sl_other (sl_other hs _ hne _) _ hne _) _ hne _) _ hne _) _ hne _) _ hne _
section
variable {P : Program} {ops : Array Oper} {Q : Exit → Act → World → Prop} {md : Region.Mode} {S T : World → Prop} {D : List Nat}
theorem wpAnyT_step {i : Nat} {o : Oper} {fuel : Nat} {listed : Array Bool} {a : Act} {w : World} (hr : Region.ready md ops listed = [i]) (ho : ops[i]? = some o)
  (h : ∀ K' : Act → World → Prop, Shut (∀ a w, S w → T w → (S w → T w → wpAnyT P md ops Q S T D fuel (listed.setIfInBounds i true) a w) → K' a w) → if Region.wanted o (yielded ops a.tmps) = true then Oper.wp P o a w K' Q else K' (a.put o.dst undef) w) :
  wpAnyT P md ops Q S T D (fuel + 1) listed a w := by
 refine ⟨fun h0 => (by rw [h0] at hr; cases hr), fun j hj => ?_⟩
 rw [hr] at hj
 obtain rfl := List.mem_singleton.1 hj
 exact wpOp_step ho (fun K' hK => h K' (fun a w hS hT hW => hK a w ⟨⟨fun _ => hS, hT⟩, hW hS hT⟩))
end
/- does an item go to the first part? -/
/- an item's four cells -/
def ItemAt (u : World) (ar : Option Addr) (i : Nat) (k x y w : Int) : Prop := ∃ b off, ar = some ⟨b, off, none⟩ ∧ u.cell? ⟨b, off + i * 4, none⟩ = some (.int .i64 k) ∧ u.cell? ⟨b, off + i * 4 + 1, none⟩ = some (.int .i64 x) ∧ u.cell? ⟨b, off + i * 4 + 2, none⟩ = some (.int .i64 y) ∧ u.cell? ⟨b, off + i * 4 + 3, none⟩ = some (.int .i64 w)
end Go.Proofs.YtoflafgbbjinpaaGreatDoor
