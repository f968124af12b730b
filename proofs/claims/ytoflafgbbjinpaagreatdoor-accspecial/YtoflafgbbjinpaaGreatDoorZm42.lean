/- How the items are read. For AccSpecial, AccNearest: sums that hold what is not finite; Round and Mean beside exact's Round and Quot. -/
import Derived.Test.YtoflafgbbjinpaaGreatDoorZm05
import Derived.Test.YtoflafgbbjinpaaGreatDoorZm41
import Derived.Deep.SlicePairs
import Derived.Deep.Strs
import Derived.Test.YtoflafgbbjinpaaGreatDoorZm38
namespace Go.Proofs.YtoflafgbbjinpaaGreatDoor
open Go.ChangeShapes Go.WideShapes Go.ChangeAt Go.RowKit Go.Joins
set_option linter.unusedVariables false
set_option linter.unusedSimpArgs false
set_option maxHeartbeats 16000000
set_option maxRecDepth 100000
theorem cells_item : Tryz.prog.cellsOf 40 = 4 := by kernel_rfl
theorem cells_ii : Tryz.prog.cellsOf 3 = 1 := by kernel_rfl
section
variable {H : Type} {enc : TypeId × Value → H} {W : World}
theorem open_items {b0 : Nat} {v : Value} {d : DataW H} {p : List MemPlace} (hv : Value.okWide Tryz.prog W .any b0 38 v) (h : DataW.Trod enc Tryz.prog W 0 (fun _ => true) true 38 v d p) :
  ∃ (ar : Option Addr) (len cap : Nat), v = .slice ar len cap ∧ ∀ i, i < len → ∃ z : Int × Int × Int × Int, ItemAt W ar i z.1 z.2.1 z.2.2.1 z.2.2.2 ∧ (-9223372036854775808 ≤ z.2.1 ∧ z.2.1 ≤ 9223372036854775807) ∧ (-9223372036854775808 ≤ z.2.2.1 ∧ z.2.2.1 ≤ 9223372036854775807) := by
 obtain ⟨ar, len, cap, rfl⟩ := okWide_slice Tryz.underlying38 hv
 refine ⟨ar, len, cap, rfl, fun i hi => ?_⟩
 obtain ⟨fuel, hf⟩ := h
 rcases Go.Deep.open_slice Tryz.underlying38 hf with ⟨h0, -⟩ | ⟨a, len', cap', m, n, D, Pl, hcs, hb, hl, hm, hmm, -, hx⟩
 ·have : len = 0 := by simp [Value.cells] at h0; exact h0.2.1
  omega
 ·have he : ar = some a ∧ len = len' := by simp [Value.cells] at hcs; exact ⟨hcs.1, hcs.2.1⟩
  obtain ⟨rfl, rfl⟩ := he
  have him : i < m := by rw [hmm]; simp; omega
  obtain ⟨cz, hz1, hz2⟩ := hx 0 (by omega)
  rw [cells_item] at hz1
  obtain ⟨_, hlz, hcz⟩ := World.cells?_some hz1
  have hs : a.spot = none := by
   have c := hcz 0 (by omega)
   obtain ⟨u, hu⟩ : ∃ u, cz[0]? = some u := ⟨cz[0]'(by omega), List.getElem?_eq_getElem _⟩
   rw [hu] at c
   have := World.cell?_spot c
   simpa [Addr.add] using this
  obtain ⟨ab, ao, asp⟩ := a
  simp only at hs
  subst hs
  clear hcz hz1 hz2 hlz
  obtain ⟨cs', h1, h2⟩ := hx i him
  rw [cells_item] at h1
  obtain ⟨_, hlen, hcell⟩ := World.cells?_some h1
  obtain ⟨y0, y1, y2, y3, n1, -, -, g0, g1, g2, g3⟩ := trod_struct4 Tryz.underlying40 h2
  match cs', hlen with
  | [v0, v1, v2, v3], _ =>
   simp only [cells_ii, List.drop_zero, List.drop_succ_cons, List.take_succ_cons, List.take_zero] at g0 g1 g2 g3
   obtain ⟨x0, e0, -, w0⟩ := DataW.trod_int Tryz.underlying3 g0
   obtain ⟨x1, e1, -, w1⟩ := DataW.trod_int Tryz.underlying3 g1
   obtain ⟨x2, e2, -, w2⟩ := DataW.trod_int Tryz.underlying3 g2
   obtain ⟨x3, e3, -, w3⟩ := DataW.trod_int Tryz.underlying3 g3
   simp only [List.cons.injEq, and_true] at e0 e1 e2 e3
   subst e0 e1 e2 e3
   have c0 := hcell 0 (by omega)
   have c1 := hcell 1 (by omega)
   have c2 := hcell 2 (by omega)
   have c3 := hcell 3 (by omega)
   simp only [List.getElem?_cons_zero, List.getElem?_cons_succ] at c0 c1 c2 c3
   rw [Addr.add_lit, Addr.add_lit] at c0 c1 c2 c3
   exact ⟨(x0, x1, x2, x3), ⟨ab, ao, rfl, by simpa using c0, by simpa using c1, by simpa using c2, by simpa using c3⟩, wf_rng x1 w1, wf_rng x2 w2⟩
theorem cell_lt {u : World} {b o : Nat} {v : Value} (h : u.cell? ⟨b, o, none⟩ = some v) : b < u.heap.size := by
 by_cases hs : b < u.heap.size
 ·exact hs
 ·have hn : u.heap[b]? = none := by simp; omega
  simp [World.cell?, hn] at h
theorem ItemAt.kept {u u' : World} {ar : Option Addr} {i : Nat} {k x y z : Int} (h : ItemAt u ar i k x y z) (q : Kept u u') : ItemAt u' ar i k x y z := by
 obtain ⟨b, off, rfl, h0, h1, h2, h3⟩ := h
 have hb := cell_lt h0
 exact ⟨b, off, rfl, (q.below.cell (p := ⟨b, _, none⟩) hb).trans h0, (q.below.cell (p := ⟨b, _, none⟩) hb).trans h1, (q.below.cell (p := ⟨b, _, none⟩) hb).trans h2, (q.below.cell (p := ⟨b, _, none⟩) hb).trans h3⟩
/- the items as functions of their places -/
theorem items_fun (ar : Option Addr) (len : Nat) (h : ∀ i, i < len → ∃ z : Int × Int × Int × Int, ItemAt W ar i z.1 z.2.1 z.2.2.1 z.2.2.2 ∧ (-9223372036854775808 ≤ z.2.1 ∧ z.2.1 ≤ 9223372036854775807) ∧ (-9223372036854775808 ≤ z.2.2.1 ∧ z.2.2.1 ≤ 9223372036854775807)) : ∃ fk fx fy fw : Nat → Int, (∀ j, -9223372036854775808 ≤ fx j ∧ fx j ≤ 9223372036854775807) ∧ (∀ j, -9223372036854775808 ≤ fy j ∧ fy j ≤ 9223372036854775807) ∧ ∀ u, Kept W u → ∀ i, i < len → ItemAt u ar i (fk i) (fx i) (fy i) (fw i) := by
 classical
 obtain ⟨g, hg⟩ : ∃ g : Nat → Int × Int × Int × Int, ∀ i, (i < len → ItemAt W ar i (g i).1 (g i).2.1 (g i).2.2.1 (g i).2.2.2) ∧ (-9223372036854775808 ≤ (g i).2.1 ∧ (g i).2.1 ≤ 9223372036854775807) ∧ (-9223372036854775808 ≤ (g i).2.2.1 ∧ (g i).2.2.1 ≤ 9223372036854775807) := by
  refine ⟨fun i => if hi : i < len then (h i hi).choose else (0, 0, 0, 0), fun i => ?_⟩
  by_cases hi : i < len
  ·simp only [hi, dif_pos]
   have := (h i hi).choose_spec
   exact ⟨fun _ => this.1, this.2.1, this.2.2⟩
  ·simp only [hi, dif_neg, not_false_eq_true]
   exact ⟨fun h => h.elim, by omega, by omega⟩
 exact ⟨fun i => (g i).1, fun i => (g i).2.1, fun i => (g i).2.2.1, fun i => (g i).2.2.2, fun i => (hg i).2.1, fun i => (hg i).2.2, fun u k i hi => ((hg i).1 hi).kept k⟩
end
end Go.Proofs.YtoflafgbbjinpaaGreatDoor
namespace Go.Proofs.YtoflafgbbjinpaaGreatDoor
open Go.ChangeShapes Go.WideShapes Go.ChangeAt Go.RowKit
set_option linter.unusedVariables false
set_option linter.unusedSimpArgs false
set_option maxHeartbeats 16000000
set_option maxRecDepth 100000
theorem fin_flags (n x y : Int) (h : cls x n < 3) (h' : cls y n < 3) : fP n x y = false ∧ fM n x y = false ∧ fN n x y = false := by
 have hb : bth n x y = true := by unfold bth; rw [decide_eq_true h, decide_eq_true h']; rfl
 unfold fP fM fN
 rw [hb]
 simp
theorem one_fin (n : Int) (hn : n = 64 ∨ n = 32) : cls (oneN n) n < 3 := by
 rcases hn with rfl | rfl <;> decide +kernel
theorem dn_fe {S : Int} {r : Nm} (h : DN S r) (n : Int) (hn : n = 64 ∨ n = 32) : (0 : Int) = FE n 0 (vld r) := by
 rw [h.vld]
 rcases hn with rfl | rfl <;> decide
/- +Inf comes in -/
theorem add_pinf {S : Int} {r : Nm} (hr : DN S r) (ao : Option Addr) (c : Nat) (w : World) (hT : Tab w) (h : Sl w (.slice ao r.mag.length c) r.mag) :
  Calls Tryz.prog 28 #[accV r.neg (.slice ao r.mag.length c) r.exp false false false, .int .i64 9218868437227405312, .int .i64 64] w fun e w' => ∃ va vc, e = .returned (.tuple #[accV r.neg (.slice va r.mag.length vc) r.exp true false false, .int .i64 0]) ∧ Hid (Sl w' (.slice va r.mag.length vc) r.mag) ∧ Kept w w' := by
 have e1 : pvl 64 9218868437227405312 (oneN 64) = 0 := by decide +kernel
 have e2 : fP 64 9218868437227405312 (oneN 64) = true := by decide +kernel
 have e3 : fM 64 9218868437227405312 (oneN 64) = false := by decide +kernel
 have e4 : fN 64 9218868437227405312 (oneN 64) = false := by decide +kernel
 have := one_dn 64 9218868437227405312 (.inl rfl) (by decide) (by decide) (by decide +kernel) hr (q := r) (by rw [e1, Int.add_zero]; exact hr) false false false ao c w hT h
 rw [e2, e3, e4] at this
 refine this.mono ?_
 rintro e w' ⟨un, ua, ul, uc, ux, rfl, hN, k⟩
 obtain ⟨rfl, rfl, rfl, -, hs⟩ := hN.parts
 exact ⟨ua, uc, rfl, hs, k⟩
/- -Inf comes in -/
theorem add_minf {S : Int} {r : Nm} (hr : DN S r) (ao : Option Addr) (c : Nat) (w : World) (hT : Tab w) (h : Sl w (.slice ao r.mag.length c) r.mag) :
  Calls Tryz.prog 28 #[accV r.neg (.slice ao r.mag.length c) r.exp false false false, .int .i64 4286578688, .int .i64 32] w fun e w' => ∃ va vc, e = .returned (.tuple #[accV r.neg (.slice va r.mag.length vc) r.exp false true false, .int .i64 0]) ∧ Hid (Sl w' (.slice va r.mag.length vc) r.mag) ∧ Kept w w' := by
 have e1 : pvl 32 4286578688 (oneN 32) = 0 := by decide +kernel
 have e2 : fP 32 4286578688 (oneN 32) = false := by decide +kernel
 have e3 : fM 32 4286578688 (oneN 32) = true := by decide +kernel
 have e4 : fN 32 4286578688 (oneN 32) = false := by decide +kernel
 have := one_dn 32 4286578688 (.inr rfl) (by decide) (by decide) (by decide +kernel) hr (q := r) (by rw [e1, Int.add_zero]; exact hr) false false false ao c w hT h
 rw [e2, e3, e4] at this
 refine this.mono ?_
 rintro e w' ⟨un, ua, ul, uc, ux, rfl, hN, k⟩
 obtain ⟨rfl, rfl, rfl, -, hs⟩ := hN.parts
 exact ⟨ua, uc, rfl, hs, k⟩
/- what is no number comes in -/
theorem add_none {S : Int} {r : Nm} (hr : DN S r) (ao : Option Addr) (c : Nat) (w : World) (hT : Tab w) (h : Sl w (.slice ao r.mag.length c) r.mag) :
  Calls Tryz.prog 19 #[accV r.neg (.slice ao r.mag.length c) r.exp true false false, .int .i64 9218868437227405312, .int .i64 0, .int .i64 64] w fun e w' => ∃ va vc, e = .returned (.tuple #[accV r.neg (.slice va r.mag.length vc) r.exp true false true, .int .i64 0]) ∧ Hid (Sl w' (.slice va r.mag.length vc) r.mag) ∧ Kept w w' := by
 have e1 : pvl 64 9218868437227405312 0 = 0 := by decide +kernel
 have e2 : fP 64 9218868437227405312 0 = false := by decide +kernel
 have e3 : fM 64 9218868437227405312 0 = false := by decide +kernel
 have e4 : fN 64 9218868437227405312 0 = true := by decide +kernel
 have := product_dn 64 9218868437227405312 0 (.inl rfl) (by decide) (by decide) (by decide) (by decide) (by decide +kernel) (by decide +kernel) hr (q := r) (by rw [e1, Int.add_zero]; exact hr) true false false ao c w hT h
 rw [e2, e3, e4] at this
 refine this.mono ?_
 rintro e w' ⟨un, ua, ul, uc, ux, rfl, hN, k⟩
 obtain ⟨rfl, rfl, rfl, -, hs⟩ := hN.parts
 exact ⟨ua, uc, rfl, hs, k⟩
theorem merge_pm {S : Int} {r q : Nm} (hr : DN S r) (hq : DN (S + S) q) (ao bo : Option Addr) (c d : Nat) (w : World) (hT : Tab w) (h : Sl w (.slice ao r.mag.length c) r.mag) (h' : Sl w (.slice bo r.mag.length d) r.mag) :
  Calls Tryz.prog 29 #[accV r.neg (.slice ao r.mag.length c) r.exp true false false, accV r.neg (.slice bo r.mag.length d) r.exp false true false] w fun e w' => ∃ va vc, e = .returned (.tuple #[accV q.neg (.slice va q.mag.length vc) q.exp true true false, .int .i64 0]) ∧ Hid (Sl w' (.slice va q.mag.length vc) q.mag) ∧ Kept w w' := by
 refine (merge_dn hr hr hq true false false false true false ao bo c d w hT h h').mono ?_
 rintro e w' ⟨un, ua, ul, uc, ux, rfl, hN, k⟩
 obtain ⟨rfl, rfl, rfl, -, hs⟩ := hN.parts
 exact ⟨ua, uc, rfl, hs, k⟩
/- Round, beside exact's Round -/
theorem round_all {S : Int} {r : Nm} (hr : DN S r) (n : Int) (hn : n = 64 ∨ n = 32) (p m z : Bool) (ao : Option Addr) (c : Nat) (w : World) (hT : Tab w) (h : Sl w (.slice ao r.mag.length c) r.mag) :
  Calls Tryz.prog 20 #[accV r.neg (.slice ao r.mag.length c) r.exp p m z, .int .i64 n] w fun e w' => e = .returned (.tuple #[.int .i64 (bif (nfE (ivn n) (nvn n) (gvn n) p m z).2 then (nfE (ivn n) (nvn n) (gvn n) p m z).1 else rzN n 0 r), .int .i64 0]) ∧ Kept w w' := by
 have := accRound_ok n r.neg ao r.mag.length c r.exp p m z w (nfE (ivn n) (nvn n) (gvn n) p m z).1 (nfE (ivn n) (nvn n) (gvn n) p m z).2 (rzN n 0 r) 0 (oxN n 0 r) (fun u k => lookA n r hr.rg.1 (by have := hr.rg.2; omega) p m z ao c u (h.kept k) 0 (dn_fe hr n hn)) (fun u k => notFin n hn r.neg ao r.mag.length c r.exp p m z u) (fun u k => roundz n 0 hn (.inl rfl) r hr.vld ao c u (hT.kept k) (h.kept k))
 rw [show (bif (nfE (ivn n) (nvn n) (gvn n) p m z).2 then (0 : Int) else 0) = 0 by cases (nfE (ivn n) (nvn n) (gvn n) p m z).2 <;> rfl] at this
 exact this
/- what Quot answers hangs on the numbers alone -/
theorem quot_prog (n : Int) (hn : n = 64 ∨ n = 32) (a b : Nm) (ra : Rg a.mag) (rb : Rg b.mag) (la : a.mag.length < 60000000) (lb : b.mag.length < 60000000) (ha : vld a = true) (hb : vld b = true) (hbm : b.mag.length ≠ 0) : ∃ (q : Int) (o : Bool), ∀ (a1 a2 : Option Addr) (c1 c2 : Nat) (w : World), Tab w → Sl w (.slice a1 a.mag.length c1) a.mag → Sl w (.slice a2 b.mag.length c2) b.mag → Calls Tryz.prog 23 #[.agg #[.bool a.neg, .slice a1 a.mag.length c1, .int .i64 a.exp], .agg #[.bool b.neg, .slice a2 b.mag.length c2, .int .i64 b.exp], .int .i64 n, .int .i64 0] w fun e w' => e = .returned (.tuple #[.int .i64 q, .bool o, .int .i64 0]) ∧ Kept w w' := by
 by_cases ham : a.mag.length = 0
 ·exact ⟨0, false, fun a1 a2 c1 c2 w hT h1 h2 => quot_nought n 0 hn (.inl rfl) a b ra rb la lb a1 a2 c1 c2 w h1 h2 ha hb ham hbm⟩
 ·have ham' : a.mag ≠ [] := fun g => ham (by rw [g]; rfl)
  have hbm' : b.mag ≠ [] := fun g => hbm (by rw [g]; rfl)
  obtain ⟨B, hB⟩ : ∃ B, B = (bl (nv a.mag) : Int) := ⟨_, rfl⟩
  obtain ⟨X, hX⟩ : ∃ X, X = qex a b := ⟨_, rfl⟩
  obtain ⟨s, hs⟩ : ∃ s : Int, s = -((a.exp.natAbs : Int) + b.exp.natAbs + X.natAbs + 30 * ((b.mag.length : Int) + 2) + 3000) := ⟨_, rfl⟩
  have hB0 : 0 ≤ B := by omega
  have hk : -3000 < kleast n := by rcases hn with rfl | rfl <;> decide
  obtain ⟨k, Q, H, F, od, hf, rt, -, hC⟩ := quotz_all n hn a b ha hb ham' hbm' s (by omega) (by omega) (by rw [← hB]; omega) (by rw [← hX]; omega) (by omega)
  exact ⟨_, _, fun a1 a2 c1 c2 w hT h1 h2 => hC 0 (.inl rfl) a1 a2 c1 c2 w hT h1 h2⟩
/- Mean, beside exact's Quot -/
theorem mean_all {S : Int} {r : Nm} (hr : DN S r) (n c : Int) (hn : n = 64 ∨ n = 32) (c1 : 0 < c) (c2 : c ≤ 9223372036854775807) : ∃ (q : Int) (o : Bool) (b : Nm),
  (∀ u, Tab u → Calls Tryz.prog 24 #[.int .i64 c] u fun e w' => ∃ va vc, e = .returned (.agg #[.bool b.neg, .slice va b.mag.length vc, .int .i64 b.exp]) ∧ Hid (Sl w' (.slice va b.mag.length vc) b.mag) ∧ Kept u w') ∧
  (∀ (ao bo : Option Addr) (ca cb : Nat) (u : World), Tab u → Sl u (.slice ao r.mag.length ca) r.mag → Sl u (.slice bo b.mag.length cb) b.mag → Calls Tryz.prog 23 #[.agg #[.bool r.neg, .slice ao r.mag.length ca, .int .i64 r.exp], .agg #[.bool b.neg, .slice bo b.mag.length cb, .int .i64 b.exp], .int .i64 n, .int .i64 0] u fun e w' => e = .returned (.tuple #[.int .i64 q, .bool o, .int .i64 0]) ∧ Kept u w') ∧
  (∀ (p m z : Bool) (ao : Option Addr) (cp : Nat) (w : World), Tab w → Sl w (.slice ao r.mag.length cp) r.mag → Calls Tryz.prog 22 #[accV r.neg (.slice ao r.mag.length cp) r.exp p m z, .int .i64 c, .int .i64 n] w fun e w' => e = .returned (.tuple #[.int .i64 (bif (nfE (ivn n) (nvn n) (gvn n) p m z).2 then (nfE (ivn n) (nvn n) (gvn n) p m z).1 else q), .int .i64 0]) ∧ Kept w w') := by
 obtain ⟨b, hb⟩ : ∃ b, b = nrm (decide (c < 0)) c.natAbs 0 := ⟨_, rfl⟩
 obtain ⟨vb, rb, lb⟩ := frm_vld _ _ _ _ (whole_frm c (by omega) c2)
 have nb := whole_ne c (by omega)
 have hI : ∀ u, Tab u → Calls Tryz.prog 24 #[.int .i64 c] u fun e w' => ∃ va vc, e = .returned (.agg #[.bool b.neg, .slice va b.mag.length vc, .int .i64 b.exp]) ∧ Hid (Sl w' (.slice va b.mag.length vc) b.mag) ∧ Kept u w' := fun u hT => by
  refine (int_pos c (by omega) c2 b (by rw [hb]; exact whole_frm c (by omega) c2) u hT).mono ?_
  rintro e w' ⟨⟨v, rfl, hN⟩, k⟩
  obtain ⟨vn, va, vl, vc, vx, rfl⟩ := hN.shape
  obtain ⟨rfl, rfl, rfl, -, hs⟩ := hN.parts
  exact ⟨va, vc, rfl, hs, k⟩
 rw [← hb] at vb rb lb nb
 clear hb
 obtain ⟨q0, o, hP⟩ := quot_prog n hn r b hr.rg.1 rb (by have := hr.rg.2; omega) (by omega) hr.vld vb nb
 refine ⟨q0, o, b, hI, hP, fun p m z ao cp w hT h => ?_⟩
 have := accMean_ok n c c1 r.neg ao r.mag.length cp r.exp p m z w (nfE (ivn n) (nvn n) (gvn n) p m z).1 (nfE (ivn n) (nvn n) (gvn n) p m z).2 q0 0 o (fun u vn va vl vc vx => vn = b.neg ∧ vl = b.mag.length ∧ vx = b.exp ∧ Sl u (.slice va vl vc) b.mag) (fun u k => lookA n r hr.rg.1 (by have := hr.rg.2; omega) p m z ao cp u (h.kept k) 0 (dn_fe hr n hn)) (fun u k => notFin n hn r.neg ao r.mag.length cp r.exp p m z u) (fun u k => (hI u (hT.kept k)).mono (by rintro e w' ⟨va, vc, rfl, hs, k⟩; exact ⟨_, _, _, _, _, rfl, ⟨rfl, rfl, rfl, hs.out⟩, k⟩)) (fun u vn va vl vc vx k hpn => by
  obtain ⟨rfl, rfl, rfl, hs⟩ := hpn
  exact hP ao va cp vc u (hT.kept k) (h.kept k) hs)
 rw [show (bif (nfE (ivn n) (nvn n) (gvn n) p m z).2 then (0 : Int) else 0) = 0 by cases (nfE (ivn n) (nvn n) (gvn n) p m z).2 <;> rfl] at this
 exact this
end Go.Proofs.YtoflafgbbjinpaaGreatDoor
