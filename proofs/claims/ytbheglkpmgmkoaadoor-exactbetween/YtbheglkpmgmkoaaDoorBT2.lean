/- The statement on neighbours. -/
import Derived.Test.YtbheglkpmgmkoaaDoorBTa
import Derived.Test.YtbheglkpmgmkoaaDoorBTb
import Derived.Test.YtbheglkpmgmkoaaDoorBTc
import Derived.Test.YtbheglkpmgmkoaaDoorBTd
import Derived.Test.YtbheglkpmgmkoaaDoorBTe
import Derived.Test.YtbheglkpmgmkoaaDoorMR2
namespace Go.Proofs.YtbheglkpmgmkoaaDoor
open Go.ChangeShapes Go.WideShapes Go.ChangeAt Go.RowKit
set_option linter.unusedVariables false
set_option linter.unusedSimpArgs false

theorem sub_lies (s : Int) (h1 : -20000 ≤ s) (h2 : s ≤ 0) (B : Nat) (hB : B ≤ 19000) (a b : Nm) (la : Lies s B a) (lb : Lies s B b) : ∃ r, addZ a (ng b) = some r ∧ vld r = true ∧ (r.mag ≠ [] → s ≤ r.exp) ∧ vz s r = vz s a - vz s b := by
  obtain ⟨r, e, l, v⟩ := cfm_lies s (B + 1) (by omega) h1 h2 (vz s a - vz s b) (abs_sub_lt _ _ _ la.lt lb.lt)
  exact ⟨r, by rw [sub_cfm s B (by omega) a b la lb]; exact e, l.ok, l.low, v⟩
theorem exactBetween_true (w : World) (hT : Tab w) (n1 : Bool) (L1 : List Int) (x1 : Int) (a1 : Option Addr) (c1 : Nat) (h1 : Sl w (.slice a1 L1.length c1) L1) (v : Int) :
    Calls Tryd.prog 4 #[.agg #[.bool n1, .slice a1 L1.length c1, .int .i64 x1], .int .i64 v] w fun e w' => e = .returned (.bool true) ∧ Kept w w' := by
  obtain ⟨rA, eA, lA⟩ := num_got n1 L1 x1
  obtain ⟨b1, b2, n, y1, y2, y3, hn⟩ := width_of v
  have hl : (-1300 : Int) < kleast n := by rcases hn with rfl | rfl <;> decide
  obtain ⟨N, o2, o0⟩ := nbrN n hn rA lA.ok (-1300) lA.low hl
  have hip := ifn_pos n
  obtain ⟨kr1, kr2⟩ := kyN_range n 1 rA
  obtain ⟨kr3, kr4⟩ := kyN_range n 2 rA
  have R1 : Hid (∀ X a c, Tab X → Sl X (.slice a rA.mag.length c) rA.mag → Calls Tryd.prog 11 #[.agg #[.bool rA.neg, .slice a rA.mag.length c, .int .i64 rA.exp], .int .i64 n, .int .i64 1] X fun e w' => e = .returned (.tuple #[.int .i64 (pz n (kyN n 1 rA)), .bool (oxN n 1 rA), .int .i64 0]) ∧ Kept X w') := fun X a c hT hS => roundz n 1 hn (by omega) rA lA.ok a c X hT hS
  have R2 : Hid (∀ X a c, Tab X → Sl X (.slice a rA.mag.length c) rA.mag → Calls Tryd.prog 11 #[.agg #[.bool rA.neg, .slice a rA.mag.length c, .int .i64 rA.exp], .int .i64 n, .int .i64 2] X fun e w' => e = .returned (.tuple #[.int .i64 (pz n (kyN n 2 rA)), .bool (oxN n 2 rA), .int .i64 0]) ∧ Kept X w') := fun X a c hT hS => roundz n 2 hn (by omega) rA lA.ok a c X hT hS
  have R3 : Hid (∀ X a c, Tab X → Sl X (.slice a rA.mag.length c) rA.mag → Calls Tryd.prog 11 #[.agg #[.bool rA.neg, .slice a rA.mag.length c, .int .i64 rA.exp], .int .i64 n, .int .i64 0] X fun e w' => e = .returned (.tuple #[.int .i64 (pz n (kyN n 0 rA)), .bool (oxN n 0 rA), .int .i64 0]) ∧ Kept X w') := fun X a c hT hS => roundz n 0 hn (by omega) rA lA.ok a c X hT hS
  have OO : ∀ k G, -(ifn n : Int) ≤ k → k ≤ (ifn n : Int) → ordz n (-1300) (vz (-1300) rA) k = G → Hid (∀ X a c, Tab X → Sl X (.slice a rA.mag.length c) rA.mag → Calls Tryd.prog 12 #[.agg #[.bool rA.neg, .slice a rA.mag.length c, .int .i64 rA.exp], .int .i64 (pz n k), .int .i64 n] X fun e w' => e = .returned (.int .i64 G) ∧ Kept X w') := fun k G g1 g2 hG X a c hT hS => order_at (-1300) n k hn g1 g2 (by decide) (by decide) rA lA.ok lA.low G hG a c X hT hS
  rw [o2] at R2
  rw [o0] at R3
  clear o2 o0
  generalize kyN n 1 rA = d at *
  generalize kyN n 2 rA = u at *
  generalize kyN n 0 rA = e at *
  generalize oxN n 1 rA = o at *
  cases o
  · obtain ⟨t1, t2, t3, t4, t5⟩ := N.same rfl
    subst t1 t2
    exact btw_same w hT ⟨n1, L1, x1⟩ a1 c1 (sl_len h1) h1 rA eA v n b1 b2 _ y1 y2 y3 R1 R2 R3 (OO _ 0 kr1 kr2 (by unfold ordz; rw [if_neg (by omega), if_neg (by omega)]; exact cz_eq t3))
  · obtain ⟨t1, t2, t3, t4, t5, t6⟩ := N.next rfl
    have N3 := N.near rfl
    have O1 := OO d 1 kr1 kr2 (by
      unfold ordz
      by_cases hd : d = -(ifn n : Int)
      · rw [if_pos hd]
      · rw [if_neg hd, if_neg (by omega)]; exact cz_gt (t5 (by omega)))
    have O2 := OO u (-1) kr3 kr4 (by
      unfold ordz
      rw [if_neg (by omega)]
      by_cases hd : u = (ifn n : Int)
      · rw [if_pos hd]
      · rw [if_neg hd]; exact cz_lt (t6 (by omega)))
    obtain ⟨p1, p2, p3⟩ := pz_next n d hn kr1 t3
    rw [← t1] at p1
    have KX : Hid (∀ X, Calls Tryd.prog 14 #[.int .i64 (pz n d), .int .i64 n] X fun e w' => e = .returned (.int .i64 (nxt (pz n d) n)) ∧ Kept X w') := fun X => next_any (pz n d) n (pz_range n d hn kr1 kr2).1 (pz_range n d hn kr1 kr2).2 X
    have KC : Hid (∀ X, Calls Tryd.prog 13 #[.int .i64 (nxt (pz n d) n), .int .i64 n] X fun e w' => e = .returned (.int .i64 (pz n u)) ∧ Kept X w') := fun X => by rw [← p1]; exact canon_any _ n X
    have hne : (pz n u == pz n d) = false := by
      rw [beq_eq_false_iff_ne]
      intro he
      have := pz_key n u hn kr3 kr4
      rw [he, pz_key n d hn kr1 kr2] at this
      omega
    have FI : ∀ k, k = -(ifn n : Int) ∨ k = (ifn n : Int) → Hid (∀ X, Tab X → Calls Tryd.prog 15 #[.int .i64 (pz n k), .int .i64 n] X fun e w' => e = .returned (.tuple #[.agg #[.bool false, .slice none 0 0, .int .i64 0], .int .i64 6]) ∧ Kept X w') := fun k hk X _ => of_inf n k hn hk X
    have FF : ∀ k, -(ifn n : Int) < k → k < (ifn n : Int) → Hid (∀ X, Tab X → Calls Tryd.prog 15 #[.int .i64 (pz n k), .int .i64 n] X fun e w' => ∃ ao c, e = .returned (.tuple #[.agg #[.bool (ofN (pz n k) n).neg, .slice ao (ofN (pz n k) n).mag.length c, .int .i64 (ofN (pz n k) n).exp], .int .i64 0]) ∧ Sl w' (.slice ao (ofN (pz n k) n).mag.length c) (ofN (pz n k) n).mag ∧ Kept X w') := fun k g1 g2 X hT => of_at n k hn g1 g2 _ rfl X hT
    have hev : ∀ k, k % 2 = 0 → bits .and .i64 (pz n k) 1 = 0 := fun k hk => by rw [and_one, pz_par n k hn]; exact hk
    by_cases hd : d = -(ifn n : Int)
    · have F1 := FI d (Or.inl hd)
      have hif : 1 < ifn n := by unfold ifn; split <;> decide
      have F2 := FF u (by omega) (by omega)
      rcases t2 with t2 | t2
      · rw [t2] at R3
        exact btw_low_z1 w hT ⟨n1, L1, x1⟩ a1 c1 (sl_len h1) h1 rA eA _ v n b1 b2 _ _ _ y1 y2 y3 R1 R2 R3 O1 O2 KX KC F1 F2
      · rw [t2] at R3
        exact btw_low_z2 w hT ⟨n1, L1, x1⟩ a1 c1 (sl_len h1) h1 rA eA _ v n b1 b2 _ _ _ y1 y2 y3 hne R1 R2 R3 O1 O2 KX KC F1 F2
    · have F1 := FF d (by omega) (by omega)
      by_cases hu : u = (ifn n : Int)
      · have F2 := FI u (Or.inr hu)
        rcases t2 with t2 | t2
        · rw [t2] at R3
          exact btw_high_z1 w hT ⟨n1, L1, x1⟩ a1 c1 (sl_len h1) h1 rA eA _ v n b1 b2 _ _ _ y1 y2 y3 R1 R2 R3 O1 O2 KX KC F1 F2
        · rw [t2] at R3
          exact btw_high_z2 w hT ⟨n1, L1, x1⟩ a1 c1 (sl_len h1) h1 rA eA _ v n b1 b2 _ _ _ y1 y2 y3 hne R1 R2 R3 O1 O2 KX KC F1 F2
      · have F2 := FF u (by omega) (by omega)
        obtain ⟨lP, vP⟩ := of_key n d hn (by omega) (by omega) (-1300) (by decide) (by decide)
        obtain ⟨lQ, vQ⟩ := of_key n u hn (by omega) (by omega) (-1300) (by decide) (by decide)
        have lA5 := lA.mono (show 3200 ≤ 5000 by decide)
        obtain ⟨rL, sL, okL, lowL, vL⟩ := sub_lies (-1300) (by decide) (by decide) 5000 (by decide) rA (ofN (pz n d) n) lA5 lP
        obtain ⟨rH, sH, okH, lowH, vH⟩ := sub_lies (-1300) (by decide) (by decide) 5000 (by decide) (ofN (pz n u) n) rA lQ lA5
        rw [vP] at vL
        rw [vQ] at vH
        have S1 : Hid (∀ X a1 c1 a2 c2, Tab X → Sl X (.slice a1 rA.mag.length c1) rA.mag → Sl X (.slice a2 (ofN (pz n d) n).mag.length c2) (ofN (pz n d) n).mag → _) := fun X a1 c1 a2 c2 hT g1 g2 => sub_at X hT rA (ofN (pz n d) n) rL lA.ok lP.ok a1 a2 c1 c2 g1 g2 sL
        have S2 : Hid (∀ X a1 c1 a2 c2, Tab X → Sl X (.slice a1 (ofN (pz n u) n).mag.length c1) (ofN (pz n u) n).mag → Sl X (.slice a2 rA.mag.length c2) rA.mag → _) := fun X a1 c1 a2 c2 hT g1 g2 => sub_at X hT (ofN (pz n u) n) rA rH lQ.ok lA.ok a1 a2 c1 c2 g1 g2 sH
        have CC : ∀ G, cz (vz (-1300) rL) (vz (-1300) rH) = G → Hid (∀ X a1 c1 a2 c2, Sl X (.slice a1 rL.mag.length c1) rL.mag → Sl X (.slice a2 rH.mag.length c2) rH.mag → Calls Tryd.prog 17 #[.agg #[.bool rL.neg, .slice a1 rL.mag.length c1, .int .i64 rL.exp], .agg #[.bool rH.neg, .slice a2 rH.mag.length c2, .int .i64 rH.exp]] X fun e w' => e = .returned (.tuple #[.int .i64 G, .int .i64 0]) ∧ Kept X w') := fun G hG X a1 c1 a2 c2 g1 g2 => cmp_at (-1300) X rL rH okL okH lowL lowH a1 a2 c1 c2 g1 g2 G hG
        obtain ⟨q1, q2, q3⟩ := N3 (by omega) (by omega)
        rw [vL, vH] at CC
        rcases Int.lt_trichotomy (vz (-1300) rA - kvz n (-1300) d) (kvz n (-1300) u - vz (-1300) rA) with h | h | h
        · rw [q1 h] at R3
          exact btw_mid_z1_lt w hT ⟨n1, L1, x1⟩ a1 c1 (sl_len h1) h1 rA eA _ _ _ _ v n b1 b2 _ _ _ y1 y2 y3 R1 R2 R3 O1 O2 KX KC F1 F2 S1 S2 (CC _ (cz_lt h))
        · have hE := q3 h
          rcases t2 with t2 | t2
          · rw [t2] at R3 hE
            exact btw_mid_z1_eq w hT ⟨n1, L1, x1⟩ a1 c1 (sl_len h1) h1 rA eA _ _ _ _ v n b1 b2 _ _ _ y1 y2 y3 (hev d hE) R1 R2 R3 O1 O2 KX KC F1 F2 S1 S2 (CC _ (cz_eq h))
          · rw [t2] at R3 hE
            exact btw_mid_z2_eq w hT ⟨n1, L1, x1⟩ a1 c1 (sl_len h1) h1 rA eA _ _ _ _ v n b1 b2 _ _ _ y1 y2 y3 hne (hev u hE) R1 R2 R3 O1 O2 KX KC F1 F2 S1 S2 (CC _ (cz_eq h))
        · rw [q2 h] at R3
          exact btw_mid_z2_gt w hT ⟨n1, L1, x1⟩ a1 c1 (sl_len h1) h1 rA eA _ _ _ _ v n b1 b2 _ _ _ y1 y2 y3 hne R1 R2 R3 O1 O2 KX KC F1 F2 S1 S2 (CC _ (cz_gt h))
end Go.Proofs.YtbheglkpmgmkoaaDoor
