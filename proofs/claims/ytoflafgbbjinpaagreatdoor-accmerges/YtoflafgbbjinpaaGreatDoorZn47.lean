/- AccMerges: the walk of merges. -/
import Derived.Test.YtoflafgbbjinpaaGreatDoorZn46
namespace Go.Proofs.YtoflafgbbjinpaaGreatDoor
open Go.ChangeShapes Go.WideShapes Go.ChangeAt Go.RowKit
set_option linter.unusedVariables false
set_option linter.unusedSimpArgs false
set_option maxHeartbeats 16000000
set_option maxRecDepth 100000
theorem trnN_vld (a : Nm) (h : vld a = true) : vld (trnN a) = true := by
 obtain ⟨n, L, x⟩ := a
 by_cases hl : L = []
 ·subst hl
  exact h
 ·unfold vld at h ⊢
  unfold trnN
  dsimp only at h ⊢
  rw [if_neg hl] at h ⊢
  exact h
theorem lent_sl {L : List Int} {u : World} {g cap : Nat} (ho : Own u g cap (L ++ [-71, -72, -73])) : Sl u (.slice (some ⟨g, 0, none⟩) L.length cap) L := by
 have hs := ho.slTake L.length (by simp)
 rwa [List.take_left' rfl] at hs
theorem sl_rlp {w0 : World} {q : Option Addr} {L : List Int} {d : Nat} (hc : q = none → d = 0) (h : Sl w0 (.slice q L.length d) L) (u : World) (k : Kept w0 u) : RLp (fun c => c < w0.heap.size) u (.slice q L.length d) L := by
 have h1 : RLp (fun _ => True) w0 (.slice q L.length d) L := ⟨_, _, rfl, hc, h, fun _ _ _ _ => trivial⟩
 exact (h1.low.imp (fun c h => h.2)).kept k
theorem merges_true (w0 w : World) (hT : Tab w0) (kb : Nat) (vL vW : Value) (E : List Ent) (hK : KeepAt w0 w kb vL vW E) (hE : E.length + 3 ≤ 300) (a b x : Nm) (ra : Rg a.mag) (rb : Rg b.mag) (rx : Rg x.mag) (la : a.mag.length ≤ 2100) (lb : b.mag.length ≤ 2100) (lx : x.mag.length ≤ 2100) (p1 m1 z1 p2 m2 z2 : Bool) (q1 q2 q3 : Option Addr) (d1 d2 d3 : Nat) (hc1 : q1 = none → d1 = 0) (hc2 : q2 = none → d2 = 0) (hc3 : q3 = none → d3 = 0) (hr1 : Sl w0 (.slice q1 a.mag.length d1) a.mag) (hr2 : Sl w0 (.slice q2 b.mag.length d2) b.mag) (hr3 : Sl w0 (.slice q3 x.mag.length d3) x.mag) :
  Calls Tryz.prog 13 #[.pointer (some ⟨kb, 0, none⟩), accV a.neg (.slice q1 a.mag.length d1) a.exp p1 m1 z1, accV b.neg (.slice q2 b.mag.length d2) b.exp p2 m2 z2, .agg #[.bool x.neg, .slice q3 x.mag.length d3, .int .i64 x.exp]] w fun e w' => e = .returned (.bool true) ∧ ∃ vL' vW' E', KeepAt w0 w' kb vL' vW' E' ∧ E'.length ≤ E.length + 3 ∧ GrwS (kb :: (blk vL ++ blk vW)) w w' := by
 have RGA9 : Hid (Rg a.mag) := ra
 obtain ⟨rn, ne, nP, nM, nZ, hAN, hNb, hNo⟩ := addNum_all a x ra rx (by omega) (by omega) p1 m1 z1
 obtain ⟨rm, me, mP, mM, mZ, hMG, hMb, hMo⟩ := merge_all a b ra rb (by omega) (by omega) p1 m1 z1 p2 m2 z2
 obtain ⟨rr, re, rP, rM, rZ, hNG, hRb, hRo⟩ := accNeg_all a ra (by omega) p1 m1 z1
 have HT : Hid (∀ u, Kept w0 u → Tab u) := fun u k => hT.kept k
 obtain ⟨tn, htn⟩ : ∃ tn, tn = (trnN a).neg := ⟨_, rfl⟩
 have etn : trnN a = ⟨tn, a.mag, a.exp⟩ := by rw [htn]; rfl
 have HL1 : Hid (∀ u, Kept w0 u → Calls Tryz.prog 37 #[accV a.neg (.slice q1 a.mag.length d1) a.exp p1 m1 z1] u fun e w' => (∃ g cap, e = .returned (.tuple #[.slice (some ⟨g, 0, none⟩) (a.mag.length + 3) cap, accV a.neg (.slice (some ⟨g, 0, none⟩) a.mag.length cap) a.exp p1 m1 z1]) ∧ u.heap.size ≤ g ∧ Own w' g cap (a.mag ++ [-71, -72, -73])) ∧ Kept u w') := fun u k => lent3 a.neg a.exp p1 m1 z1 a.mag (by omega) q1 d1 u (hr1.kept k)
 have HL2 : Hid (∀ u, Kept w0 u → Calls Tryz.prog 37 #[accV b.neg (.slice q2 b.mag.length d2) b.exp p2 m2 z2] u fun e w' => (∃ g cap, e = .returned (.tuple #[.slice (some ⟨g, 0, none⟩) (b.mag.length + 3) cap, accV b.neg (.slice (some ⟨g, 0, none⟩) b.mag.length cap) b.exp p2 m2 z2]) ∧ u.heap.size ≤ g ∧ Own w' g cap (b.mag ++ [-71, -72, -73])) ∧ Kept u w') := fun u k => lent3 b.neg b.exp p2 m2 z2 b.mag (by omega) q2 d2 u (hr2.kept k)
 have HL3 : Hid (∀ u, Kept w0 u → Calls Tryz.prog 49 #[.agg #[.bool x.neg, .slice q3 x.mag.length d3, .int .i64 x.exp]] u fun e w' => (∃ g cap, e = .returned (.tuple #[.slice (some ⟨g, 0, none⟩) (x.mag.length + 3) cap, .agg #[.bool x.neg, .slice (some ⟨g, 0, none⟩) x.mag.length cap, .int .i64 x.exp]]) ∧ u.heap.size ≤ g ∧ Own w' g cap (x.mag ++ [-71, -72, -73])) ∧ Kept u w') := fun u k => lentNum_any x.neg x.exp x.mag (by omega) q3 d3 u (hr3.kept k)
 have HAN : Hid (∀ u g1 g3 c1 c3, Kept w0 u → Own u g1 c1 (a.mag ++ [-71, -72, -73]) → Own u g3 c3 (x.mag ++ [-71, -72, -73]) → Calls Tryz.prog 30 #[accV a.neg (.slice (some ⟨g1, 0, none⟩) a.mag.length c1) a.exp p1 m1 z1, .agg #[.bool x.neg, .slice (some ⟨g3, 0, none⟩) x.mag.length c3, .int .i64 x.exp]] u fun e w' => ∃ ua uc, e = .returned (.tuple #[accV rn.neg (.slice ua rn.mag.length uc) rn.exp nP nM nZ, .int .i64 ne]) ∧ Hid (Rw w' (.slice ua rn.mag.length uc) 3 (ints rn.mag)) ∧ Hid (∀ b ∈ blk (.slice ua rn.mag.length uc), u.heap.size ≤ b) ∧ Kept u w') := fun u g1 g3 c1 c3 k o1 o3 => by
  have := hAN u _ _ c1 c3 (HT.out u k) (lent_sl o1) (lent_sl o3)
  refine this.mono ?_
  rintro e w' ⟨un, ua, ul, uc, ux, rfl, hN, k2⟩
  obtain ⟨rfl, rfl, rfl, h1, h2, -⟩ := new_acc hN
  exact ⟨ua, uc, rfl, h1, h2, k2⟩
 have HMG : Hid (∀ u g1 g2 c1 c2, Kept w0 u → Own u g1 c1 (a.mag ++ [-71, -72, -73]) → Own u g2 c2 (b.mag ++ [-71, -72, -73]) → Calls Tryz.prog 29 #[accV a.neg (.slice (some ⟨g1, 0, none⟩) a.mag.length c1) a.exp p1 m1 z1, accV b.neg (.slice (some ⟨g2, 0, none⟩) b.mag.length c2) b.exp p2 m2 z2] u fun e w' => ∃ ua uc, e = .returned (.tuple #[accV rm.neg (.slice ua rm.mag.length uc) rm.exp mP mM mZ, .int .i64 me]) ∧ Hid (Rw w' (.slice ua rm.mag.length uc) 3 (ints rm.mag)) ∧ Hid (∀ b ∈ blk (.slice ua rm.mag.length uc), u.heap.size ≤ b) ∧ Kept u w') := fun u g1 g2 c1 c2 k o1 o2 => by
  have := hMG u _ _ c1 c2 (HT.out u k) (lent_sl o1) (lent_sl o2)
  refine this.mono ?_
  rintro e w' ⟨un, ua, ul, uc, ux, rfl, hN, k2⟩
  obtain ⟨rfl, rfl, rfl, h1, h2, -⟩ := new_acc hN
  exact ⟨ua, uc, rfl, h1, h2, k2⟩
 have HNG : Hid (∀ u g1 c1, Kept w0 u → Own u g1 c1 (a.mag ++ [-71, -72, -73]) → Calls Tryz.prog 33 #[accV a.neg (.slice (some ⟨g1, 0, none⟩) a.mag.length c1) a.exp p1 m1 z1] u fun e w' => ∃ ua uc, e = .returned (.tuple #[accV rr.neg (.slice ua rr.mag.length uc) rr.exp rP rM rZ, .int .i64 re]) ∧ Hid (Rw w' (.slice ua rr.mag.length uc) 3 (ints rr.mag)) ∧ Hid (∀ b ∈ blk (.slice ua rr.mag.length uc), u.heap.size ≤ b) ∧ Kept u w') := fun u g1 c1 k o1 => by
  have := hNG u _ c1 (fun h => by cases h) (HT.out u k) (lent_sl o1)
  refine this.mono ?_
  rintro e w' ⟨un, ua, ul, uc, ux, rfl, hN, k2⟩
  obtain ⟨rfl, rfl, rfl, h1, h2, -⟩ := new_acc hN
  exact ⟨ua, uc, rfl, h1, h2, k2⟩
 have HSM : Hid (∀ u g1 g2 c1 c2, Own u g1 c1 (a.mag ++ [-71, -72, -73]) → Own u g2 c2 (b.mag ++ [-71, -72, -73]) → Calls Tryz.prog 34 #[accV a.neg (.slice (some ⟨g1, 0, none⟩) a.mag.length c1) a.exp p1 m1 z1, accV b.neg (.slice (some ⟨g2, 0, none⟩) b.mag.length c2) b.exp p2 m2 z2] u fun e w' => e = .returned (.bool (smA a b p1 m1 z1 p2 m2 z2)) ∧ Kept u w') := fun u g1 g2 c1 c2 o1 o2 => accSame_any a b (by omega) (by omega) p1 m1 z1 p2 m2 z2 _ _ c1 c2 u (lent_sl o1) (lent_sl o2)
 have HSS : Hid (∀ u g1 c1, Own u g1 c1 (a.mag ++ [-71, -72, -73]) → Calls Tryz.prog 34 #[accV a.neg (.slice (some ⟨g1, 0, none⟩) a.mag.length c1) a.exp p1 m1 z1, accV a.neg (.slice (some ⟨g1, 0, none⟩) a.mag.length c1) a.exp p1 m1 z1] u fun e w' => e = .returned (.bool true) ∧ Kept u w') := fun u g1 c1 o1 => accSame_true a (by omega) p1 m1 z1 _ _ c1 c1 u (lent_sl o1) (lent_sl o1)
 have HRS : Hid (∀ u, Kept w0 u → Calls Tryz.prog 54 #[accV a.neg (.slice q1 a.mag.length d1) a.exp p1 m1 z1, accV b.neg (.slice q2 b.mag.length d2) b.exp p2 m2 z2] u fun e w' => e = .returned (.bool (smA a b p1 m1 z1 p2 m2 z2)) ∧ Kept u w') := fun u k => rsame3 a b (by omega) (by omega) p1 m1 z1 p2 m2 z2 q1 q2 d1 d2 u (hr1.kept k) (hr2.kept k)
 have HBK1 : Hid (∀ (u : World) (g cap : Nat), Kept w0 u → Own u g cap (a.mag ++ [-71, -72, -73]) → Calls Tryz.prog 41 #[.slice (some ⟨g, 0, none⟩) (a.mag.length + 3) cap, .slice q1 a.mag.length d1] u fun e w' => e = .returned (.bool true) ∧ Grw g u w') := fun u g cap k ho => back_any a.mag (by omega) _ g cap u (hr1.kept k) ho
 have HBK2 : Hid (∀ (u : World) (g cap : Nat), Kept w0 u → Own u g cap (b.mag ++ [-71, -72, -73]) → Calls Tryz.prog 41 #[.slice (some ⟨g, 0, none⟩) (b.mag.length + 3) cap, .slice q2 b.mag.length d2] u fun e w' => e = .returned (.bool true) ∧ Grw g u w') := fun u g cap k ho => back_any b.mag (by omega) _ g cap u (hr2.kept k) ho
 have HBK3 : Hid (∀ (u : World) (g cap : Nat), Kept w0 u → Own u g cap (x.mag ++ [-71, -72, -73]) → Calls Tryz.prog 41 #[.slice (some ⟨g, 0, none⟩) (x.mag.length + 3) cap, .slice q3 x.mag.length d3] u fun e w' => e = .returned (.bool true) ∧ Grw g u w') := fun u g cap k ho => back_any x.mag (by omega) _ g cap u (hr3.kept k) ho
 have KVa : Hid (∀ u, Kept w0 u → Calls Tryz.prog 39 #[accV a.neg (.slice q1 a.mag.length d1) a.exp p1 m1 z1] u fun e w' => e = .returned (.bool (vld a)) ∧ Kept u w') := fun u k => rvalid3 a.neg q1 a.mag.length d1 a.exp p1 m1 z1 (vld a) u (fun t kt => rvalid2_any a ra (by omega) _ t ⟨_, rfl, (hr1.kept k).kept kt⟩)
 have KVb : Hid (∀ u, Kept w0 u → Calls Tryz.prog 39 #[accV b.neg (.slice q2 b.mag.length d2) b.exp p2 m2 z2] u fun e w' => e = .returned (.bool (vld b)) ∧ Kept u w') := fun u k => rvalid3 b.neg q2 b.mag.length d2 b.exp p2 m2 z2 (vld b) u (fun t kt => rvalid2_any b rb (by omega) _ t ⟨_, rfl, (hr2.kept k).kept kt⟩)
 have KVx : Hid (∀ u, Kept w0 u → Calls Tryz.prog 50 #[.agg #[.bool x.neg, .slice q3 x.mag.length d3, .int .i64 x.exp]] u fun e w' => e = .returned (.bool (vld x)) ∧ Kept u w') := fun u k => rvalid2_any x rx (by omega) _ u ⟨_, rfl, hr3.kept k⟩
 have KUA : Hid (vld a = true → vld x = true → ∀ u, Kept w0 u → Calls Tryz.prog 51 #[accV a.neg (.slice q1 a.mag.length d1) a.exp p1 m1 z1, .agg #[.bool x.neg, .slice q3 x.mag.length d3, .int .i64 x.exp]] u fun e w' => ∃ va vc, e = .returned (accV (pls a x).neg (.slice va (pls a x).mag.length vc) (pls a x).exp p1 m1 z1) ∧ Hid (RLp (fun c => c < w0.heap.size ∨ u.heap.size ≤ c) w' (.slice va (pls a x).mag.length vc) (pls a x).mag) ∧ Kept u w') := fun va vx u k => radd3 (fun c => c < w0.heap.size) u (pls a x) a.neg q1 a.mag.length d1 a.exp p1 m1 z1 x.neg q3 x.mag.length d3 x.exp (fun c h => Nat.lt_of_lt_of_le h k.below.size) (fun t kt => rplus_vld (fun c => c < w0.heap.size) t a x va vx q1 q3 d1 d3 (sl_rlp hc1 hr1 t (k.trans kt)) (sl_rlp hc3 hr3 t (k.trans kt)))
 have KUJ : Hid (vld a = true → vld b = true → ∀ u, Kept w0 u → Calls Tryz.prog 52 #[accV a.neg (.slice q1 a.mag.length d1) a.exp p1 m1 z1, accV b.neg (.slice q2 b.mag.length d2) b.exp p2 m2 z2] u fun e w' => ∃ va vc, e = .returned (accV (pls a b).neg (.slice va (pls a b).mag.length vc) (pls a b).exp (p1 || p2) (m1 || m2) (z1 || z2)) ∧ Hid (RLp (fun c => c < w0.heap.size ∨ u.heap.size ≤ c) w' (.slice va (pls a b).mag.length vc) (pls a b).mag) ∧ Kept u w') := fun va vb u k => rjoin3 (fun c => c < w0.heap.size) u (pls a b) a.neg q1 a.mag.length d1 a.exp p1 m1 z1 b.neg q2 b.mag.length d2 b.exp p2 m2 z2 (fun c h => Nat.lt_of_lt_of_le h k.below.size) (fun t kt => rplus_vld (fun c => c < w0.heap.size) t a b va vb q1 q2 d1 d2 (sl_rlp hc1 hr1 t (k.trans kt)) (sl_rlp hc2 hr2 t (k.trans kt)))
 have KUN : Hid (∀ u, Calls Tryz.prog 53 #[accV a.neg (.slice q1 a.mag.length d1) a.exp p1 m1 z1] u fun e w' => e = .returned (accV tn (.slice q1 a.mag.length d1) a.exp m1 p1 z1) ∧ Kept u w') := fun u => by
  rw [htn]
  exact rneg3 u a.neg q1 a.mag.length d1 a.exp p1 m1 z1
 have HPL : Hid ((vld a = true → vld x = true → Rg (pls a x).mag ∧ (pls a x).mag.length < 10000000) ∧ (vld a = true → vld b = true → Rg (pls a b).mag ∧ (pls a b).mag.length < 10000000)) := ⟨fun h1 h2 => pls_ok a x h1 h2, fun h1 h2 => pls_ok a b h1 h2⟩
 have HQ1 : Hid (∀ u, Kept w0 u → RLp (fun c => c < w0.heap.size) u (.slice q1 a.mag.length d1) a.mag) := fun u k => sl_rlp hc1 hr1 u k
 have HhRo : Hid (vld a = true → rr = ⟨tn, a.mag, a.exp⟩ ∧ re = 0 ∧ rP = m1 ∧ rM = p1 ∧ rZ = z1) := fun h => by
  rw [← etn]
  exact hRo h
 have TRV : Hid (vld a = true → vld ⟨tn, a.mag, a.exp⟩ = true) := fun h => by
  rw [← etn]
  exact trnN_vld a h
 clear htn etn
 have HhNb : Hid _ := hNb
 have HhNo : Hid _ := hNo
 have HhMb : Hid _ := hMb
 have HhMo : Hid _ := hMo
 have HhRb : Hid _ := hRb
 have HLt : Hid (∀ b ∈ blks kb vL vW E, b < w.heap.size) := hK.lt
 have HNw : Hid (∀ b ∈ blks kb vL vW E, w0.heap.size ≤ b) := hK.new
 have hw0 : w0.heap.size ≤ w.heap.size := hK.kept.below.size
 obtain ⟨X0, hX⟩ : ∃ X, X = ((w.alloc (.cells #[.bool a.neg, .slice q1 a.mag.length d1, .int .i64 a.exp, .bool p1, .bool m1, .bool z1] 26)).alloc (.cells #[.bool b.neg, .slice q2 b.mag.length d2, .int .i64 b.exp, .bool p2, .bool m2, .bool z2] 26)).alloc (.cells #[.bool x.neg, .slice q3 x.mag.length d3, .int .i64 x.exp] 24) := ⟨_, rfl⟩
 have kk0 : Kept w X0 := by rw [hX]; exact (((Kept.refl w).alloc _ _).alloc _ _).alloc _ _
 have hs0 : X0.heap.size = w.heap.size + 3 := by rw [hX]; simp
 obtain ⟨bA, hbA⟩ : ∃ n, n = w.heap.size := ⟨_, rfl⟩
 obtain ⟨bB, hbB⟩ : ∃ n, n = w.heap.size + 1 := ⟨_, rfl⟩
 obtain ⟨bX, hbX⟩ : ∃ n, n = w.heap.size + 1 + 1 := ⟨_, rfl⟩
 have TA0 : Hid (Hex X0 bA (.bool a.neg) (.slice q1 a.mag.length d1) (.int .i64 a.exp) (.bool p1) (.bool m1) (.bool z1)) := by
  rw [hX, hbA]
  exact (Hex.new w _ _ _ _ _ _ _).kept (((Kept.refl _).alloc _ _).alloc _ _)
 have TB0 : Hid (Hex X0 bB (.bool b.neg) (.slice q2 b.mag.length d2) (.int .i64 b.exp) (.bool p2) (.bool m2) (.bool z2)) := by
  have := Hex.new (w.alloc (.cells #[.bool a.neg, .slice q1 a.mag.length d1, .int .i64 a.exp, .bool p1, .bool m1, .bool z1] 26)) (.bool b.neg) (.slice q2 b.mag.length d2) (.int .i64 b.exp) (.bool p2) (.bool m2) (.bool z2) 26
  rw [World.size_alloc, ← hbB] at this
  rw [hX]
  exact this.kept ((Kept.refl _).alloc _ _)
 have TX0 : Hid (Tri X0 bX (.bool x.neg) (.slice q3 x.mag.length d3) (.int .i64 x.exp)) := by
  have := Tri.new ((w.alloc (.cells #[.bool a.neg, .slice q1 a.mag.length d1, .int .i64 a.exp, .bool p1, .bool m1, .bool z1] 26)).alloc (.cells #[.bool b.neg, .slice q2 b.mag.length d2, .int .i64 b.exp, .bool p2, .bool m2, .bool z2] 26)) (.bool x.neg) (.slice q3 x.mag.length d3) (.int .i64 x.exp) 24
  rw [World.size_alloc, World.size_alloc, ← hbX] at this
  rw [hX]
  exact this
 have HK0 : Hid (KeepAt w0 X0 kb vL vW E) := hK.keptOn kk0
 have k0 : Hid (Kept w0 X0) := hK.kept.trans kk0
 have g0 : Hid (Kept w X0) := kk0
 clear hAN hMG hNG hNb hNo hMb hMo hRb hRo hT hr1 hr2 hr3 hc1 hc2 hc3 hK kk0 ra rb rx
 go_enter Tryz.func13, Tryz.ntmps13
 go_upto_region 1 with fail
 rw [← hX, ← hbX, ← hbB, ← hbA]
 have hb3 : w.heap.size ≤ bA ∧ bA < bB ∧ bB < bX ∧ bX < X0.heap.size := by omega
 clear hX hbA hbB hbX
 obtain ⟨c0, c1, c2, c3, c4, c5⟩ := TA0.out.now
 go_wp2_with fail
 refine (HL1.out _ k0.out).mono ?_
 rintro e w1 ⟨⟨ga, ka, rfl, hg, hO⟩, hk⟩
 have hgl := hO.lt
 clear c0 c1 c2 c3 c4 c5
 go_upto_region 2 with fail
 obtain ⟨X1, hX⟩ : ∃ X, X = w1.alloc (.cells #[.bool a.neg, .slice (some ⟨ga, 0, none⟩) a.mag.length ka, .int .i64 a.exp, .bool p1, .bool m1, .bool z1] 26) := ⟨_, rfl⟩
 obtain ⟨pP, hp⟩ : ∃ p, p = w1.heap.size := ⟨_, rfl⟩
 have kX : Kept X0 X1 := by rw [hX]; exact hk.alloc _ _
 have kw : Kept w1 X1 := by rw [hX]; exact (Kept.refl _).alloc _ _
 have hsz1 : X1.heap.size = pP + 1 := by rw [hX, hp]; simp
 have hmono1 : X0.heap.size ≤ pP := by rw [hp]; exact hk.below.size
 have bg1 : X0.heap.size ≤ ga ∧ ga < pP := ⟨hg, by rw [hp]; exact hgl⟩
 have OA1 : Hid (Own X1 ga ka (a.mag ++ [-71, -72, -73])) := hO.kept kw
 have TP1 : Hid (Hex X1 pP (.bool a.neg) (.slice (some ⟨ga, 0, none⟩) a.mag.length ka) (.int .i64 a.exp) (.bool p1) (.bool m1) (.bool z1)) := by rw [hX, hp]; exact Hex.new _ _ _ _ _ _ _ _
 have TA1 : Hid (Hex X1 bA (.bool a.neg) (.slice q1 a.mag.length d1) (.int .i64 a.exp) (.bool p1) (.bool m1) (.bool z1)) := TA0.out.kept kX
 have TB1 : Hid (Hex X1 bB (.bool b.neg) (.slice q2 b.mag.length d2) (.int .i64 b.exp) (.bool p2) (.bool m2) (.bool z2)) := TB0.out.kept kX
 have TX1 : Hid (Tri X1 bX (.bool x.neg) (.slice q3 x.mag.length d3) (.int .i64 x.exp)) := TX0.out.kept kX
 have HK1 : Hid (KeepAt w0 X1 kb vL vW E) := HK0.out.keptOn kX
 have k1 : Hid (Kept w0 X1) := k0.out.trans kX
 have g1 : Hid (Kept w X1) := g0.out.trans kX
 clear TA0 TB0 TX0 HK0 k0 g0
 rw [← hX, ← hp]
 clear hX hp hk kX kw hg hO hgl
 obtain ⟨c0, c1, c2, c3, c4, c5⟩ := TB1.out.now
 go_wp2_with fail
 refine (HL2.out _ k1.out).mono ?_
 rintro e w2 ⟨⟨gb, kb2, rfl, hg, hO⟩, hk⟩
 have hgl := hO.lt
 clear c0 c1 c2 c3 c4 c5
 go_upto_region 3 with fail
 obtain ⟨X2, hX⟩ : ∃ X, X = w2.alloc (.cells #[.bool b.neg, .slice (some ⟨gb, 0, none⟩) b.mag.length kb2, .int .i64 b.exp, .bool p2, .bool m2, .bool z2] 26) := ⟨_, rfl⟩
 obtain ⟨pQ, hp⟩ : ∃ p, p = w2.heap.size := ⟨_, rfl⟩
 have kX : Kept X1 X2 := by rw [hX]; exact hk.alloc _ _
 have kw : Kept w2 X2 := by rw [hX]; exact (Kept.refl _).alloc _ _
 have hsz2 : X2.heap.size = pQ + 1 := by rw [hX, hp]; simp
 have hmono2 : X1.heap.size ≤ pQ := by rw [hp]; exact hk.below.size
 have bg2 : X1.heap.size ≤ gb ∧ gb < pQ := ⟨hg, by rw [hp]; exact hgl⟩
 have OB2 : Hid (Own X2 gb kb2 (b.mag ++ [-71, -72, -73])) := hO.kept kw
 have TQ2 : Hid (Hex X2 pQ (.bool b.neg) (.slice (some ⟨gb, 0, none⟩) b.mag.length kb2) (.int .i64 b.exp) (.bool p2) (.bool m2) (.bool z2)) := by rw [hX, hp]; exact Hex.new _ _ _ _ _ _ _ _
 have TA2 : Hid (Hex X2 bA (.bool a.neg) (.slice q1 a.mag.length d1) (.int .i64 a.exp) (.bool p1) (.bool m1) (.bool z1)) := TA1.out.kept kX
 have TB2 : Hid (Hex X2 bB (.bool b.neg) (.slice q2 b.mag.length d2) (.int .i64 b.exp) (.bool p2) (.bool m2) (.bool z2)) := TB1.out.kept kX
 have TX2 : Hid (Tri X2 bX (.bool x.neg) (.slice q3 x.mag.length d3) (.int .i64 x.exp)) := TX1.out.kept kX
 have OA2 : Hid (Own X2 ga ka (a.mag ++ [-71, -72, -73])) := OA1.out.kept kX
 have TP2 : Hid (Hex X2 pP (.bool a.neg) (.slice (some ⟨ga, 0, none⟩) a.mag.length ka) (.int .i64 a.exp) (.bool p1) (.bool m1) (.bool z1)) := TP1.out.kept kX
 have HK2 : Hid (KeepAt w0 X2 kb vL vW E) := HK1.out.keptOn kX
 have k2 : Hid (Kept w0 X2) := k1.out.trans kX
 have g2 : Hid (Kept w X2) := g1.out.trans kX
 clear TA1 TB1 TX1 OA1 TP1 HK1 k1 g1
 rw [← hX, ← hp]
 clear hX hp hk kX kw hg hO hgl
 obtain ⟨⟨c0, c1⟩, c2⟩ := TX2.out.now
 go_wp2_with fail
 refine (HL3.out _ k2.out).mono ?_
 rintro e w3 ⟨⟨gx, kx, rfl, hg, hO⟩, hk⟩
 have hgl := hO.lt
 clear c0 c1 c2
 go_upto_region 4 with fail
 obtain ⟨X3, hX⟩ : ∃ X, X = w3.alloc (.cells #[.bool x.neg, .slice (some ⟨gx, 0, none⟩) x.mag.length kx, .int .i64 x.exp] 24) := ⟨_, rfl⟩
 obtain ⟨pY, hp⟩ : ∃ p, p = w3.heap.size := ⟨_, rfl⟩
 have kX : Kept X2 X3 := by rw [hX]; exact hk.alloc _ _
 have kw : Kept w3 X3 := by rw [hX]; exact (Kept.refl _).alloc _ _
 have hsz3 : X3.heap.size = pY + 1 := by rw [hX, hp]; simp
 have hmono3 : X2.heap.size ≤ pY := by rw [hp]; exact hk.below.size
 have bg3 : X2.heap.size ≤ gx ∧ gx < pY := ⟨hg, by rw [hp]; exact hgl⟩
 have OX3 : Hid (Own X3 gx kx (x.mag ++ [-71, -72, -73])) := hO.kept kw
 have TY3 : Hid (Tri X3 pY (.bool x.neg) (.slice (some ⟨gx, 0, none⟩) x.mag.length kx) (.int .i64 x.exp)) := by rw [hX, hp]; exact Tri.new _ _ _ _ _
 have TA3 : Hid (Hex X3 bA (.bool a.neg) (.slice q1 a.mag.length d1) (.int .i64 a.exp) (.bool p1) (.bool m1) (.bool z1)) := TA2.out.kept kX
 have TB3 : Hid (Hex X3 bB (.bool b.neg) (.slice q2 b.mag.length d2) (.int .i64 b.exp) (.bool p2) (.bool m2) (.bool z2)) := TB2.out.kept kX
 have TX3 : Hid (Tri X3 bX (.bool x.neg) (.slice q3 x.mag.length d3) (.int .i64 x.exp)) := TX2.out.kept kX
 have OA3 : Hid (Own X3 ga ka (a.mag ++ [-71, -72, -73])) := OA2.out.kept kX
 have TP3 : Hid (Hex X3 pP (.bool a.neg) (.slice (some ⟨ga, 0, none⟩) a.mag.length ka) (.int .i64 a.exp) (.bool p1) (.bool m1) (.bool z1)) := TP2.out.kept kX
 have OB3 : Hid (Own X3 gb kb2 (b.mag ++ [-71, -72, -73])) := OB2.out.kept kX
 have TQ3 : Hid (Hex X3 pQ (.bool b.neg) (.slice (some ⟨gb, 0, none⟩) b.mag.length kb2) (.int .i64 b.exp) (.bool p2) (.bool m2) (.bool z2)) := TQ2.out.kept kX
 have HK3 : Hid (KeepAt w0 X3 kb vL vW E) := HK2.out.keptOn kX
 have k3 : Hid (Kept w0 X3) := k2.out.trans kX
 have g3 : Hid (Kept w X3) := g2.out.trans kX
 clear TA2 TB2 TX2 OA2 TP2 OB2 TQ2 HK2 k2 g2
 rw [← hX, ← hp]
 clear hX hp hk kX kw hg hO hgl
 obtain ⟨c0, c1, c2, c3, c4, c5⟩ := TP3.out.now
 obtain ⟨⟨d0, d1⟩, d2⟩ := TY3.out.now
 go_wp2_with fail
 refine (HAN.out _ ga gx ka kx k3.out OA3.out OX3.out).mono ?_
 rintro e w4 ⟨srn, trn, rfl, hR, hB, hk⟩
 clear c0 c1 c2 c3 c4 c5 d0 d1 d2
 have hRl := hR.out.lt
 go_upto_region 5 with fail
 obtain ⟨X4, hX⟩ : ∃ X, X = w4.alloc (.cells #[.bool rn.neg, .slice srn rn.mag.length trn, .int .i64 rn.exp, .bool nP, .bool nM, .bool nZ] 26) := ⟨_, rfl⟩
 obtain ⟨pN, hp⟩ : ∃ p, p = w4.heap.size := ⟨_, rfl⟩
 have kX : Kept X3 X4 := by rw [hX]; exact hk.alloc _ _
 have kw : Kept w4 X4 := by rw [hX]; exact (Kept.refl _).alloc _ _
 have hsz4 : X4.heap.size = pN + 1 := by rw [hX, hp]; simp
 have hmono4 : X3.heap.size ≤ pN := by rw [hp]; exact hk.below.size
 have BN : Hid (∀ b ∈ blk (.slice srn rn.mag.length trn), X3.heap.size ≤ b ∧ b < pN) := fun b hb => ⟨hB.out b hb, by rw [hp]; exact hRl b hb⟩
 have RN4 : Hid (Rw X4 (.slice srn rn.mag.length trn) 3 (ints rn.mag)) := hR.out.kept kw
 have Tn4 : Hid (Hex X4 pN (.bool rn.neg) (.slice srn rn.mag.length trn) (.int .i64 rn.exp) (.bool nP) (.bool nM) (.bool nZ)) := by rw [hX, hp]; exact Hex.new _ _ _ _ _ _ _ _
 have TA4 : Hid (Hex X4 bA (.bool a.neg) (.slice q1 a.mag.length d1) (.int .i64 a.exp) (.bool p1) (.bool m1) (.bool z1)) := TA3.out.kept kX
 have TB4 : Hid (Hex X4 bB (.bool b.neg) (.slice q2 b.mag.length d2) (.int .i64 b.exp) (.bool p2) (.bool m2) (.bool z2)) := TB3.out.kept kX
 have TX4 : Hid (Tri X4 bX (.bool x.neg) (.slice q3 x.mag.length d3) (.int .i64 x.exp)) := TX3.out.kept kX
 have OA4 : Hid (Own X4 ga ka (a.mag ++ [-71, -72, -73])) := OA3.out.kept kX
 have TP4 : Hid (Hex X4 pP (.bool a.neg) (.slice (some ⟨ga, 0, none⟩) a.mag.length ka) (.int .i64 a.exp) (.bool p1) (.bool m1) (.bool z1)) := TP3.out.kept kX
 have OB4 : Hid (Own X4 gb kb2 (b.mag ++ [-71, -72, -73])) := OB3.out.kept kX
 have TQ4 : Hid (Hex X4 pQ (.bool b.neg) (.slice (some ⟨gb, 0, none⟩) b.mag.length kb2) (.int .i64 b.exp) (.bool p2) (.bool m2) (.bool z2)) := TQ3.out.kept kX
 have OX4 : Hid (Own X4 gx kx (x.mag ++ [-71, -72, -73])) := OX3.out.kept kX
 have TY4 : Hid (Tri X4 pY (.bool x.neg) (.slice (some ⟨gx, 0, none⟩) x.mag.length kx) (.int .i64 x.exp)) := TY3.out.kept kX
 have HK4 : Hid (KeepAt w0 X4 kb vL vW E) := HK3.out.keptOn kX
 have k4 : Hid (Kept w0 X4) := k3.out.trans kX
 have g4 : Hid (Kept w X4) := g3.out.trans kX
 clear TA3 TB3 TX3 OA3 TP3 OB3 TQ3 OX3 TY3 HK3 k3 g3
 rw [← hX, ← hp]
 clear hX hp hk kX kw hR hB hRl
 obtain ⟨c0, c1, c2, c3, c4, c5⟩ := TP4.out.now
 obtain ⟨d0, d1, d2, d3, d4, d5⟩ := TQ4.out.now
 go_wp2_with fail
 refine (HMG.out _ ga gb ka kb2 k4.out OA4.out OB4.out).mono ?_
 rintro e w5 ⟨srm, trm, rfl, hR, hB, hk⟩
 clear c0 c1 c2 c3 c4 c5 d0 d1 d2 d3 d4 d5
 have hRl := hR.out.lt
 go_upto_region 6 with fail
 obtain ⟨X5, hX⟩ : ∃ X, X = w5.alloc (.cells #[.bool rm.neg, .slice srm rm.mag.length trm, .int .i64 rm.exp, .bool mP, .bool mM, .bool mZ] 26) := ⟨_, rfl⟩
 obtain ⟨pM, hp⟩ : ∃ p, p = w5.heap.size := ⟨_, rfl⟩
 have kX : Kept X4 X5 := by rw [hX]; exact hk.alloc _ _
 have kw : Kept w5 X5 := by rw [hX]; exact (Kept.refl _).alloc _ _
 have hsz5 : X5.heap.size = pM + 1 := by rw [hX, hp]; simp
 have hmono5 : X4.heap.size ≤ pM := by rw [hp]; exact hk.below.size
 have BM : Hid (∀ b ∈ blk (.slice srm rm.mag.length trm), X4.heap.size ≤ b ∧ b < pM) := fun b hb => ⟨hB.out b hb, by rw [hp]; exact hRl b hb⟩
 have RM5 : Hid (Rw X5 (.slice srm rm.mag.length trm) 3 (ints rm.mag)) := hR.out.kept kw
 have Tm5 : Hid (Hex X5 pM (.bool rm.neg) (.slice srm rm.mag.length trm) (.int .i64 rm.exp) (.bool mP) (.bool mM) (.bool mZ)) := by rw [hX, hp]; exact Hex.new _ _ _ _ _ _ _ _
 have TA5 : Hid (Hex X5 bA (.bool a.neg) (.slice q1 a.mag.length d1) (.int .i64 a.exp) (.bool p1) (.bool m1) (.bool z1)) := TA4.out.kept kX
 have TB5 : Hid (Hex X5 bB (.bool b.neg) (.slice q2 b.mag.length d2) (.int .i64 b.exp) (.bool p2) (.bool m2) (.bool z2)) := TB4.out.kept kX
 have TX5 : Hid (Tri X5 bX (.bool x.neg) (.slice q3 x.mag.length d3) (.int .i64 x.exp)) := TX4.out.kept kX
 have OA5 : Hid (Own X5 ga ka (a.mag ++ [-71, -72, -73])) := OA4.out.kept kX
 have TP5 : Hid (Hex X5 pP (.bool a.neg) (.slice (some ⟨ga, 0, none⟩) a.mag.length ka) (.int .i64 a.exp) (.bool p1) (.bool m1) (.bool z1)) := TP4.out.kept kX
 have OB5 : Hid (Own X5 gb kb2 (b.mag ++ [-71, -72, -73])) := OB4.out.kept kX
 have TQ5 : Hid (Hex X5 pQ (.bool b.neg) (.slice (some ⟨gb, 0, none⟩) b.mag.length kb2) (.int .i64 b.exp) (.bool p2) (.bool m2) (.bool z2)) := TQ4.out.kept kX
 have OX5 : Hid (Own X5 gx kx (x.mag ++ [-71, -72, -73])) := OX4.out.kept kX
 have TY5 : Hid (Tri X5 pY (.bool x.neg) (.slice (some ⟨gx, 0, none⟩) x.mag.length kx) (.int .i64 x.exp)) := TY4.out.kept kX
 have RN5 : Hid (Rw X5 (.slice srn rn.mag.length trn) 3 (ints rn.mag)) := RN4.out.kept kX
 have Tn5 : Hid (Hex X5 pN (.bool rn.neg) (.slice srn rn.mag.length trn) (.int .i64 rn.exp) (.bool nP) (.bool nM) (.bool nZ)) := Tn4.out.kept kX
 have HK5 : Hid (KeepAt w0 X5 kb vL vW E) := HK4.out.keptOn kX
 have k5 : Hid (Kept w0 X5) := k4.out.trans kX
 have g5 : Hid (Kept w X5) := g4.out.trans kX
 clear TA4 TB4 TX4 OA4 TP4 OB4 TQ4 OX4 TY4 RN4 Tn4 HK4 k4 g4
 rw [← hX, ← hp]
 clear hX hp hk kX kw hR hB hRl
 obtain ⟨c0, c1, c2, c3, c4, c5⟩ := TP5.out.now
 go_wp2_with fail
 refine (HNG.out _ ga ka k5.out OA5.out).mono ?_
 rintro e w6 ⟨srr, trr, rfl, hR, hB, hk⟩
 clear c0 c1 c2 c3 c4 c5
 have hRl := hR.out.lt
 go_upto_region 7 with fail
 obtain ⟨X6, hX⟩ : ∃ X, X = w6.alloc (.cells #[.bool rr.neg, .slice srr rr.mag.length trr, .int .i64 rr.exp, .bool rP, .bool rM, .bool rZ] 26) := ⟨_, rfl⟩
 obtain ⟨pR, hp⟩ : ∃ p, p = w6.heap.size := ⟨_, rfl⟩
 have kX : Kept X5 X6 := by rw [hX]; exact hk.alloc _ _
 have kw : Kept w6 X6 := by rw [hX]; exact (Kept.refl _).alloc _ _
 have hsz6 : X6.heap.size = pR + 1 := by rw [hX, hp]; simp
 have hmono6 : X5.heap.size ≤ pR := by rw [hp]; exact hk.below.size
 have BR : Hid (∀ b ∈ blk (.slice srr rr.mag.length trr), X5.heap.size ≤ b ∧ b < pR) := fun b hb => ⟨hB.out b hb, by rw [hp]; exact hRl b hb⟩
 have RR6 : Hid (Rw X6 (.slice srr rr.mag.length trr) 3 (ints rr.mag)) := hR.out.kept kw
 have Tr6 : Hid (Hex X6 pR (.bool rr.neg) (.slice srr rr.mag.length trr) (.int .i64 rr.exp) (.bool rP) (.bool rM) (.bool rZ)) := by rw [hX, hp]; exact Hex.new _ _ _ _ _ _ _ _
 have TA6 : Hid (Hex X6 bA (.bool a.neg) (.slice q1 a.mag.length d1) (.int .i64 a.exp) (.bool p1) (.bool m1) (.bool z1)) := TA5.out.kept kX
 have TB6 : Hid (Hex X6 bB (.bool b.neg) (.slice q2 b.mag.length d2) (.int .i64 b.exp) (.bool p2) (.bool m2) (.bool z2)) := TB5.out.kept kX
 have TX6 : Hid (Tri X6 bX (.bool x.neg) (.slice q3 x.mag.length d3) (.int .i64 x.exp)) := TX5.out.kept kX
 have OA6 : Hid (Own X6 ga ka (a.mag ++ [-71, -72, -73])) := OA5.out.kept kX
 have TP6 : Hid (Hex X6 pP (.bool a.neg) (.slice (some ⟨ga, 0, none⟩) a.mag.length ka) (.int .i64 a.exp) (.bool p1) (.bool m1) (.bool z1)) := TP5.out.kept kX
 have OB6 : Hid (Own X6 gb kb2 (b.mag ++ [-71, -72, -73])) := OB5.out.kept kX
 have TQ6 : Hid (Hex X6 pQ (.bool b.neg) (.slice (some ⟨gb, 0, none⟩) b.mag.length kb2) (.int .i64 b.exp) (.bool p2) (.bool m2) (.bool z2)) := TQ5.out.kept kX
 have OX6 : Hid (Own X6 gx kx (x.mag ++ [-71, -72, -73])) := OX5.out.kept kX
 have TY6 : Hid (Tri X6 pY (.bool x.neg) (.slice (some ⟨gx, 0, none⟩) x.mag.length kx) (.int .i64 x.exp)) := TY5.out.kept kX
 have RN6 : Hid (Rw X6 (.slice srn rn.mag.length trn) 3 (ints rn.mag)) := RN5.out.kept kX
 have Tn6 : Hid (Hex X6 pN (.bool rn.neg) (.slice srn rn.mag.length trn) (.int .i64 rn.exp) (.bool nP) (.bool nM) (.bool nZ)) := Tn5.out.kept kX
 have RM6 : Hid (Rw X6 (.slice srm rm.mag.length trm) 3 (ints rm.mag)) := RM5.out.kept kX
 have Tm6 : Hid (Hex X6 pM (.bool rm.neg) (.slice srm rm.mag.length trm) (.int .i64 rm.exp) (.bool mP) (.bool mM) (.bool mZ)) := Tm5.out.kept kX
 have HK6 : Hid (KeepAt w0 X6 kb vL vW E) := HK5.out.keptOn kX
 have k6 : Hid (Kept w0 X6) := k5.out.trans kX
 have g6 : Hid (Kept w X6) := g5.out.trans kX
 clear TA5 TB5 TX5 OA5 TP5 OB5 TQ5 OX5 TY5 RN5 Tn5 RM5 Tm5 HK5 k5 g5
 rw [← hX, ← hp]
 clear hX hp hk kX kw hR hB hRl
 obtain ⟨c0, c1, c2, c3, c4, c5⟩ := TP6.out.now
 obtain ⟨d0, d1, d2, d3, d4, d5⟩ := TQ6.out.now
 go_wp2_with fail
 refine (HSM.out _ ga gb ka kb2 OA6.out OB6.out).mono ?_
 rintro e X7 ⟨rfl, hk⟩
 clear c0 c1 c2 c3 c4 c5 d0 d1 d2 d3 d4 d5
 have hmono7 : X6.heap.size ≤ X7.heap.size := hk.below.size
 have TA7 : Hid (Hex X7 bA (.bool a.neg) (.slice q1 a.mag.length d1) (.int .i64 a.exp) (.bool p1) (.bool m1) (.bool z1)) := TA6.out.kept hk
 have TB7 : Hid (Hex X7 bB (.bool b.neg) (.slice q2 b.mag.length d2) (.int .i64 b.exp) (.bool p2) (.bool m2) (.bool z2)) := TB6.out.kept hk
 have TX7 : Hid (Tri X7 bX (.bool x.neg) (.slice q3 x.mag.length d3) (.int .i64 x.exp)) := TX6.out.kept hk
 have OA7 : Hid (Own X7 ga ka (a.mag ++ [-71, -72, -73])) := OA6.out.kept hk
 have TP7 : Hid (Hex X7 pP (.bool a.neg) (.slice (some ⟨ga, 0, none⟩) a.mag.length ka) (.int .i64 a.exp) (.bool p1) (.bool m1) (.bool z1)) := TP6.out.kept hk
 have OB7 : Hid (Own X7 gb kb2 (b.mag ++ [-71, -72, -73])) := OB6.out.kept hk
 have TQ7 : Hid (Hex X7 pQ (.bool b.neg) (.slice (some ⟨gb, 0, none⟩) b.mag.length kb2) (.int .i64 b.exp) (.bool p2) (.bool m2) (.bool z2)) := TQ6.out.kept hk
 have OX7 : Hid (Own X7 gx kx (x.mag ++ [-71, -72, -73])) := OX6.out.kept hk
 have TY7 : Hid (Tri X7 pY (.bool x.neg) (.slice (some ⟨gx, 0, none⟩) x.mag.length kx) (.int .i64 x.exp)) := TY6.out.kept hk
 have RN7 : Hid (Rw X7 (.slice srn rn.mag.length trn) 3 (ints rn.mag)) := RN6.out.kept hk
 have Tn7 : Hid (Hex X7 pN (.bool rn.neg) (.slice srn rn.mag.length trn) (.int .i64 rn.exp) (.bool nP) (.bool nM) (.bool nZ)) := Tn6.out.kept hk
 have RM7 : Hid (Rw X7 (.slice srm rm.mag.length trm) 3 (ints rm.mag)) := RM6.out.kept hk
 have Tm7 : Hid (Hex X7 pM (.bool rm.neg) (.slice srm rm.mag.length trm) (.int .i64 rm.exp) (.bool mP) (.bool mM) (.bool mZ)) := Tm6.out.kept hk
 have RR7 : Hid (Rw X7 (.slice srr rr.mag.length trr) 3 (ints rr.mag)) := RR6.out.kept hk
 have Tr7 : Hid (Hex X7 pR (.bool rr.neg) (.slice srr rr.mag.length trr) (.int .i64 rr.exp) (.bool rP) (.bool rM) (.bool rZ)) := Tr6.out.kept hk
 have HK7 : Hid (KeepAt w0 X7 kb vL vW E) := HK6.out.keptOn hk
 have k7 : Hid (Kept w0 X7) := k6.out.trans hk
 have g7 : Hid (Kept w X7) := g6.out.trans hk
 clear TA6 TB6 TX6 OA6 TP6 OB6 TQ6 OX6 TY6 RN6 Tn6 RM6 Tm6 RR6 Tr6 HK6 k6 g6
 clear hk
 obtain ⟨c0, c1, c2, c3, c4, c5⟩ := TP7.out.now
 go_wp2_with fail
 refine (HSS.out _ ga ka OA7.out).mono ?_
 rintro e X8 ⟨rfl, hk⟩
 clear c0 c1 c2 c3 c4 c5
 have hmono8 : X7.heap.size ≤ X8.heap.size := hk.below.size
 have TA8 : Hid (Hex X8 bA (.bool a.neg) (.slice q1 a.mag.length d1) (.int .i64 a.exp) (.bool p1) (.bool m1) (.bool z1)) := TA7.out.kept hk
 have TB8 : Hid (Hex X8 bB (.bool b.neg) (.slice q2 b.mag.length d2) (.int .i64 b.exp) (.bool p2) (.bool m2) (.bool z2)) := TB7.out.kept hk
 have TX8 : Hid (Tri X8 bX (.bool x.neg) (.slice q3 x.mag.length d3) (.int .i64 x.exp)) := TX7.out.kept hk
 have OA8 : Hid (Own X8 ga ka (a.mag ++ [-71, -72, -73])) := OA7.out.kept hk
 have OB8 : Hid (Own X8 gb kb2 (b.mag ++ [-71, -72, -73])) := OB7.out.kept hk
 have OX8 : Hid (Own X8 gx kx (x.mag ++ [-71, -72, -73])) := OX7.out.kept hk
 have RN8 : Hid (Rw X8 (.slice srn rn.mag.length trn) 3 (ints rn.mag)) := RN7.out.kept hk
 have Tn8 : Hid (Hex X8 pN (.bool rn.neg) (.slice srn rn.mag.length trn) (.int .i64 rn.exp) (.bool nP) (.bool nM) (.bool nZ)) := Tn7.out.kept hk
 have RM8 : Hid (Rw X8 (.slice srm rm.mag.length trm) 3 (ints rm.mag)) := RM7.out.kept hk
 have Tm8 : Hid (Hex X8 pM (.bool rm.neg) (.slice srm rm.mag.length trm) (.int .i64 rm.exp) (.bool mP) (.bool mM) (.bool mZ)) := Tm7.out.kept hk
 have RR8 : Hid (Rw X8 (.slice srr rr.mag.length trr) 3 (ints rr.mag)) := RR7.out.kept hk
 have Tr8 : Hid (Hex X8 pR (.bool rr.neg) (.slice srr rr.mag.length trr) (.int .i64 rr.exp) (.bool rP) (.bool rM) (.bool rZ)) := Tr7.out.kept hk
 have HK8 : Hid (KeepAt w0 X8 kb vL vW E) := HK7.out.keptOn hk
 have k8 : Hid (Kept w0 X8) := k7.out.trans hk
 have g8 : Hid (Kept w X8) := g7.out.trans hk
 clear TA7 TB7 TX7 OA7 TP7 OB7 TQ7 OX7 TY7 RN7 Tn7 RM7 Tm7 RR7 Tr7 HK7 k7 g7
 clear hk HL1 HL2 HL3 HAN HMG HNG HSM HSS
 go_upto_region 9 with fail
 obtain ⟨c0, c1, c2, c3, c4, c5⟩ := TA8.out.now
 go_wp2_with fail
 refine (HBK1.out _ ga ka k8.out OA8.out).mono ?_
 rintro e X9 ⟨rfl, hG9⟩
 have G9 : GrwS [ga] X8 X9 := hG9.toS
 have GW9 : GrwS (kb :: (blk vL ++ blk vW)) w X9 := (g8.out.toS _).then G9 (fun i hi => .inr (by simp at hi; omega))
 have K9 : Kept w0 X9 := k8.out.grwS (fun i hi => by simp at hi; omega) G9
 have hmono9 : X8.heap.size ≤ X9.heap.size := G9.size
 clear c0 c1 c2 c3 c4 c5
 have TA9 : Hid (Hex X9 bA (.bool a.neg) (.slice q1 a.mag.length d1) (.int .i64 a.exp) (.bool p1) (.bool m1) (.bool z1)) := TA8.out.grw G9 (by simp; omega)
 have TB9 : Hid (Hex X9 bB (.bool b.neg) (.slice q2 b.mag.length d2) (.int .i64 b.exp) (.bool p2) (.bool m2) (.bool z2)) := TB8.out.grw G9 (by simp; omega)
 have TX9 : Hid (Tri X9 bX (.bool x.neg) (.slice q3 x.mag.length d3) (.int .i64 x.exp)) := TX8.out.grw G9 (by simp; omega)
 have OB9 : Hid (Own X9 gb kb2 (b.mag ++ [-71, -72, -73])) := OB8.out.grw hG9 (by omega)
 have OX9 : Hid (Own X9 gx kx (x.mag ++ [-71, -72, -73])) := OX8.out.grw hG9 (by omega)
 have RN9 : Hid (Rw X9 (.slice srn rn.mag.length trn) 3 (ints rn.mag)) := RN8.out.grwS G9 (fun b hb h => by have := BN.out b hb; simp at h; omega)
 have Tn9 : Hid (Hex X9 pN (.bool rn.neg) (.slice srn rn.mag.length trn) (.int .i64 rn.exp) (.bool nP) (.bool nM) (.bool nZ)) := Tn8.out.grw G9 (by simp; omega)
 have RM9 : Hid (Rw X9 (.slice srm rm.mag.length trm) 3 (ints rm.mag)) := RM8.out.grwS G9 (fun b hb h => by have := BM.out b hb; simp at h; omega)
 have Tm9 : Hid (Hex X9 pM (.bool rm.neg) (.slice srm rm.mag.length trm) (.int .i64 rm.exp) (.bool mP) (.bool mM) (.bool mZ)) := Tm8.out.grw G9 (by simp; omega)
 have RR9 : Hid (Rw X9 (.slice srr rr.mag.length trr) 3 (ints rr.mag)) := RR8.out.grwS G9 (fun b hb h => by have := BR.out b hb; simp at h; omega)
 have Tr9 : Hid (Hex X9 pR (.bool rr.neg) (.slice srr rr.mag.length trr) (.int .i64 rr.exp) (.bool rP) (.bool rM) (.bool rZ)) := Tr8.out.grw G9 (by simp; omega)
 have HK9 : Hid (KeepAt w0 X9 kb vL vW E) := HK8.out.grwS G9 (fun b hb h => by have := HLt.out b hb; simp at h; omega) (fun b hb => by simp at hb; omega)
 clear TA8 TB8 TX8 OA8 OB8 OX8 RN8 Tn8 RM8 Tm8 RR8 Tr8 HK8
 obtain ⟨c0, c1, c2, c3, c4, c5⟩ := TB9.out.now
 go_wp2_with fail
 refine (HBK2.out _ gb kb2 K9 OB9.out).mono ?_
 rintro e X10 ⟨rfl, hG10⟩
 have G10 : GrwS [gb] X9 X10 := hG10.toS
 have GW10 : GrwS (kb :: (blk vL ++ blk vW)) w X10 := GW9.then G10 (fun i hi => .inr (by simp at hi; omega))
 have K10 : Kept w0 X10 := K9.grwS (fun i hi => by simp at hi; omega) G10
 have hmono10 : X9.heap.size ≤ X10.heap.size := G10.size
 clear c0 c1 c2 c3 c4 c5
 have TA10 : Hid (Hex X10 bA (.bool a.neg) (.slice q1 a.mag.length d1) (.int .i64 a.exp) (.bool p1) (.bool m1) (.bool z1)) := TA9.out.grw G10 (by simp; omega)
 have TB10 : Hid (Hex X10 bB (.bool b.neg) (.slice q2 b.mag.length d2) (.int .i64 b.exp) (.bool p2) (.bool m2) (.bool z2)) := TB9.out.grw G10 (by simp; omega)
 have TX10 : Hid (Tri X10 bX (.bool x.neg) (.slice q3 x.mag.length d3) (.int .i64 x.exp)) := TX9.out.grw G10 (by simp; omega)
 have OX10 : Hid (Own X10 gx kx (x.mag ++ [-71, -72, -73])) := OX9.out.grw hG10 (by omega)
 have RN10 : Hid (Rw X10 (.slice srn rn.mag.length trn) 3 (ints rn.mag)) := RN9.out.grwS G10 (fun b hb h => by have := BN.out b hb; simp at h; omega)
 have Tn10 : Hid (Hex X10 pN (.bool rn.neg) (.slice srn rn.mag.length trn) (.int .i64 rn.exp) (.bool nP) (.bool nM) (.bool nZ)) := Tn9.out.grw G10 (by simp; omega)
 have RM10 : Hid (Rw X10 (.slice srm rm.mag.length trm) 3 (ints rm.mag)) := RM9.out.grwS G10 (fun b hb h => by have := BM.out b hb; simp at h; omega)
 have Tm10 : Hid (Hex X10 pM (.bool rm.neg) (.slice srm rm.mag.length trm) (.int .i64 rm.exp) (.bool mP) (.bool mM) (.bool mZ)) := Tm9.out.grw G10 (by simp; omega)
 have RR10 : Hid (Rw X10 (.slice srr rr.mag.length trr) 3 (ints rr.mag)) := RR9.out.grwS G10 (fun b hb h => by have := BR.out b hb; simp at h; omega)
 have Tr10 : Hid (Hex X10 pR (.bool rr.neg) (.slice srr rr.mag.length trr) (.int .i64 rr.exp) (.bool rP) (.bool rM) (.bool rZ)) := Tr9.out.grw G10 (by simp; omega)
 have HK10 : Hid (KeepAt w0 X10 kb vL vW E) := HK9.out.grwS G10 (fun b hb h => by have := HLt.out b hb; simp at h; omega) (fun b hb => by simp at hb; omega)
 clear TA9 TB9 TX9 OB9 OX9 RN9 Tn9 RM9 Tm9 RR9 Tr9 HK9
 obtain ⟨⟨c0, c1⟩, c2⟩ := TX10.out.now
 go_wp2_with fail
 refine (HBK3.out _ gx kx K10 OX10.out).mono ?_
 rintro e X11 ⟨rfl, hG11⟩
 have G11 : GrwS [gx] X10 X11 := hG11.toS
 have GW11 : GrwS (kb :: (blk vL ++ blk vW)) w X11 := GW10.then G11 (fun i hi => .inr (by simp at hi; omega))
 have K11 : Kept w0 X11 := K10.grwS (fun i hi => by simp at hi; omega) G11
 have hmono11 : X10.heap.size ≤ X11.heap.size := G11.size
 clear c0 c1 c2
 have TA11 : Hid (Hex X11 bA (.bool a.neg) (.slice q1 a.mag.length d1) (.int .i64 a.exp) (.bool p1) (.bool m1) (.bool z1)) := TA10.out.grw G11 (by simp; omega)
 have TB11 : Hid (Hex X11 bB (.bool b.neg) (.slice q2 b.mag.length d2) (.int .i64 b.exp) (.bool p2) (.bool m2) (.bool z2)) := TB10.out.grw G11 (by simp; omega)
 have TX11 : Hid (Tri X11 bX (.bool x.neg) (.slice q3 x.mag.length d3) (.int .i64 x.exp)) := TX10.out.grw G11 (by simp; omega)
 have RN11 : Hid (Rw X11 (.slice srn rn.mag.length trn) 3 (ints rn.mag)) := RN10.out.grwS G11 (fun b hb h => by have := BN.out b hb; simp at h; omega)
 have Tn11 : Hid (Hex X11 pN (.bool rn.neg) (.slice srn rn.mag.length trn) (.int .i64 rn.exp) (.bool nP) (.bool nM) (.bool nZ)) := Tn10.out.grw G11 (by simp; omega)
 have RM11 : Hid (Rw X11 (.slice srm rm.mag.length trm) 3 (ints rm.mag)) := RM10.out.grwS G11 (fun b hb h => by have := BM.out b hb; simp at h; omega)
 have Tm11 : Hid (Hex X11 pM (.bool rm.neg) (.slice srm rm.mag.length trm) (.int .i64 rm.exp) (.bool mP) (.bool mM) (.bool mZ)) := Tm10.out.grw G11 (by simp; omega)
 have RR11 : Hid (Rw X11 (.slice srr rr.mag.length trr) 3 (ints rr.mag)) := RR10.out.grwS G11 (fun b hb h => by have := BR.out b hb; simp at h; omega)
 have Tr11 : Hid (Hex X11 pR (.bool rr.neg) (.slice srr rr.mag.length trr) (.int .i64 rr.exp) (.bool rP) (.bool rM) (.bool rZ)) := Tr10.out.grw G11 (by simp; omega)
 have HK11 : Hid (KeepAt w0 X11 kb vL vW E) := HK10.out.grwS G11 (fun b hb h => by have := HLt.out b hb; simp at h; omega) (fun b hb => by simp at hb; omega)
 clear TA10 TB10 TX10 OX10 RN10 Tn10 RM10 Tm10 RR10 Tr10 HK10
 clear HBK1 HBK2 HBK3 hG9 hG10 hG11 G9 G10 G11 GW9 GW10 K9 K10 k8 g8
 have RGA : Hid (Rg a.mag) := RGA9.out
 cases hva : vld a with
 | false =>
  have h0 : Kept X11 X11 := Kept.refl _
  obtain ⟨c0, c1, c2, c3, c4, c5⟩ := TA11.out.now
  go_wp2_with fail
  refine (KVa.out _ K11).mono ?_
  rintro e y1 ⟨rfl, j1⟩
  clear c0 c1 c2 c3 c4 c5
  rw [hva]
  go_upto_region 20 with fail
  obtain ⟨Y4, hY4⟩ : ∃ Y, Y = ((y1.alloc (.cells #[.bool false, .slice none 0 0, .int .i64 0, .bool false, .bool false, .bool false] 26)).alloc (.cells #[.bool false, .slice none 0 0, .int .i64 0, .bool false, .bool false, .bool false] 26)).alloc (.cells #[.bool false, .slice none 0 0, .int .i64 0, .bool false, .bool false, .bool false] 26) := ⟨_, rfl⟩
  obtain ⟨bU, hbU⟩ : ∃ n, n = y1.heap.size := ⟨_, rfl⟩
  obtain ⟨bV, hbV⟩ : ∃ n, n = y1.heap.size + 1 := ⟨_, rfl⟩
  obtain ⟨bW, hbW⟩ : ∃ n, n = y1.heap.size + 1 + 1 := ⟨_, rfl⟩
  have hs4 : Y4.heap.size = y1.heap.size + 3 := by rw [hY4]; simp
  have hm4 : X11.heap.size ≤ y1.heap.size := j1.below.size
  have kY4 : Kept X11 Y4 := by rw [hY4]; exact ((j1.alloc _ _).alloc _ _).alloc _ _
  have VU4 : Hid (VB Y4 bU (.bool false) (.slice none 0 0) (.int .i64 0) (.bool false) (.bool false) (.bool false)) := by
   have hlt : bU < Y4.heap.size := by omega
   refine ⟨?_, ?_, ?_, ?_, ?_, ?_, fun o => ?_, hlt⟩
   all_goals (rw [hY4, hbU]; simp [go_sem])
  have VV4 : Hid (VB Y4 bV (.bool false) (.slice none 0 0) (.int .i64 0) (.bool false) (.bool false) (.bool false)) := by
   have hlt : bV < Y4.heap.size := by omega
   refine ⟨?_, ?_, ?_, ?_, ?_, ?_, fun o => ?_, hlt⟩
   all_goals (rw [hY4, hbV]; simp [go_sem])
  have VW4 : Hid (VB Y4 bW (.bool false) (.slice none 0 0) (.int .i64 0) (.bool false) (.bool false) (.bool false)) := by
   have hlt : bW < Y4.heap.size := by omega
   refine ⟨?_, ?_, ?_, ?_, ?_, ?_, fun o => ?_, hlt⟩
   all_goals (rw [hY4, hbW]; simp [go_sem])
  rw [← hY4, ← hbW, ← hbV, ← hbU]
  have hb4 : X11.heap.size ≤ bU ∧ bU < bV ∧ bV < bW ∧ bW < Y4.heap.size := by omega
  clear hY4 hbU hbV hbW
  go_upto_region 26 with fail
  obtain ⟨c0, c1, c2, c3, c4, c5⟩ := (TA11.out.kept kY4).now
  obtain ⟨d0, d1, d2, d3, d4, d5⟩ := (TB11.out.kept kY4).now
  go_wp2_with fail
  refine (HRS.out _ (K11.trans kY4)).mono ?_
  rintro e y8 ⟨rfl, i8⟩
  clear c0 c1 c2 c3 c4 c5 d0 d1 d2 d3 d4 d5
  have k8 : Kept X11 y8 := kY4.trans i8
  have hm8 : Y4.heap.size ≤ y8.heap.size := i8.below.size
  have esm : (smA a b p1 m1 z1 p2 m2 z2 == smA a b p1 m1 z1 p2 m2 z2) = true := by simp
  generalize smA a b p1 m1 z1 p2 m2 z2 = sm at *
  have VU8 : Hid (VB y8 bU (.bool false) (.slice none 0 0) (.int .i64 0) (.bool false) (.bool false) (.bool false)) := VU4.out.kept i8
  have VV8 : Hid (VB y8 bV (.bool false) (.slice none 0 0) (.int .i64 0) (.bool false) (.bool false) (.bool false)) := VV4.out.kept i8
  have VW8 : Hid (VB y8 bW (.bool false) (.slice none 0 0) (.int .i64 0) (.bool false) (.bool false) (.bool false)) := VW4.out.kept i8
  have HKy : Hid (KeepAt w0 y8 kb vL vW E) := HK11.out.keptOn k8
  have F0 : Hid (Frn w0 y8 kb vL vW E [] E.length y8) := Frn.start HKy.out
  have HIN : Hid (∀ c, c ∈ kb :: (blk vL ++ blk vW) → w0.heap.size ≤ c ∧ c < w.heap.size) := fun c hc => ⟨HNw.out c (head_blks hc), HLt.out c (head_blks hc)⟩
  have h48 : Y4.heap.size ≤ y8.heap.size := by omega
  have G19 : GrwS (kb :: (blk vL ++ blk vW)) y8 y8 := F0.out.grw
  obtain ⟨c0, c1, c2, c3, c4, c5⟩ := (((Tn11.out.kept k8)).grw G19 (fun h => by have := HIN.out _ h; omega)).now
  obtain ⟨g0, g1, g2, g3, g4, g5, -, -⟩ := VU8.out.grwS G19 (fun h => by have := HIN.out _ h; omega)
  go_wp2_with fail
  have hf1 : E.length < 300 := by omega
  have hw1 : RLp (fun b => b < y8.heap.size ∧ b ∉ kb :: (blk vL ++ blk vW)) y8 (.slice none (⟨false, [], 0⟩ : Nm).mag.length 0) (⟨false, [], 0⟩ : Nm).mag := RLp.nil _ _
  have ha1 : (7 : Int) ≠ 0 ∧ rn = ⟨false, [], 0⟩ ∧ ne = 7 ∧ nP = false ∧ nM = false ∧ nZ = false ∨ (7 : Int) = 0 ∧ (if vld (⟨false, [], 0⟩ : Nm) = true then rn = (⟨false, [], 0⟩ : Nm) ∧ ne = 0 ∧ nP = false ∧ nM = false ∧ nZ = false else rn = ⟨false, [], 0⟩ ∧ ne = 2 ∧ nP = false ∧ nM = false ∧ nZ = false) := .inl ⟨by decide, HhNb.out (by rw [hva]; rfl)⟩
  refine (is3_at w0 y8 kb vL vW E [] (E.length) y8 _ F0.out (Kept.refl _) hf1 rn ne nP nM nZ srn trn (RN11.out.kept k8) (fun b hb h => by have := HLt.out b h; have := BN.out b hb; omega) (fun b hb h => by cases h) (fun b hb => by have := BN.out b hb; omega) (⟨false, [], 0⟩ : Nm) none 0 false false false hw1 (by intro d hd; cases hd) (by simp) 7 ha1).mono ?_
  rintro e uz1 ⟨rfl, F1'⟩
  clear c0 c1 c2 c3 c4 c5 g0 g1 g2 g3 g4 g5
  have F1 : Hid (Frn w0 y8 kb vL vW E ([] ++ blk (.slice srn rn.mag.length trn)) (E.length + 1) uz1) := F1'
  clear F1'
  have G29 : GrwS (kb :: (blk vL ++ blk vW)) y8 uz1 := F1.out.grw
  obtain ⟨c0, c1, c2, c3, c4, c5⟩ := (((Tm11.out.kept k8)).grw G29 (fun h => by have := HIN.out _ h; omega)).now
  obtain ⟨g0, g1, g2, g3, g4, g5, -, -⟩ := VV8.out.grwS G29 (fun h => by have := HIN.out _ h; omega)
  go_wp2_with fail
  have hf2 : E.length + 1 < 300 := by omega
  have hw2 : RLp (fun b => b < y8.heap.size ∧ b ∉ kb :: (blk vL ++ blk vW)) uz1 (.slice none (⟨false, [], 0⟩ : Nm).mag.length 0) (⟨false, [], 0⟩ : Nm).mag := RLp.nil _ _
  have ha2 : (7 : Int) ≠ 0 ∧ rm = ⟨false, [], 0⟩ ∧ me = 7 ∧ mP = false ∧ mM = false ∧ mZ = false ∨ (7 : Int) = 0 ∧ (if vld (⟨false, [], 0⟩ : Nm) = true then rm = (⟨false, [], 0⟩ : Nm) ∧ me = 0 ∧ mP = false ∧ mM = false ∧ mZ = false else rm = ⟨false, [], 0⟩ ∧ me = 2 ∧ mP = false ∧ mM = false ∧ mZ = false) := .inl ⟨by decide, HhMb.out (by rw [hva]; rfl)⟩
  refine (is3_at w0 y8 kb vL vW E ([] ++ blk (.slice srn rn.mag.length trn)) (E.length + 1) uz1 _ F1.out (Kept.refl _) hf2 rm me mP mM mZ srm trm (RM11.out.kept k8) (fun b hb h => by have := HLt.out b h; have := BM.out b hb; omega) (fun b hb h => by have q1 := BM.out b hb; have q2 := BN.out b (by simpa using h); omega) (fun b hb => by have := BM.out b hb; omega) (⟨false, [], 0⟩ : Nm) none 0 false false false hw2 (by intro d hd; cases hd) (by simp) 7 ha2).mono ?_
  rintro e uz2 ⟨rfl, F2'⟩
  clear c0 c1 c2 c3 c4 c5 g0 g1 g2 g3 g4 g5
  have F2 : Hid (Frn w0 y8 kb vL vW E (([] ++ blk (.slice srn rn.mag.length trn)) ++ blk (.slice srm rm.mag.length trm)) (E.length + 1 + 1) uz2) := F2'
  clear F2'
  have G39 : GrwS (kb :: (blk vL ++ blk vW)) y8 uz2 := F2.out.grw
  obtain ⟨c0, c1, c2, c3, c4, c5⟩ := (((Tr11.out.kept k8)).grw G39 (fun h => by have := HIN.out _ h; omega)).now
  obtain ⟨g0, g1, g2, g3, g4, g5, -, -⟩ := VW8.out.grwS G39 (fun h => by have := HIN.out _ h; omega)
  go_wp2_with fail
  have hf3 : E.length + 2 < 300 := by omega
  have hw3 : RLp (fun b => b < y8.heap.size ∧ b ∉ kb :: (blk vL ++ blk vW)) uz2 (.slice none (⟨false, [], 0⟩ : Nm).mag.length 0) (⟨false, [], 0⟩ : Nm).mag := RLp.nil _ _
  have ha3 : (7 : Int) ≠ 0 ∧ rr = ⟨false, [], 0⟩ ∧ re = 7 ∧ rP = false ∧ rM = false ∧ rZ = false ∨ (7 : Int) = 0 ∧ (if vld (⟨false, [], 0⟩ : Nm) = true then rr = (⟨false, [], 0⟩ : Nm) ∧ re = 0 ∧ rP = false ∧ rM = false ∧ rZ = false else rr = ⟨false, [], 0⟩ ∧ re = 2 ∧ rP = false ∧ rM = false ∧ rZ = false) := .inl ⟨by decide, HhRb.out hva⟩
  refine (is3_at w0 y8 kb vL vW E (([] ++ blk (.slice srn rn.mag.length trn)) ++ blk (.slice srm rm.mag.length trm)) (E.length + 1 + 1) uz2 _ F2.out (Kept.refl _) hf3 rr re rP rM rZ srr trr (RR11.out.kept k8) (fun b hb h => by have := HLt.out b h; have := BR.out b hb; omega) (fun b hb h => by have q1 := BR.out b hb; rcases List.mem_append.1 h with h | h; (have q2 := BN.out b (by simpa using h); omega); (have q2 := BM.out b h; omega)) (fun b hb => by have := BR.out b hb; omega) (⟨false, [], 0⟩ : Nm) none 0 false false false hw3 (by intro d hd; cases hd) (by simp) 7 ha3).mono ?_
  rintro e uz3 ⟨rfl, F3'⟩
  clear c0 c1 c2 c3 c4 c5 g0 g1 g2 g3 g4 g5
  have F3 : Hid (Frn w0 y8 kb vL vW E ((([] ++ blk (.slice srn rn.mag.length trn)) ++ blk (.slice srm rm.mag.length trm)) ++ blk (.slice srr rr.mag.length trr)) (E.length + 1 + 1 + 1) uz3) := F3'
  clear F3'
  go_wp2_with fail
  go_ret
  obtain ⟨vL', vW', E', h1, h2, h3, -⟩ := F3.out
  exact ⟨rfl, vL', vW', E', h1, by omega, GW11.then ((k8.toS _).trans h3) (fun i hi => .inl hi)⟩
 | true =>
  cases hvx : vld x with
  | false =>
   cases hvb : vld b with
   | false =>
    have h0 : Kept X11 X11 := Kept.refl _
    obtain ⟨c0, c1, c2, c3, c4, c5⟩ := TA11.out.now
    go_wp2_with fail
    refine (KVa.out _ K11).mono ?_
    rintro e y1 ⟨rfl, j1⟩
    clear c0 c1 c2 c3 c4 c5
    rw [hva]
    obtain ⟨⟨c0, c1⟩, c2⟩ := (TX11.out.kept j1).now
    go_wp2_with fail
    refine (KVx.out _ (K11.trans j1)).mono ?_
    rintro e y2 ⟨rfl, i2⟩
    have j2 := j1.trans i2
    clear c0 c1 c2
    rw [hvx]
    obtain ⟨c0, c1, c2, c3, c4, c5⟩ := (TB11.out.kept j2).now
    go_wp2_with fail
    refine (KVb.out _ (K11.trans j2)).mono ?_
    rintro e y3 ⟨rfl, i3⟩
    have j3 := j2.trans i3
    clear c0 c1 c2 c3 c4 c5
    rw [hvb]
    go_upto_region 20 with fail
    obtain ⟨Y4, hY4⟩ : ∃ Y, Y = ((y3.alloc (.cells #[.bool false, .slice none 0 0, .int .i64 0, .bool false, .bool false, .bool false] 26)).alloc (.cells #[.bool false, .slice none 0 0, .int .i64 0, .bool false, .bool false, .bool false] 26)).alloc (.cells #[.bool false, .slice none 0 0, .int .i64 0, .bool false, .bool false, .bool false] 26) := ⟨_, rfl⟩
    obtain ⟨bU, hbU⟩ : ∃ n, n = y3.heap.size := ⟨_, rfl⟩
    obtain ⟨bV, hbV⟩ : ∃ n, n = y3.heap.size + 1 := ⟨_, rfl⟩
    obtain ⟨bW, hbW⟩ : ∃ n, n = y3.heap.size + 1 + 1 := ⟨_, rfl⟩
    have hs4 : Y4.heap.size = y3.heap.size + 3 := by rw [hY4]; simp
    have hm4 : X11.heap.size ≤ y3.heap.size := j3.below.size
    have kY4 : Kept X11 Y4 := by rw [hY4]; exact ((j3.alloc _ _).alloc _ _).alloc _ _
    have VU4 : Hid (VB Y4 bU (.bool false) (.slice none 0 0) (.int .i64 0) (.bool false) (.bool false) (.bool false)) := by
     have hlt : bU < Y4.heap.size := by omega
     refine ⟨?_, ?_, ?_, ?_, ?_, ?_, fun o => ?_, hlt⟩
     all_goals (rw [hY4, hbU]; simp [go_sem])
    have VV4 : Hid (VB Y4 bV (.bool false) (.slice none 0 0) (.int .i64 0) (.bool false) (.bool false) (.bool false)) := by
     have hlt : bV < Y4.heap.size := by omega
     refine ⟨?_, ?_, ?_, ?_, ?_, ?_, fun o => ?_, hlt⟩
     all_goals (rw [hY4, hbV]; simp [go_sem])
    have VW4 : Hid (VB Y4 bW (.bool false) (.slice none 0 0) (.int .i64 0) (.bool false) (.bool false) (.bool false)) := by
     have hlt : bW < Y4.heap.size := by omega
     refine ⟨?_, ?_, ?_, ?_, ?_, ?_, fun o => ?_, hlt⟩
     all_goals (rw [hY4, hbW]; simp [go_sem])
    rw [← hY4, ← hbW, ← hbV, ← hbU]
    have hb4 : X11.heap.size ≤ bU ∧ bU < bV ∧ bV < bW ∧ bW < Y4.heap.size := by omega
    clear hY4 hbU hbV hbW
    obtain ⟨c0, c1, c2, c3, c4, c5⟩ := (TA11.out.kept kY4).now
    go_wp2_with fail
    refine (KUN.out _).mono ?_
    rintro e y5 ⟨rfl, i5⟩
    clear c0 c1 c2 c3 c4 c5
    have jj5 : Kept X11 y5 := kY4.trans i5
    have VUy := VU4.out.kept i5
    have VVy := VV4.out.kept i5
    have VWy := VW4.out.kept i5
    obtain ⟨g0, g1, g2, g3, g4, g5, g6, g7⟩ := VWy
    go_upto_region 26 with fail
    have VWy : VB y5 bW (.bool false) (.slice none 0 0) (.int .i64 0) (.bool false) (.bool false) (.bool false) := ⟨g0, g1, g2, g3, g4, g5, g6, g7⟩
    clear g0 g1 g2 g3 g4 g5 g6 g7
    obtain ⟨Y5, hY⟩ : ∃ Y, Y = Go.Proofs.YtoflafgbbjinpaaGreatDoor.six y5 bW (.bool tn) (.slice q1 a.mag.length d1) (.int .i64 a.exp) (.bool m1) (.bool p1) (.bool z1) := ⟨_, rfl⟩
    have e4 := hY
    unfold Go.Proofs.YtoflafgbbjinpaaGreatDoor.six at e4
    rw [← e4]
    have kY5 : Kept X11 Y5 := by rw [hY]; exact kept_six1 bW (by omega) jj5 _ _ _ _ _ _
    have hz5 : Y4.heap.size ≤ Y5.heap.size := by have := i5.below.size; rw [hY]; simp; omega
    have VU5 : Hid (VB Y5 bU (.bool false) (.slice none 0 0) (.int .i64 0) (.bool false) (.bool false) (.bool false)) := by rw [hY]; exact VUy.other bW (by omega) _ _ _ _ _ _
    have VV5 : Hid (VB Y5 bV (.bool false) (.slice none 0 0) (.int .i64 0) (.bool false) (.bool false) (.bool false)) := by rw [hY]; exact VVy.other bW (by omega) _ _ _ _ _ _
    have VW5 : Hid (VB Y5 bW (.bool tn) (.slice q1 a.mag.length d1) (.int .i64 a.exp) (.bool m1) (.bool p1) (.bool z1)) := by rw [hY]; exact VWy.set _ _ _ _ _ _
    clear hY e4 VU4 VV4 VW4 VUy VVy VWy i5 jj5
    go_upto_region 26 with fail
    obtain ⟨c0, c1, c2, c3, c4, c5⟩ := (TA11.out.kept kY5).now
    obtain ⟨d0, d1, d2, d3, d4, d5⟩ := (TB11.out.kept kY5).now
    go_wp2_with fail
    refine (HRS.out _ (K11.trans kY5)).mono ?_
    rintro e y8 ⟨rfl, i8⟩
    clear c0 c1 c2 c3 c4 c5 d0 d1 d2 d3 d4 d5
    have k8 : Kept X11 y8 := kY5.trans i8
    have hm8 : Y5.heap.size ≤ y8.heap.size := i8.below.size
    have esm : (smA a b p1 m1 z1 p2 m2 z2 == smA a b p1 m1 z1 p2 m2 z2) = true := by simp
    generalize smA a b p1 m1 z1 p2 m2 z2 = sm at *
    have VU8 : Hid (VB y8 bU (.bool false) (.slice none 0 0) (.int .i64 0) (.bool false) (.bool false) (.bool false)) := VU5.out.kept i8
    have VV8 : Hid (VB y8 bV (.bool false) (.slice none 0 0) (.int .i64 0) (.bool false) (.bool false) (.bool false)) := VV5.out.kept i8
    have VW8 : Hid (VB y8 bW (.bool tn) (.slice q1 a.mag.length d1) (.int .i64 a.exp) (.bool m1) (.bool p1) (.bool z1)) := VW5.out.kept i8
    have HKy : Hid (KeepAt w0 y8 kb vL vW E) := HK11.out.keptOn k8
    have F0 : Hid (Frn w0 y8 kb vL vW E [] E.length y8) := Frn.start HKy.out
    have HIN : Hid (∀ c, c ∈ kb :: (blk vL ++ blk vW) → w0.heap.size ≤ c ∧ c < w.heap.size) := fun c hc => ⟨HNw.out c (head_blks hc), HLt.out c (head_blks hc)⟩
    have h48 : Y4.heap.size ≤ y8.heap.size := by omega
    have G19 : GrwS (kb :: (blk vL ++ blk vW)) y8 y8 := F0.out.grw
    obtain ⟨c0, c1, c2, c3, c4, c5⟩ := (((Tn11.out.kept k8)).grw G19 (fun h => by have := HIN.out _ h; omega)).now
    obtain ⟨g0, g1, g2, g3, g4, g5, -, -⟩ := VU8.out.grwS G19 (fun h => by have := HIN.out _ h; omega)
    go_wp2_with fail
    have hf1 : E.length < 300 := by omega
    have hw1 : RLp (fun b => b < y8.heap.size ∧ b ∉ kb :: (blk vL ++ blk vW)) y8 (.slice none (⟨false, [], 0⟩ : Nm).mag.length 0) (⟨false, [], 0⟩ : Nm).mag := RLp.nil _ _
    have ha1 : (7 : Int) ≠ 0 ∧ rn = ⟨false, [], 0⟩ ∧ ne = 7 ∧ nP = false ∧ nM = false ∧ nZ = false ∨ (7 : Int) = 0 ∧ (if vld (⟨false, [], 0⟩ : Nm) = true then rn = (⟨false, [], 0⟩ : Nm) ∧ ne = 0 ∧ nP = false ∧ nM = false ∧ nZ = false else rn = ⟨false, [], 0⟩ ∧ ne = 2 ∧ nP = false ∧ nM = false ∧ nZ = false) := .inl ⟨by decide, HhNb.out (by rw [hva, hvx]; rfl)⟩
    refine (is3_at w0 y8 kb vL vW E [] (E.length) y8 _ F0.out (Kept.refl _) hf1 rn ne nP nM nZ srn trn (RN11.out.kept k8) (fun b hb h => by have := HLt.out b h; have := BN.out b hb; omega) (fun b hb h => by cases h) (fun b hb => by have := BN.out b hb; omega) (⟨false, [], 0⟩ : Nm) none 0 false false false hw1 (by intro d hd; cases hd) (by simp) 7 ha1).mono ?_
    rintro e uz1 ⟨rfl, F1'⟩
    clear c0 c1 c2 c3 c4 c5 g0 g1 g2 g3 g4 g5
    have F1 : Hid (Frn w0 y8 kb vL vW E ([] ++ blk (.slice srn rn.mag.length trn)) (E.length + 1) uz1) := F1'
    clear F1'
    have G29 : GrwS (kb :: (blk vL ++ blk vW)) y8 uz1 := F1.out.grw
    obtain ⟨c0, c1, c2, c3, c4, c5⟩ := (((Tm11.out.kept k8)).grw G29 (fun h => by have := HIN.out _ h; omega)).now
    obtain ⟨g0, g1, g2, g3, g4, g5, -, -⟩ := VV8.out.grwS G29 (fun h => by have := HIN.out _ h; omega)
    go_wp2_with fail
    have hf2 : E.length + 1 < 300 := by omega
    have hw2 : RLp (fun b => b < y8.heap.size ∧ b ∉ kb :: (blk vL ++ blk vW)) uz1 (.slice none (⟨false, [], 0⟩ : Nm).mag.length 0) (⟨false, [], 0⟩ : Nm).mag := RLp.nil _ _
    have ha2 : (7 : Int) ≠ 0 ∧ rm = ⟨false, [], 0⟩ ∧ me = 7 ∧ mP = false ∧ mM = false ∧ mZ = false ∨ (7 : Int) = 0 ∧ (if vld (⟨false, [], 0⟩ : Nm) = true then rm = (⟨false, [], 0⟩ : Nm) ∧ me = 0 ∧ mP = false ∧ mM = false ∧ mZ = false else rm = ⟨false, [], 0⟩ ∧ me = 2 ∧ mP = false ∧ mM = false ∧ mZ = false) := .inl ⟨by decide, HhMb.out (by rw [hva, hvb]; rfl)⟩
    refine (is3_at w0 y8 kb vL vW E ([] ++ blk (.slice srn rn.mag.length trn)) (E.length + 1) uz1 _ F1.out (Kept.refl _) hf2 rm me mP mM mZ srm trm (RM11.out.kept k8) (fun b hb h => by have := HLt.out b h; have := BM.out b hb; omega) (fun b hb h => by have q1 := BM.out b hb; have q2 := BN.out b (by simpa using h); omega) (fun b hb => by have := BM.out b hb; omega) (⟨false, [], 0⟩ : Nm) none 0 false false false hw2 (by intro d hd; cases hd) (by simp) 7 ha2).mono ?_
    rintro e uz2 ⟨rfl, F2'⟩
    clear c0 c1 c2 c3 c4 c5 g0 g1 g2 g3 g4 g5
    have F2 : Hid (Frn w0 y8 kb vL vW E (([] ++ blk (.slice srn rn.mag.length trn)) ++ blk (.slice srm rm.mag.length trm)) (E.length + 1 + 1) uz2) := F2'
    clear F2'
    have G39 : GrwS (kb :: (blk vL ++ blk vW)) y8 uz2 := F2.out.grw
    obtain ⟨c0, c1, c2, c3, c4, c5⟩ := (((Tr11.out.kept k8)).grw G39 (fun h => by have := HIN.out _ h; omega)).now
    obtain ⟨g0, g1, g2, g3, g4, g5, -, -⟩ := VW8.out.grwS G39 (fun h => by have := HIN.out _ h; omega)
    go_wp2_with fail
    have hf3 : E.length + 2 < 300 := by omega
    have hw3 : RLp (fun b => b < y8.heap.size ∧ b ∉ kb :: (blk vL ++ blk vW)) uz2 (.slice q1 a.mag.length d1) a.mag := ((HQ1.out _ (K11.trans k8)).imp (fun c h => ⟨by have := K11.below.size; have := k8.below.size; omega, fun hm => by have := HIN.out _ hm; omega⟩)).grwS G39 (fun c h => h.2)
    have ha3 : (0 : Int) ≠ 0 ∧ rr = ⟨false, [], 0⟩ ∧ re = 0 ∧ rP = false ∧ rM = false ∧ rZ = false ∨ (0 : Int) = 0 ∧ (if vld (⟨tn, a.mag, a.exp⟩ : Nm) = true then rr = (⟨tn, a.mag, a.exp⟩ : Nm) ∧ re = 0 ∧ rP = m1 ∧ rM = p1 ∧ rZ = z1 else rr = ⟨false, [], 0⟩ ∧ re = 2 ∧ rP = false ∧ rM = false ∧ rZ = false) := .inr ⟨rfl, by rw [if_pos (TRV.out hva)]; exact HhRo.out hva⟩
    refine (is3_at w0 y8 kb vL vW E (([] ++ blk (.slice srn rn.mag.length trn)) ++ blk (.slice srm rm.mag.length trm)) (E.length + 1 + 1) uz2 _ F2.out (Kept.refl _) hf3 rr re rP rM rZ srr trr (RR11.out.kept k8) (fun b hb h => by have := HLt.out b h; have := BR.out b hb; omega) (fun b hb h => by have q1 := BR.out b hb; rcases List.mem_append.1 h with h | h; (have q2 := BN.out b (by simpa using h); omega); (have q2 := BM.out b h; omega)) (fun b hb => by have := BR.out b hb; omega) (⟨tn, a.mag, a.exp⟩ : Nm) q1 d1 m1 p1 z1 hw3 RGA.out (show a.mag.length < 10000000 by omega) 0 ha3).mono ?_
    rintro e uz3 ⟨rfl, F3'⟩
    clear c0 c1 c2 c3 c4 c5 g0 g1 g2 g3 g4 g5
    have F3 : Hid (Frn w0 y8 kb vL vW E ((([] ++ blk (.slice srn rn.mag.length trn)) ++ blk (.slice srm rm.mag.length trm)) ++ blk (.slice srr rr.mag.length trr)) (E.length + 1 + 1 + 1) uz3) := F3'
    clear F3'
    go_wp2_with fail
    go_ret
    obtain ⟨vL', vW', E', h1, h2, h3, -⟩ := F3.out
    exact ⟨rfl, vL', vW', E', h1, by omega, GW11.then ((k8.toS _).trans h3) (fun i hi => .inl hi)⟩
   | true =>
    have h0 : Kept X11 X11 := Kept.refl _
    obtain ⟨c0, c1, c2, c3, c4, c5⟩ := TA11.out.now
    go_wp2_with fail
    refine (KVa.out _ K11).mono ?_
    rintro e y1 ⟨rfl, j1⟩
    clear c0 c1 c2 c3 c4 c5
    rw [hva]
    obtain ⟨⟨c0, c1⟩, c2⟩ := (TX11.out.kept j1).now
    go_wp2_with fail
    refine (KVx.out _ (K11.trans j1)).mono ?_
    rintro e y2 ⟨rfl, i2⟩
    have j2 := j1.trans i2
    clear c0 c1 c2
    rw [hvx]
    obtain ⟨c0, c1, c2, c3, c4, c5⟩ := (TB11.out.kept j2).now
    go_wp2_with fail
    refine (KVb.out _ (K11.trans j2)).mono ?_
    rintro e y3 ⟨rfl, i3⟩
    have j3 := j2.trans i3
    clear c0 c1 c2 c3 c4 c5
    rw [hvb]
    go_upto_region 20 with fail
    obtain ⟨Y4, hY4⟩ : ∃ Y, Y = ((y3.alloc (.cells #[.bool false, .slice none 0 0, .int .i64 0, .bool false, .bool false, .bool false] 26)).alloc (.cells #[.bool false, .slice none 0 0, .int .i64 0, .bool false, .bool false, .bool false] 26)).alloc (.cells #[.bool false, .slice none 0 0, .int .i64 0, .bool false, .bool false, .bool false] 26) := ⟨_, rfl⟩
    obtain ⟨bU, hbU⟩ : ∃ n, n = y3.heap.size := ⟨_, rfl⟩
    obtain ⟨bV, hbV⟩ : ∃ n, n = y3.heap.size + 1 := ⟨_, rfl⟩
    obtain ⟨bW, hbW⟩ : ∃ n, n = y3.heap.size + 1 + 1 := ⟨_, rfl⟩
    have hs4 : Y4.heap.size = y3.heap.size + 3 := by rw [hY4]; simp
    have hm4 : X11.heap.size ≤ y3.heap.size := j3.below.size
    have kY4 : Kept X11 Y4 := by rw [hY4]; exact ((j3.alloc _ _).alloc _ _).alloc _ _
    have VU4 : Hid (VB Y4 bU (.bool false) (.slice none 0 0) (.int .i64 0) (.bool false) (.bool false) (.bool false)) := by
     have hlt : bU < Y4.heap.size := by omega
     refine ⟨?_, ?_, ?_, ?_, ?_, ?_, fun o => ?_, hlt⟩
     all_goals (rw [hY4, hbU]; simp [go_sem])
    have VV4 : Hid (VB Y4 bV (.bool false) (.slice none 0 0) (.int .i64 0) (.bool false) (.bool false) (.bool false)) := by
     have hlt : bV < Y4.heap.size := by omega
     refine ⟨?_, ?_, ?_, ?_, ?_, ?_, fun o => ?_, hlt⟩
     all_goals (rw [hY4, hbV]; simp [go_sem])
    have VW4 : Hid (VB Y4 bW (.bool false) (.slice none 0 0) (.int .i64 0) (.bool false) (.bool false) (.bool false)) := by
     have hlt : bW < Y4.heap.size := by omega
     refine ⟨?_, ?_, ?_, ?_, ?_, ?_, fun o => ?_, hlt⟩
     all_goals (rw [hY4, hbW]; simp [go_sem])
    rw [← hY4, ← hbW, ← hbV, ← hbU]
    have hb4 : X11.heap.size ≤ bU ∧ bU < bV ∧ bV < bW ∧ bW < Y4.heap.size := by omega
    clear hY4 hbU hbV hbW
    obtain ⟨c0, c1, c2, c3, c4, c5⟩ := (TA11.out.kept kY4).now
    obtain ⟨d0, d1, d2, d3, d4, d5⟩ := (TB11.out.kept kY4).now
    go_wp2_with fail
    refine (KUJ.out hva hvb _ (K11.trans kY4)).mono ?_
    rintro e y5 ⟨aVV, cVV, rfl, hsVV, i5⟩
    clear c0 c1 c2 c3 c4 c5 d0 d1 d2 d3 d4 d5
    have jj5 : Kept X11 y5 := kY4.trans i5
    have VUy := VU4.out.kept i5
    have VVy := VV4.out.kept i5
    have VWy := VW4.out.kept i5
    obtain ⟨g0, g1, g2, g3, g4, g5, g6, g7⟩ := VVy
    go_upto_region 24 with fail
    have VVy : VB y5 bV (.bool false) (.slice none 0 0) (.int .i64 0) (.bool false) (.bool false) (.bool false) := ⟨g0, g1, g2, g3, g4, g5, g6, g7⟩
    clear g0 g1 g2 g3 g4 g5 g6 g7
    obtain ⟨Y5, hY⟩ : ∃ Y, Y = Go.Proofs.YtoflafgbbjinpaaGreatDoor.six y5 bV (.bool (pls a b).neg) (.slice aVV (pls a b).mag.length cVV) (.int .i64 (pls a b).exp) (.bool (p1 || p2)) (.bool (m1 || m2)) (.bool (z1 || z2)) := ⟨_, rfl⟩
    have e4 := hY
    unfold Go.Proofs.YtoflafgbbjinpaaGreatDoor.six at e4
    rw [← e4]
    have kY5 : Kept X11 Y5 := by rw [hY]; exact kept_six1 bV (by omega) jj5 _ _ _ _ _ _
    have hz5 : Y4.heap.size ≤ Y5.heap.size := by have := i5.below.size; rw [hY]; simp; omega
    have VU5 : Hid (VB Y5 bU (.bool false) (.slice none 0 0) (.int .i64 0) (.bool false) (.bool false) (.bool false)) := by rw [hY]; exact VUy.other bV (by omega) _ _ _ _ _ _
    have VV5 : Hid (VB Y5 bV (.bool (pls a b).neg) (.slice aVV (pls a b).mag.length cVV) (.int .i64 (pls a b).exp) (.bool (p1 || p2)) (.bool (m1 || m2)) (.bool (z1 || z2))) := by rw [hY]; exact VVy.set _ _ _ _ _ _
    have VW5 : Hid (VB Y5 bW (.bool false) (.slice none 0 0) (.int .i64 0) (.bool false) (.bool false) (.bool false)) := by rw [hY]; exact VWy.other bV (by omega) _ _ _ _ _ _
    have WVV5 : Hid (RLp (fun c => c < w0.heap.size ∨ Y4.heap.size ≤ c) Y5 (.slice aVV (pls a b).mag.length cVV) (pls a b).mag) := by
     have hr : RLp (fun c => c < w0.heap.size ∨ Y4.heap.size ≤ c) y5 (.slice aVV (pls a b).mag.length cVV) (pls a b).mag := hsVV.out.imp (fun c h => h.elim .inl (fun h => .inr (by omega)))
     rw [hY]
     exact rlp_six hr bV (fun c h => by rcases h with h | h <;> omega) _ _ _ _ _ _
    clear hY e4 VU4 VV4 VW4 VUy VVy VWy i5 jj5 hsVV
    obtain ⟨c0, c1, c2, c3, c4, c5⟩ := (TA11.out.kept kY5).now
    go_wp2_with fail
    refine (KUN.out _).mono ?_
    rintro e y6 ⟨rfl, i6⟩
    clear c0 c1 c2 c3 c4 c5
    have jj6 : Kept X11 y6 := kY5.trans i6
    have VUy := VU5.out.kept i6
    have VVy := VV5.out.kept i6
    have VWy := VW5.out.kept i6
    obtain ⟨g0, g1, g2, g3, g4, g5, g6, g7⟩ := VWy
    go_upto_region 26 with fail
    have VWy : VB y6 bW (.bool false) (.slice none 0 0) (.int .i64 0) (.bool false) (.bool false) (.bool false) := ⟨g0, g1, g2, g3, g4, g5, g6, g7⟩
    clear g0 g1 g2 g3 g4 g5 g6 g7
    obtain ⟨Y6, hY⟩ : ∃ Y, Y = Go.Proofs.YtoflafgbbjinpaaGreatDoor.six y6 bW (.bool tn) (.slice q1 a.mag.length d1) (.int .i64 a.exp) (.bool m1) (.bool p1) (.bool z1) := ⟨_, rfl⟩
    have e4 := hY
    unfold Go.Proofs.YtoflafgbbjinpaaGreatDoor.six at e4
    rw [← e4]
    have kY6 : Kept X11 Y6 := by rw [hY]; exact kept_six1 bW (by omega) jj6 _ _ _ _ _ _
    have hz6 : Y5.heap.size ≤ Y6.heap.size := by have := i6.below.size; rw [hY]; simp; omega
    have VU6 : Hid (VB Y6 bU (.bool false) (.slice none 0 0) (.int .i64 0) (.bool false) (.bool false) (.bool false)) := by rw [hY]; exact VUy.other bW (by omega) _ _ _ _ _ _
    have VV6 : Hid (VB Y6 bV (.bool (pls a b).neg) (.slice aVV (pls a b).mag.length cVV) (.int .i64 (pls a b).exp) (.bool (p1 || p2)) (.bool (m1 || m2)) (.bool (z1 || z2))) := by rw [hY]; exact VVy.other bW (by omega) _ _ _ _ _ _
    have VW6 : Hid (VB Y6 bW (.bool tn) (.slice q1 a.mag.length d1) (.int .i64 a.exp) (.bool m1) (.bool p1) (.bool z1)) := by rw [hY]; exact VWy.set _ _ _ _ _ _
    have WVV6 : Hid (RLp (fun c => c < w0.heap.size ∨ Y4.heap.size ≤ c) Y6 (.slice aVV (pls a b).mag.length cVV) (pls a b).mag) := by rw [hY]; exact rlp_six (WVV5.out.kept i6) bW (fun c h => by rcases h with h | h <;> omega) _ _ _ _ _ _
    clear hY e4 VU5 VV5 VW5 WVV5 VUy VVy VWy i6 jj6
    go_upto_region 26 with fail
    obtain ⟨c0, c1, c2, c3, c4, c5⟩ := (TA11.out.kept kY6).now
    obtain ⟨d0, d1, d2, d3, d4, d5⟩ := (TB11.out.kept kY6).now
    go_wp2_with fail
    refine (HRS.out _ (K11.trans kY6)).mono ?_
    rintro e y8 ⟨rfl, i8⟩
    clear c0 c1 c2 c3 c4 c5 d0 d1 d2 d3 d4 d5
    have k8 : Kept X11 y8 := kY6.trans i8
    have hm8 : Y6.heap.size ≤ y8.heap.size := i8.below.size
    have esm : (smA a b p1 m1 z1 p2 m2 z2 == smA a b p1 m1 z1 p2 m2 z2) = true := by simp
    generalize smA a b p1 m1 z1 p2 m2 z2 = sm at *
    have VU8 : Hid (VB y8 bU (.bool false) (.slice none 0 0) (.int .i64 0) (.bool false) (.bool false) (.bool false)) := VU6.out.kept i8
    have VV8 : Hid (VB y8 bV (.bool (pls a b).neg) (.slice aVV (pls a b).mag.length cVV) (.int .i64 (pls a b).exp) (.bool (p1 || p2)) (.bool (m1 || m2)) (.bool (z1 || z2))) := VV6.out.kept i8
    have VW8 : Hid (VB y8 bW (.bool tn) (.slice q1 a.mag.length d1) (.int .i64 a.exp) (.bool m1) (.bool p1) (.bool z1)) := VW6.out.kept i8
    have WVV8 : Hid (RLp (fun c => c < w0.heap.size ∨ Y4.heap.size ≤ c) y8 (.slice aVV (pls a b).mag.length cVV) (pls a b).mag) := WVV6.out.kept i8
    have HKy : Hid (KeepAt w0 y8 kb vL vW E) := HK11.out.keptOn k8
    have F0 : Hid (Frn w0 y8 kb vL vW E [] E.length y8) := Frn.start HKy.out
    have HIN : Hid (∀ c, c ∈ kb :: (blk vL ++ blk vW) → w0.heap.size ≤ c ∧ c < w.heap.size) := fun c hc => ⟨HNw.out c (head_blks hc), HLt.out c (head_blks hc)⟩
    have h48 : Y4.heap.size ≤ y8.heap.size := by omega
    have G19 : GrwS (kb :: (blk vL ++ blk vW)) y8 y8 := F0.out.grw
    obtain ⟨c0, c1, c2, c3, c4, c5⟩ := (((Tn11.out.kept k8)).grw G19 (fun h => by have := HIN.out _ h; omega)).now
    obtain ⟨g0, g1, g2, g3, g4, g5, -, -⟩ := VU8.out.grwS G19 (fun h => by have := HIN.out _ h; omega)
    go_wp2_with fail
    have hf1 : E.length < 300 := by omega
    have hw1 : RLp (fun b => b < y8.heap.size ∧ b ∉ kb :: (blk vL ++ blk vW)) y8 (.slice none (⟨false, [], 0⟩ : Nm).mag.length 0) (⟨false, [], 0⟩ : Nm).mag := RLp.nil _ _
    have ha1 : (7 : Int) ≠ 0 ∧ rn = ⟨false, [], 0⟩ ∧ ne = 7 ∧ nP = false ∧ nM = false ∧ nZ = false ∨ (7 : Int) = 0 ∧ (if vld (⟨false, [], 0⟩ : Nm) = true then rn = (⟨false, [], 0⟩ : Nm) ∧ ne = 0 ∧ nP = false ∧ nM = false ∧ nZ = false else rn = ⟨false, [], 0⟩ ∧ ne = 2 ∧ nP = false ∧ nM = false ∧ nZ = false) := .inl ⟨by decide, HhNb.out (by rw [hva, hvx]; rfl)⟩
    refine (is3_at w0 y8 kb vL vW E [] (E.length) y8 _ F0.out (Kept.refl _) hf1 rn ne nP nM nZ srn trn (RN11.out.kept k8) (fun b hb h => by have := HLt.out b h; have := BN.out b hb; omega) (fun b hb h => by cases h) (fun b hb => by have := BN.out b hb; omega) (⟨false, [], 0⟩ : Nm) none 0 false false false hw1 (by intro d hd; cases hd) (by simp) 7 ha1).mono ?_
    rintro e uz1 ⟨rfl, F1'⟩
    clear c0 c1 c2 c3 c4 c5 g0 g1 g2 g3 g4 g5
    have F1 : Hid (Frn w0 y8 kb vL vW E ([] ++ blk (.slice srn rn.mag.length trn)) (E.length + 1) uz1) := F1'
    clear F1'
    have G29 : GrwS (kb :: (blk vL ++ blk vW)) y8 uz1 := F1.out.grw
    obtain ⟨c0, c1, c2, c3, c4, c5⟩ := (((Tm11.out.kept k8)).grw G29 (fun h => by have := HIN.out _ h; omega)).now
    obtain ⟨g0, g1, g2, g3, g4, g5, -, -⟩ := VV8.out.grwS G29 (fun h => by have := HIN.out _ h; omega)
    go_wp2_with fail
    have hf2 : E.length + 1 < 300 := by omega
    have hw2 : RLp (fun b => b < y8.heap.size ∧ b ∉ kb :: (blk vL ++ blk vW)) uz1 (.slice aVV (pls a b).mag.length cVV) (pls a b).mag := (WVV8.out.low.imp (fun c h => ⟨h.2, fun hm => by have := HIN.out _ hm; have := h.1; omega⟩)).grwS G29 (fun c h => h.2)
    have ha2 : (0 : Int) ≠ 0 ∧ rm = ⟨false, [], 0⟩ ∧ me = 0 ∧ mP = false ∧ mM = false ∧ mZ = false ∨ (0 : Int) = 0 ∧ (if vld (pls a b) = true then rm = (pls a b) ∧ me = 0 ∧ mP = (p1 || p2) ∧ mM = (m1 || m2) ∧ mZ = (z1 || z2) else rm = ⟨false, [], 0⟩ ∧ me = 2 ∧ mP = false ∧ mM = false ∧ mZ = false) := .inr ⟨rfl, HhMo.out (by rw [hva, hvb]; rfl)⟩
    refine (is3_at w0 y8 kb vL vW E ([] ++ blk (.slice srn rn.mag.length trn)) (E.length + 1) uz1 _ F1.out (Kept.refl _) hf2 rm me mP mM mZ srm trm (RM11.out.kept k8) (fun b hb h => by have := HLt.out b h; have := BM.out b hb; omega) (fun b hb h => by have q1 := BM.out b hb; have q2 := BN.out b (by simpa using h); omega) (fun b hb => by have := BM.out b hb; omega) (pls a b) aVV cVV (p1 || p2) (m1 || m2) (z1 || z2) hw2 (HPL.out.2 hva hvb).1 (HPL.out.2 hva hvb).2 0 ha2).mono ?_
    rintro e uz2 ⟨rfl, F2'⟩
    clear c0 c1 c2 c3 c4 c5 g0 g1 g2 g3 g4 g5
    have F2 : Hid (Frn w0 y8 kb vL vW E (([] ++ blk (.slice srn rn.mag.length trn)) ++ blk (.slice srm rm.mag.length trm)) (E.length + 1 + 1) uz2) := F2'
    clear F2'
    have G39 : GrwS (kb :: (blk vL ++ blk vW)) y8 uz2 := F2.out.grw
    obtain ⟨c0, c1, c2, c3, c4, c5⟩ := (((Tr11.out.kept k8)).grw G39 (fun h => by have := HIN.out _ h; omega)).now
    obtain ⟨g0, g1, g2, g3, g4, g5, -, -⟩ := VW8.out.grwS G39 (fun h => by have := HIN.out _ h; omega)
    go_wp2_with fail
    have hf3 : E.length + 2 < 300 := by omega
    have hw3 : RLp (fun b => b < y8.heap.size ∧ b ∉ kb :: (blk vL ++ blk vW)) uz2 (.slice q1 a.mag.length d1) a.mag := ((HQ1.out _ (K11.trans k8)).imp (fun c h => ⟨by have := K11.below.size; have := k8.below.size; omega, fun hm => by have := HIN.out _ hm; omega⟩)).grwS G39 (fun c h => h.2)
    have ha3 : (0 : Int) ≠ 0 ∧ rr = ⟨false, [], 0⟩ ∧ re = 0 ∧ rP = false ∧ rM = false ∧ rZ = false ∨ (0 : Int) = 0 ∧ (if vld (⟨tn, a.mag, a.exp⟩ : Nm) = true then rr = (⟨tn, a.mag, a.exp⟩ : Nm) ∧ re = 0 ∧ rP = m1 ∧ rM = p1 ∧ rZ = z1 else rr = ⟨false, [], 0⟩ ∧ re = 2 ∧ rP = false ∧ rM = false ∧ rZ = false) := .inr ⟨rfl, by rw [if_pos (TRV.out hva)]; exact HhRo.out hva⟩
    refine (is3_at w0 y8 kb vL vW E (([] ++ blk (.slice srn rn.mag.length trn)) ++ blk (.slice srm rm.mag.length trm)) (E.length + 1 + 1) uz2 _ F2.out (Kept.refl _) hf3 rr re rP rM rZ srr trr (RR11.out.kept k8) (fun b hb h => by have := HLt.out b h; have := BR.out b hb; omega) (fun b hb h => by have q1 := BR.out b hb; rcases List.mem_append.1 h with h | h; (have q2 := BN.out b (by simpa using h); omega); (have q2 := BM.out b h; omega)) (fun b hb => by have := BR.out b hb; omega) (⟨tn, a.mag, a.exp⟩ : Nm) q1 d1 m1 p1 z1 hw3 RGA.out (show a.mag.length < 10000000 by omega) 0 ha3).mono ?_
    rintro e uz3 ⟨rfl, F3'⟩
    clear c0 c1 c2 c3 c4 c5 g0 g1 g2 g3 g4 g5
    have F3 : Hid (Frn w0 y8 kb vL vW E ((([] ++ blk (.slice srn rn.mag.length trn)) ++ blk (.slice srm rm.mag.length trm)) ++ blk (.slice srr rr.mag.length trr)) (E.length + 1 + 1 + 1) uz3) := F3'
    clear F3'
    go_wp2_with fail
    go_ret
    obtain ⟨vL', vW', E', h1, h2, h3, -⟩ := F3.out
    exact ⟨rfl, vL', vW', E', h1, by omega, GW11.then ((k8.toS _).trans h3) (fun i hi => .inl hi)⟩
  | true =>
   cases hvb : vld b with
   | false =>
    have h0 : Kept X11 X11 := Kept.refl _
    obtain ⟨c0, c1, c2, c3, c4, c5⟩ := TA11.out.now
    go_wp2_with fail
    refine (KVa.out _ K11).mono ?_
    rintro e y1 ⟨rfl, j1⟩
    clear c0 c1 c2 c3 c4 c5
    rw [hva]
    obtain ⟨⟨c0, c1⟩, c2⟩ := (TX11.out.kept j1).now
    go_wp2_with fail
    refine (KVx.out _ (K11.trans j1)).mono ?_
    rintro e y2 ⟨rfl, i2⟩
    have j2 := j1.trans i2
    clear c0 c1 c2
    rw [hvx]
    obtain ⟨c0, c1, c2, c3, c4, c5⟩ := (TB11.out.kept j2).now
    go_wp2_with fail
    refine (KVb.out _ (K11.trans j2)).mono ?_
    rintro e y3 ⟨rfl, i3⟩
    have j3 := j2.trans i3
    clear c0 c1 c2 c3 c4 c5
    rw [hvb]
    go_upto_region 20 with fail
    obtain ⟨Y4, hY4⟩ : ∃ Y, Y = ((y3.alloc (.cells #[.bool false, .slice none 0 0, .int .i64 0, .bool false, .bool false, .bool false] 26)).alloc (.cells #[.bool false, .slice none 0 0, .int .i64 0, .bool false, .bool false, .bool false] 26)).alloc (.cells #[.bool false, .slice none 0 0, .int .i64 0, .bool false, .bool false, .bool false] 26) := ⟨_, rfl⟩
    obtain ⟨bU, hbU⟩ : ∃ n, n = y3.heap.size := ⟨_, rfl⟩
    obtain ⟨bV, hbV⟩ : ∃ n, n = y3.heap.size + 1 := ⟨_, rfl⟩
    obtain ⟨bW, hbW⟩ : ∃ n, n = y3.heap.size + 1 + 1 := ⟨_, rfl⟩
    have hs4 : Y4.heap.size = y3.heap.size + 3 := by rw [hY4]; simp
    have hm4 : X11.heap.size ≤ y3.heap.size := j3.below.size
    have kY4 : Kept X11 Y4 := by rw [hY4]; exact ((j3.alloc _ _).alloc _ _).alloc _ _
    have VU4 : Hid (VB Y4 bU (.bool false) (.slice none 0 0) (.int .i64 0) (.bool false) (.bool false) (.bool false)) := by
     have hlt : bU < Y4.heap.size := by omega
     refine ⟨?_, ?_, ?_, ?_, ?_, ?_, fun o => ?_, hlt⟩
     all_goals (rw [hY4, hbU]; simp [go_sem])
    have VV4 : Hid (VB Y4 bV (.bool false) (.slice none 0 0) (.int .i64 0) (.bool false) (.bool false) (.bool false)) := by
     have hlt : bV < Y4.heap.size := by omega
     refine ⟨?_, ?_, ?_, ?_, ?_, ?_, fun o => ?_, hlt⟩
     all_goals (rw [hY4, hbV]; simp [go_sem])
    have VW4 : Hid (VB Y4 bW (.bool false) (.slice none 0 0) (.int .i64 0) (.bool false) (.bool false) (.bool false)) := by
     have hlt : bW < Y4.heap.size := by omega
     refine ⟨?_, ?_, ?_, ?_, ?_, ?_, fun o => ?_, hlt⟩
     all_goals (rw [hY4, hbW]; simp [go_sem])
    rw [← hY4, ← hbW, ← hbV, ← hbU]
    have hb4 : X11.heap.size ≤ bU ∧ bU < bV ∧ bV < bW ∧ bW < Y4.heap.size := by omega
    clear hY4 hbU hbV hbW
    obtain ⟨c0, c1, c2, c3, c4, c5⟩ := (TA11.out.kept kY4).now
    obtain ⟨⟨d0, d1⟩, d2⟩ := (TX11.out.kept kY4).now
    go_wp2_with fail
    refine (KUA.out hva hvx _ (K11.trans kY4)).mono ?_
    rintro e y5 ⟨aVU, cVU, rfl, hsVU, i5⟩
    clear c0 c1 c2 c3 c4 c5 d0 d1 d2
    have jj5 : Kept X11 y5 := kY4.trans i5
    have VUy := VU4.out.kept i5
    have VVy := VV4.out.kept i5
    have VWy := VW4.out.kept i5
    obtain ⟨g0, g1, g2, g3, g4, g5, g6, g7⟩ := VUy
    go_upto_region 22 with fail
    have VUy : VB y5 bU (.bool false) (.slice none 0 0) (.int .i64 0) (.bool false) (.bool false) (.bool false) := ⟨g0, g1, g2, g3, g4, g5, g6, g7⟩
    clear g0 g1 g2 g3 g4 g5 g6 g7
    obtain ⟨Y5, hY⟩ : ∃ Y, Y = Go.Proofs.YtoflafgbbjinpaaGreatDoor.six y5 bU (.bool (pls a x).neg) (.slice aVU (pls a x).mag.length cVU) (.int .i64 (pls a x).exp) (.bool p1) (.bool m1) (.bool z1) := ⟨_, rfl⟩
    have e4 := hY
    unfold Go.Proofs.YtoflafgbbjinpaaGreatDoor.six at e4
    rw [← e4]
    have kY5 : Kept X11 Y5 := by rw [hY]; exact kept_six1 bU (by omega) jj5 _ _ _ _ _ _
    have hz5 : Y4.heap.size ≤ Y5.heap.size := by have := i5.below.size; rw [hY]; simp; omega
    have VU5 : Hid (VB Y5 bU (.bool (pls a x).neg) (.slice aVU (pls a x).mag.length cVU) (.int .i64 (pls a x).exp) (.bool p1) (.bool m1) (.bool z1)) := by rw [hY]; exact VUy.set _ _ _ _ _ _
    have VV5 : Hid (VB Y5 bV (.bool false) (.slice none 0 0) (.int .i64 0) (.bool false) (.bool false) (.bool false)) := by rw [hY]; exact VVy.other bU (by omega) _ _ _ _ _ _
    have VW5 : Hid (VB Y5 bW (.bool false) (.slice none 0 0) (.int .i64 0) (.bool false) (.bool false) (.bool false)) := by rw [hY]; exact VWy.other bU (by omega) _ _ _ _ _ _
    have WVU5 : Hid (RLp (fun c => c < w0.heap.size ∨ Y4.heap.size ≤ c) Y5 (.slice aVU (pls a x).mag.length cVU) (pls a x).mag) := by
     have hr : RLp (fun c => c < w0.heap.size ∨ Y4.heap.size ≤ c) y5 (.slice aVU (pls a x).mag.length cVU) (pls a x).mag := hsVU.out.imp (fun c h => h.elim .inl (fun h => .inr (by omega)))
     rw [hY]
     exact rlp_six hr bU (fun c h => by rcases h with h | h <;> omega) _ _ _ _ _ _
    clear hY e4 VU4 VV4 VW4 VUy VVy VWy i5 jj5 hsVU
    obtain ⟨c0, c1, c2, c3, c4, c5⟩ := (TA11.out.kept kY5).now
    go_wp2_with fail
    refine (KUN.out _).mono ?_
    rintro e y6 ⟨rfl, i6⟩
    clear c0 c1 c2 c3 c4 c5
    have jj6 : Kept X11 y6 := kY5.trans i6
    have VUy := VU5.out.kept i6
    have VVy := VV5.out.kept i6
    have VWy := VW5.out.kept i6
    obtain ⟨g0, g1, g2, g3, g4, g5, g6, g7⟩ := VWy
    go_upto_region 26 with fail
    have VWy : VB y6 bW (.bool false) (.slice none 0 0) (.int .i64 0) (.bool false) (.bool false) (.bool false) := ⟨g0, g1, g2, g3, g4, g5, g6, g7⟩
    clear g0 g1 g2 g3 g4 g5 g6 g7
    obtain ⟨Y6, hY⟩ : ∃ Y, Y = Go.Proofs.YtoflafgbbjinpaaGreatDoor.six y6 bW (.bool tn) (.slice q1 a.mag.length d1) (.int .i64 a.exp) (.bool m1) (.bool p1) (.bool z1) := ⟨_, rfl⟩
    have e4 := hY
    unfold Go.Proofs.YtoflafgbbjinpaaGreatDoor.six at e4
    rw [← e4]
    have kY6 : Kept X11 Y6 := by rw [hY]; exact kept_six1 bW (by omega) jj6 _ _ _ _ _ _
    have hz6 : Y5.heap.size ≤ Y6.heap.size := by have := i6.below.size; rw [hY]; simp; omega
    have VU6 : Hid (VB Y6 bU (.bool (pls a x).neg) (.slice aVU (pls a x).mag.length cVU) (.int .i64 (pls a x).exp) (.bool p1) (.bool m1) (.bool z1)) := by rw [hY]; exact VUy.other bW (by omega) _ _ _ _ _ _
    have VV6 : Hid (VB Y6 bV (.bool false) (.slice none 0 0) (.int .i64 0) (.bool false) (.bool false) (.bool false)) := by rw [hY]; exact VVy.other bW (by omega) _ _ _ _ _ _
    have VW6 : Hid (VB Y6 bW (.bool tn) (.slice q1 a.mag.length d1) (.int .i64 a.exp) (.bool m1) (.bool p1) (.bool z1)) := by rw [hY]; exact VWy.set _ _ _ _ _ _
    have WVU6 : Hid (RLp (fun c => c < w0.heap.size ∨ Y4.heap.size ≤ c) Y6 (.slice aVU (pls a x).mag.length cVU) (pls a x).mag) := by rw [hY]; exact rlp_six (WVU5.out.kept i6) bW (fun c h => by rcases h with h | h <;> omega) _ _ _ _ _ _
    clear hY e4 VU5 VV5 VW5 WVU5 VUy VVy VWy i6 jj6
    go_upto_region 26 with fail
    obtain ⟨c0, c1, c2, c3, c4, c5⟩ := (TA11.out.kept kY6).now
    obtain ⟨d0, d1, d2, d3, d4, d5⟩ := (TB11.out.kept kY6).now
    go_wp2_with fail
    refine (HRS.out _ (K11.trans kY6)).mono ?_
    rintro e y8 ⟨rfl, i8⟩
    clear c0 c1 c2 c3 c4 c5 d0 d1 d2 d3 d4 d5
    have k8 : Kept X11 y8 := kY6.trans i8
    have hm8 : Y6.heap.size ≤ y8.heap.size := i8.below.size
    have esm : (smA a b p1 m1 z1 p2 m2 z2 == smA a b p1 m1 z1 p2 m2 z2) = true := by simp
    generalize smA a b p1 m1 z1 p2 m2 z2 = sm at *
    have VU8 : Hid (VB y8 bU (.bool (pls a x).neg) (.slice aVU (pls a x).mag.length cVU) (.int .i64 (pls a x).exp) (.bool p1) (.bool m1) (.bool z1)) := VU6.out.kept i8
    have VV8 : Hid (VB y8 bV (.bool false) (.slice none 0 0) (.int .i64 0) (.bool false) (.bool false) (.bool false)) := VV6.out.kept i8
    have VW8 : Hid (VB y8 bW (.bool tn) (.slice q1 a.mag.length d1) (.int .i64 a.exp) (.bool m1) (.bool p1) (.bool z1)) := VW6.out.kept i8
    have WVU8 : Hid (RLp (fun c => c < w0.heap.size ∨ Y4.heap.size ≤ c) y8 (.slice aVU (pls a x).mag.length cVU) (pls a x).mag) := WVU6.out.kept i8
    have HKy : Hid (KeepAt w0 y8 kb vL vW E) := HK11.out.keptOn k8
    have F0 : Hid (Frn w0 y8 kb vL vW E [] E.length y8) := Frn.start HKy.out
    have HIN : Hid (∀ c, c ∈ kb :: (blk vL ++ blk vW) → w0.heap.size ≤ c ∧ c < w.heap.size) := fun c hc => ⟨HNw.out c (head_blks hc), HLt.out c (head_blks hc)⟩
    have h48 : Y4.heap.size ≤ y8.heap.size := by omega
    have G19 : GrwS (kb :: (blk vL ++ blk vW)) y8 y8 := F0.out.grw
    obtain ⟨c0, c1, c2, c3, c4, c5⟩ := (((Tn11.out.kept k8)).grw G19 (fun h => by have := HIN.out _ h; omega)).now
    obtain ⟨g0, g1, g2, g3, g4, g5, -, -⟩ := VU8.out.grwS G19 (fun h => by have := HIN.out _ h; omega)
    go_wp2_with fail
    have hf1 : E.length < 300 := by omega
    have hw1 : RLp (fun b => b < y8.heap.size ∧ b ∉ kb :: (blk vL ++ blk vW)) y8 (.slice aVU (pls a x).mag.length cVU) (pls a x).mag := (WVU8.out.low.imp (fun c h => ⟨h.2, fun hm => by have := HIN.out _ hm; have := h.1; omega⟩)).grwS G19 (fun c h => h.2)
    have ha1 : (0 : Int) ≠ 0 ∧ rn = ⟨false, [], 0⟩ ∧ ne = 0 ∧ nP = false ∧ nM = false ∧ nZ = false ∨ (0 : Int) = 0 ∧ (if vld (pls a x) = true then rn = (pls a x) ∧ ne = 0 ∧ nP = p1 ∧ nM = m1 ∧ nZ = z1 else rn = ⟨false, [], 0⟩ ∧ ne = 2 ∧ nP = false ∧ nM = false ∧ nZ = false) := .inr ⟨rfl, HhNo.out (by rw [hva, hvx]; rfl)⟩
    refine (is3_at w0 y8 kb vL vW E [] (E.length) y8 _ F0.out (Kept.refl _) hf1 rn ne nP nM nZ srn trn (RN11.out.kept k8) (fun b hb h => by have := HLt.out b h; have := BN.out b hb; omega) (fun b hb h => by cases h) (fun b hb => by have := BN.out b hb; omega) (pls a x) aVU cVU p1 m1 z1 hw1 (HPL.out.1 hva hvx).1 (HPL.out.1 hva hvx).2 0 ha1).mono ?_
    rintro e uz1 ⟨rfl, F1'⟩
    clear c0 c1 c2 c3 c4 c5 g0 g1 g2 g3 g4 g5
    have F1 : Hid (Frn w0 y8 kb vL vW E ([] ++ blk (.slice srn rn.mag.length trn)) (E.length + 1) uz1) := F1'
    clear F1'
    have G29 : GrwS (kb :: (blk vL ++ blk vW)) y8 uz1 := F1.out.grw
    obtain ⟨c0, c1, c2, c3, c4, c5⟩ := (((Tm11.out.kept k8)).grw G29 (fun h => by have := HIN.out _ h; omega)).now
    obtain ⟨g0, g1, g2, g3, g4, g5, -, -⟩ := VV8.out.grwS G29 (fun h => by have := HIN.out _ h; omega)
    go_wp2_with fail
    have hf2 : E.length + 1 < 300 := by omega
    have hw2 : RLp (fun b => b < y8.heap.size ∧ b ∉ kb :: (blk vL ++ blk vW)) uz1 (.slice none (⟨false, [], 0⟩ : Nm).mag.length 0) (⟨false, [], 0⟩ : Nm).mag := RLp.nil _ _
    have ha2 : (7 : Int) ≠ 0 ∧ rm = ⟨false, [], 0⟩ ∧ me = 7 ∧ mP = false ∧ mM = false ∧ mZ = false ∨ (7 : Int) = 0 ∧ (if vld (⟨false, [], 0⟩ : Nm) = true then rm = (⟨false, [], 0⟩ : Nm) ∧ me = 0 ∧ mP = false ∧ mM = false ∧ mZ = false else rm = ⟨false, [], 0⟩ ∧ me = 2 ∧ mP = false ∧ mM = false ∧ mZ = false) := .inl ⟨by decide, HhMb.out (by rw [hva, hvb]; rfl)⟩
    refine (is3_at w0 y8 kb vL vW E ([] ++ blk (.slice srn rn.mag.length trn)) (E.length + 1) uz1 _ F1.out (Kept.refl _) hf2 rm me mP mM mZ srm trm (RM11.out.kept k8) (fun b hb h => by have := HLt.out b h; have := BM.out b hb; omega) (fun b hb h => by have q1 := BM.out b hb; have q2 := BN.out b (by simpa using h); omega) (fun b hb => by have := BM.out b hb; omega) (⟨false, [], 0⟩ : Nm) none 0 false false false hw2 (by intro d hd; cases hd) (by simp) 7 ha2).mono ?_
    rintro e uz2 ⟨rfl, F2'⟩
    clear c0 c1 c2 c3 c4 c5 g0 g1 g2 g3 g4 g5
    have F2 : Hid (Frn w0 y8 kb vL vW E (([] ++ blk (.slice srn rn.mag.length trn)) ++ blk (.slice srm rm.mag.length trm)) (E.length + 1 + 1) uz2) := F2'
    clear F2'
    have G39 : GrwS (kb :: (blk vL ++ blk vW)) y8 uz2 := F2.out.grw
    obtain ⟨c0, c1, c2, c3, c4, c5⟩ := (((Tr11.out.kept k8)).grw G39 (fun h => by have := HIN.out _ h; omega)).now
    obtain ⟨g0, g1, g2, g3, g4, g5, -, -⟩ := VW8.out.grwS G39 (fun h => by have := HIN.out _ h; omega)
    go_wp2_with fail
    have hf3 : E.length + 2 < 300 := by omega
    have hw3 : RLp (fun b => b < y8.heap.size ∧ b ∉ kb :: (blk vL ++ blk vW)) uz2 (.slice q1 a.mag.length d1) a.mag := ((HQ1.out _ (K11.trans k8)).imp (fun c h => ⟨by have := K11.below.size; have := k8.below.size; omega, fun hm => by have := HIN.out _ hm; omega⟩)).grwS G39 (fun c h => h.2)
    have ha3 : (0 : Int) ≠ 0 ∧ rr = ⟨false, [], 0⟩ ∧ re = 0 ∧ rP = false ∧ rM = false ∧ rZ = false ∨ (0 : Int) = 0 ∧ (if vld (⟨tn, a.mag, a.exp⟩ : Nm) = true then rr = (⟨tn, a.mag, a.exp⟩ : Nm) ∧ re = 0 ∧ rP = m1 ∧ rM = p1 ∧ rZ = z1 else rr = ⟨false, [], 0⟩ ∧ re = 2 ∧ rP = false ∧ rM = false ∧ rZ = false) := .inr ⟨rfl, by rw [if_pos (TRV.out hva)]; exact HhRo.out hva⟩
    refine (is3_at w0 y8 kb vL vW E (([] ++ blk (.slice srn rn.mag.length trn)) ++ blk (.slice srm rm.mag.length trm)) (E.length + 1 + 1) uz2 _ F2.out (Kept.refl _) hf3 rr re rP rM rZ srr trr (RR11.out.kept k8) (fun b hb h => by have := HLt.out b h; have := BR.out b hb; omega) (fun b hb h => by have q1 := BR.out b hb; rcases List.mem_append.1 h with h | h; (have q2 := BN.out b (by simpa using h); omega); (have q2 := BM.out b h; omega)) (fun b hb => by have := BR.out b hb; omega) (⟨tn, a.mag, a.exp⟩ : Nm) q1 d1 m1 p1 z1 hw3 RGA.out (show a.mag.length < 10000000 by omega) 0 ha3).mono ?_
    rintro e uz3 ⟨rfl, F3'⟩
    clear c0 c1 c2 c3 c4 c5 g0 g1 g2 g3 g4 g5
    have F3 : Hid (Frn w0 y8 kb vL vW E ((([] ++ blk (.slice srn rn.mag.length trn)) ++ blk (.slice srm rm.mag.length trm)) ++ blk (.slice srr rr.mag.length trr)) (E.length + 1 + 1 + 1) uz3) := F3'
    clear F3'
    go_wp2_with fail
    go_ret
    obtain ⟨vL', vW', E', h1, h2, h3, -⟩ := F3.out
    exact ⟨rfl, vL', vW', E', h1, by omega, GW11.then ((k8.toS _).trans h3) (fun i hi => .inl hi)⟩
   | true =>
    have h0 : Kept X11 X11 := Kept.refl _
    obtain ⟨c0, c1, c2, c3, c4, c5⟩ := TA11.out.now
    go_wp2_with fail
    refine (KVa.out _ K11).mono ?_
    rintro e y1 ⟨rfl, j1⟩
    clear c0 c1 c2 c3 c4 c5
    rw [hva]
    obtain ⟨⟨c0, c1⟩, c2⟩ := (TX11.out.kept j1).now
    go_wp2_with fail
    refine (KVx.out _ (K11.trans j1)).mono ?_
    rintro e y2 ⟨rfl, i2⟩
    have j2 := j1.trans i2
    clear c0 c1 c2
    rw [hvx]
    obtain ⟨c0, c1, c2, c3, c4, c5⟩ := (TB11.out.kept j2).now
    go_wp2_with fail
    refine (KVb.out _ (K11.trans j2)).mono ?_
    rintro e y3 ⟨rfl, i3⟩
    have j3 := j2.trans i3
    clear c0 c1 c2 c3 c4 c5
    rw [hvb]
    go_upto_region 20 with fail
    obtain ⟨Y4, hY4⟩ : ∃ Y, Y = ((y3.alloc (.cells #[.bool false, .slice none 0 0, .int .i64 0, .bool false, .bool false, .bool false] 26)).alloc (.cells #[.bool false, .slice none 0 0, .int .i64 0, .bool false, .bool false, .bool false] 26)).alloc (.cells #[.bool false, .slice none 0 0, .int .i64 0, .bool false, .bool false, .bool false] 26) := ⟨_, rfl⟩
    obtain ⟨bU, hbU⟩ : ∃ n, n = y3.heap.size := ⟨_, rfl⟩
    obtain ⟨bV, hbV⟩ : ∃ n, n = y3.heap.size + 1 := ⟨_, rfl⟩
    obtain ⟨bW, hbW⟩ : ∃ n, n = y3.heap.size + 1 + 1 := ⟨_, rfl⟩
    have hs4 : Y4.heap.size = y3.heap.size + 3 := by rw [hY4]; simp
    have hm4 : X11.heap.size ≤ y3.heap.size := j3.below.size
    have kY4 : Kept X11 Y4 := by rw [hY4]; exact ((j3.alloc _ _).alloc _ _).alloc _ _
    have VU4 : Hid (VB Y4 bU (.bool false) (.slice none 0 0) (.int .i64 0) (.bool false) (.bool false) (.bool false)) := by
     have hlt : bU < Y4.heap.size := by omega
     refine ⟨?_, ?_, ?_, ?_, ?_, ?_, fun o => ?_, hlt⟩
     all_goals (rw [hY4, hbU]; simp [go_sem])
    have VV4 : Hid (VB Y4 bV (.bool false) (.slice none 0 0) (.int .i64 0) (.bool false) (.bool false) (.bool false)) := by
     have hlt : bV < Y4.heap.size := by omega
     refine ⟨?_, ?_, ?_, ?_, ?_, ?_, fun o => ?_, hlt⟩
     all_goals (rw [hY4, hbV]; simp [go_sem])
    have VW4 : Hid (VB Y4 bW (.bool false) (.slice none 0 0) (.int .i64 0) (.bool false) (.bool false) (.bool false)) := by
     have hlt : bW < Y4.heap.size := by omega
     refine ⟨?_, ?_, ?_, ?_, ?_, ?_, fun o => ?_, hlt⟩
     all_goals (rw [hY4, hbW]; simp [go_sem])
    rw [← hY4, ← hbW, ← hbV, ← hbU]
    have hb4 : X11.heap.size ≤ bU ∧ bU < bV ∧ bV < bW ∧ bW < Y4.heap.size := by omega
    clear hY4 hbU hbV hbW
    obtain ⟨c0, c1, c2, c3, c4, c5⟩ := (TA11.out.kept kY4).now
    obtain ⟨⟨d0, d1⟩, d2⟩ := (TX11.out.kept kY4).now
    go_wp2_with fail
    refine (KUA.out hva hvx _ (K11.trans kY4)).mono ?_
    rintro e y5 ⟨aVU, cVU, rfl, hsVU, i5⟩
    clear c0 c1 c2 c3 c4 c5 d0 d1 d2
    have jj5 : Kept X11 y5 := kY4.trans i5
    have VUy := VU4.out.kept i5
    have VVy := VV4.out.kept i5
    have VWy := VW4.out.kept i5
    obtain ⟨g0, g1, g2, g3, g4, g5, g6, g7⟩ := VUy
    go_upto_region 22 with fail
    have VUy : VB y5 bU (.bool false) (.slice none 0 0) (.int .i64 0) (.bool false) (.bool false) (.bool false) := ⟨g0, g1, g2, g3, g4, g5, g6, g7⟩
    clear g0 g1 g2 g3 g4 g5 g6 g7
    obtain ⟨Y5, hY⟩ : ∃ Y, Y = Go.Proofs.YtoflafgbbjinpaaGreatDoor.six y5 bU (.bool (pls a x).neg) (.slice aVU (pls a x).mag.length cVU) (.int .i64 (pls a x).exp) (.bool p1) (.bool m1) (.bool z1) := ⟨_, rfl⟩
    have e4 := hY
    unfold Go.Proofs.YtoflafgbbjinpaaGreatDoor.six at e4
    rw [← e4]
    have kY5 : Kept X11 Y5 := by rw [hY]; exact kept_six1 bU (by omega) jj5 _ _ _ _ _ _
    have hz5 : Y4.heap.size ≤ Y5.heap.size := by have := i5.below.size; rw [hY]; simp; omega
    have VU5 : Hid (VB Y5 bU (.bool (pls a x).neg) (.slice aVU (pls a x).mag.length cVU) (.int .i64 (pls a x).exp) (.bool p1) (.bool m1) (.bool z1)) := by rw [hY]; exact VUy.set _ _ _ _ _ _
    have VV5 : Hid (VB Y5 bV (.bool false) (.slice none 0 0) (.int .i64 0) (.bool false) (.bool false) (.bool false)) := by rw [hY]; exact VVy.other bU (by omega) _ _ _ _ _ _
    have VW5 : Hid (VB Y5 bW (.bool false) (.slice none 0 0) (.int .i64 0) (.bool false) (.bool false) (.bool false)) := by rw [hY]; exact VWy.other bU (by omega) _ _ _ _ _ _
    have WVU5 : Hid (RLp (fun c => c < w0.heap.size ∨ Y4.heap.size ≤ c) Y5 (.slice aVU (pls a x).mag.length cVU) (pls a x).mag) := by
     have hr : RLp (fun c => c < w0.heap.size ∨ Y4.heap.size ≤ c) y5 (.slice aVU (pls a x).mag.length cVU) (pls a x).mag := hsVU.out.imp (fun c h => h.elim .inl (fun h => .inr (by omega)))
     rw [hY]
     exact rlp_six hr bU (fun c h => by rcases h with h | h <;> omega) _ _ _ _ _ _
    clear hY e4 VU4 VV4 VW4 VUy VVy VWy i5 jj5 hsVU
    obtain ⟨c0, c1, c2, c3, c4, c5⟩ := (TA11.out.kept kY5).now
    obtain ⟨d0, d1, d2, d3, d4, d5⟩ := (TB11.out.kept kY5).now
    go_wp2_with fail
    refine (KUJ.out hva hvb _ (K11.trans kY5)).mono ?_
    rintro e y6 ⟨aVV, cVV, rfl, hsVV, i6⟩
    clear c0 c1 c2 c3 c4 c5 d0 d1 d2 d3 d4 d5
    have jj6 : Kept X11 y6 := kY5.trans i6
    have VUy := VU5.out.kept i6
    have VVy := VV5.out.kept i6
    have VWy := VW5.out.kept i6
    obtain ⟨g0, g1, g2, g3, g4, g5, g6, g7⟩ := VVy
    go_upto_region 24 with fail
    have VVy : VB y6 bV (.bool false) (.slice none 0 0) (.int .i64 0) (.bool false) (.bool false) (.bool false) := ⟨g0, g1, g2, g3, g4, g5, g6, g7⟩
    clear g0 g1 g2 g3 g4 g5 g6 g7
    obtain ⟨Y6, hY⟩ : ∃ Y, Y = Go.Proofs.YtoflafgbbjinpaaGreatDoor.six y6 bV (.bool (pls a b).neg) (.slice aVV (pls a b).mag.length cVV) (.int .i64 (pls a b).exp) (.bool (p1 || p2)) (.bool (m1 || m2)) (.bool (z1 || z2)) := ⟨_, rfl⟩
    have e4 := hY
    unfold Go.Proofs.YtoflafgbbjinpaaGreatDoor.six at e4
    rw [← e4]
    have kY6 : Kept X11 Y6 := by rw [hY]; exact kept_six1 bV (by omega) jj6 _ _ _ _ _ _
    have hz6 : Y5.heap.size ≤ Y6.heap.size := by have := i6.below.size; rw [hY]; simp; omega
    have VU6 : Hid (VB Y6 bU (.bool (pls a x).neg) (.slice aVU (pls a x).mag.length cVU) (.int .i64 (pls a x).exp) (.bool p1) (.bool m1) (.bool z1)) := by rw [hY]; exact VUy.other bV (by omega) _ _ _ _ _ _
    have VV6 : Hid (VB Y6 bV (.bool (pls a b).neg) (.slice aVV (pls a b).mag.length cVV) (.int .i64 (pls a b).exp) (.bool (p1 || p2)) (.bool (m1 || m2)) (.bool (z1 || z2))) := by rw [hY]; exact VVy.set _ _ _ _ _ _
    have VW6 : Hid (VB Y6 bW (.bool false) (.slice none 0 0) (.int .i64 0) (.bool false) (.bool false) (.bool false)) := by rw [hY]; exact VWy.other bV (by omega) _ _ _ _ _ _
    have WVU6 : Hid (RLp (fun c => c < w0.heap.size ∨ Y4.heap.size ≤ c) Y6 (.slice aVU (pls a x).mag.length cVU) (pls a x).mag) := by rw [hY]; exact rlp_six (WVU5.out.kept i6) bV (fun c h => by rcases h with h | h <;> omega) _ _ _ _ _ _
    have WVV6 : Hid (RLp (fun c => c < w0.heap.size ∨ Y4.heap.size ≤ c) Y6 (.slice aVV (pls a b).mag.length cVV) (pls a b).mag) := by
     have hr : RLp (fun c => c < w0.heap.size ∨ Y4.heap.size ≤ c) y6 (.slice aVV (pls a b).mag.length cVV) (pls a b).mag := hsVV.out.imp (fun c h => h.elim .inl (fun h => .inr (by have := hz5; omega)))
     rw [hY]
     exact rlp_six hr bV (fun c h => by rcases h with h | h <;> omega) _ _ _ _ _ _
    clear hY e4 VU5 VV5 VW5 WVU5 VUy VVy VWy i6 jj6 hsVV
    obtain ⟨c0, c1, c2, c3, c4, c5⟩ := (TA11.out.kept kY6).now
    go_wp2_with fail
    refine (KUN.out _).mono ?_
    rintro e y7 ⟨rfl, i7⟩
    clear c0 c1 c2 c3 c4 c5
    have jj7 : Kept X11 y7 := kY6.trans i7
    have VUy := VU6.out.kept i7
    have VVy := VV6.out.kept i7
    have VWy := VW6.out.kept i7
    obtain ⟨g0, g1, g2, g3, g4, g5, g6, g7⟩ := VWy
    go_upto_region 26 with fail
    have VWy : VB y7 bW (.bool false) (.slice none 0 0) (.int .i64 0) (.bool false) (.bool false) (.bool false) := ⟨g0, g1, g2, g3, g4, g5, g6, g7⟩
    clear g0 g1 g2 g3 g4 g5 g6 g7
    obtain ⟨Y7, hY⟩ : ∃ Y, Y = Go.Proofs.YtoflafgbbjinpaaGreatDoor.six y7 bW (.bool tn) (.slice q1 a.mag.length d1) (.int .i64 a.exp) (.bool m1) (.bool p1) (.bool z1) := ⟨_, rfl⟩
    have e4 := hY
    unfold Go.Proofs.YtoflafgbbjinpaaGreatDoor.six at e4
    rw [← e4]
    have kY7 : Kept X11 Y7 := by rw [hY]; exact kept_six1 bW (by omega) jj7 _ _ _ _ _ _
    have hz7 : Y6.heap.size ≤ Y7.heap.size := by have := i7.below.size; rw [hY]; simp; omega
    have VU7 : Hid (VB Y7 bU (.bool (pls a x).neg) (.slice aVU (pls a x).mag.length cVU) (.int .i64 (pls a x).exp) (.bool p1) (.bool m1) (.bool z1)) := by rw [hY]; exact VUy.other bW (by omega) _ _ _ _ _ _
    have VV7 : Hid (VB Y7 bV (.bool (pls a b).neg) (.slice aVV (pls a b).mag.length cVV) (.int .i64 (pls a b).exp) (.bool (p1 || p2)) (.bool (m1 || m2)) (.bool (z1 || z2))) := by rw [hY]; exact VVy.other bW (by omega) _ _ _ _ _ _
    have VW7 : Hid (VB Y7 bW (.bool tn) (.slice q1 a.mag.length d1) (.int .i64 a.exp) (.bool m1) (.bool p1) (.bool z1)) := by rw [hY]; exact VWy.set _ _ _ _ _ _
    have WVU7 : Hid (RLp (fun c => c < w0.heap.size ∨ Y4.heap.size ≤ c) Y7 (.slice aVU (pls a x).mag.length cVU) (pls a x).mag) := by rw [hY]; exact rlp_six (WVU6.out.kept i7) bW (fun c h => by rcases h with h | h <;> omega) _ _ _ _ _ _
    have WVV7 : Hid (RLp (fun c => c < w0.heap.size ∨ Y4.heap.size ≤ c) Y7 (.slice aVV (pls a b).mag.length cVV) (pls a b).mag) := by rw [hY]; exact rlp_six (WVV6.out.kept i7) bW (fun c h => by rcases h with h | h <;> omega) _ _ _ _ _ _
    clear hY e4 VU6 VV6 VW6 WVU6 WVV6 VUy VVy VWy i7 jj7
    go_upto_region 26 with fail
    obtain ⟨c0, c1, c2, c3, c4, c5⟩ := (TA11.out.kept kY7).now
    obtain ⟨d0, d1, d2, d3, d4, d5⟩ := (TB11.out.kept kY7).now
    go_wp2_with fail
    refine (HRS.out _ (K11.trans kY7)).mono ?_
    rintro e y8 ⟨rfl, i8⟩
    clear c0 c1 c2 c3 c4 c5 d0 d1 d2 d3 d4 d5
    have k8 : Kept X11 y8 := kY7.trans i8
    have hm8 : Y7.heap.size ≤ y8.heap.size := i8.below.size
    have esm : (smA a b p1 m1 z1 p2 m2 z2 == smA a b p1 m1 z1 p2 m2 z2) = true := by simp
    generalize smA a b p1 m1 z1 p2 m2 z2 = sm at *
    have VU8 : Hid (VB y8 bU (.bool (pls a x).neg) (.slice aVU (pls a x).mag.length cVU) (.int .i64 (pls a x).exp) (.bool p1) (.bool m1) (.bool z1)) := VU7.out.kept i8
    have VV8 : Hid (VB y8 bV (.bool (pls a b).neg) (.slice aVV (pls a b).mag.length cVV) (.int .i64 (pls a b).exp) (.bool (p1 || p2)) (.bool (m1 || m2)) (.bool (z1 || z2))) := VV7.out.kept i8
    have VW8 : Hid (VB y8 bW (.bool tn) (.slice q1 a.mag.length d1) (.int .i64 a.exp) (.bool m1) (.bool p1) (.bool z1)) := VW7.out.kept i8
    have WVU8 : Hid (RLp (fun c => c < w0.heap.size ∨ Y4.heap.size ≤ c) y8 (.slice aVU (pls a x).mag.length cVU) (pls a x).mag) := WVU7.out.kept i8
    have WVV8 : Hid (RLp (fun c => c < w0.heap.size ∨ Y4.heap.size ≤ c) y8 (.slice aVV (pls a b).mag.length cVV) (pls a b).mag) := WVV7.out.kept i8
    have HKy : Hid (KeepAt w0 y8 kb vL vW E) := HK11.out.keptOn k8
    have F0 : Hid (Frn w0 y8 kb vL vW E [] E.length y8) := Frn.start HKy.out
    have HIN : Hid (∀ c, c ∈ kb :: (blk vL ++ blk vW) → w0.heap.size ≤ c ∧ c < w.heap.size) := fun c hc => ⟨HNw.out c (head_blks hc), HLt.out c (head_blks hc)⟩
    have h48 : Y4.heap.size ≤ y8.heap.size := by omega
    have G19 : GrwS (kb :: (blk vL ++ blk vW)) y8 y8 := F0.out.grw
    obtain ⟨c0, c1, c2, c3, c4, c5⟩ := (((Tn11.out.kept k8)).grw G19 (fun h => by have := HIN.out _ h; omega)).now
    obtain ⟨g0, g1, g2, g3, g4, g5, -, -⟩ := VU8.out.grwS G19 (fun h => by have := HIN.out _ h; omega)
    go_wp2_with fail
    have hf1 : E.length < 300 := by omega
    have hw1 : RLp (fun b => b < y8.heap.size ∧ b ∉ kb :: (blk vL ++ blk vW)) y8 (.slice aVU (pls a x).mag.length cVU) (pls a x).mag := (WVU8.out.low.imp (fun c h => ⟨h.2, fun hm => by have := HIN.out _ hm; have := h.1; omega⟩)).grwS G19 (fun c h => h.2)
    have ha1 : (0 : Int) ≠ 0 ∧ rn = ⟨false, [], 0⟩ ∧ ne = 0 ∧ nP = false ∧ nM = false ∧ nZ = false ∨ (0 : Int) = 0 ∧ (if vld (pls a x) = true then rn = (pls a x) ∧ ne = 0 ∧ nP = p1 ∧ nM = m1 ∧ nZ = z1 else rn = ⟨false, [], 0⟩ ∧ ne = 2 ∧ nP = false ∧ nM = false ∧ nZ = false) := .inr ⟨rfl, HhNo.out (by rw [hva, hvx]; rfl)⟩
    refine (is3_at w0 y8 kb vL vW E [] (E.length) y8 _ F0.out (Kept.refl _) hf1 rn ne nP nM nZ srn trn (RN11.out.kept k8) (fun b hb h => by have := HLt.out b h; have := BN.out b hb; omega) (fun b hb h => by cases h) (fun b hb => by have := BN.out b hb; omega) (pls a x) aVU cVU p1 m1 z1 hw1 (HPL.out.1 hva hvx).1 (HPL.out.1 hva hvx).2 0 ha1).mono ?_
    rintro e uz1 ⟨rfl, F1'⟩
    clear c0 c1 c2 c3 c4 c5 g0 g1 g2 g3 g4 g5
    have F1 : Hid (Frn w0 y8 kb vL vW E ([] ++ blk (.slice srn rn.mag.length trn)) (E.length + 1) uz1) := F1'
    clear F1'
    have G29 : GrwS (kb :: (blk vL ++ blk vW)) y8 uz1 := F1.out.grw
    obtain ⟨c0, c1, c2, c3, c4, c5⟩ := (((Tm11.out.kept k8)).grw G29 (fun h => by have := HIN.out _ h; omega)).now
    obtain ⟨g0, g1, g2, g3, g4, g5, -, -⟩ := VV8.out.grwS G29 (fun h => by have := HIN.out _ h; omega)
    go_wp2_with fail
    have hf2 : E.length + 1 < 300 := by omega
    have hw2 : RLp (fun b => b < y8.heap.size ∧ b ∉ kb :: (blk vL ++ blk vW)) uz1 (.slice aVV (pls a b).mag.length cVV) (pls a b).mag := (WVV8.out.low.imp (fun c h => ⟨h.2, fun hm => by have := HIN.out _ hm; have := h.1; omega⟩)).grwS G29 (fun c h => h.2)
    have ha2 : (0 : Int) ≠ 0 ∧ rm = ⟨false, [], 0⟩ ∧ me = 0 ∧ mP = false ∧ mM = false ∧ mZ = false ∨ (0 : Int) = 0 ∧ (if vld (pls a b) = true then rm = (pls a b) ∧ me = 0 ∧ mP = (p1 || p2) ∧ mM = (m1 || m2) ∧ mZ = (z1 || z2) else rm = ⟨false, [], 0⟩ ∧ me = 2 ∧ mP = false ∧ mM = false ∧ mZ = false) := .inr ⟨rfl, HhMo.out (by rw [hva, hvb]; rfl)⟩
    refine (is3_at w0 y8 kb vL vW E ([] ++ blk (.slice srn rn.mag.length trn)) (E.length + 1) uz1 _ F1.out (Kept.refl _) hf2 rm me mP mM mZ srm trm (RM11.out.kept k8) (fun b hb h => by have := HLt.out b h; have := BM.out b hb; omega) (fun b hb h => by have q1 := BM.out b hb; have q2 := BN.out b (by simpa using h); omega) (fun b hb => by have := BM.out b hb; omega) (pls a b) aVV cVV (p1 || p2) (m1 || m2) (z1 || z2) hw2 (HPL.out.2 hva hvb).1 (HPL.out.2 hva hvb).2 0 ha2).mono ?_
    rintro e uz2 ⟨rfl, F2'⟩
    clear c0 c1 c2 c3 c4 c5 g0 g1 g2 g3 g4 g5
    have F2 : Hid (Frn w0 y8 kb vL vW E (([] ++ blk (.slice srn rn.mag.length trn)) ++ blk (.slice srm rm.mag.length trm)) (E.length + 1 + 1) uz2) := F2'
    clear F2'
    have G39 : GrwS (kb :: (blk vL ++ blk vW)) y8 uz2 := F2.out.grw
    obtain ⟨c0, c1, c2, c3, c4, c5⟩ := (((Tr11.out.kept k8)).grw G39 (fun h => by have := HIN.out _ h; omega)).now
    obtain ⟨g0, g1, g2, g3, g4, g5, -, -⟩ := VW8.out.grwS G39 (fun h => by have := HIN.out _ h; omega)
    go_wp2_with fail
    have hf3 : E.length + 2 < 300 := by omega
    have hw3 : RLp (fun b => b < y8.heap.size ∧ b ∉ kb :: (blk vL ++ blk vW)) uz2 (.slice q1 a.mag.length d1) a.mag := ((HQ1.out _ (K11.trans k8)).imp (fun c h => ⟨by have := K11.below.size; have := k8.below.size; omega, fun hm => by have := HIN.out _ hm; omega⟩)).grwS G39 (fun c h => h.2)
    have ha3 : (0 : Int) ≠ 0 ∧ rr = ⟨false, [], 0⟩ ∧ re = 0 ∧ rP = false ∧ rM = false ∧ rZ = false ∨ (0 : Int) = 0 ∧ (if vld (⟨tn, a.mag, a.exp⟩ : Nm) = true then rr = (⟨tn, a.mag, a.exp⟩ : Nm) ∧ re = 0 ∧ rP = m1 ∧ rM = p1 ∧ rZ = z1 else rr = ⟨false, [], 0⟩ ∧ re = 2 ∧ rP = false ∧ rM = false ∧ rZ = false) := .inr ⟨rfl, by rw [if_pos (TRV.out hva)]; exact HhRo.out hva⟩
    refine (is3_at w0 y8 kb vL vW E (([] ++ blk (.slice srn rn.mag.length trn)) ++ blk (.slice srm rm.mag.length trm)) (E.length + 1 + 1) uz2 _ F2.out (Kept.refl _) hf3 rr re rP rM rZ srr trr (RR11.out.kept k8) (fun b hb h => by have := HLt.out b h; have := BR.out b hb; omega) (fun b hb h => by have q1 := BR.out b hb; rcases List.mem_append.1 h with h | h; (have q2 := BN.out b (by simpa using h); omega); (have q2 := BM.out b h; omega)) (fun b hb => by have := BR.out b hb; omega) (⟨tn, a.mag, a.exp⟩ : Nm) q1 d1 m1 p1 z1 hw3 RGA.out (show a.mag.length < 10000000 by omega) 0 ha3).mono ?_
    rintro e uz3 ⟨rfl, F3'⟩
    clear c0 c1 c2 c3 c4 c5 g0 g1 g2 g3 g4 g5
    have F3 : Hid (Frn w0 y8 kb vL vW E ((([] ++ blk (.slice srn rn.mag.length trn)) ++ blk (.slice srm rm.mag.length trm)) ++ blk (.slice srr rr.mag.length trr)) (E.length + 1 + 1 + 1) uz3) := F3'
    clear F3'
    go_wp2_with fail
    go_ret
    obtain ⟨vL', vW', E', h1, h2, h3, -⟩ := F3.out
    exact ⟨rfl, vL', vW', E', h1, by omega, GW11.then ((k8.toS _).trans h3) (fun i hi => .inl hi)⟩
end Go.Proofs.YtoflafgbbjinpaaGreatDoor
