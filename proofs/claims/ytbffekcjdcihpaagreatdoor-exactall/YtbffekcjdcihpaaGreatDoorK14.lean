/- The walk of the laws' own 'ones'. -/
import Derived.Test.YtbffekcjdcihpaaGreatDoorPag
namespace Go.Proofs.YtbffekcjdcihpaaGreatDoor
open Go.ChangeShapes Go.WideShapes Go.ChangeAt Go.RowKit
set_option maxHeartbeats 16000000
set_option maxRecDepth 100000
set_option linter.unusedVariables false
set_option linter.unusedSimpArgs false
theorem new_rw {w0 w : World} {v : Value} {r : Nm} (h : New w0 w v r) : ∃ pa pc, v = .agg #[.bool r.neg, .slice pa r.mag.length pc, .int .i64 r.exp] ∧ Rw w (.slice pa r.mag.length pc) 3 (ints r.mag) ∧ (∀ b ∈ blk (.slice pa r.mag.length pc), w0.heap.size ≤ b) ∧ (r.mag = [] → pa = none ∧ pc = 0) := by
 rcases h with ⟨rfl, rfl⟩ | ⟨g, cap, rfl, hg, ho, hne⟩
 ·exact ⟨none, 0, rfl, .inl ⟨rfl, rfl⟩, fun b hb => (by cases hb), fun _ => ⟨rfl, rfl⟩⟩
 ·refine ⟨_, _, rfl, .inr ⟨g, cap, by rw [List.length_map], own_v.1 ho⟩, fun b hb => ?_, fun h => absurd h hne⟩
  obtain rfl : b = g := by simpa [blk] using hb
  exact hg
theorem laid3 {w : World} {a b c : Value} {t : TypeId} {u : World} {S : List Nat} (hS : w.heap.size ∉ S) (k : GrwS S (w.alloc (.cells #[a, b, c] t)) u) : u.cell? ⟨w.heap.size, 0, none⟩ = some a ∧ u.cell? ⟨w.heap.size, 1, none⟩ = some b ∧ u.cell? ⟨w.heap.size, 2, none⟩ = some c := by
 have hb := k.block w.heap.size (by simp) hS
 refine ⟨?_, ?_, ?_⟩
 ·rw [World.cell?_of_block (a := ⟨w.heap.size, 0, none⟩) hb]; simp [go_sem]
 ·rw [World.cell?_of_block (a := ⟨w.heap.size, 1, none⟩) hb]; simp [go_sem]
 ·rw [World.cell?_of_block (a := ⟨w.heap.size, 2, none⟩) hb]; simp [go_sem]
theorem laid3k {w : World} {a b c : Value} {t : TypeId} {u : World} (k : Kept (w.alloc (.cells #[a, b, c] t)) u) : u.cell? ⟨w.heap.size, 0, none⟩ = some a ∧ u.cell? ⟨w.heap.size, 1, none⟩ = some b ∧ u.cell? ⟨w.heap.size, 2, none⟩ = some c := laid3 (S := []) (by simp) (k.toS [])
/-- One answer more is kept. -/
def Fr1 (w0 x : World) (kb : Nat) (vL vW : Value) (E : List Ent) (l : Value) (L : List Int) (u : World) : Prop := ∃ vL' vW' t, KeepAt w0 u kb vL' vW' (E ++ [⟨l, t, L⟩]) ∧ GrwS (kb :: (blk vL ++ blk vW)) x u ∧ (∀ b ∈ blks kb vL' vW' (E ++ [⟨l, t, L⟩]), b ∈ blks kb vL vW E ∨ b ∈ blk l ∨ x.heap.size ≤ b) ∧ ∀ b ∈ kb :: (blk vL' ++ blk vW'), b ∈ kb :: (blk vL ++ blk vW) ∨ x.heap.size ≤ b
theorem Fr1.on {w0 x u u' : World} {kb : Nat} {vL vW : Value} {E : List Ent} {l : Value} {L : List Int} (h : Fr1 w0 x kb vL vW E l L u) (k : Kept u u') : Fr1 w0 x kb vL vW E l L u' := by
 obtain ⟨vL', vW', t, h1, h2, h3, h4⟩ := h
 exact ⟨vL', vW', t, h1.keptOn k, h2.trans (k.toS _), h3, h4⟩
/-- Two answers more are kept. -/
def Fr2 (w0 x : World) (kb : Nat) (vL vW : Value) (N : Nat) (u : World) : Prop := (∃ vL' vW' E', KeepAt w0 u kb vL' vW' E' ∧ E'.length ≤ N) ∧ GrwS (kb :: (blk vL ++ blk vW)) x u
theorem add_fr1 (w0 x : World) (kb : Nat) (vL vW : Value) (E : List Ent) (hK : KeepAt w0 x kb vL vW E) (hE : E.length < 300) (l want : Value) (L : List Int) (hL : L.length < 10000000) (hl : Rw x l 3 (ints L)) (hd : ∀ b ∈ blk l, b ∉ blks kb vL vW E) (hn : ∀ b ∈ blk l, w0.heap.size ≤ b) (hw : ∀ u, GrwS (kb :: (blk vL ++ blk vW)) x u → Sl u want L) (u : World) (k : Kept x u) :
  Calls Tryz.prog 17 #[.pointer (some ⟨kb, 0, none⟩), l, want] u fun e w' => e = .returned (.bool true) ∧ Fr1 w0 x kb vL vW E l L w' := by
 refine (keepAdd w0 u kb vL vW E (hK.keptOn k) hE l want L hL (hl.kept k) hd hn (fun t kt => hw t ((k.toS _).trans kt))).mono ?_
 rintro e w' ⟨rfl, vL', vW', t, h1, h2, h3, h4⟩
 have hs := k.below.size
 refine ⟨rfl, vL', vW', t, h1, (k.toS _).trans h2, fun b hb => ?_, fun b hb => ?_⟩
 ·rcases h3 b hb with h | h | h
  ·exact .inl h
  ·exact .inr (.inl h)
  ·exact .inr (.inr (by omega))
 ·rcases h4 b hb with h | h
  ·exact .inl h
  ·exact .inr (by omega)
theorem add_fr2 (w0 x : World) (kb : Nat) (vL vW : Value) (E : List Ent) (hE : E.length + 2 ≤ 300) (l1 : Value) (L1 : List Int) (hK0 : KeepAt w0 x kb vL vW E) (l want : Value) (L : List Int) (hL : L.length < 10000000) (hl : Rw x l 3 (ints L)) (hd : ∀ b ∈ blk l, b ∉ blks kb vL vW E) (hd1 : ∀ b ∈ blk l, b ∉ blk l1) (hn : ∀ b ∈ blk l, w0.heap.size ≤ b) (hw : ∀ u, Kept w0 u → Sl u want L) (u : World) (hF : Fr1 w0 x kb vL vW E l1 L1 u) :
  Calls Tryz.prog 17 #[.pointer (some ⟨kb, 0, none⟩), l, want] u fun e w' => e = .returned (.bool true) ∧ Fr2 w0 x kb vL vW (E.length + 2) w' := by
 obtain ⟨vL', vW', t, h1, h2, h3, h4⟩ := hF
 have hlt := hl.lt
 have hin : ∀ b ∈ kb :: (blk vL ++ blk vW), b ∈ blks kb vL vW E := fun b hb => by
  unfold blks
  rcases List.mem_cons.1 hb with rfl | hb
  ·simp
  ·exact List.mem_cons.2 (.inr (List.mem_append.2 (.inl hb)))
 refine (keepAdd w0 u kb vL' vW' (E ++ [⟨l1, t, L1⟩]) h1 (by simp; omega) l want L hL (hl.grwS h2 (fun b hb h => hd b hb (hin b h))) (fun b hb h => ?_) hn (fun v kv => hw v (h1.kept.grwS (fun i hi => h1.new i (by unfold blks; rcases List.mem_cons.1 hi with rfl | hi; simp; exact List.mem_cons.2 (.inr (List.mem_append.2 (.inl hi))))) kv))).mono ?_
 ·have := hlt b hb
  rcases h3 b h with h | h | h
  ·exact hd b hb h
  ·exact hd1 b hb h
  ·omega
 ·rintro e w' ⟨rfl, vL2, vW2, t2, g1, g2, g3, g4⟩
  exact ⟨rfl, ⟨vL2, vW2, _, g1, by simp⟩, h2.then g2 h4⟩
theorem ones_true (w0 w : World) (hT : Tab w0) (kb : Nat) (vL vW : Value) (E : List Ent) (hK : KeepAt w0 w kb vL vW E) (hE : E.length + 2 ≤ 300) (ng : Bool) (L : List Int) (x k0 : Int) (hk0 : -9223372036854775808 ≤ k0 ∧ k0 ≤ 9223372036854775807) (hR : Rg L) (hlen : L.length ≤ 2100) (ar : Option Addr) (cr : Nat) (hr : ∀ u, Kept w0 u → Sl u (.slice ar L.length cr) L) :
  Calls Tryz.prog 6 #[.pointer (some ⟨kb, 0, none⟩), .agg #[.bool ng, .slice ar L.length cr, .int .i64 x], .int .i64 k0] w fun e w' => e = .returned (.bool true) ∧ (∃ vL' vW' E', KeepAt w0 w' kb vL' vW' E' ∧ E'.length ≤ E.length + 2) ∧ TS w w' := by
 obtain ⟨rp, pe, hNeg, hNb, hNo⟩ := neg_all ng L x hR (by omega)
 obtain ⟨sv, se, hSig, hSb, hSo⟩ := sign_all ng L x hR (by omega)
 obtain ⟨rr, re, aw, cw, hSc, hCb, hCo⟩ := scale_all w0 ng L x k0 hk0 hR (by omega) ar cr hr
 obtain ⟨ok, hok⟩ : ∃ ok, vld ⟨ng, L, x⟩ = ok := ⟨_, rfl⟩
 have hV2 : ∀ u, Kept w0 u → Calls Tryz.prog 11 #[.agg #[.bool ng, .slice ar L.length cr, .int .i64 x]] u fun e w' => e = .returned (.bool ok) ∧ Kept u w' := fun u k => by
  rw [← hok]
  exact rvalid2_any ⟨ng, L, x⟩ hR (by dsimp only; omega) _ u ⟨_, rfl, hr u k⟩
 have hXV : ∀ u (g cap : Nat), Own u g cap (L ++ [-71, -72, -73]) → Calls Tryz.prog 28 #[.agg #[.bool ng, .slice (some ⟨g, 0, none⟩) L.length cap, .int .i64 x]] u fun e w' => e = .returned (.bool ok) ∧ Kept u w' := fun u g cap ho => by
  rw [← hok]
  have hs := ho.slTake L.length (by simp)
  rw [List.take_left' rfl] at hs
  exact xvalid_any ⟨ng, L, x⟩ hR (by dsimp only; omega) _ u ⟨_, rfl, hs⟩
 rw [hok] at hNb hNo hSb hSo hCb hCo
 have KLent : Hid (∀ u, Kept w0 u → Calls Tryz.prog 24 #[.agg #[.bool ng, .slice ar L.length cr, .int .i64 x]] u fun e w' => (∃ g cap, e = .returned (.tuple #[.slice (some ⟨g, 0, none⟩) (L.length + 3) cap, .agg #[.bool ng, .slice (some ⟨g, 0, none⟩) L.length cap, .int .i64 x]]) ∧ u.heap.size ≤ g ∧ Own w' g cap (L ++ [-71, -72, -73])) ∧ Kept u w') := fun u k => lentNum_any ng x L (by omega) ar cr u (hr u k)
 have KV2 : Hid (∀ u, Kept w0 u → Calls Tryz.prog 11 #[.agg #[.bool ng, .slice ar L.length cr, .int .i64 x]] u fun e w' => e = .returned (.bool ok) ∧ Kept u w') := hV2
 have KXV : Hid (∀ u (g cap : Nat), Own u g cap (L ++ [-71, -72, -73]) → Calls Tryz.prog 28 #[.agg #[.bool ng, .slice (some ⟨g, 0, none⟩) L.length cap, .int .i64 x]] u fun e w' => e = .returned (.bool ok) ∧ Kept u w') := hXV
 have HSl : ∀ u (g cap : Nat), Own u g cap (L ++ [-71, -72, -73]) → Sl u (.slice (some ⟨g, 0, none⟩) L.length cap) L := fun u g cap ho => by
  have hs := ho.slTake L.length (by simp)
  rwa [List.take_left' rfl] at hs
 have KNeg : Hid (∀ u (g cap : Nat), Kept w0 u → Own u g cap (L ++ [-71, -72, -73]) → Calls Tryz.prog 25 #[.agg #[.bool ng, .slice (some ⟨g, 0, none⟩) L.length cap, .int .i64 x]] u fun e w' => ∃ v, e = .returned (.tuple #[v, .int .i64 pe]) ∧ New u w' v rp ∧ Kept u w') := fun u g cap k ho => hNeg u _ cap (fun h => by cases h) (HSl u g cap ho) (hT.kept k)
 have KSgn : Hid (∀ u (g cap : Nat), Own u g cap (L ++ [-71, -72, -73]) → Calls Tryz.prog 26 #[.agg #[.bool ng, .slice (some ⟨g, 0, none⟩) L.length cap, .int .i64 x]] u fun e w' => e = .returned (.tuple #[.int .i64 sv, .int .i64 se]) ∧ Kept u w') := fun u g cap ho => hSig u _ cap (HSl u g cap ho)
 have KSc : Hid (∀ u (g cap : Nat), Kept w0 u → Own u g cap (L ++ [-71, -72, -73]) → Calls Tryz.prog 27 #[.agg #[.bool ng, .slice (some ⟨g, 0, none⟩) L.length cap, .int .i64 x], .int .i64 k0] u fun e w' => ∃ v, e = .returned (.tuple #[v, .int .i64 re]) ∧ New u w' v rr ∧ Kept u w') := fun u g cap k ho => hSc u _ cap (fun h => by cases h) (HSl u g cap ho) (hT.kept k)
 have KBk : Hid (∀ u (g cap : Nat), Kept w0 u → Own u g cap (L ++ [-71, -72, -73]) → Calls Tryz.prog 15 #[.slice (some ⟨g, 0, none⟩) (L.length + 3) cap, .slice ar L.length cr] u fun e w' => e = .returned (.bool true) ∧ Grw g u w') := fun u g cap k ho => back_any L (by omega) _ g cap u (hr u k) ho
 have HNb : Hid (ok = false → rp = ⟨false, [], 0⟩ ∧ pe = 7) := hNb
 have HNo : Hid (ok = true → pe = 0 ∧ rp = ⟨if L.length = 0 then ng else !ng, L, x⟩) := hNo
 have HSb : Hid (ok = false → sv = 0 ∧ se = 7) := hSb
 have HSo : Hid (ok = true → se = 0 ∧ sv = if L.length = 0 then 0 else if ng = true then -1 else 1) := hSo
 have HCb : Hid (ok = false → rr = ⟨false, [], 0⟩ ∧ re = 7) := hCb
 have HCo : Hid (ok = true → rr.mag.length ≤ L.length ∧ (∀ u, Kept w0 u → Sl u (.slice aw rr.mag.length cw) rr.mag) ∧ ∀ u, Kept w0 u → Calls Tryz.prog 29 #[.agg #[.bool ng, .slice ar L.length cr, .int .i64 x], .int .i64 k0] u fun e w' => e = .returned (.tuple #[.agg #[.bool rr.neg, .slice aw rr.mag.length cw, .int .i64 rr.exp], .int .i64 re]) ∧ Kept u w') := hCo
 have HOK : Hid (vld ⟨ng, L, x⟩ = ok) := hok
 have HR : Hid (Rg L) := hR
 have HL : Hid (∀ u, Kept w0 u → Sl u (.slice ar L.length cr) L) := hr
 have HKp : Hid (KeepAt w0 w kb vL vW E) := hK
 have hokk : (ok != ok) = false := by cases ok <;> rfl
 have hLt : Hid (∀ b ∈ blks kb vL vW E, b < w.heap.size) := hK.lt
 have hw0 : w0.heap.size ≤ w.heap.size := hK.kept.below.size
 clear hNeg hSig hSc hNb hNo hSb hSo hCb hCo hV2 hXV hok hR hr hT HSl hK hk0
 generalize hM : L ++ [-71, -72, -73] = M at *
 clear hM
 obtain ⟨n, hn⟩ : ∃ n, n = L.length := ⟨_, rfl⟩
 have HN : Hid (n = L.length) := hn
 rw [← hn] at KLent KV2 KXV KNeg KSgn KSc KBk HNo HSo HCo HL hlen ⊢
 clear hn
 have kA : Kept w (w.alloc (.cells #[.bool ng, .slice ar n cr, .int .i64 x] 29)) := (Kept.refl w).alloc _ _
 have K0 : Kept w0 (w.alloc (.cells #[.bool ng, .slice ar n cr, .int .i64 x] 29)) := HKp.out.kept.trans kA
 go_enter Tryz.func6, Tryz.ntmps6
 go_wp2_with fail
 refine (KLent.out _ K0).mono ?_
 rintro e w1 ⟨⟨g, cap, rfl, hg, hO⟩, k1⟩
 have HO : Hid (Own w1 g cap M) := hO
 have hgl := hO.lt
 simp only [World.size_alloc] at hg
 have kW1 : Kept w1 (w1.alloc (.cells #[.bool ng, .slice (some ⟨g, 0, none⟩) n cap, .int .i64 x] 29)) := (Kept.refl w1).alloc _ _
 have kA1 : Kept (w.alloc (.cells #[.bool ng, .slice ar n cr, .int .i64 x] 29)) (w1.alloc (.cells #[.bool ng, .slice (some ⟨g, 0, none⟩) n cap, .int .i64 x] 29)) := k1.trans kW1
 obtain ⟨a0, a1, a2⟩ := laid3k kA1
 clear hO KLent k1
 go_wp2_with fail
 refine (KV2.out _ (K0.trans kA1)).mono ?_
 rintro e w2 ⟨rfl, k2⟩
 obtain ⟨x0, x1, x2⟩ := laid3k k2
 have kA2 : Kept (w.alloc (.cells #[.bool ng, .slice ar n cr, .int .i64 x] 29)) w2 := kA1.trans k2
 clear KV2 a0 a1 a2
 go_wp2_with fail
 refine (KNeg.out _ g cap (K0.trans kA2) (HO.out.kept (kW1.trans k2))).mono ?_
 rintro e w3 ⟨vp, rfl, hNp, k3⟩
 obtain ⟨pa, pc, rfl, hRp, hBp, hZp⟩ := new_rw hNp
 have HRp : Hid (Rw w3 (.slice pa rp.mag.length pc) 3 (ints rp.mag)) := hRp
 have HBp : Hid (∀ b ∈ blk (.slice pa rp.mag.length pc), w2.heap.size ≤ b) := hBp
 have HZp : Hid (rp.mag = [] → pa = none ∧ pc = 0) := hZp
 have kW3 : Kept w3 (w3.alloc (.cells #[.bool rp.neg, .slice pa rp.mag.length pc, .int .i64 rp.exp] 29)) := (Kept.refl w3).alloc _ _
 have k23 : Kept (w1.alloc (.cells #[.bool ng, .slice (some ⟨g, 0, none⟩) n cap, .int .i64 x] 29)) (w3.alloc (.cells #[.bool rp.neg, .slice pa rp.mag.length pc, .int .i64 rp.exp] 29)) := k2.trans (k3.trans kW3)
 have hs2 := kA2.below.size
 have hs3 := k3.below.size
 have hsk2 := k2.below.size
 simp only [World.size_alloc] at hs2 hsk2
 clear hRp hBp hZp hNp KNeg x0 x1 x2
 obtain ⟨x0, x1, x2⟩ := laid3k k23
 go_wp2_with fail
 refine (KSgn.out _ g cap (HO.out.kept (kW1.trans k23))).mono ?_
 rintro e w4 ⟨rfl, k4⟩
 have k24 : Kept (w1.alloc (.cells #[.bool ng, .slice (some ⟨g, 0, none⟩) n cap, .int .i64 x] 29)) w4 := k23.trans k4
 have hs4 := k4.below.size
 simp only [World.size_alloc] at hs4
 clear KSgn x0 x1 x2
 obtain ⟨x0, x1, x2⟩ := laid3k k24
 go_wp2_with fail
 refine (KSc.out _ g cap (K0.trans (kA1.trans k24)) (HO.out.kept (kW1.trans k24))).mono ?_
 rintro e w5 ⟨vr, rfl, hNr, k5⟩
 obtain ⟨ra, rc, rfl, hRr, hBr, hZr⟩ := new_rw hNr
 have HRr : Hid (Rw w5 (.slice ra rr.mag.length rc) 3 (ints rr.mag)) := hRr
 have HBr : Hid (∀ b ∈ blk (.slice ra rr.mag.length rc), w4.heap.size ≤ b) := hBr
 have HZr : Hid (rr.mag = [] → ra = none ∧ rc = 0) := hZr
 have kW5 : Kept w5 (w5.alloc (.cells #[.bool rr.neg, .slice ra rr.mag.length rc, .int .i64 rr.exp] 29)) := (Kept.refl w5).alloc _ _
 have k25 : Kept (w1.alloc (.cells #[.bool ng, .slice (some ⟨g, 0, none⟩) n cap, .int .i64 x] 29)) (w5.alloc (.cells #[.bool rr.neg, .slice ra rr.mag.length rc, .int .i64 rr.exp] 29)) := k24.trans (k5.trans kW5)
 have hs5 := k5.below.size
 clear hRr hBr hZr hNr KSc x0 x1 x2
 obtain ⟨x0, x1, x2⟩ := laid3k k25
 go_wp2_with fail
 refine (KXV.out _ g cap (HO.out.kept (kW1.trans k25))).mono ?_
 rintro e w6 ⟨rfl, k6⟩
 have k26 : Kept (w1.alloc (.cells #[.bool ng, .slice (some ⟨g, 0, none⟩) n cap, .int .i64 x] 29)) w6 := k25.trans k6
 have kA6 : Kept (w.alloc (.cells #[.bool ng, .slice ar n cr, .int .i64 x] 29)) w6 := kA1.trans k26
 have hs6 := k6.below.size
 simp only [World.size_alloc] at hs6
 clear KXV x0 x1 x2
 obtain ⟨a0, a1, a2⟩ := laid3k kA6
 go_wp2_with fail
 refine (KBk.out _ g cap (K0.trans kA6) (HO.out.kept (kW1.trans k26))).mono ?_
 rintro e w7 ⟨rfl, hG7⟩
 have G7 : GrwS [g] w6 w7 := hG7.toS
 have hs7 := G7.size
 have gA : GrwS [g] (w.alloc (.cells #[.bool ng, .slice ar n cr, .int .i64 x] 29)) w7 := (kA6.toS _).trans G7
 have gP : GrwS [g] (w3.alloc (.cells #[.bool rp.neg, .slice pa rp.mag.length pc, .int .i64 rp.exp] 29)) w7 := ((k4.trans (k5.trans (kW5.trans k6))).toS _).trans G7
 have gR : GrwS [g] (w5.alloc (.cells #[.bool rr.neg, .slice ra rr.mag.length rc, .int .i64 rr.exp] 29)) w7 := (k6.toS _).trans G7
 have K7 : Kept w0 w7 := (K0.trans kA6).grwS (fun i hi => by simp at hi; omega) G7
 have HTS : Hid (TS w w7) := kA.ts.trans (gA.ts_new (fun p hp => by rw [List.mem_singleton.1 hp, World.size_alloc]; omega))
 have HK7 : Hid (KeepAt w0 w7 kb vL vW E) := (HKp.out.keptOn (kA.trans kA6)).grwS G7 (fun b hb h => by have := hLt.out b hb; simp at h; omega) (fun b hb => by simp at hb; omega)
 have HRp7 : Hid (Rw w7 (.slice pa rp.mag.length pc) 3 (ints rp.mag)) := (HRp.out.kept (kW3.trans (k4.trans (k5.trans (kW5.trans k6))))).grwS G7 (fun b hb h => by have := HBp.out b hb; simp at h; omega)
 have HRr7 : Hid (Rw w7 (.slice ra rr.mag.length rc) 3 (ints rr.mag)) := (HRr.out.kept (kW5.trans k6)).grwS G7 (fun b hb h => by have := HBr.out b hb; simp at h; omega)
 have HpLt : Hid (∀ b ∈ blk (.slice pa rp.mag.length pc), w2.heap.size ≤ b ∧ b < w3.heap.size) := fun b hb => ⟨HBp.out b hb, HRp.out.lt b hb⟩
 have HrLt : Hid (∀ b ∈ blk (.slice ra rr.mag.length rc), w4.heap.size ≤ b ∧ b < w5.heap.size) := fun b hb => ⟨HBr.out b hb, HRr.out.lt b hb⟩
 clear a0 a1 a2 KBk HO HRp HRr HBp HBr
 obtain ⟨a0, a1, a2⟩ := laid3 (by simp; omega) gA
 obtain ⟨p0, p1, p2⟩ := laid3 (by simp; omega) gP
 cases ok
 ·obtain ⟨rfl, rfl⟩ := HNb.out rfl
  obtain ⟨rfl, rfl⟩ := HSb.out rfl
  obtain ⟨rfl, rfl⟩ := HCb.out rfl
  obtain ⟨rfl, rfl⟩ := HZp.out rfl
  obtain ⟨rfl, rfl⟩ := HZr.out rfl
  dsimp only [List.length_nil] at *
  go_wp2_with fail
  refine (is_bad _ _ _ _ _ _ _).mono ?_
  rintro e w8 ⟨rfl, k8⟩
  clear a0 a1 a2 p0 p1 p2
  obtain ⟨a0, a1, a2⟩ := laid3 (by simp; omega) (gA.trans (k8.toS _))
  obtain ⟨r0, r1, r2⟩ := laid3 (by simp; omega) (gR.trans (k8.toS _))
  go_wp2_with fail
  refine (is_bad _ _ _ _ _ _ _).mono ?_
  rintro e w9 ⟨rfl, k9⟩
  go_wp2_with fail
  go_ret
  exact ⟨rfl, ⟨vL, vW, E, (HK7.out.keptOn k8).keptOn k9, by omega⟩, HTS.out.trans (k8.ts.trans k9.ts)⟩
 ·obtain ⟨rfl, ep⟩ := HNo.out rfl
  obtain ⟨rfl, es⟩ := HSo.out rfl
  obtain ⟨hrl, hrs, hrc⟩ := HCo.out rfl
  have HEp : Hid (rp = ⟨if n = 0 then ng else !ng, L, x⟩) := ep
  have HEs : Hid (sv = if n = 0 then 0 else if ng = true then -1 else 1) := es
  have HRs : Hid (∀ u, Kept w0 u → Sl u (.slice aw rr.mag.length cw) rr.mag) := hrs
  have HRc : Hid (∀ u, Kept w0 u → Calls Tryz.prog 29 #[.agg #[.bool ng, .slice ar n cr, .int .i64 x], .int .i64 k0] u fun e w' => e = .returned (.tuple #[.agg #[.bool rr.neg, .slice aw rr.mag.length cw, .int .i64 rr.exp], .int .i64 re]) ∧ Kept u w') := hrc
  clear ep es hrs hrc HNo HNb HSo HSb HCo HCb
  go_wp2_with fail
  refine (HRc.out _ K7).mono ?_
  rintro e w8 ⟨rfl, k8⟩
  have kW8 : Kept w8 (w8.alloc (.cells #[.bool rr.neg, .slice aw rr.mag.length cw, .int .i64 rr.exp] 29)) := (Kept.refl w8).alloc _ _
  have hs8 := k8.below.size
  have hin : ∀ b ∈ kb :: (blk vL ++ blk vW), b < w.heap.size := fun b hb => hLt.out b (by
   unfold blks
   rcases List.mem_cons.1 hb with rfl | hb
   ·simp
   ·exact List.mem_cons.2 (.inr (List.mem_append.2 (.inl hb))))
  have Hin : Hid (∀ b ∈ kb :: (blk vL ++ blk vW), b < w.heap.size) := hin
  clear hin
  have nA : w.heap.size ∉ g :: kb :: (blk vL ++ blk vW) := fun h => by
   rcases List.mem_cons.1 h with h | h
   ·omega
   ·have := Hin.out _ h; omega
  have nP : w3.heap.size ∉ g :: kb :: (blk vL ++ blk vW) := fun h => by
   rcases List.mem_cons.1 h with h | h
   ·omega
   ·have := Hin.out _ h; omega
  have nR : w5.heap.size ∉ g :: kb :: (blk vL ++ blk vW) := fun h => by
   rcases List.mem_cons.1 h with h | h
   ·omega
   ·have := Hin.out _ h; omega
  have nW : w8.heap.size ∉ g :: kb :: (blk vL ++ blk vW) := fun h => by
   rcases List.mem_cons.1 h with h | h
   ·omega
   ·have := Hin.out _ h; omega
  have HS : Hid (∀ u, GrwS (kb :: (blk vL ++ blk vW)) (w8.alloc (.cells #[.bool rr.neg, .slice aw rr.mag.length cw, .int .i64 rr.exp] 29)) u → (u.cell? ⟨w.heap.size, 0, none⟩ = some (.bool ng) ∧ u.cell? ⟨w.heap.size, 1, none⟩ = some (.slice ar n cr) ∧ u.cell? ⟨w.heap.size, 2, none⟩ = some (.int .i64 x)) ∧ (u.cell? ⟨w3.heap.size, 0, none⟩ = some (.bool rp.neg) ∧ u.cell? ⟨w3.heap.size, 1, none⟩ = some (.slice pa rp.mag.length pc) ∧ u.cell? ⟨w3.heap.size, 2, none⟩ = some (.int .i64 rp.exp)) ∧ (u.cell? ⟨w5.heap.size, 0, none⟩ = some (.bool rr.neg) ∧ u.cell? ⟨w5.heap.size, 1, none⟩ = some (.slice ra rr.mag.length rc) ∧ u.cell? ⟨w5.heap.size, 2, none⟩ = some (.int .i64 rr.exp)) ∧ (u.cell? ⟨w8.heap.size, 0, none⟩ = some (.bool rr.neg) ∧ u.cell? ⟨w8.heap.size, 1, none⟩ = some (.slice aw rr.mag.length cw) ∧ u.cell? ⟨w8.heap.size, 2, none⟩ = some (.int .i64 rr.exp))) := fun u k => by
   have k' : GrwS (g :: kb :: (blk vL ++ blk vW)) (w8.alloc (.cells #[.bool rr.neg, .slice aw rr.mag.length cw, .int .i64 rr.exp] 29)) u := k.mono (fun i hi => List.mem_cons.2 (.inr hi))
   have m1 : ∀ i ∈ [g], i ∈ g :: kb :: (blk vL ++ blk vW) := fun i hi => by simp at hi; simp [hi]
   exact ⟨laid3 nA (((gA.mono m1).trans ((k8.trans kW8).toS _)).trans k'), laid3 nP (((gP.mono m1).trans ((k8.trans kW8).toS _)).trans k'), laid3 nR (((gR.mono m1).trans ((k8.trans kW8).toS _)).trans k'), laid3 nW k'⟩
  clear nA nP nR nW a0 a1 a2 p0 p1 p2
  have K8 : Kept w0 (w8.alloc (.cells #[.bool rr.neg, .slice aw rr.mag.length cw, .int .i64 rr.exp] 29)) := K7.trans (k8.trans kW8)
  have HK8 : Hid (KeepAt w0 (w8.alloc (.cells #[.bool rr.neg, .slice aw rr.mag.length cw, .int .i64 rr.exp] 29)) kb vL vW E) := HK7.out.keptOn (k8.trans kW8)
  have HT2 : Hid (∀ u, GrwS (kb :: (blk vL ++ blk vW)) (w8.alloc (.cells #[.bool rr.neg, .slice aw rr.mag.length cw, .int .i64 rr.exp] 29)) u → TS w u) := fun u k => (HTS.out.trans (k8.trans kW8).ts).trans (HK8.out.ts k)
  have dP : ∀ b ∈ blk (.slice pa rp.mag.length pc), b ∉ blks kb vL vW E := fun b hb h => by have := HpLt.out b hb; have := hLt.out b h; omega
  have dR : ∀ b ∈ blk (.slice ra rr.mag.length rc), b ∉ blks kb vL vW E := fun b hb h => by have := HrLt.out b hb; have := hLt.out b h; omega
  have dPR : ∀ b ∈ blk (.slice ra rr.mag.length rc), b ∉ blk (.slice pa rp.mag.length pc) := fun b hb h => by have := HrLt.out b hb; have := HpLt.out b h; omega
  have e1 : rp.mag = L := by rw [HEp.out]
  have hTn : rp = ⟨rp.neg, L, x⟩ := by rw [HEp.out]
  have hvT : vld rp = true := by
   rw [HEp.out]
   by_cases h0 : n = 0
   ·rw [if_pos h0]; exact HOK.out
   ·rw [if_neg h0]
    have hL0 : L ≠ [] := fun h => h0 (by rw [HN.out, h]; rfl)
    have := HOK.out
    unfold vld at this ⊢
    dsimp only at this ⊢
    rw [if_neg hL0] at this ⊢
    exact this
  have hnew : ∀ i ∈ kb :: (blk vL ++ blk vW), w0.heap.size ≤ i := fun i hi => HK8.out.new i (by
   unfold blks
   rcases List.mem_cons.1 hi with rfl | hi
   ·simp
   ·exact List.mem_cons.2 (.inr (List.mem_append.2 (.inl hi))))
  have lenP : rp.mag.length = n := by rw [e1, HN.out]
  have KI : Hid (∀ u, Kept (w8.alloc (.cells #[.bool rr.neg, .slice aw rr.mag.length cw, .int .i64 rr.exp] 29)) u → Calls Tryz.prog 22 #[.pointer (some ⟨kb, 0, none⟩), .agg #[.bool rp.neg, .slice pa rp.mag.length pc, .int .i64 rp.exp], .int .i64 0, .bool false, .agg #[.bool rp.neg, .slice ar n cr, .int .i64 x]] u fun e w' => e = .returned (.bool true) ∧ Fr1 w0 (w8.alloc (.cells #[.bool rr.neg, .slice aw rr.mag.length cw, .int .i64 rr.exp] 29)) kb vL vW E (.slice pa rp.mag.length pc) rp.mag w') := fun u ku => by
   have hxe : rp.exp = x := by rw [HEp.out]
   refine is_gen _ _ _ _ _ _ _ _ _ _ _ _ rp.neg ar n cr x u _ (fun t kt => ?_) (fun t kt => ?_) (fun t kt => ?_)
   ·have := answer_any rp (by rw [e1]; exact HR.out) (by rw [lenP]; omega) ar cr t (by rw [lenP, e1]; exact HL.out t (K8.trans (ku.trans kt)))
    rw [hvT, lenP, hxe] at this
    exact this
   ·refine sameNum_true rp (by rw [lenP]; omega) _ _ t ⟨_, rfl, ((HRp7.out.kept (k8.trans (kW8.trans (ku.trans kt)))).sl)⟩ ⟨_, by rw [hxe], ?_⟩
    rw [e1]
    exact HL.out t (K8.trans (ku.trans kt))
   ·exact add_fr1 w0 (w8.alloc (.cells #[.bool rr.neg, .slice aw rr.mag.length cw, .int .i64 rr.exp] 29)) kb vL vW E HK8.out (by omega) _ _ rp.mag (by rw [lenP]; omega) (HRp7.out.kept (k8.trans kW8)) dP (fun b hb => by have := HpLt.out b hb; omega) (fun v kv => by rw [e1]; exact HL.out v (K8.grwS hnew kv)) t (ku.trans kt)
  have KS : Hid (∀ u, Fr1 w0 (w8.alloc (.cells #[.bool rr.neg, .slice aw rr.mag.length cw, .int .i64 rr.exp] 29)) kb vL vW E (.slice pa rp.mag.length pc) rp.mag u → Calls Tryz.prog 16 #[.agg #[.bool rr.neg, .slice ra rr.mag.length rc, .int .i64 rr.exp], .agg #[.bool rr.neg, .slice aw rr.mag.length cw, .int .i64 rr.exp]] u fun e w' => e = .returned (.bool true) ∧ Kept u w') := fun u hF => by
   obtain ⟨vL', vW', t, h1, h2, h3, h4⟩ := hF
   refine sameNum_true rr (by omega) _ _ u ⟨_, rfl, ((HRr7.out.kept (k8.trans kW8)).grwS h2 (fun b hb h => dR b hb ?_)).sl⟩ ⟨_, rfl, HRs.out u h1.kept⟩
   unfold blks
   rcases List.mem_cons.1 h with rfl | h
   ·simp
   ·exact List.mem_cons.2 (.inr (List.mem_append.2 (.inl h)))
  have KA : Hid (∀ u, Fr1 w0 (w8.alloc (.cells #[.bool rr.neg, .slice aw rr.mag.length cw, .int .i64 rr.exp] 29)) kb vL vW E (.slice pa rp.mag.length pc) rp.mag u → Calls Tryz.prog 17 #[.pointer (some ⟨kb, 0, none⟩), .slice ra rr.mag.length rc, .slice aw rr.mag.length cw] u fun e w' => e = .returned (.bool true) ∧ Fr2 w0 (w8.alloc (.cells #[.bool rr.neg, .slice aw rr.mag.length cw, .int .i64 rr.exp] 29)) kb vL vW (E.length + 2) w') := fun u hF => add_fr2 w0 (w8.alloc (.cells #[.bool rr.neg, .slice aw rr.mag.length cw, .int .i64 rr.exp] 29)) kb vL vW E hE _ _ HK8.out _ _ rr.mag (by omega) (HRr7.out.kept (k8.trans kW8)) dR dPR (fun b hb => by have := HrLt.out b hb; omega) HRs.out u hF
  have KT : Hid (∀ u, Calls Tryz.prog 30 #[.agg #[.bool ng, .slice ar n cr, .int .i64 x]] u fun e w' => e = .returned (.agg #[.bool rp.neg, .slice ar n cr, .int .i64 x]) ∧ Kept u w') := fun u => by
   have : rp.neg = (if n = 0 then ng else !ng) := by rw [HEp.out]
   rw [this]
   exact turned_any ng ar n cr x u
  have KG : Hid (∀ u, Calls Tryz.prog 31 #[.agg #[.bool ng, .slice ar n cr, .int .i64 x]] u fun e w' => e = .returned (.int .i64 sv) ∧ Kept u w') := fun u => by
   rw [HEs.out]
   exact rsig2_any ng ar n cr x u
  have HF1 : Hid (∀ u, Fr1 w0 (w8.alloc (.cells #[.bool rr.neg, .slice aw rr.mag.length cw, .int .i64 rr.exp] 29)) kb vL vW E (.slice pa rp.mag.length pc) rp.mag u → GrwS (kb :: (blk vL ++ blk vW)) (w8.alloc (.cells #[.bool rr.neg, .slice aw rr.mag.length cw, .int .i64 rr.exp] 29)) u) := fun u h => by
   obtain ⟨_, _, _, _, h2, _⟩ := h
   exact h2
  have HF2 : Hid (∀ u, Fr2 w0 (w8.alloc (.cells #[.bool rr.neg, .slice aw rr.mag.length cw, .int .i64 rr.exp] 29)) kb vL vW (E.length + 2) u → GrwS (kb :: (blk vL ++ blk vW)) (w8.alloc (.cells #[.bool rr.neg, .slice aw rr.mag.length cw, .int .i64 rr.exp] 29)) u ∧ ∃ vL' vW' E', KeepAt w0 u kb vL' vW' E' ∧ E'.length ≤ E.length + 2) := fun u h => ⟨h.2, h.1⟩
  have HON : Hid (∀ u u', Fr1 w0 (w8.alloc (.cells #[.bool rr.neg, .slice aw rr.mag.length cw, .int .i64 rr.exp] 29)) kb vL vW E (.slice pa rp.mag.length pc) rp.mag u → Kept u u' → Fr1 w0 (w8.alloc (.cells #[.bool rr.neg, .slice aw rr.mag.length cw, .int .i64 rr.exp] 29)) kb vL vW E (.slice pa rp.mag.length pc) rp.mag u') := fun u u' h k => h.on k
  clear HTS HRs HRc HK7 HK8 HRp7 HRr7 HpLt HrLt HEp HEs HOK HR HL HN HKp hTn hvT e1 dP dR dPR lenP hnew hrl hLt Hin HZp HZr k8 gA gP gR G7 hG7 K7 K8 kA K0 kA1 kA2 kA6 k2 k3 k4 k5 k6 kW1 kW3 kW5 k23 k24 k25 k26 hs2 hs3 hs4 hs5 hs6 hs7 hs8 hsk2 hgl hg hw0
  generalize Fr1 w0 (w8.alloc (.cells #[.bool rr.neg, .slice aw rr.mag.length cw, .int .i64 rr.exp] 29)) kb vL vW E (.slice pa rp.mag.length pc) rp.mag = F1 at *
  generalize Fr2 w0 (w8.alloc (.cells #[.bool rr.neg, .slice aw rr.mag.length cw, .int .i64 rr.exp] 29)) kb vL vW (E.length + 2) = F2 at *
  generalize rp.mag.length = pl at *
  generalize rr.mag.length = rl at *
  generalize rp.neg = pn at *
  generalize rr.neg = rn at *
  generalize rp.exp = px at *
  generalize rr.exp = rx at *
  have hss : (sv == sv) = true := by simp
  have hrre : (re == re) = true := by simp
  have d0 : GrwS (kb :: (blk vL ++ blk vW)) (w8.alloc (.cells #[.bool rn, .slice aw rl cw, .int .i64 rx] 29)) (w8.alloc (.cells #[.bool rn, .slice aw rl cw, .int .i64 rx] 29)).drew := (Kept.refl _).drew.toS _
  have kd : Kept (w8.alloc (.cells #[.bool rn, .slice aw rl cw, .int .i64 rx] 29)) (w8.alloc (.cells #[.bool rn, .slice aw rl cw, .int .i64 rx] 29)).drew := (Kept.refl _).drew
  go_wp2_with fail
  go_region_held (fun u => (u.cell? ⟨w.heap.size, 0, none⟩ = some (.bool ng) ∧ u.cell? ⟨w.heap.size, 1, none⟩ = some (.slice ar n cr) ∧ u.cell? ⟨w.heap.size, 2, none⟩ = some (.int .i64 x)) ∧ (u.cell? ⟨w3.heap.size, 0, none⟩ = some (.bool pn) ∧ u.cell? ⟨w3.heap.size, 1, none⟩ = some (.slice pa pl pc) ∧ u.cell? ⟨w3.heap.size, 2, none⟩ = some (.int .i64 px)) ∧ (u.cell? ⟨w5.heap.size, 0, none⟩ = some (.bool rn) ∧ u.cell? ⟨w5.heap.size, 1, none⟩ = some (.slice ra rl rc) ∧ u.cell? ⟨w5.heap.size, 2, none⟩ = some (.int .i64 rx)) ∧ (u.cell? ⟨w8.heap.size, 0, none⟩ = some (.bool rn) ∧ u.cell? ⟨w8.heap.size, 1, none⟩ = some (.slice aw rl cw) ∧ u.cell? ⟨w8.heap.size, 2, none⟩ = some (.int .i64 rx))) (first | exact HS.out _ d0 | assumption) (first | (go_at_call 30; refine (KT.out _).mono ?_; rintro e y1 ⟨rfl, q1⟩; have e0 := HS.out _ ((kd.trans q1).toS _)) | (go_at_call 22; refine (KI.out _ (kd.trans q1)).mono ?_; rintro e y2 ⟨rfl, q2⟩; have e0 := HS.out _ (HF1.out _ q2)) | (go_at_call 31; refine (KG.out _).mono ?_; rintro e y3 ⟨rfl, q3⟩; have q3' := HON.out _ _ q2 q3; have e0 := HS.out _ (HF1.out _ q3')) | (go_at_call 16; refine (KS.out _ q3').mono ?_; rintro e y4 ⟨rfl, q4⟩; have q4' := HON.out _ _ q3' q4; have e0 := HS.out _ (HF1.out _ q4')) | (go_at_call 17; refine (KA.out _ q4').mono ?_; rintro e y5 ⟨rfl, q5⟩; have e0 := HS.out _ (HF2.out _ q5).1))
  all_goals
   go_wp2_with fail
   go_ret
   exact ⟨rfl, (HF2.out _ q5).2, HT2.out _ (HF2.out _ q5).1⟩
end Go.Proofs.YtbffekcjdcihpaaGreatDoor
