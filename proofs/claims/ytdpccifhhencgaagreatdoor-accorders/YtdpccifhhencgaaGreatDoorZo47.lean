/- AccOrders: whatever is added, in whatever order and parts: one sum. -/
import Derived.Test.YtdpccifhhencgaaGreatDoorZo46
import Derived.Test.YtdpccifhhencgaaGreatDoorZo41
namespace Go.Proofs.YtdpccifhhencgaaGreatDoor
open Go.ChangeShapes Go.WideShapes Go.ChangeAt Go.RowKit
set_option linter.unusedVariables false
set_option linter.unusedSimpArgs false
set_option maxHeartbeats 16000000
set_option maxRecDepth 100000
section
variable {P : Program} {ops : Array Oper} {Q : Exit → Act → World → Prop} {md : Region.Mode} {S T : World → Prop} {D : List Nat}
theorem wpAnyT_step {i : Nat} {o : Oper} {fuel : Nat} {listed : Array Bool} {a : Act} {w : World} (hr : Region.ready md ops listed = [i]) (ho : ops[i]? = some o)
  (h : ∀ K' : Act → World → Prop, Shut (∀ a w, S w → T w → (S w → T w → wpAnyT P md ops Q S T D fuel (listed.setIfInBounds i true) a w) → K' a w) → if Region.wanted o (yielded ops a.tmps) = true then Oper.wp P o a w K' Q else K' (a.put o.dst undef) w) :
  wpAnyT P md ops Q S T D (fuel + 1) listed a w := by
 refine ⟨fun h0 => (by rw [h0] at hr; cases hr), fun j hj => ?_⟩
 rw [hr] at hj
 obtain rfl := List.mem_singleton.1 hj
 exact wpOp_step ho (fun K' hK => h K' (fun a w hS hT hW => hK a w ⟨⟨fun _ => hS, hT⟩, hW hS hT⟩))
end
theorem mask5 (s : Int) : bits .and .i64 s 31 = s % 32 := by
 have e : (BitVec.ofInt 64 31 : BitVec 64).toNat = 2 ^ 5 - 1 := by decide
 have h := ofInt_toNat s
 rw [bits_and, BitVec.toNat_and, e, Nat.and_two_pow_sub_one_eq_mod, wrap_i64]
 omega
/- does an item go to the first part? -/
def cbI (cut : Int) (k : Nat) : Bool := bits .and .i64 (cut / 2 ^ min ((k : Int) % 32).toNat IntKind.i64.bits) 1 == 0
/- an item's four cells -/
def ItemAt (u : World) (ar : Option Addr) (i : Nat) (k x y w : Int) : Prop := ∃ b off, ar = some ⟨b, off, none⟩ ∧ u.cell? ⟨b, off + i * 4, none⟩ = some (.int .i64 k) ∧ u.cell? ⟨b, off + i * 4 + 1, none⟩ = some (.int .i64 x) ∧ u.cell? ⟨b, off + i * 4 + 2, none⟩ = some (.int .i64 y) ∧ u.cell? ⟨b, off + i * 4 + 3, none⟩ = some (.int .i64 w)
theorem accOrders_true (w : World) (hT : Tab w) (ar : Option Addr) (N cap : Nat) (fk fx fy fw : Nat → Int) (hx : ∀ j, -9223372036854775808 ≤ fx j ∧ fx j ≤ 9223372036854775807) (hy : ∀ j, -9223372036854775808 ≤ fy j ∧ fy j ≤ 9223372036854775807) (HI0 : ∀ u, Kept w u → ∀ i, i < N → ItemAt u ar i (fk i) (fx i) (fy i) (fw i)) (cut : Int) :
  Calls Tryz.prog 8 #[.slice ar N cap, .int .i64 cut] w fun e w' => e = .returned (.bool true) ∧ Kept w w' := by
 have KL : Hid (∀ u, Kept w u → Calls Tryz.prog 9 #[] u fun e w' => e = .returned (.bool true) ∧ Kept u w') := fun u k => alive3 u (hT.kept k)
 by_cases h200 : 200 < N
 ·have h2 : (200 : Int) < (N : Int) := by omega
  go_enter Tryz.func8, Tryz.ntmps8
  go_wp2_with fail
  refine (KL.out _ (Kept.refl _)).mono ?_
  rintro e w1 ⟨rfl, k1⟩
  go_wp2_with fail
  go_ret
  exact ⟨rfl, k1⟩
 have h2 : ¬ (200 : Int) < (N : Int) := by omega
 obtain ⟨v, hv⟩ : ∃ v : Nat → Int, v = fun j => vI (fk j) (fx j) (fy j) (fw j) := ⟨_, rfl⟩
 obtain ⟨P, hP⟩ : ∃ v : Nat → Bool, v = fun j => iP (fk j) (fx j) (fy j) (fw j) := ⟨_, rfl⟩
 obtain ⟨M, hM⟩ : ∃ v : Nat → Bool, v = fun j => iM (fk j) (fx j) (fy j) (fw j) := ⟨_, rfl⟩
 obtain ⟨Z, hZ⟩ : ∃ v : Nat → Bool, v = fun j => iN (fk j) (fx j) (fy j) (fw j) := ⟨_, rfl⟩
 have hvb : ∀ j, (v j).natAbs < 2 ^ expJ := fun j => by rw [hv]; exact vI_lt _ _ _ _ (hx j).1 (hx j).2 (hy j).1 (hy j).2
 have hz0 : (0 : Int).natAbs < 2 ^ expJ := Nat.two_pow_pos _
 obtain ⟨cb, hcb⟩ : ∃ v : Nat → Bool, v = fun j => cbI cut j := ⟨_, rfl⟩
 have HB : Hid (∀ (f : Nat → Int), (f = v ∨ (f = fun j => v (N - 1 - j)) ∨ (f = fun j => bif cb j then v j else 0) ∨ (f = fun j => bif cb j then 0 else v j)) → ∀ k, k ≤ N → (sI f k).natAbs < 2 ^ expK) := fun f hf k hk => by
  refine sI_bd f (fun j => ?_) k (by omega)
  rcases hf with rfl | rfl | rfl | rfl
  ·exact hvb j
  ·exact hvb _
  ·dsimp only
   cases cb j
   ·exact hz0
   ·exact hvb j
  ·dsimp only
   cases cb j
   ·exact hvb j
   ·exact hz0
 have HI : Hid (∀ u, Kept w u → ∀ i, i < N → ItemAt u ar i (fk i) (fx i) (fy i) (fw i)) := HI0
 have KA : Hid (∀ (u : World) (i : Nat) (S : Int) (r q : Nm) (p m z : Bool) (ao : Option Addr) (c : Nat), Kept w u → DN S r → DN (S + v i) q → (ao = none → c = 0) → Sl u (.slice ao r.mag.length c) r.mag → Calls Tryz.prog 16 #[accV r.neg (.slice ao r.mag.length c) r.exp p m z, .agg #[.int .i64 (fk i), .int .i64 (fx i), .int .i64 (fy i), .int .i64 (fw i)]] u fun e w' => ∃ un ua ul uc ux, e = .returned (.tuple #[accV un (.slice ua ul uc) ux (p || P i) (m || M i) (z || Z i), .bool true]) ∧ New u w' (.agg #[.bool un, .slice ua ul uc, .int .i64 ux]) q ∧ Kept u w') := fun u i S r q p m z ao c k hr hq hc hs => by
  rw [hP, hM, hZ]
  rw [hv] at hq
  exact added_dn (fk i) (fx i) (fy i) (fw i) (hx i).1 (hx i).2 (hy i).1 (hy i).2 hr hq p m z ao c hc u (hT.kept k) hs
 have KMg : Hid (∀ (u : World) (S T : Int) (r t q : Nm) (p1 m1 z1 p2 m2 z2 : Bool) (ao bo : Option Addr) (c d : Nat), Kept w u → DN S r → DN T t → DN (S + T) q → Sl u (.slice ao r.mag.length c) r.mag → Sl u (.slice bo t.mag.length d) t.mag → Calls Tryz.prog 17 #[accV r.neg (.slice ao r.mag.length c) r.exp p1 m1 z1, accV t.neg (.slice bo t.mag.length d) t.exp p2 m2 z2] u fun e w' => ∃ va vc, e = .returned (.tuple #[accV q.neg (.slice va q.mag.length vc) q.exp (p1 || p2) (m1 || m2) (z1 || z2), .int .i64 0]) ∧ Hid (Sl w' (.slice va q.mag.length vc) q.mag) ∧ Kept u w') := fun u S T r t q p1 m1 z1 p2 m2 z2 ao bo c d k hr ht hq h h' => by
  refine (merge_dn hr ht hq p1 m1 z1 p2 m2 z2 ao bo c d u (hT.kept k) h h').mono ?_
  rintro e w' ⟨vn, va, vl, vc, vx, rfl, hNn, k2⟩
  obtain ⟨rfl, rfl, rfl, -, hs⟩ := hNn.parts
  exact ⟨va, vc, rfl, hs, k2⟩
 have KV : Hid (∀ (u : World) (S : Int) (r : Nm) (p m z : Bool) (ao : Option Addr) (c : Nat), DN S r → Sl u (.slice ao r.mag.length c) r.mag → Calls Tryz.prog 19 #[accV r.neg (.slice ao r.mag.length c) r.exp p m z] u fun e w' => e = .returned (.bool true) ∧ Kept u w') := fun u S r p m z ao c hr hs => avalid_any r.neg ao r.mag.length c r.exp p m z true u (fun t k => by
  have := xvalid_any r hr.rg.1 (by have := hr.rg.2; omega) _ t ⟨_, rfl, hs.kept k⟩
  rw [hr.vld] at this
  exact this)
 have KSm : Hid (∀ (u : World) (S : Int) (r : Nm) (p m z : Bool) (ao bo : Option Addr) (c d : Nat), DN S r → Sl u (.slice ao r.mag.length c) r.mag → Sl u (.slice bo r.mag.length d) r.mag → Calls Tryz.prog 18 #[accV r.neg (.slice ao r.mag.length c) r.exp p m z, accV r.neg (.slice bo r.mag.length d) r.exp p m z] u fun e w' => e = .returned (.bool true) ∧ Kept u w') := fun u S r p m z ao bo c d hr hs hs' => accSame_true r (by have := hr.rg.2; omega) p m z ao bo c d u hs hs'
 have HCB : Hid (∀ k : Nat, ∃ sv qv : Int, bits .and .i64 (k : Int) 31 = sv ∧ Op.shift .shr .i64 cut .i64 sv = pure (.int .i64 qv) ∧ (bits .and .i64 qv 1 == 0) = cb k) := fun k => by
  refine ⟨(k : Int) % 32, cut / 2 ^ min ((k : Int) % 32).toNat IntKind.i64.bits, mask5 _, ?_, ?_⟩
  ·exact shift_shr_any .i64 .i64 cut ((k : Int) % 32) (by omega)
  ·rw [hcb]; rfl
 clear hT HI0 hvb hx hy hz0 hv hP hM hZ hcb
 obtain ⟨D, hD⟩ : ∃ D, D = (((w.alloc (.cells #[.bool false, .slice none 0 0, .int .i64 0, .bool false, .bool false, .bool false] 26)).alloc (.cells #[.bool false, .slice none 0 0, .int .i64 0, .bool false, .bool false, .bool false] 26)).alloc (.cells #[.bool false, .slice none 0 0, .int .i64 0, .bool false, .bool false, .bool false] 26)).alloc (.cells #[.bool false, .slice none 0 0, .int .i64 0, .bool false, .bool false, .bool false] 26) := ⟨_, rfl⟩
 have kD : Kept w D := by rw [hD]; exact ((((Kept.refl w).alloc _ _).alloc _ _).alloc _ _).alloc _ _
 obtain ⟨Ba, hBa⟩ : ∃ B, B = w.heap.size := ⟨_, rfl⟩
 obtain ⟨Bb, hBb⟩ : ∃ B, B = w.heap.size + 1 := ⟨_, rfl⟩
 obtain ⟨Bc, hBc⟩ : ∃ B, B = w.heap.size + 1 + 1 := ⟨_, rfl⟩
 obtain ⟨Bd, hBd⟩ : ∃ B, B = w.heap.size + 1 + 1 + 1 := ⟨_, rfl⟩
 obtain ⟨lo, hlo⟩ : ∃ B, B = w.heap.size + 4 := ⟨_, rfl⟩
 have hDs : D.heap.size = lo := by rw [hD, hlo]; simp
 have box0 : ∀ B, (B = Ba ∨ B = Bb ∨ B = Bc ∨ B = Bd) → Box D lo B ⟨false, [], 0⟩ false false false none 0 := fun B hB => by
  have hlt : B < D.heap.size := by omega
  refine ⟨?_, ?_, ?_, ?_, ?_, ?_, fun o => ?_, hlt, fun _ => rfl, sl_none _, fun b off e => by cases e⟩
  all_goals
   rw [hD]
   rcases hB with rfl | rfl | rfl | rfl
   ·rw [hBa]; simp [go_sem]
   ·rw [hBb]; simp [go_sem]
   ·rw [hBc]; simp [go_sem]
   ·rw [hBd]; simp [go_sem]
 have HO : Hid ((w.heap.size ≤ Ba ∧ w.heap.size ≤ Bb ∧ w.heap.size ≤ Bc ∧ w.heap.size ≤ Bd) ∧ (Ba < lo ∧ Bb < lo ∧ Bc < lo ∧ Bd < lo) ∧ (Ba ≠ Bb ∧ Ba ≠ Bc ∧ Ba ≠ Bd ∧ Bb ≠ Bc ∧ Bb ≠ Bd ∧ Bc ≠ Bd)) := (show (_ ∧ _ ∧ _ ∧ _) ∧ (_ ∧ _ ∧ _ ∧ _) ∧ _ from by omega)
 go_enter Tryz.func8, Tryz.ntmps8
 go_upto_region 4 with fail
 rw [← hD, ← hBd, ← hBc, ← hBb, ← hBa]
 have ba := box0 Ba (by simp)
 have bb := box0 Bb (by simp)
 have bc := box0 Bc (by simp)
 have bd := box0 Bd (by simp)
 clear box0 hD hBa hBb hBc hBd hlo
 go_wp2_with fail
 go_loopw [9, 10] (fun t9 t10 wr => ∃ (k : Nat) (ra rb rc rd : Nm) (aa ab ac ad : Option Addr) (ca cb' cc cd : Nat), k ≤ N ∧ t9 = .bool true ∧ t10 = .int .i64 k ∧ Kept w wr ∧ lo ≤ wr.heap.size ∧
  (Box wr lo Ba ra (oI P k) (oI M k) (oI Z k) aa ca ∧ DN (sI v k) ra) ∧ (Box wr lo Bb rb (oI (fun j => P (N - 1 - j)) k) (oI (fun j => M (N - 1 - j)) k) (oI (fun j => Z (N - 1 - j)) k) ab cb' ∧ DN (sI (fun j => v (N - 1 - j)) k) rb) ∧
  (Box wr lo Bc rc (oI (fun j => bif cb j then P j else false) k) (oI (fun j => bif cb j then M j else false) k) (oI (fun j => bif cb j then Z j else false) k) ac cc ∧ DN (sI (fun j => bif cb j then v j else 0) k) rc) ∧ (Box wr lo Bd rd (oI (fun j => bif cb j then false else P j) k) (oI (fun j => bif cb j then false else M j) k) (oI (fun j => bif cb j then false else Z j) k) ad cd ∧ DN (sI (fun j => bif cb j then 0 else v j) k) rd)) (fun _ i _ => N - (intOf i).toNat)
 case atStart => exact ⟨0, _, _, _, _, _, _, _, _, _, _, _, _, Nat.zero_le _, rfl, rfl, kD, Nat.le_of_eq hDs.symm, ⟨ba, dn_zero⟩, ⟨bb, dn_zero⟩, ⟨bc, dn_zero⟩, ⟨bd, dn_zero⟩⟩
 case round =>
  obtain ⟨k, ra, rb, rc, rd, aa, ab, ac, ad, ca, cb', cc, cd, hk, rfl, rfl, kr, hsz, ⟨ba1, da⟩, ⟨bb1, db⟩, ⟨bc1, dc⟩, ⟨bd1, dd⟩⟩ := hrel
  clear ba bb bc bd kD hDs
  by_cases hkn : k < N
  ·obtain ⟨J, hJ⟩ : ∃ J, J = N - 1 - k := ⟨_, rfl⟩
   have hJN : J < N := by omega
   have j1 : IntKind.i64.wrap ((N : Int) - 1) = (N : Int) - 1 := by rw [wrap_i64]; omega
   have j2 : IntKind.i64.wrap ((N : Int) - 1 - (k : Int)) = (J : Int) := by rw [wrap_i64]; omega
   obtain ⟨qa, hqa⟩ := dn_some (sI v (k + 1)) (HB.out v (.inl rfl) (k + 1) hkn)
   obtain ⟨qb, hqb0⟩ := dn_some (sI (fun j => v (N - 1 - j)) (k + 1)) (HB.out _ (.inr (.inl rfl)) (k + 1) hkn)
   have hqb : DN (sI (fun j => v (N - 1 - j)) k + v J) qb := by rw [hJ]; exact hqb0
   obtain ⟨qc, hqc⟩ := dn_some (sI (fun j => bif cb j then v j else 0) (k + 1)) (HB.out _ (.inr (.inr (.inl rfl))) (k + 1) hkn)
   obtain ⟨qd, hqd⟩ := dn_some (sI (fun j => bif cb j then 0 else v j) (k + 1)) (HB.out _ (.inr (.inr (.inr rfl))) (k + 1) hkn)
   obtain ⟨b, off, rfl, -⟩ := HI.out _ kr k hkn
   have HIk : Hid (∀ u, Kept w u → u.cell? ⟨b, off + k * 4, none⟩ = some (.int .i64 (fk k)) ∧ u.cell? ⟨b, off + k * 4 + 1, none⟩ = some (.int .i64 (fx k)) ∧ u.cell? ⟨b, off + k * 4 + 2, none⟩ = some (.int .i64 (fy k)) ∧ u.cell? ⟨b, off + k * 4 + 3, none⟩ = some (.int .i64 (fw k))) := fun u ku => by
    obtain ⟨b', off', e, hh⟩ := HI.out u ku k hkn
    cases e
    exact hh
   have HIJ : Hid (∀ u, Kept w u → u.cell? ⟨b, off + J * 4, none⟩ = some (.int .i64 (fk J)) ∧ u.cell? ⟨b, off + J * 4 + 1, none⟩ = some (.int .i64 (fx J)) ∧ u.cell? ⟨b, off + J * 4 + 2, none⟩ = some (.int .i64 (fy J)) ∧ u.cell? ⟨b, off + J * 4 + 3, none⟩ = some (.int .i64 (fw J))) := fun u ku => by
    obtain ⟨b', off', e, hh⟩ := HI.out u ku J hJN
    cases e
    exact hh
   clear HI
   obtain ⟨sv, qv, q1, q2, q3⟩ := HCB.out k
   clear HCB HB
   obtain ⟨⟨o1, o2, o3, o4⟩, ⟨l1, l2, l3, l4⟩, ⟨n1, n2, n3, n4, n5, n6⟩⟩ := HO.out
   have HE : Hid (J = N - 1 - k) := hJ
   clear hJ
   have swr : lo ≤ wr.heap.size := hsz
   go_wp2_with fail
   have HSa : Hid (∀ u, Kept wr u → Kept wr u ∧ ((u.cell? ⟨Ba, 0, none⟩ = some (.bool ra.neg) ∧ u.cell? ⟨Ba, 1, none⟩ = some (.slice aa ra.mag.length ca) ∧ u.cell? ⟨Ba, 2, none⟩ = some (.int .i64 ra.exp)) ∧ u.cell? ⟨Ba, 3, none⟩ = some (.bool (oI P k)) ∧ u.cell? ⟨Ba, 4, none⟩ = some (.bool (oI M k)) ∧ u.cell? ⟨Ba, 5, none⟩ = some (.bool (oI Z k))) ∧ u.cell? ⟨b, off + k * 4, none⟩ = some (.int .i64 (fk k)) ∧ u.cell? ⟨b, off + k * 4 + 1, none⟩ = some (.int .i64 (fx k)) ∧ u.cell? ⟨b, off + k * 4 + 2, none⟩ = some (.int .i64 (fy k)) ∧ u.cell? ⟨b, off + k * 4 + 3, none⟩ = some (.int .i64 (fw k))) := fun u ku => ⟨ku, ⟨⟨(ba1.kept ku).c0, (ba1.kept ku).c1, (ba1.kept ku).c2⟩, (ba1.kept ku).c3, (ba1.kept ku).c4, (ba1.kept ku).c5⟩, HIk.out u (kr.trans ku)⟩
   refine wp_region_lateT [9] (fun u => Kept wr u ∧ ((u.cell? ⟨Ba, 0, none⟩ = some (.bool ra.neg) ∧ u.cell? ⟨Ba, 1, none⟩ = some (.slice aa ra.mag.length ca) ∧ u.cell? ⟨Ba, 2, none⟩ = some (.int .i64 ra.exp)) ∧ u.cell? ⟨Ba, 3, none⟩ = some (.bool (oI P k)) ∧ u.cell? ⟨Ba, 4, none⟩ = some (.bool (oI M k)) ∧ u.cell? ⟨Ba, 5, none⟩ = some (.bool (oI Z k))) ∧ u.cell? ⟨b, off + k * 4, none⟩ = some (.int .i64 (fk k)) ∧ u.cell? ⟨b, off + k * 4 + 1, none⟩ = some (.int .i64 (fx k)) ∧ u.cell? ⟨b, off + k * 4 + 2, none⟩ = some (.int .i64 (fy k)) ∧ u.cell? ⟨b, off + k * 4 + 3, none⟩ = some (.int .i64 (fw k))) (fun _ => True) (by kernel_rfl) (HSa.out _ (Kept.refl _).drew) trivial (fun hHeld _ => ?_)
   refine wpAnyT_take (i := 0) (v := ?_) rfl (by kernel_rfl) (by kernel_rfl) (by kernel_rfl) (by kernel_rfl) (fun _ _ _ h => h) (Or.inl ⟨by rfl, ?hya0⟩) hHeld trivial ?_
   case hya0 => (intro w hSw; (try dsimp only at hSw); go_simp; try (with_reducible rfl))
   (try simp only [Act.put, zA, zB, zC, zD, zE, zF])
   refine wpAnyT_take (i := 1) (v := ?_) rfl (by kernel_rfl) (by kernel_rfl) (by kernel_rfl) (by kernel_rfl) (fun _ _ _ h => h) (Or.inl ⟨by rfl, ?hya1⟩) hHeld trivial ?_
   case hya1 => (intro w hSw; (try dsimp only at hSw); go_simp; try (with_reducible rfl))
   (try simp only [Act.put, zA, zB, zC, zD, zE, zF])
   refine wpAnyT_take (i := 2) (v := ?_) rfl (by kernel_rfl) (by kernel_rfl) (by kernel_rfl) (by kernel_rfl) (fun _ _ _ h => h) (Or.inl ⟨by rfl, ?hya2⟩) hHeld trivial ?_
   case hya2 => (intro w hSw; (try dsimp only at hSw); go_simp; try (with_reducible rfl))
   (try simp only [Act.put, zA, zB, zC, zD, zE, zF])
   refine wpAnyT_take (i := 3) (v := ?_) rfl (by kernel_rfl) (by kernel_rfl) (by kernel_rfl) (by kernel_rfl) (fun _ _ _ h => h) (Or.inl ⟨by rfl, ?hya3⟩) hHeld trivial ?_
   case hya3 => (intro w hSw; (try dsimp only at hSw); go_simp; try (with_reducible rfl))
   (try simp only [Act.put, zA, zB, zC, zD, zE, zF])
   refine wpAnyT_take (i := 4) (v := ?_) rfl (by kernel_rfl) (by kernel_rfl) (by kernel_rfl) (by kernel_rfl) (fun _ _ _ h => h) (Or.inl ⟨by rfl, ?hya4⟩) hHeld trivial ?_
   case hya4 => (intro w hSw; (try dsimp only at hSw); go_simp; try (with_reducible rfl))
   (try simp only [Act.put, zA, zB, zC, zD, zE, zF])
   refine wpAnyT_step (i := 5) (by kernel_rfl) rfl (fun K hK9 => ?_)
   go_simp
   go_wp2_with fail
   refine (KA.out _ k (sI v k) ra qa _ _ _ aa ca (kr.trans hHeld.1) da hqa ba1.hc (ba1.sl.kept hHeld.1)).mono ?_
   rintro e ua ⟨una, uaa, ula, uca, uxa, rfl, hNa, ka⟩
   have kka : Kept wr ua := hHeld.1.trans ka
   refine hK9.out _ _ (HSa.out _ kka) trivial (fun hHa _ => ?_)
   clear hK9 K
   refine wpAnyT_take (i := 6) (v := ?_) rfl (by kernel_rfl) (by kernel_rfl) (by kernel_rfl) (by kernel_rfl) (fun _ _ _ h => h) (Or.inl ⟨by rfl, ?hyam6⟩) hHa trivial ?_
   case hyam6 => (intro w hSw; (try dsimp only at hSw); go_simp; try (with_reducible rfl))
   (try simp only [Act.put, zA, zB, zC, zD, zE, zF])
   refine wpAnyT_take (i := 7) (v := ?_) rfl (by kernel_rfl) (by kernel_rfl) (by kernel_rfl) (by kernel_rfl) (fun _ _ _ h => h) (Or.inl ⟨by rfl, ?hyam7⟩) hHa trivial ?_
   case hyam7 => (intro w hSw; (try dsimp only at hSw); go_simp; try (with_reducible rfl))
   (try simp only [Act.put, zA, zB, zC, zD, zE, zF])
   refine wpAnyT_take2 (i := 8) (v := ?_) rfl (by kernel_rfl) (by kernel_rfl) (by kernel_rfl) (by kernel_rfl) (fun _ _ _ h => h) (Or.inl ⟨by rfl, ?hyam8⟩) (fun _ => hHa) trivial ?_
   case hyam8 => (intro w hSw; (try dsimp only at hSw); go_simp; try (with_reducible rfl))
   (try simp only [Act.put, zA, zB, zC, zD, zE, zF])
   have bxa := ba1.kept kka
   have g0 := bxa.c0
   have g1 := bxa.c1
   have g2 := bxa.c2
   have g3 := bxa.c3
   have g4 := bxa.c4
   have g5 := bxa.c5
   have g6 := bxa.fz
   refine wpAnyT_late (i := 9) (by kernel_rfl) rfl (by kernel_rfl) (fun K hK9 => ?_)
   go_simp
   refine hK9.out _ _ trivial (fun _ => ?_)
   clear hK9 K
   (try simp only [Act.put, zA, zB, zC, zD, zE, zF])
   refine wpAnyT_take2 (i := 10) (v := ?_) rfl (by kernel_rfl) (by kernel_rfl) (by kernel_rfl) (by kernel_rfl) (fun _ _ _ h => h) (Or.inl ⟨by rfl, ?hyaz10⟩) (fun h => Bool.noConfusion (Eq.trans (Eq.symm (show anyL _ _ = true by kernel_rfl)) h)) trivial ?_
   case hyaz10 => (intro w hSw; (try dsimp only at hSw); go_simp; try (with_reducible rfl))
   (try simp only [Act.put, zA, zB, zC, zD, zE, zF])
   refine wpAnyT_done (by kernel_rfl) ?_ _
   (try simp only [Act.put, zA, zB, zC, zD, zE, zF])
   obtain ⟨W1, hWa⟩ : ∃ W, W = ((((((ua.setCell ⟨Ba, 0, none⟩ (.bool una)).setCell ⟨Ba, 1, none⟩ (.slice uaa ula uca)).setCell ⟨Ba, 2, none⟩ (.int .i64 uxa)).setCell ⟨Ba, 3, none⟩ (.bool (oI P k || P k))).setCell ⟨Ba, 4, none⟩ (.bool (oI M k || M k))).setCell ⟨Ba, 5, none⟩ (.bool (oI Z k || Z k))) := ⟨_, rfl⟩
   have kW1 : Kept w W1 := by rw [hWa]; exact kept_six1 Ba o1 (kr.trans kka) _ _ _ _ _ _
   have sW1 : lo ≤ W1.heap.size := by
    have := kka.below.size
    rw [hWa]
    simp
    omega
   have ba2 : Box W1 lo Ba qa (oI P k || P k) (oI M k || M k) (oI Z k || Z k) uaa uca := by
    rw [hWa]
    exact bxa.new l1 (show lo ≤ wr.drew.heap.size from swr) una uaa ula uca uxa hNa (oI P k || P k) (oI M k || M k) (oI Z k || Z k)
   have bb2 := (bb1.kept kka).six Ba n1 l1 (.bool una) (.slice uaa ula uca) (.int .i64 uxa) (.bool (oI P k || P k)) (.bool (oI M k || M k)) (.bool (oI Z k || Z k))
   change Box ((((((ua.setCell ⟨Ba, 0, none⟩ (.bool una)).setCell ⟨Ba, 1, none⟩ (.slice uaa ula uca)).setCell ⟨Ba, 2, none⟩ (.int .i64 uxa)).setCell ⟨Ba, 3, none⟩ (.bool (oI P k || P k))).setCell ⟨Ba, 4, none⟩ (.bool (oI M k || M k))).setCell ⟨Ba, 5, none⟩ (.bool (oI Z k || Z k))) _ _ _ _ _ _ _ _ at bb2
   rw [← hWa] at bb2
   have bc2 := (bc1.kept kka).six Ba n2 l1 (.bool una) (.slice uaa ula uca) (.int .i64 uxa) (.bool (oI P k || P k)) (.bool (oI M k || M k)) (.bool (oI Z k || Z k))
   change Box ((((((ua.setCell ⟨Ba, 0, none⟩ (.bool una)).setCell ⟨Ba, 1, none⟩ (.slice uaa ula uca)).setCell ⟨Ba, 2, none⟩ (.int .i64 uxa)).setCell ⟨Ba, 3, none⟩ (.bool (oI P k || P k))).setCell ⟨Ba, 4, none⟩ (.bool (oI M k || M k))).setCell ⟨Ba, 5, none⟩ (.bool (oI Z k || Z k))) _ _ _ _ _ _ _ _ at bc2
   rw [← hWa] at bc2
   have bd2 := (bd1.kept kka).six Ba n3 l1 (.bool una) (.slice uaa ula uca) (.int .i64 uxa) (.bool (oI P k || P k)) (.bool (oI M k || M k)) (.bool (oI Z k || Z k))
   change Box ((((((ua.setCell ⟨Ba, 0, none⟩ (.bool una)).setCell ⟨Ba, 1, none⟩ (.slice uaa ula uca)).setCell ⟨Ba, 2, none⟩ (.int .i64 uxa)).setCell ⟨Ba, 3, none⟩ (.bool (oI P k || P k))).setCell ⟨Ba, 4, none⟩ (.bool (oI M k || M k))).setCell ⟨Ba, 5, none⟩ (.bool (oI Z k || Z k))) _ _ _ _ _ _ _ _ at bd2
   rw [← hWa] at bd2
   rw [← hWa]
   clear g0 g1 g2 g3 g4 g5 g6 hHa hHeld HSa hWa bxa hNa ka kka ba1 bb1 bc1 bd1
   go_wp2_with fail
   have HSb : Hid (∀ u, Kept W1 u → Kept W1 u ∧ ((u.cell? ⟨Bb, 0, none⟩ = some (.bool rb.neg) ∧ u.cell? ⟨Bb, 1, none⟩ = some (.slice ab rb.mag.length cb') ∧ u.cell? ⟨Bb, 2, none⟩ = some (.int .i64 rb.exp)) ∧ u.cell? ⟨Bb, 3, none⟩ = some (.bool (oI (fun j => P (N - 1 - j)) k)) ∧ u.cell? ⟨Bb, 4, none⟩ = some (.bool (oI (fun j => M (N - 1 - j)) k)) ∧ u.cell? ⟨Bb, 5, none⟩ = some (.bool (oI (fun j => Z (N - 1 - j)) k))) ∧ u.cell? ⟨b, off + J * 4, none⟩ = some (.int .i64 (fk J)) ∧ u.cell? ⟨b, off + J * 4 + 1, none⟩ = some (.int .i64 (fx J)) ∧ u.cell? ⟨b, off + J * 4 + 2, none⟩ = some (.int .i64 (fy J)) ∧ u.cell? ⟨b, off + J * 4 + 3, none⟩ = some (.int .i64 (fw J))) := fun u ku => ⟨ku, ⟨⟨(bb2.kept ku).c0, (bb2.kept ku).c1, (bb2.kept ku).c2⟩, (bb2.kept ku).c3, (bb2.kept ku).c4, (bb2.kept ku).c5⟩, HIJ.out u (kW1.trans ku)⟩
   refine wp_region_lateT [13] (fun u => Kept W1 u ∧ ((u.cell? ⟨Bb, 0, none⟩ = some (.bool rb.neg) ∧ u.cell? ⟨Bb, 1, none⟩ = some (.slice ab rb.mag.length cb') ∧ u.cell? ⟨Bb, 2, none⟩ = some (.int .i64 rb.exp)) ∧ u.cell? ⟨Bb, 3, none⟩ = some (.bool (oI (fun j => P (N - 1 - j)) k)) ∧ u.cell? ⟨Bb, 4, none⟩ = some (.bool (oI (fun j => M (N - 1 - j)) k)) ∧ u.cell? ⟨Bb, 5, none⟩ = some (.bool (oI (fun j => Z (N - 1 - j)) k))) ∧ u.cell? ⟨b, off + J * 4, none⟩ = some (.int .i64 (fk J)) ∧ u.cell? ⟨b, off + J * 4 + 1, none⟩ = some (.int .i64 (fx J)) ∧ u.cell? ⟨b, off + J * 4 + 2, none⟩ = some (.int .i64 (fy J)) ∧ u.cell? ⟨b, off + J * 4 + 3, none⟩ = some (.int .i64 (fw J))) (fun _ => True) (by kernel_rfl) (HSb.out _ (Kept.refl _).drew) trivial (fun hHeld _ => ?_)
   refine wpAnyT_take (i := 0) (v := ?_) rfl (by kernel_rfl) (by kernel_rfl) (by kernel_rfl) (by kernel_rfl) (fun _ _ _ h => h) (Or.inl ⟨by rfl, ?hyb0⟩) hHeld trivial ?_
   case hyb0 => (intro w hSw; (try dsimp only at hSw); go_simp; try (with_reducible rfl))
   (try simp only [Act.put, zA, zB, zC, zD, zE, zF])
   refine wpAnyT_take (i := 1) (v := ?_) rfl (by kernel_rfl) (by kernel_rfl) (by kernel_rfl) (by kernel_rfl) (fun _ _ _ h => h) (Or.inl ⟨by rfl, ?hyb1⟩) hHeld trivial ?_
   case hyb1 => (intro w hSw; (try dsimp only at hSw); go_simp; try (with_reducible rfl))
   (try simp only [Act.put, zA, zB, zC, zD, zE, zF])
   refine wpAnyT_take (i := 2) (v := ?_) rfl (by kernel_rfl) (by kernel_rfl) (by kernel_rfl) (by kernel_rfl) (fun _ _ _ h => h) (Or.inl ⟨by rfl, ?hyb2⟩) hHeld trivial ?_
   case hyb2 => (intro w hSw; (try dsimp only at hSw); go_simp; try (with_reducible rfl))
   (try simp only [Act.put, zA, zB, zC, zD, zE, zF])
   refine wpAnyT_take (i := 3) (v := ?_) rfl (by kernel_rfl) (by kernel_rfl) (by kernel_rfl) (by kernel_rfl) (fun _ _ _ h => h) (Or.inl ⟨by rfl, ?hyb3⟩) hHeld trivial ?_
   case hyb3 => (intro w hSw; (try dsimp only at hSw); go_simp; try (with_reducible rfl))
   (try simp only [Act.put, zA, zB, zC, zD, zE, zF])
   refine wpAnyT_take (i := 4) (v := ?_) rfl (by kernel_rfl) (by kernel_rfl) (by kernel_rfl) (by kernel_rfl) (fun _ _ _ h => h) (Or.inl ⟨by rfl, ?hyb4⟩) hHeld trivial ?_
   case hyb4 => (intro w hSw; (try dsimp only at hSw); go_simp; try (with_reducible rfl))
   (try simp only [Act.put, zA, zB, zC, zD, zE, zF])
   refine wpAnyT_take (i := 5) (v := ?_) rfl (by kernel_rfl) (by kernel_rfl) (by kernel_rfl) (by kernel_rfl) (fun _ _ _ h => h) (Or.inl ⟨by rfl, ?hyb5⟩) hHeld trivial ?_
   case hyb5 => (intro w hSw; (try dsimp only at hSw); go_simp; try (with_reducible rfl))
   (try simp only [Act.put, zA, zB, zC, zD, zE, zF])
   refine wpAnyT_take (i := 6) (v := ?_) rfl (by kernel_rfl) (by kernel_rfl) (by kernel_rfl) (by kernel_rfl) (fun _ _ _ h => h) (Or.inl ⟨by rfl, ?hyb6⟩) hHeld trivial ?_
   case hyb6 => (intro w hSw; (try dsimp only at hSw); go_simp; try (with_reducible rfl))
   (try simp only [Act.put, zA, zB, zC, zD, zE, zF])
   refine wpAnyT_take (i := 7) (v := ?_) rfl (by kernel_rfl) (by kernel_rfl) (by kernel_rfl) (by kernel_rfl) (fun _ _ _ h => h) (Or.inl ⟨by rfl, ?hyb7⟩) hHeld trivial ?_
   case hyb7 => (intro w hSw; (try dsimp only at hSw); go_simp; try (with_reducible rfl))
   (try simp only [Act.put, zA, zB, zC, zD, zE, zF])
   refine wpAnyT_take (i := 8) (v := ?_) rfl (by kernel_rfl) (by kernel_rfl) (by kernel_rfl) (by kernel_rfl) (fun _ _ _ h => h) (Or.inl ⟨by rfl, ?hyb8⟩) hHeld trivial ?_
   case hyb8 => (intro w hSw; (try dsimp only at hSw); go_simp; try (with_reducible rfl))
   (try simp only [Act.put, zA, zB, zC, zD, zE, zF])
   refine wpAnyT_step (i := 9) (by kernel_rfl) rfl (fun K hK9 => ?_)
   go_simp
   go_wp2_with fail
   refine (KA.out _ J (sI (fun j => v (N - 1 - j)) k) rb qb _ _ _ ab cb' (kW1.trans hHeld.1) db hqb bb2.hc (bb2.sl.kept hHeld.1)).mono ?_
   rintro e ub ⟨unb, uab, ulb, ucb, uxb, rfl, hNb, kb⟩
   have kkb : Kept W1 ub := hHeld.1.trans kb
   refine hK9.out _ _ (HSb.out _ kkb) trivial (fun hHb _ => ?_)
   clear hK9 K
   refine wpAnyT_take (i := 10) (v := ?_) rfl (by kernel_rfl) (by kernel_rfl) (by kernel_rfl) (by kernel_rfl) (fun _ _ _ h => h) (Or.inl ⟨by rfl, ?hybm10⟩) hHb trivial ?_
   case hybm10 => (intro w hSw; (try dsimp only at hSw); go_simp; try (with_reducible rfl))
   (try simp only [Act.put, zA, zB, zC, zD, zE, zF])
   refine wpAnyT_take (i := 11) (v := ?_) rfl (by kernel_rfl) (by kernel_rfl) (by kernel_rfl) (by kernel_rfl) (fun _ _ _ h => h) (Or.inl ⟨by rfl, ?hybm11⟩) hHb trivial ?_
   case hybm11 => (intro w hSw; (try dsimp only at hSw); go_simp; try (with_reducible rfl))
   (try simp only [Act.put, zA, zB, zC, zD, zE, zF])
   refine wpAnyT_take2 (i := 12) (v := ?_) rfl (by kernel_rfl) (by kernel_rfl) (by kernel_rfl) (by kernel_rfl) (fun _ _ _ h => h) (Or.inl ⟨by rfl, ?hybm12⟩) (fun _ => hHb) trivial ?_
   case hybm12 => (intro w hSw; (try dsimp only at hSw); go_simp; try (with_reducible rfl))
   (try simp only [Act.put, zA, zB, zC, zD, zE, zF])
   have bxb := bb2.kept kkb
   have g0 := bxb.c0
   have g1 := bxb.c1
   have g2 := bxb.c2
   have g3 := bxb.c3
   have g4 := bxb.c4
   have g5 := bxb.c5
   have g6 := bxb.fz
   refine wpAnyT_late (i := 13) (by kernel_rfl) rfl (by kernel_rfl) (fun K hK9 => ?_)
   go_simp
   refine hK9.out _ _ trivial (fun _ => ?_)
   clear hK9 K
   (try simp only [Act.put, zA, zB, zC, zD, zE, zF])
   refine wpAnyT_take2 (i := 14) (v := ?_) rfl (by kernel_rfl) (by kernel_rfl) (by kernel_rfl) (by kernel_rfl) (fun _ _ _ h => h) (Or.inl ⟨by rfl, ?hybz14⟩) (fun h => Bool.noConfusion (Eq.trans (Eq.symm (show anyL _ _ = true by kernel_rfl)) h)) trivial ?_
   case hybz14 => (intro w hSw; (try dsimp only at hSw); go_simp; try (with_reducible rfl))
   (try simp only [Act.put, zA, zB, zC, zD, zE, zF])
   refine wpAnyT_done (by kernel_rfl) ?_ _
   (try simp only [Act.put, zA, zB, zC, zD, zE, zF])
   obtain ⟨W2, hWb⟩ : ∃ W, W = ((((((ub.setCell ⟨Bb, 0, none⟩ (.bool unb)).setCell ⟨Bb, 1, none⟩ (.slice uab ulb ucb)).setCell ⟨Bb, 2, none⟩ (.int .i64 uxb)).setCell ⟨Bb, 3, none⟩ (.bool (oI (fun j => P (N - 1 - j)) k || P J))).setCell ⟨Bb, 4, none⟩ (.bool (oI (fun j => M (N - 1 - j)) k || M J))).setCell ⟨Bb, 5, none⟩ (.bool (oI (fun j => Z (N - 1 - j)) k || Z J))) := ⟨_, rfl⟩
   have kW2 : Kept w W2 := by rw [hWb]; exact kept_six1 Bb o2 (kW1.trans kkb) _ _ _ _ _ _
   have sW2 : lo ≤ W2.heap.size := by
    have := kkb.below.size
    rw [hWb]
    simp
    omega
   have bb3 : Box W2 lo Bb qb (oI (fun j => P (N - 1 - j)) k || P J) (oI (fun j => M (N - 1 - j)) k || M J) (oI (fun j => Z (N - 1 - j)) k || Z J) uab ucb := by
    rw [hWb]
    exact bxb.new l2 (show lo ≤ W1.drew.heap.size from sW1) unb uab ulb ucb uxb hNb (oI (fun j => P (N - 1 - j)) k || P J) (oI (fun j => M (N - 1 - j)) k || M J) (oI (fun j => Z (N - 1 - j)) k || Z J)
   have ba3 := (ba2.kept kkb).six Bb (Ne.symm n1) l2 (.bool unb) (.slice uab ulb ucb) (.int .i64 uxb) (.bool (oI (fun j => P (N - 1 - j)) k || P J)) (.bool (oI (fun j => M (N - 1 - j)) k || M J)) (.bool (oI (fun j => Z (N - 1 - j)) k || Z J))
   change Box ((((((ub.setCell ⟨Bb, 0, none⟩ (.bool unb)).setCell ⟨Bb, 1, none⟩ (.slice uab ulb ucb)).setCell ⟨Bb, 2, none⟩ (.int .i64 uxb)).setCell ⟨Bb, 3, none⟩ (.bool (oI (fun j => P (N - 1 - j)) k || P J))).setCell ⟨Bb, 4, none⟩ (.bool (oI (fun j => M (N - 1 - j)) k || M J))).setCell ⟨Bb, 5, none⟩ (.bool (oI (fun j => Z (N - 1 - j)) k || Z J))) _ _ _ _ _ _ _ _ at ba3
   rw [← hWb] at ba3
   have bc3 := (bc2.kept kkb).six Bb n4 l2 (.bool unb) (.slice uab ulb ucb) (.int .i64 uxb) (.bool (oI (fun j => P (N - 1 - j)) k || P J)) (.bool (oI (fun j => M (N - 1 - j)) k || M J)) (.bool (oI (fun j => Z (N - 1 - j)) k || Z J))
   change Box ((((((ub.setCell ⟨Bb, 0, none⟩ (.bool unb)).setCell ⟨Bb, 1, none⟩ (.slice uab ulb ucb)).setCell ⟨Bb, 2, none⟩ (.int .i64 uxb)).setCell ⟨Bb, 3, none⟩ (.bool (oI (fun j => P (N - 1 - j)) k || P J))).setCell ⟨Bb, 4, none⟩ (.bool (oI (fun j => M (N - 1 - j)) k || M J))).setCell ⟨Bb, 5, none⟩ (.bool (oI (fun j => Z (N - 1 - j)) k || Z J))) _ _ _ _ _ _ _ _ at bc3
   rw [← hWb] at bc3
   have bd3 := (bd2.kept kkb).six Bb n5 l2 (.bool unb) (.slice uab ulb ucb) (.int .i64 uxb) (.bool (oI (fun j => P (N - 1 - j)) k || P J)) (.bool (oI (fun j => M (N - 1 - j)) k || M J)) (.bool (oI (fun j => Z (N - 1 - j)) k || Z J))
   change Box ((((((ub.setCell ⟨Bb, 0, none⟩ (.bool unb)).setCell ⟨Bb, 1, none⟩ (.slice uab ulb ucb)).setCell ⟨Bb, 2, none⟩ (.int .i64 uxb)).setCell ⟨Bb, 3, none⟩ (.bool (oI (fun j => P (N - 1 - j)) k || P J))).setCell ⟨Bb, 4, none⟩ (.bool (oI (fun j => M (N - 1 - j)) k || M J))).setCell ⟨Bb, 5, none⟩ (.bool (oI (fun j => Z (N - 1 - j)) k || Z J))) _ _ _ _ _ _ _ _ at bd3
   rw [← hWb] at bd3
   rw [← hWb]
   clear g0 g1 g2 g3 g4 g5 g6 hHb hHeld HSb hWb bxb hNb kb kkb bb2 ba2 bc2 bd2
   obtain ⟨fpc, Hfpc⟩ : ∃ x, Hid (x = oI (fun j => bif cb j then P j else false) k) := ⟨_, rfl⟩
   rw [← Hfpc.out] at bc3
   obtain ⟨fmc, Hfmc⟩ : ∃ x, Hid (x = oI (fun j => bif cb j then M j else false) k) := ⟨_, rfl⟩
   rw [← Hfmc.out] at bc3
   obtain ⟨fzc, Hfzc⟩ : ∃ x, Hid (x = oI (fun j => bif cb j then Z j else false) k) := ⟨_, rfl⟩
   rw [← Hfzc.out] at bc3
   obtain ⟨fpd, Hfpd⟩ : ∃ x, Hid (x = oI (fun j => bif cb j then false else P j) k) := ⟨_, rfl⟩
   rw [← Hfpd.out] at bd3
   obtain ⟨fmd, Hfmd⟩ : ∃ x, Hid (x = oI (fun j => bif cb j then false else M j) k) := ⟨_, rfl⟩
   rw [← Hfmd.out] at bd3
   obtain ⟨fzd, Hfzd⟩ : ∃ x, Hid (x = oI (fun j => bif cb j then false else Z j) k) := ⟨_, rfl⟩
   rw [← Hfzd.out] at bd3
   cases hcb : cb k
   ·rw [hcb] at q3
    have hqd1 : DN (sI (fun j => bif cb j then 0 else v j) k + v k) qd := by
     have h := hqd
     simp only [sI, hcb, cond_false] at h
     exact h
    go_wp2_with fail
    have HSd : Hid (∀ u, Kept W2 u → Kept W2 u ∧ ((u.cell? ⟨Bd, 0, none⟩ = some (.bool rd.neg) ∧ u.cell? ⟨Bd, 1, none⟩ = some (.slice ad rd.mag.length cd) ∧ u.cell? ⟨Bd, 2, none⟩ = some (.int .i64 rd.exp)) ∧ u.cell? ⟨Bd, 3, none⟩ = some (.bool (fpd)) ∧ u.cell? ⟨Bd, 4, none⟩ = some (.bool (fmd)) ∧ u.cell? ⟨Bd, 5, none⟩ = some (.bool (fzd))) ∧ u.cell? ⟨b, off + k * 4, none⟩ = some (.int .i64 (fk k)) ∧ u.cell? ⟨b, off + k * 4 + 1, none⟩ = some (.int .i64 (fx k)) ∧ u.cell? ⟨b, off + k * 4 + 2, none⟩ = some (.int .i64 (fy k)) ∧ u.cell? ⟨b, off + k * 4 + 3, none⟩ = some (.int .i64 (fw k))) := fun u ku => ⟨ku, ⟨⟨(bd3.kept ku).c0, (bd3.kept ku).c1, (bd3.kept ku).c2⟩, (bd3.kept ku).c3, (bd3.kept ku).c4, (bd3.kept ku).c5⟩, HIk.out u (kW2.trans ku)⟩
    refine wp_region_lateT [9] (fun u => Kept W2 u ∧ ((u.cell? ⟨Bd, 0, none⟩ = some (.bool rd.neg) ∧ u.cell? ⟨Bd, 1, none⟩ = some (.slice ad rd.mag.length cd) ∧ u.cell? ⟨Bd, 2, none⟩ = some (.int .i64 rd.exp)) ∧ u.cell? ⟨Bd, 3, none⟩ = some (.bool (fpd)) ∧ u.cell? ⟨Bd, 4, none⟩ = some (.bool (fmd)) ∧ u.cell? ⟨Bd, 5, none⟩ = some (.bool (fzd))) ∧ u.cell? ⟨b, off + k * 4, none⟩ = some (.int .i64 (fk k)) ∧ u.cell? ⟨b, off + k * 4 + 1, none⟩ = some (.int .i64 (fx k)) ∧ u.cell? ⟨b, off + k * 4 + 2, none⟩ = some (.int .i64 (fy k)) ∧ u.cell? ⟨b, off + k * 4 + 3, none⟩ = some (.int .i64 (fw k))) (fun _ => True) (by kernel_rfl) (HSd.out _ (Kept.refl _).drew) trivial (fun hHeld _ => ?_)
    refine wpAnyT_take (i := 0) (v := ?_) rfl (by kernel_rfl) (by kernel_rfl) (by kernel_rfl) (by kernel_rfl) (fun _ _ _ h => h) (Or.inl ⟨by rfl, ?hyd0⟩) hHeld trivial ?_
    case hyd0 => (intro w hSw; (try dsimp only at hSw); go_simp; try (with_reducible rfl))
    (try simp only [Act.put, zA, zB, zC, zD, zE, zF])
    refine wpAnyT_take (i := 1) (v := ?_) rfl (by kernel_rfl) (by kernel_rfl) (by kernel_rfl) (by kernel_rfl) (fun _ _ _ h => h) (Or.inl ⟨by rfl, ?hyd1⟩) hHeld trivial ?_
    case hyd1 => (intro w hSw; (try dsimp only at hSw); go_simp; try (with_reducible rfl))
    (try simp only [Act.put, zA, zB, zC, zD, zE, zF])
    refine wpAnyT_take (i := 2) (v := ?_) rfl (by kernel_rfl) (by kernel_rfl) (by kernel_rfl) (by kernel_rfl) (fun _ _ _ h => h) (Or.inl ⟨by rfl, ?hyd2⟩) hHeld trivial ?_
    case hyd2 => (intro w hSw; (try dsimp only at hSw); go_simp; try (with_reducible rfl))
    (try simp only [Act.put, zA, zB, zC, zD, zE, zF])
    refine wpAnyT_take (i := 3) (v := ?_) rfl (by kernel_rfl) (by kernel_rfl) (by kernel_rfl) (by kernel_rfl) (fun _ _ _ h => h) (Or.inl ⟨by rfl, ?hyd3⟩) hHeld trivial ?_
    case hyd3 => (intro w hSw; (try dsimp only at hSw); go_simp; try (with_reducible rfl))
    (try simp only [Act.put, zA, zB, zC, zD, zE, zF])
    refine wpAnyT_take (i := 4) (v := ?_) rfl (by kernel_rfl) (by kernel_rfl) (by kernel_rfl) (by kernel_rfl) (fun _ _ _ h => h) (Or.inl ⟨by rfl, ?hyd4⟩) hHeld trivial ?_
    case hyd4 => (intro w hSw; (try dsimp only at hSw); go_simp; try (with_reducible rfl))
    (try simp only [Act.put, zA, zB, zC, zD, zE, zF])
    refine wpAnyT_step (i := 5) (by kernel_rfl) rfl (fun K hK9 => ?_)
    go_simp
    go_wp2_with fail
    refine (KA.out _ k (sI (fun j => bif cb j then 0 else v j) k) rd qd _ _ _ ad cd (kW2.trans hHeld.1) dd hqd1 bd3.hc (bd3.sl.kept hHeld.1)).mono ?_
    rintro e ud ⟨und, uad, uld, ucd, uxd, rfl, hNd, kd⟩
    have kkd : Kept W2 ud := hHeld.1.trans kd
    refine hK9.out _ _ (HSd.out _ kkd) trivial (fun hHd _ => ?_)
    clear hK9 K
    refine wpAnyT_take (i := 6) (v := ?_) rfl (by kernel_rfl) (by kernel_rfl) (by kernel_rfl) (by kernel_rfl) (fun _ _ _ h => h) (Or.inl ⟨by rfl, ?hydm6⟩) hHd trivial ?_
    case hydm6 => (intro w hSw; (try dsimp only at hSw); go_simp; try (with_reducible rfl))
    (try simp only [Act.put, zA, zB, zC, zD, zE, zF])
    refine wpAnyT_take (i := 7) (v := ?_) rfl (by kernel_rfl) (by kernel_rfl) (by kernel_rfl) (by kernel_rfl) (fun _ _ _ h => h) (Or.inl ⟨by rfl, ?hydm7⟩) hHd trivial ?_
    case hydm7 => (intro w hSw; (try dsimp only at hSw); go_simp; try (with_reducible rfl))
    (try simp only [Act.put, zA, zB, zC, zD, zE, zF])
    refine wpAnyT_take2 (i := 8) (v := ?_) rfl (by kernel_rfl) (by kernel_rfl) (by kernel_rfl) (by kernel_rfl) (fun _ _ _ h => h) (Or.inl ⟨by rfl, ?hydm8⟩) (fun _ => hHd) trivial ?_
    case hydm8 => (intro w hSw; (try dsimp only at hSw); go_simp; try (with_reducible rfl))
    (try simp only [Act.put, zA, zB, zC, zD, zE, zF])
    have bxd := bd3.kept kkd
    have g0 := bxd.c0
    have g1 := bxd.c1
    have g2 := bxd.c2
    have g3 := bxd.c3
    have g4 := bxd.c4
    have g5 := bxd.c5
    have g6 := bxd.fz
    refine wpAnyT_late (i := 9) (by kernel_rfl) rfl (by kernel_rfl) (fun K hK9 => ?_)
    go_simp
    refine hK9.out _ _ trivial (fun _ => ?_)
    clear hK9 K
    (try simp only [Act.put, zA, zB, zC, zD, zE, zF])
    refine wpAnyT_take2 (i := 10) (v := ?_) rfl (by kernel_rfl) (by kernel_rfl) (by kernel_rfl) (by kernel_rfl) (fun _ _ _ h => h) (Or.inl ⟨by rfl, ?hydz10⟩) (fun h => Bool.noConfusion (Eq.trans (Eq.symm (show anyL _ _ = true by kernel_rfl)) h)) trivial ?_
    case hydz10 => (intro w hSw; (try dsimp only at hSw); go_simp; try (with_reducible rfl))
    (try simp only [Act.put, zA, zB, zC, zD, zE, zF])
    refine wpAnyT_done (by kernel_rfl) ?_ _
    (try simp only [Act.put, zA, zB, zC, zD, zE, zF])
    obtain ⟨W3, hWd⟩ : ∃ W, W = ((((((ud.setCell ⟨Bd, 0, none⟩ (.bool und)).setCell ⟨Bd, 1, none⟩ (.slice uad uld ucd)).setCell ⟨Bd, 2, none⟩ (.int .i64 uxd)).setCell ⟨Bd, 3, none⟩ (.bool (fpd || P k))).setCell ⟨Bd, 4, none⟩ (.bool (fmd || M k))).setCell ⟨Bd, 5, none⟩ (.bool (fzd || Z k))) := ⟨_, rfl⟩
    have kW3 : Kept w W3 := by rw [hWd]; exact kept_six1 Bd o4 (kW2.trans kkd) _ _ _ _ _ _
    have sW3 : lo ≤ W3.heap.size := by
     have := kkd.below.size
     rw [hWd]
     simp
     omega
    have bd4 : Box W3 lo Bd qd (fpd || P k) (fmd || M k) (fzd || Z k) uad ucd := by
     rw [hWd]
     exact bxd.new l4 (show lo ≤ W2.drew.heap.size from sW2) und uad uld ucd uxd hNd (fpd || P k) (fmd || M k) (fzd || Z k)
    have ba4 := (ba3.kept kkd).six Bd (Ne.symm n3) l4 (.bool und) (.slice uad uld ucd) (.int .i64 uxd) (.bool (fpd || P k)) (.bool (fmd || M k)) (.bool (fzd || Z k))
    change Box ((((((ud.setCell ⟨Bd, 0, none⟩ (.bool und)).setCell ⟨Bd, 1, none⟩ (.slice uad uld ucd)).setCell ⟨Bd, 2, none⟩ (.int .i64 uxd)).setCell ⟨Bd, 3, none⟩ (.bool (fpd || P k))).setCell ⟨Bd, 4, none⟩ (.bool (fmd || M k))).setCell ⟨Bd, 5, none⟩ (.bool (fzd || Z k))) _ _ _ _ _ _ _ _ at ba4
    rw [← hWd] at ba4
    have bb4 := (bb3.kept kkd).six Bd (Ne.symm n5) l4 (.bool und) (.slice uad uld ucd) (.int .i64 uxd) (.bool (fpd || P k)) (.bool (fmd || M k)) (.bool (fzd || Z k))
    change Box ((((((ud.setCell ⟨Bd, 0, none⟩ (.bool und)).setCell ⟨Bd, 1, none⟩ (.slice uad uld ucd)).setCell ⟨Bd, 2, none⟩ (.int .i64 uxd)).setCell ⟨Bd, 3, none⟩ (.bool (fpd || P k))).setCell ⟨Bd, 4, none⟩ (.bool (fmd || M k))).setCell ⟨Bd, 5, none⟩ (.bool (fzd || Z k))) _ _ _ _ _ _ _ _ at bb4
    rw [← hWd] at bb4
    have bc4 := (bc3.kept kkd).six Bd (Ne.symm n6) l4 (.bool und) (.slice uad uld ucd) (.int .i64 uxd) (.bool (fpd || P k)) (.bool (fmd || M k)) (.bool (fzd || Z k))
    change Box ((((((ud.setCell ⟨Bd, 0, none⟩ (.bool und)).setCell ⟨Bd, 1, none⟩ (.slice uad uld ucd)).setCell ⟨Bd, 2, none⟩ (.int .i64 uxd)).setCell ⟨Bd, 3, none⟩ (.bool (fpd || P k))).setCell ⟨Bd, 4, none⟩ (.bool (fmd || M k))).setCell ⟨Bd, 5, none⟩ (.bool (fzd || Z k))) _ _ _ _ _ _ _ _ at bc4
    rw [← hWd] at bc4
    rw [← hWd]
    clear g0 g1 g2 g3 g4 g5 g6 hHd hHeld HSd hWd bxd hNd kd kkd bd3 ba3 bb3 bc3
    go_wp2_with fail
    go_roundw
    case rel =>
     refine ⟨k + 1, qa, qb, rc, qd, uaa, uab, ac, uad, uca, ucb, cc, ucd, hkn, rfl, by go_num, kW3, sW3, ⟨by simp only [oI]; exact ba4, hqa⟩, ⟨?_, hqb0⟩, ⟨?_, ?_⟩, ⟨?_, hqd⟩⟩
     ·rw [HE.out] at bb4
      simp only [oI]
      exact bb4
     ·rw [Hfpc.out, Hfmc.out, Hfzc.out] at bc4
      simp only [oI, hcb, cond_false, Bool.or_false]
      exact bc4
     ·simp only [sI, hcb, cond_false, Int.add_zero]
      exact dc
     ·rw [Hfpd.out, Hfmd.out, Hfzd.out] at bd4
      simp only [oI, hcb, cond_false]
      exact bd4
    case measure => simp [intOf]; omega
   ·rw [hcb] at q3
    have hqc1 : DN (sI (fun j => bif cb j then v j else 0) k + v k) qc := by
     have h := hqc
     simp only [sI, hcb, cond_true] at h
     exact h
    go_wp2_with fail
    have HSc : Hid (∀ u, Kept W2 u → Kept W2 u ∧ ((u.cell? ⟨Bc, 0, none⟩ = some (.bool rc.neg) ∧ u.cell? ⟨Bc, 1, none⟩ = some (.slice ac rc.mag.length cc) ∧ u.cell? ⟨Bc, 2, none⟩ = some (.int .i64 rc.exp)) ∧ u.cell? ⟨Bc, 3, none⟩ = some (.bool (fpc)) ∧ u.cell? ⟨Bc, 4, none⟩ = some (.bool (fmc)) ∧ u.cell? ⟨Bc, 5, none⟩ = some (.bool (fzc))) ∧ u.cell? ⟨b, off + k * 4, none⟩ = some (.int .i64 (fk k)) ∧ u.cell? ⟨b, off + k * 4 + 1, none⟩ = some (.int .i64 (fx k)) ∧ u.cell? ⟨b, off + k * 4 + 2, none⟩ = some (.int .i64 (fy k)) ∧ u.cell? ⟨b, off + k * 4 + 3, none⟩ = some (.int .i64 (fw k))) := fun u ku => ⟨ku, ⟨⟨(bc3.kept ku).c0, (bc3.kept ku).c1, (bc3.kept ku).c2⟩, (bc3.kept ku).c3, (bc3.kept ku).c4, (bc3.kept ku).c5⟩, HIk.out u (kW2.trans ku)⟩
    refine wp_region_lateT [9] (fun u => Kept W2 u ∧ ((u.cell? ⟨Bc, 0, none⟩ = some (.bool rc.neg) ∧ u.cell? ⟨Bc, 1, none⟩ = some (.slice ac rc.mag.length cc) ∧ u.cell? ⟨Bc, 2, none⟩ = some (.int .i64 rc.exp)) ∧ u.cell? ⟨Bc, 3, none⟩ = some (.bool (fpc)) ∧ u.cell? ⟨Bc, 4, none⟩ = some (.bool (fmc)) ∧ u.cell? ⟨Bc, 5, none⟩ = some (.bool (fzc))) ∧ u.cell? ⟨b, off + k * 4, none⟩ = some (.int .i64 (fk k)) ∧ u.cell? ⟨b, off + k * 4 + 1, none⟩ = some (.int .i64 (fx k)) ∧ u.cell? ⟨b, off + k * 4 + 2, none⟩ = some (.int .i64 (fy k)) ∧ u.cell? ⟨b, off + k * 4 + 3, none⟩ = some (.int .i64 (fw k))) (fun _ => True) (by kernel_rfl) (HSc.out _ (Kept.refl _).drew) trivial (fun hHeld _ => ?_)
    refine wpAnyT_take (i := 0) (v := ?_) rfl (by kernel_rfl) (by kernel_rfl) (by kernel_rfl) (by kernel_rfl) (fun _ _ _ h => h) (Or.inl ⟨by rfl, ?hyc0⟩) hHeld trivial ?_
    case hyc0 => (intro w hSw; (try dsimp only at hSw); go_simp; try (with_reducible rfl))
    (try simp only [Act.put, zA, zB, zC, zD, zE, zF])
    refine wpAnyT_take (i := 1) (v := ?_) rfl (by kernel_rfl) (by kernel_rfl) (by kernel_rfl) (by kernel_rfl) (fun _ _ _ h => h) (Or.inl ⟨by rfl, ?hyc1⟩) hHeld trivial ?_
    case hyc1 => (intro w hSw; (try dsimp only at hSw); go_simp; try (with_reducible rfl))
    (try simp only [Act.put, zA, zB, zC, zD, zE, zF])
    refine wpAnyT_take (i := 2) (v := ?_) rfl (by kernel_rfl) (by kernel_rfl) (by kernel_rfl) (by kernel_rfl) (fun _ _ _ h => h) (Or.inl ⟨by rfl, ?hyc2⟩) hHeld trivial ?_
    case hyc2 => (intro w hSw; (try dsimp only at hSw); go_simp; try (with_reducible rfl))
    (try simp only [Act.put, zA, zB, zC, zD, zE, zF])
    refine wpAnyT_take (i := 3) (v := ?_) rfl (by kernel_rfl) (by kernel_rfl) (by kernel_rfl) (by kernel_rfl) (fun _ _ _ h => h) (Or.inl ⟨by rfl, ?hyc3⟩) hHeld trivial ?_
    case hyc3 => (intro w hSw; (try dsimp only at hSw); go_simp; try (with_reducible rfl))
    (try simp only [Act.put, zA, zB, zC, zD, zE, zF])
    refine wpAnyT_take (i := 4) (v := ?_) rfl (by kernel_rfl) (by kernel_rfl) (by kernel_rfl) (by kernel_rfl) (fun _ _ _ h => h) (Or.inl ⟨by rfl, ?hyc4⟩) hHeld trivial ?_
    case hyc4 => (intro w hSw; (try dsimp only at hSw); go_simp; try (with_reducible rfl))
    (try simp only [Act.put, zA, zB, zC, zD, zE, zF])
    refine wpAnyT_step (i := 5) (by kernel_rfl) rfl (fun K hK9 => ?_)
    go_simp
    go_wp2_with fail
    refine (KA.out _ k (sI (fun j => bif cb j then v j else 0) k) rc qc _ _ _ ac cc (kW2.trans hHeld.1) dc hqc1 bc3.hc (bc3.sl.kept hHeld.1)).mono ?_
    rintro e uc ⟨unc, uac, ulc, ucc, uxc, rfl, hNc, kc⟩
    have kkc : Kept W2 uc := hHeld.1.trans kc
    refine hK9.out _ _ (HSc.out _ kkc) trivial (fun hHc _ => ?_)
    clear hK9 K
    refine wpAnyT_take (i := 6) (v := ?_) rfl (by kernel_rfl) (by kernel_rfl) (by kernel_rfl) (by kernel_rfl) (fun _ _ _ h => h) (Or.inl ⟨by rfl, ?hycm6⟩) hHc trivial ?_
    case hycm6 => (intro w hSw; (try dsimp only at hSw); go_simp; try (with_reducible rfl))
    (try simp only [Act.put, zA, zB, zC, zD, zE, zF])
    refine wpAnyT_take (i := 7) (v := ?_) rfl (by kernel_rfl) (by kernel_rfl) (by kernel_rfl) (by kernel_rfl) (fun _ _ _ h => h) (Or.inl ⟨by rfl, ?hycm7⟩) hHc trivial ?_
    case hycm7 => (intro w hSw; (try dsimp only at hSw); go_simp; try (with_reducible rfl))
    (try simp only [Act.put, zA, zB, zC, zD, zE, zF])
    refine wpAnyT_take2 (i := 8) (v := ?_) rfl (by kernel_rfl) (by kernel_rfl) (by kernel_rfl) (by kernel_rfl) (fun _ _ _ h => h) (Or.inl ⟨by rfl, ?hycm8⟩) (fun _ => hHc) trivial ?_
    case hycm8 => (intro w hSw; (try dsimp only at hSw); go_simp; try (with_reducible rfl))
    (try simp only [Act.put, zA, zB, zC, zD, zE, zF])
    have bxc := bc3.kept kkc
    have g0 := bxc.c0
    have g1 := bxc.c1
    have g2 := bxc.c2
    have g3 := bxc.c3
    have g4 := bxc.c4
    have g5 := bxc.c5
    have g6 := bxc.fz
    refine wpAnyT_late (i := 9) (by kernel_rfl) rfl (by kernel_rfl) (fun K hK9 => ?_)
    go_simp
    refine hK9.out _ _ trivial (fun _ => ?_)
    clear hK9 K
    (try simp only [Act.put, zA, zB, zC, zD, zE, zF])
    refine wpAnyT_take2 (i := 10) (v := ?_) rfl (by kernel_rfl) (by kernel_rfl) (by kernel_rfl) (by kernel_rfl) (fun _ _ _ h => h) (Or.inl ⟨by rfl, ?hycz10⟩) (fun h => Bool.noConfusion (Eq.trans (Eq.symm (show anyL _ _ = true by kernel_rfl)) h)) trivial ?_
    case hycz10 => (intro w hSw; (try dsimp only at hSw); go_simp; try (with_reducible rfl))
    (try simp only [Act.put, zA, zB, zC, zD, zE, zF])
    refine wpAnyT_done (by kernel_rfl) ?_ _
    (try simp only [Act.put, zA, zB, zC, zD, zE, zF])
    obtain ⟨W3, hWc⟩ : ∃ W, W = ((((((uc.setCell ⟨Bc, 0, none⟩ (.bool unc)).setCell ⟨Bc, 1, none⟩ (.slice uac ulc ucc)).setCell ⟨Bc, 2, none⟩ (.int .i64 uxc)).setCell ⟨Bc, 3, none⟩ (.bool (fpc || P k))).setCell ⟨Bc, 4, none⟩ (.bool (fmc || M k))).setCell ⟨Bc, 5, none⟩ (.bool (fzc || Z k))) := ⟨_, rfl⟩
    have kW3 : Kept w W3 := by rw [hWc]; exact kept_six1 Bc o3 (kW2.trans kkc) _ _ _ _ _ _
    have sW3 : lo ≤ W3.heap.size := by
     have := kkc.below.size
     rw [hWc]
     simp
     omega
    have bc4 : Box W3 lo Bc qc (fpc || P k) (fmc || M k) (fzc || Z k) uac ucc := by
     rw [hWc]
     exact bxc.new l3 (show lo ≤ W2.drew.heap.size from sW2) unc uac ulc ucc uxc hNc (fpc || P k) (fmc || M k) (fzc || Z k)
    have ba4 := (ba3.kept kkc).six Bc (Ne.symm n2) l3 (.bool unc) (.slice uac ulc ucc) (.int .i64 uxc) (.bool (fpc || P k)) (.bool (fmc || M k)) (.bool (fzc || Z k))
    change Box ((((((uc.setCell ⟨Bc, 0, none⟩ (.bool unc)).setCell ⟨Bc, 1, none⟩ (.slice uac ulc ucc)).setCell ⟨Bc, 2, none⟩ (.int .i64 uxc)).setCell ⟨Bc, 3, none⟩ (.bool (fpc || P k))).setCell ⟨Bc, 4, none⟩ (.bool (fmc || M k))).setCell ⟨Bc, 5, none⟩ (.bool (fzc || Z k))) _ _ _ _ _ _ _ _ at ba4
    rw [← hWc] at ba4
    have bb4 := (bb3.kept kkc).six Bc (Ne.symm n4) l3 (.bool unc) (.slice uac ulc ucc) (.int .i64 uxc) (.bool (fpc || P k)) (.bool (fmc || M k)) (.bool (fzc || Z k))
    change Box ((((((uc.setCell ⟨Bc, 0, none⟩ (.bool unc)).setCell ⟨Bc, 1, none⟩ (.slice uac ulc ucc)).setCell ⟨Bc, 2, none⟩ (.int .i64 uxc)).setCell ⟨Bc, 3, none⟩ (.bool (fpc || P k))).setCell ⟨Bc, 4, none⟩ (.bool (fmc || M k))).setCell ⟨Bc, 5, none⟩ (.bool (fzc || Z k))) _ _ _ _ _ _ _ _ at bb4
    rw [← hWc] at bb4
    have bd4 := (bd3.kept kkc).six Bc n6 l3 (.bool unc) (.slice uac ulc ucc) (.int .i64 uxc) (.bool (fpc || P k)) (.bool (fmc || M k)) (.bool (fzc || Z k))
    change Box ((((((uc.setCell ⟨Bc, 0, none⟩ (.bool unc)).setCell ⟨Bc, 1, none⟩ (.slice uac ulc ucc)).setCell ⟨Bc, 2, none⟩ (.int .i64 uxc)).setCell ⟨Bc, 3, none⟩ (.bool (fpc || P k))).setCell ⟨Bc, 4, none⟩ (.bool (fmc || M k))).setCell ⟨Bc, 5, none⟩ (.bool (fzc || Z k))) _ _ _ _ _ _ _ _ at bd4
    rw [← hWc] at bd4
    rw [← hWc]
    clear g0 g1 g2 g3 g4 g5 g6 hHc hHeld HSc hWc bxc hNc kc kkc bc3 ba3 bb3 bd3
    go_wp2_with fail
    go_roundw
    case rel =>
     refine ⟨k + 1, qa, qb, qc, rd, uaa, uab, uac, ad, uca, ucb, ucc, cd, hkn, rfl, by go_num, kW3, sW3, ⟨by simp only [oI]; exact ba4, hqa⟩, ⟨?_, hqb0⟩, ⟨?_, hqc⟩, ⟨?_, ?_⟩⟩
     ·rw [HE.out] at bb4
      simp only [oI]
      exact bb4
     ·rw [Hfpc.out, Hfmc.out, Hfzc.out] at bc4
      simp only [oI, hcb, cond_true]
      exact bc4
     ·rw [Hfpd.out, Hfmd.out, Hfzd.out] at bd4
      simp only [oI, hcb, cond_true, Bool.or_false]
      exact bd4
     ·simp only [sI, hcb, cond_true, Int.add_zero]
      exact dd
    case measure => simp [intOf]; omega
  ·obtain rfl : k = N := by omega
   have eb : DN (sI v k) rb := by rw [← sI_rev v k]; exact db
   obtain rfl := da.one eb
   rw [oI_rev P k, oI_rev M k, oI_rev Z k] at bb1
   have em : DN (sI (fun j => bif cb j then v j else 0) k + sI (fun j => bif cb j then 0 else v j) k) ra := by rw [sI_parts]; exact da
   have em2 : DN (sI (fun j => bif cb j then 0 else v j) k + sI (fun j => bif cb j then v j else 0) k) ra := by rw [Int.add_comm]; exact em
   have ep := oI_parts P cb k
   have eq := oI_parts M cb k
   have ez := oI_parts Z cb k
   have KM1 : Hid (∀ u, Kept w u → Sl u (.slice ac rc.mag.length cc) rc.mag → Sl u (.slice ad rd.mag.length cd) rd.mag → Calls Tryz.prog 17 #[accV rc.neg (.slice ac rc.mag.length cc) rc.exp (oI (fun j => bif cb j then P j else false) k) (oI (fun j => bif cb j then M j else false) k) (oI (fun j => bif cb j then Z j else false) k), accV rd.neg (.slice ad rd.mag.length cd) rd.exp (oI (fun j => bif cb j then false else P j) k) (oI (fun j => bif cb j then false else M j) k) (oI (fun j => bif cb j then false else Z j) k)] u fun e w' => ∃ va vc, e = .returned (.tuple #[accV ra.neg (.slice va ra.mag.length vc) ra.exp (oI P k) (oI M k) (oI Z k), .int .i64 0]) ∧ Hid (Sl w' (.slice va ra.mag.length vc) ra.mag) ∧ Kept u w') := fun u ku h1 h2 => by
    have := KMg.out u _ _ rc rd ra (oI (fun j => bif cb j then P j else false) k) (oI (fun j => bif cb j then M j else false) k) (oI (fun j => bif cb j then Z j else false) k) (oI (fun j => bif cb j then false else P j) k) (oI (fun j => bif cb j then false else M j) k) (oI (fun j => bif cb j then false else Z j) k) ac ad cc cd ku dc dd em h1 h2
    rw [ep, eq, ez] at this
    exact this
   have KM2 : Hid (∀ u, Kept w u → Sl u (.slice ac rc.mag.length cc) rc.mag → Sl u (.slice ad rd.mag.length cd) rd.mag → Calls Tryz.prog 17 #[accV rd.neg (.slice ad rd.mag.length cd) rd.exp (oI (fun j => bif cb j then false else P j) k) (oI (fun j => bif cb j then false else M j) k) (oI (fun j => bif cb j then false else Z j) k), accV rc.neg (.slice ac rc.mag.length cc) rc.exp (oI (fun j => bif cb j then P j else false) k) (oI (fun j => bif cb j then M j else false) k) (oI (fun j => bif cb j then Z j else false) k)] u fun e w' => ∃ va vc, e = .returned (.tuple #[accV ra.neg (.slice va ra.mag.length vc) ra.exp (oI P k) (oI M k) (oI Z k), .int .i64 0]) ∧ Hid (Sl w' (.slice va ra.mag.length vc) ra.mag) ∧ Kept u w') := fun u ku h1 h2 => by
    have := KMg.out u _ _ rd rc ra (oI (fun j => bif cb j then false else P j) k) (oI (fun j => bif cb j then false else M j) k) (oI (fun j => bif cb j then false else Z j) k) (oI (fun j => bif cb j then P j else false) k) (oI (fun j => bif cb j then M j else false) k) (oI (fun j => bif cb j then Z j else false) k) ad ac cd cc ku dd dc em2 h2 h1
    rw [Bool.or_comm, ep, Bool.or_comm, eq, Bool.or_comm, ez] at this
    exact this
   have KS : Hid (∀ u a1 a2 c1 c2, Sl u (.slice a1 ra.mag.length c1) ra.mag → Sl u (.slice a2 ra.mag.length c2) ra.mag → Calls Tryz.prog 18 #[accV ra.neg (.slice a1 ra.mag.length c1) ra.exp (oI P k) (oI M k) (oI Z k), accV ra.neg (.slice a2 ra.mag.length c2) ra.exp (oI P k) (oI M k) (oI Z k)] u fun e w' => e = .returned (.bool true) ∧ Kept u w') := fun u a1 a2 c1 c2 h1 h2 => KSm.out u _ ra _ _ _ a1 a2 c1 c2 da h1 h2
   have KV2 : Hid (∀ u, Sl u (.slice aa ra.mag.length ca) ra.mag → Calls Tryz.prog 19 #[accV ra.neg (.slice aa ra.mag.length ca) ra.exp (oI P k) (oI M k) (oI Z k)] u fun e w' => e = .returned (.bool true) ∧ Kept u w') := fun u h1 => KV.out u _ ra _ _ _ aa ca da h1
   clear KMg KSm KV KA HB HI HCB em em2 ep eq ez eb da db dc dd HO
   generalize (oI (fun j => bif cb j then P j else false) k) = pc at *
   generalize (oI (fun j => bif cb j then M j else false) k) = mc at *
   generalize (oI (fun j => bif cb j then Z j else false) k) = zc at *
   generalize (oI (fun j => bif cb j then false else P j) k) = pd at *
   generalize (oI (fun j => bif cb j then false else M j) k) = md at *
   generalize (oI (fun j => bif cb j then false else Z j) k) = zd at *
   generalize oI P k = p at *
   generalize oI M k = m at *
   generalize oI Z k = z at *
   have x0 := bc1.c0
   have x1 := bc1.c1
   have x2 := bc1.c2
   have x3 := bc1.c3
   have x4 := bc1.c4
   have x5 := bc1.c5
   have y0 := bd1.c0
   have y1 := bd1.c1
   have y2 := bd1.c2
   have y3 := bd1.c3
   have y4 := bd1.c4
   have y5 := bd1.c5
   go_wp2_with fail
   refine (KM1.out _ kr bc1.sl bd1.sl).mono ?_
   rintro e u1 ⟨va, vc, rfl, hs1, k1⟩
   clear x0 x1 x2 x3 x4 x5 y0 y1 y2 y3 y4 y5 KM1
   go_upto_region 18 with fail
   obtain ⟨Y1, hY1⟩ : ∃ Y, Y = u1.alloc (.cells #[.bool ra.neg, .slice va ra.mag.length vc, .int .i64 ra.exp, .bool p, .bool m, .bool z] 26) := ⟨_, rfl⟩
   obtain ⟨Bm, hBm⟩ : ∃ B, B = u1.heap.size := ⟨_, rfl⟩
   have kY1 : Kept wr Y1 := by rw [hY1]; exact k1.alloc _ _
   have sm : Hid (Sl Y1 (.slice va ra.mag.length vc) ra.mag) := by rw [hY1]; exact hs1.out.kept ((Kept.refl _).alloc _ _)
   have HCm : Hid (∀ u, Kept Y1 u → _) := acc_cells1 ra.neg (.slice va ra.mag.length vc) ra.exp p m z 26 Bm hBm (X := Y1) (by rw [hY1]; exact Kept.refl _)
   rw [← hY1, ← hBm]
   clear hY1 hBm hs1 k1
   have bc2 := bc1.kept kY1
   have bd2 := bd1.kept kY1
   have x0 := bc2.c0
   have x1 := bc2.c1
   have x2 := bc2.c2
   have x3 := bc2.c3
   have x4 := bc2.c4
   have x5 := bc2.c5
   have y0 := bd2.c0
   have y1 := bd2.c1
   have y2 := bd2.c2
   have y3 := bd2.c3
   have y4 := bd2.c4
   have y5 := bd2.c5
   go_wp2_with fail
   refine (KM2.out _ (kr.trans kY1) bc2.sl bd2.sl).mono ?_
   rintro e u2 ⟨wa, wc', rfl, hs2, k2⟩
   clear x0 x1 x2 x3 x4 x5 y0 y1 y2 y3 y4 y5 KM2 bc1 bd1 bc2 bd2
   go_upto_region 19 with fail
   obtain ⟨Y2, hY2⟩ : ∃ Y, Y = u2.alloc (.cells #[.bool ra.neg, .slice wa ra.mag.length wc', .int .i64 ra.exp, .bool p, .bool m, .bool z] 26) := ⟨_, rfl⟩
   obtain ⟨Bn, hBn⟩ : ∃ B, B = u2.heap.size := ⟨_, rfl⟩
   have kY2 : Kept Y1 Y2 := by rw [hY2]; exact k2.alloc _ _
   have sn : Hid (Sl Y2 (.slice wa ra.mag.length wc') ra.mag) := by rw [hY2]; exact hs2.out.kept ((Kept.refl _).alloc _ _)
   have HCn : Hid (∀ u, Kept Y2 u → _) := acc_cells1 ra.neg (.slice wa ra.mag.length wc') ra.exp p m z 26 Bn hBn (X := Y2) (by rw [hY2]; exact Kept.refl _)
   rw [← hY2, ← hBn]
   clear hY2 hBn hs2 k2
   have kwY := kr.trans (kY1.trans kY2)
   go_wp2_with fail
   refine (KL.out _ kwY).mono ?_
   rintro e u3 ⟨rfl, k3⟩
   have HBa : Hid (∀ u, Kept Y2 u → Box u lo Ba ra p m z aa ca) := fun u ku => ba1.kept ((kY1.trans kY2).trans ku)
   have HBb : Hid (∀ u, Kept Y2 u → Box u lo Bb ra p m z ab cb') := fun u ku => bb1.kept ((kY1.trans kY2).trans ku)
   clear ba1 bb1
   have x := HBa.out _ k3
   have y := HBb.out _ k3
   have x0 := x.c0
   have x1 := x.c1
   have x2 := x.c2
   have x3 := x.c3
   have x4 := x.c4
   have x5 := x.c5
   have y0 := y.c0
   have y1 := y.c1
   have y2 := y.c2
   have y3 := y.c3
   have y4 := y.c4
   have y5 := y.c5
   go_wp2_with fail
   refine (KS.out _ aa ab ca cb' x.sl y.sl).mono ?_
   rintro e u4 ⟨rfl, k4⟩
   replace k4 := k3.trans k4
   clear x0 x1 x2 x3 x4 x5 y0 y1 y2 y3 y4 y5 x y k3 HBb
   have x := HBa.out _ k4
   have x0 := x.c0
   have x1 := x.c1
   have x2 := x.c2
   have x3 := x.c3
   have x4 := x.c4
   have x5 := x.c5
   obtain ⟨y0, y1, y2, y3, y4, y5⟩ := HCm.out _ (kY2.trans k4)
   go_wp2_with fail
   refine (KS.out _ aa va ca vc x.sl (sm.out.kept (kY2.trans k4))).mono ?_
   rintro e u5 ⟨rfl, k5⟩
   replace k5 := k4.trans k5
   clear x0 x1 x2 x3 x4 x5 y0 y1 y2 y3 y4 y5 x k4
   obtain ⟨y0, y1, y2, y3, y4, y5⟩ := HCm.out _ (kY2.trans k5)
   obtain ⟨z0, z1, z2, z3, z4, z5⟩ := HCn.out _ k5
   go_wp2_with fail
   refine (KS.out _ va wa vc wc' (sm.out.kept (kY2.trans k5)) (sn.out.kept k5)).mono ?_
   rintro e u6 ⟨rfl, k6⟩
   replace k6 := k5.trans k6
   clear y0 y1 y2 y3 y4 y5 z0 z1 z2 z3 z4 z5 k5 KS HCm HCn
   have x := HBa.out _ k6
   have x0 := x.c0
   have x1 := x.c1
   have x2 := x.c2
   have x3 := x.c3
   have x4 := x.c4
   have x5 := x.c5
   go_wp2_with fail
   refine (KV2.out _ x.sl).mono ?_
   rintro e u7 ⟨rfl, k7⟩
   go_wp2_with fail
   go_ret
   exact ⟨rfl, kwY.trans (k6.trans k7)⟩
end Go.Proofs.YtdpccifhhencgaaGreatDoor
