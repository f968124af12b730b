/- round at any lead,in one walk; the way is a function of any number. The ring's laws by values. The walks of exact's pieces. The walk of exact's quotient at 1 by 3. The walk of exact's Quot at 1 by 3. A few values: 6 by 2,1,3,and 1 - 3. The walk of the laws' own test of life. The ring's laws by values; the laws' own num. The walk of the statement on the ring. -/
import Derived.Test.YtelbefihigkhjaaGreatDoorWa07
import Derived.Deep.RegionHeld
import Derived.Test.YtelbefihigkhjaaGreatDoorWa17
import Derived.Test.YtelbefihigkhjaaGreatDoorWa12
import Derived.Laws.EntriesVeiled
import Derived.Test.YtelbefihigkhjaaGreatDoorWa15
import Derived.OwnWalk
import Derived.Laws.OwnMore
import Derived.Test.YtelbefihigkhjaaGreatDoorWa19
import Derived.Test.YtelbefihigkhjaaGreatDoorWa13
import Derived.Test.YtelbefihigkhjaaGreatDoorWa10
import Derived.Deep.Cut
import Derived.Test.YtelbefihigkhjaaGreatDoorWa14
namespace Go.Proofs.YtelbefihigkhjaaGreatDoor
open Go.ChangeShapes Go.WideShapes Go.ChangeAt Go.RowKit
set_option maxHeartbeats 16000000
set_option maxRecDepth 100000
set_option linter.unusedVariables false
set_option linter.unusedSimpArgs false
theorem laidn {w X u : World} (B : Nat) (vs : Array Value) (t : TypeId) (hB : B = w.heap.size) (hX : Kept (w.alloc (.cells vs t)) X) (k : Kept X u) (i : Nat) : u.cell? ⟨B,i,none⟩ = (w.alloc (.cells vs t)).cell? ⟨B,i,none⟩:=by
 subst hB
 exact (hX.trans k).below.cell (p:=⟨w.heap.size,i,none⟩) (by simp)
theorem roundg_all (K : Nat) (hcall : ∀ a w, (callFunc K #[a]).run Tryz.prog w = .ok (.enter K #[a]) w) (n pr le fi h ex Bh s1 s2 un kept kp1 k2 b : Int) (m : Nat) (ng od hf rt rs aw sb ok : Bool) (hh0 : (h == 0) = false) (hk0 : 0 ≤ kept ∧ 0 < kp1) (hk1 : IntKind.i64.wrap (kept + 1) = kp1) (hk2 : (if aw = true then kp1 else kept) = k2) (hsb : (ng && decide (0 < k2)) = sb) (z0 : IntKind.u64.wrap h = h) (z1 : IntKind.i64.wrap (ex + Bh) = s1) (z2 : IntKind.i64.wrap (s1 - pr) = s2) (z3 : max s2 le = un) (z4 : IntKind.i64.wrap (un - ex) = (m : Int) + 1) (w : World)
    (KL : Hid (∀ u, Calls Tryz.prog 284 #[.int .u64 h] u fun e w' => e = .returned (.int .i64 Bh) ∧ u = w'))
    (KS : Hid (∀ u, Calls Tryz.prog 285 #[.agg #[.bool ng, .int .i64 h, .int .i64 ex, .bool rs], .int .i64 ((m : Int) + 1)] u fun e w' => e = .returned (.tuple #[.int .i64 kept, .agg #[.bool ng, .bool od, .bool hf, .bool rt]]) ∧ Kept u w'))
    (KA : Hid (∀ u, Calls Tryz.prog K #[.agg #[.bool ng, .bool od, .bool hf, .bool rt]] u fun e w' => e = .returned (.bool aw) ∧ Kept u w'))
    (KJ : Hid (∀ u, Kept w u → Calls Tryz.prog 286 #[.bool sb, .int .i64 k2, .int .i64 un, .int .i64 n] u fun e w' => e = .returned (if ok = true then .tuple #[.int .i64 b, .bool true] else .tuple #[.int .i64 0, .bool false]) ∧ Kept u w'))
    (KB : Hid (ok = false → ∀ u, Calls Tryz.prog 287 #[.agg #[.int .i64 n, .int .i64 pr, .int .i64 le, .int .i64 fi, .func (.func K) #[] #[]], .bool ng] u fun e w' => e = .returned (.int .i64 b) ∧ Kept u w')) :
    Calls Tryz.prog 232 #[.agg #[.int .i64 n, .int .i64 pr, .int .i64 le, .int .i64 fi, .func (.func K) #[] #[]], .agg #[.bool ng, .int .i64 h, .int .i64 ex, .bool rs]] w fun e w' => e = .returned (.tuple #[.int .i64 b, .bool (if ok = true then (hf || rt) else true)]) ∧ Kept w w' := by
  obtain ⟨X, hX⟩ : ∃ X, X = (w.alloc (.cells #[.int .i64 n, .int .i64 pr, .int .i64 le, .int .i64 fi, .func (.func K) #[] #[]] 275)).alloc (.cells #[.bool ng, .int .i64 h, .int .i64 ex, .bool rs] 280) := ⟨_, rfl⟩
  have hK : Kept w X := by rw [hX]; exact ((Kept.refl w).alloc _ _).alloc _ _
  have HS : Hid (∀ u, Kept X u → Kept X u ∧ u.cell? ⟨w.heap.size, 0, none⟩ = some (.int .i64 n) ∧ u.cell? ⟨w.heap.size, 1, none⟩ = some (.int .i64 pr) ∧ u.cell? ⟨w.heap.size, 2, none⟩ = some (.int .i64 le) ∧ u.cell? ⟨w.heap.size, 3, none⟩ = some (.int .i64 fi) ∧ u.cell? ⟨w.heap.size, 4, none⟩ = some (.func (.func K) #[] #[]) ∧ u.cell? ⟨w.heap.size + 1, 0, none⟩ = some (.bool ng) ∧ u.cell? ⟨w.heap.size + 1, 1, none⟩ = some (.int .i64 h) ∧ u.cell? ⟨w.heap.size + 1, 2, none⟩ = some (.int .i64 ex) ∧ u.cell? ⟨w.heap.size + 1, 3, none⟩ = some (.bool rs)) := fun u k => by
    have h5 := laidn (w := w) (X := X) (u := u) w.heap.size #[.int .i64 n, .int .i64 pr, .int .i64 le, .int .i64 fi, .func (.func K) #[] #[]] 275 rfl (by rw [hX]; exact (Kept.refl _).alloc _ _) k
    have h4 := laidn (w := w.alloc (.cells #[.int .i64 n, .int .i64 pr, .int .i64 le, .int .i64 fi, .func (.func K) #[] #[]] 275)) (X := X) (u := u) (w.heap.size + 1) #[.bool ng, .int .i64 h, .int .i64 ex, .bool rs] 280 (by simp) (by rw [hX]; exact Kept.refl _) k
    exact ⟨k, (h5 0).trans (by simp [go_sem]), (h5 1).trans (by simp [go_sem]), (h5 2).trans (by simp [go_sem]), (h5 3).trans (by simp [go_sem]), (h5 4).trans (by simp [go_sem]), (h4 0).trans (by simp [go_sem]), (h4 1).trans (by simp [go_sem]), (h4 2).trans (by simp [go_sem]), (h4 3).trans (by simp [go_sem])⟩
  have HK2 : Hid ((if aw = true then kp1 else kept) = k2) := hk2
  have HSB : Hid ((ng && decide (0 < k2)) = sb) := hsb
  clear hk2 hsb hk0
  have kd := Kept.refl X
  obtain ⟨-, x0, x1, x2, x3, x4, y0, y1, y2, y3⟩ := HS.out _ kd
  go_enter Tryz.func232, Tryz.ntmps232
  go_upto_region 1 with fail
  rw [← hX]
  clear hX
  go_upto_region 3 with fail
  clear x0 x1 x2 x3 x4 y0 y1 y2 y3
  replace kd := kd.drew
  go_region_held (fun u => Kept X u ∧ u.cell? ⟨w.heap.size, 0, none⟩ = some (.int .i64 n) ∧ u.cell? ⟨w.heap.size, 1, none⟩ = some (.int .i64 pr) ∧ u.cell? ⟨w.heap.size, 2, none⟩ = some (.int .i64 le) ∧ u.cell? ⟨w.heap.size, 3, none⟩ = some (.int .i64 fi) ∧ u.cell? ⟨w.heap.size, 4, none⟩ = some (.func (.func K) #[] #[]) ∧ u.cell? ⟨w.heap.size + 1, 0, none⟩ = some (.bool ng) ∧ u.cell? ⟨w.heap.size + 1, 1, none⟩ = some (.int .i64 h) ∧ u.cell? ⟨w.heap.size + 1, 2, none⟩ = some (.int .i64 ex) ∧ u.cell? ⟨w.heap.size + 1, 3, none⟩ = some (.bool rs)) (first | assumption | exact HS.out _ kd | exact HS.out _ (by assumption)) (first | (go_at_call 284; refine (KL.out _).mono ?_; rintro e w1 ⟨rfl, rfl⟩))
  obtain ⟨-, x0, x1, x2, x3, x4, y0, y1, y2, y3⟩ := HS.out _ kd
  go_wp2_with fail
  refine (KS.out _).mono ?_
  rintro e w2 ⟨rfl, k2'⟩
  replace kd := kd.trans k2'
  clear x0 x1 x2 x3 x4 y0 y1 y2 y3 k2' KS KL
  go_upto_region 5 with fail
  obtain ⟨X2, hX2⟩ : ∃ Y, Y = w2.alloc (.cells #[.bool ng, .bool od, .bool hf, .bool rt] 319) := ⟨_, rfl⟩
  obtain ⟨p8, hp8⟩ : ∃ p, p = w2.heap.size := ⟨_, rfl⟩
  have k22 : Kept w2 X2 := by rw [hX2]; exact (Kept.refl _).alloc _ _
  have HC : Hid (∀ u, Kept X2 u → Kept X2 u ∧ u.cell? ⟨p8, 0, none⟩ = some (.bool ng) ∧ u.cell? ⟨p8, 1, none⟩ = some (.bool od) ∧ u.cell? ⟨p8, 2, none⟩ = some (.bool hf) ∧ u.cell? ⟨p8, 3, none⟩ = some (.bool rt)) := fun u k => by
    have h4 := laidn (w := w2) (X := X2) (u := u) p8 #[.bool ng, .bool od, .bool hf, .bool rt] 319 hp8 (by rw [hX2]; exact Kept.refl _) k
    subst hp8
    exact ⟨k, (h4 0).trans (by simp [go_sem]), (h4 1).trans (by simp [go_sem]), (h4 2).trans (by simp [go_sem]), (h4 3).trans (by simp [go_sem])⟩
  rw [← hX2, ← hp8]
  clear hX2 hp8
  replace kd := kd.trans k22
  have kc := Kept.refl X2
  clear k22
  obtain ⟨-, x0, x1, x2, x3, x4, y0, y1, y2, y3⟩ := HS.out _ kd
  obtain ⟨-, v0, v1, v2, v3⟩ := HC.out _ kc
  go_wp2_with fail
  refine (KA.out _).mono ?_
  rintro e w3 ⟨rfl, k3⟩
  replace kd := kd.trans k3
  replace kc := kc.trans k3
  clear x0 x1 x2 x3 x4 y0 y1 y2 y3 v0 v1 v2 v3 k3 KA
  obtain ⟨-, x0, x1, x2, x3, x4, y0, y1, y2, y3⟩ := HS.out _ kd
  cases ok with
  | false =>
    (cases aw <;> cases ng) <;>
    (first | (obtain rfl : kp1 = k2 := HK2.out) | (obtain rfl : kept = k2 := HK2.out)
     obtain rfl := HSB.out
     simp only [Bool.false_and, Bool.true_and] at KJ
     go_wp2_with fail
     refine (KJ.out _ (hK.trans kd)).mono ?_
     rintro e w4 ⟨rfl, k4⟩
     replace kd := kd.trans k4
     clear x0 x1 x2 x3 x4 y0 y1 y2 y3 k4
     obtain ⟨-, x0, x1, x2, x3, x4, y0, y1, y2, y3⟩ := HS.out _ kd
     go_wp2_with fail
     refine (KB.out (by trivial) _).mono ?_
     rintro e w5 ⟨rfl, k5⟩
     go_wp2_with fail
     go_ret2
     exact ⟨rfl, hK.trans (kd.trans k5)⟩)
  | true =>
    (cases aw <;> cases ng <;> cases hf) <;>
    (first | (obtain rfl : kp1 = k2 := HK2.out) | (obtain rfl : kept = k2 := HK2.out)
     obtain rfl := HSB.out
     simp only [Bool.false_and, Bool.true_and] at KJ
     go_wp2_with fail
     refine (KJ.out _ (hK.trans kd)).mono ?_
     rintro e w4 ⟨rfl, k4⟩
     replace kd := kd.trans k4
     replace kc := (kc.trans k4).drew
     clear x0 x1 x2 x3 x4 y0 y1 y2 y3 k4
     obtain ⟨-, v0, v1, v2, v3⟩ := HC.out _ kc
     go_upto_region 10 with fail
     go_region
     go_wp2_with fail
     go_ret2
     exact ⟨rfl, hK.trans kd.drew⟩)
end Go.Proofs.YtelbefihigkhjaaGreatDoor

namespace Go.Proofs.YtelbefihigkhjaaGreatDoor
open Go.ChangeShapes Go.WideShapes Go.ChangeAt Go.RowKit
set_option maxHeartbeats 16000000
set_option maxRecDepth 100000
set_option linter.unusedVariables false
set_option linter.unusedSimpArgs false
theorem Lies.mono {s : Int} {B C : Nat} {a : Nm} (h : Lies s B a) (hBC : B ≤ C) : Lies s C a:=⟨h.ok,h.low,Nat.lt_of_lt_of_le h.lt (Nat.pow_le_pow_right (by decide) hBC)⟩
theorem vz_ng (s : Int) (a : Nm) : vz s (ng a) = -vz s a:=by
 unfold vz ng
 dsimp only
 cases a.neg <;> simp [sg]
theorem sub_cfm (s : Int) (B : Nat) (hB : B ≤ 60000) (a b : Nm) (ha : Lies s B a) (hb : Lies s B b) : addZ a (ng b) = cfm (vz s a - vz s b) s:=by
 by_cases hne : b.mag = []
 ·obtain ⟨n2,L2,x2⟩:=b
  dsimp only at hne
  subst hne
  obtain ⟨n1,L1,x1⟩:=a
  rw [vz_nil,Int.sub_zero,vz_cfm s n1 L1 x1 ha.ok ha.low]
  unfold addZ ng
  dsimp only
  by_cases h1 : L1 = []
  ·subst h1
   obtain ⟨rfl,rfl⟩:=vld_nil _ _ ha.ok
   simp
  ·simp [h1]
 ·have hb' : Lies s B (ng b):=⟨vld_ng b.neg b.mag b.exp hb.ok hne,hb.low,by rw [vz_ng,Int.natAbs_neg]; exact hb.lt⟩
  rw [add_cfm s B hB a (ng b) ha hb',vz_ng,Int.sub_eq_add_neg]
theorem frm_cfm (n : Bool) (v : Nat) (y : Int) : frm n v y = cfm (sg n (v : Int)) y:=by
 by_cases h : v = 0
 ·subst h
  rw [show sg n ((0 : Nat) : Int) = 0 by cases n <;> rfl,cfm_zero]
  simp [frm]
 ·have hsg:=sg_neg n (v : Int) (by omega)
  unfold cfm
  rw [hsg.1,hsg.2,Int.toNat_natCast]
end Go.Proofs.YtelbefihigkhjaaGreatDoor

namespace Go.Proofs.YtelbefihigkhjaaGreatDoor
open Go.ChangeShapes Go.WideShapes Go.ChangeAt Go.RowKit
set_option maxHeartbeats 16000000
set_option maxRecDepth 100000
set_option linter.unusedVariables false
set_option linter.unusedSimpArgs false
/-! ### pieces -/
theorem pieces_any (L : List Int) (hL : Dg L) (v : Value) (n : Nat) (hn : n < 100000) (p : Int) (hp : -10000000 < p ∧ p < 10000000) (w : World) (h : Sl w v L) : Calls Tryz.prog 333 #[v,.int .i64 (n : Int),.int .i64 p] w fun e w' => e = .returned (.slice (some ⟨w.heap.size,0,none⟩) n n) ∧ Own w' w.heap.size n ((List.range n).map fun i : Nat => pcz (nv L) (p + 30 * (i : Int))) ∧ Kept w w':=by
 have HM:=make_run n (by omega)
 have hO:=own_made n (by omega) w
 have hK0 : Kept w (w.alloc (.cells (madeCells #[.int .i64 0] n) 3)):=(Kept.refl w).alloc _ _
 have HL : Hid (Sl w v L):=h
 have HO : Hid (Own (w.alloc (.cells (madeCells #[.int .i64 0] n) 3)) w.heap.size n (List.replicate n 0)):=hO
 have HK : Hid (Kept w (w.alloc (.cells (madeCells #[.int .i64 0] n) 3))):=hK0
 clear h hO hK0
 go_enter Tryz.func333,Tryz.ntmps333
 go_wp2
 go_loopw [12] (fun i wr => ∃ (k : Nat),k ≤ n ∧ i = .int .i64 k ∧ Own wr w.heap.size n ((List.range k).map (fun i : Nat => pcz (nv L) (p + 30 * (i : Int))) ++ List.replicate (n - k) 0) ∧ Kept w wr) (fun i _ => n - (intOf i).toNat)
 case atStart => exact ⟨0,Nat.zero_le _,rfl,by simpa using HO.out,HK.out⟩
 case round =>
  obtain ⟨k,hk,rfl,hO,hG⟩:=hrel
  by_cases hkn : k < n
  ·have KP : Hid (Calls Tryz.prog 289 #[v,.int .i64 (p + (k : Int) * 30)] wr fun e w' => e = .returned (.int .i64 (pcz (nv L) (p + (k : Int) * 30))) ∧ Kept wr w'):=piece_any L hL v _ (by omega) (by omega) wr (HL.out.kept hG)
   have HO2 : Hid (Own wr w.heap.size n ((List.range k).map (fun i : Nat => pcz (nv L) (p + 30 * (i : Int))) ++ List.replicate (n - k) 0)):=hO
   have HG : Hid (Kept w wr):=hG
   have hlen : ((List.range k).map (fun i : Nat => pcz (nv L) (p + 30 * (i : Int))) ++ List.replicate (n - k) 0).length = n:=by simp; omega
   have HLn : Hid (((List.range k).map (fun i : Nat => pcz (nv L) (p + 30 * (i : Int))) ++ List.replicate (n - k) 0).length = n):=hlen
   clear hO hG hlen
   generalize hq : pcz (nv L) (p + (k : Int) * 30) = pv at KP
   have HQ : Hid (pcz (nv L) (p + (k : Int) * 30) = pv):=hq
   clear hq
   go_wp2_with (first | (go_at_call 289; refine KP.out.mono ?_; rintro e w2 ⟨rfl,hk2⟩; have hO2:=HO2.out.kept hk2; have hcc:=hO2.cell k (by rw [HLn.out]; exact hkn); have hff:=hO2.free k))
   go_roundw
   case rel =>
    have hO2:=(HO2.out.kept hk2).set k pv
    refine ⟨k + 1,by omega,by go_num,?_,(HG.out.trans hk2).setCell (by simp) _⟩
    obtain ⟨m,hm⟩ : ∃ m,n - k = m + 1:=⟨n - k - 1,by omega⟩
    rw [hm,List.replicate_succ,set_app _ _ _ _ _ (by simp)] at hO2
    rw [show n - (k + 1) = m by omega,List.range_succ,List.map_append]
    have:=HQ.out
    rw [Int.mul_comm] at this
    simpa [this] using hO2
   case measure => simp [intOf]; omega
  ·obtain rfl : k = n:=by omega
   rw [Nat.sub_self,List.replicate_zero,List.append_nil] at hO
   go_wp2
   go_ret
   exact ⟨rfl,hO,hG⟩
end Go.Proofs.YtelbefihigkhjaaGreatDoor
namespace Go.Proofs.YtelbefihigkhjaaGreatDoor
open Go.ChangeShapes Go.WideShapes Go.ChangeAt Go.RowKit
set_option maxHeartbeats 16000000
set_option maxRecDepth 100000
set_option linter.unusedVariables false
set_option linter.unusedSimpArgs false
abbrev third : Value:=.agg #[.bool false,.int .i64 768614336404564650,.int .i64 (-61),.bool true]
end Go.Proofs.YtelbefihigkhjaaGreatDoor

namespace Go.Proofs.YtelbefihigkhjaaGreatDoor
open Go.ChangeShapes Go.WideShapes Go.ChangeAt Go.RowKit
set_option maxHeartbeats 16000000
set_option maxRecDepth 100000
set_option linter.unusedVariables false
set_option linter.unusedSimpArgs false
end Go.Proofs.YtelbefihigkhjaaGreatDoor
namespace Go.Proofs.YtelbefihigkhjaaGreatDoor
open Go.RowKit
set_option maxHeartbeats 16000000
set_option maxRecDepth 100000
end Go.Proofs.YtelbefihigkhjaaGreatDoor
namespace Go.Proofs.YtelbefihigkhjaaGreatDoor
open Go.ChangeShapes Go.WideShapes Go.ChangeAt Go.RowKit
set_option maxHeartbeats 16000000
set_option maxRecDepth 100000
set_option linter.unusedVariables false
set_option linter.unusedSimpArgs false
theorem New.some {w0 w : World} {v : Value} {neg : Bool} {d : Int} {x : Int} (h : New w0 w v ⟨neg,[d],x⟩) : ∃ g cap,v = .agg #[.bool neg,.slice (some ⟨g,0,none⟩) 1 cap,.int .i64 x] ∧ w0.heap.size ≤ g ∧ Own w g cap [d]:=by
 rcases h with ⟨h,-⟩ | ⟨g,cap,e,hg,ho,-⟩
 ·cases h
 ·exact ⟨g,cap,e,hg,ho⟩
end Go.Proofs.YtelbefihigkhjaaGreatDoor

namespace Go.Proofs.YtelbefihigkhjaaGreatDoor
open Go.ChangeShapes Go.WideShapes Go.ChangeAt Go.RowKit
set_option maxHeartbeats 16000000
set_option maxRecDepth 100000
set_option linter.unusedVariables false
set_option linter.unusedSimpArgs false
/-! ### Calls whose numbers lie somewhere -/
end Go.Proofs.YtelbefihigkhjaaGreatDoor
namespace Go.Proofs.YtelbefihigkhjaaGreatDoor
open Go.ChangeShapes Go.WideShapes Go.ChangeAt Go.RowKit
set_option maxHeartbeats 16000000
set_option maxRecDepth 100000
set_option linter.unusedVariables false
set_option linter.unusedSimpArgs false
end Go.Proofs.YtelbefihigkhjaaGreatDoor
