/- The walk of Join of package bits,way by way. -/
import Derived.Test.YtnniljhdcplkgaaGreatDoorWr02
import Derived.Deep.RegionHeld
namespace Go.Proofs.YtnniljhdcplkgaaGreatDoor
open Go.ChangeShapes Go.WideShapes Go.ChangeAt Go.RowKit
set_option maxHeartbeats 16000000
set_option maxRecDepth 100000
set_option linter.unusedVariables false
theorem jkeep0 {x v : World} {c : Array Value} {t : TypeId} (h : Kept (x.alloc (.cells c t)) v) : Kept (x.alloc (.cells c t)) v.drew ∧ ∀ o,v.drew.cell? ⟨x.heap.size,o,none⟩ = (x.alloc (.cells c t)).cell? ⟨x.heap.size,o,none⟩:=⟨h.drew,laid_cell h.drew⟩
theorem jkeep1 {x v v' : World} {c : Array Value} {t : TypeId} (h : Kept (x.alloc (.cells c t)) v ∧ ∀ o,v.cell? ⟨x.heap.size,o,none⟩ = (x.alloc (.cells c t)).cell? ⟨x.heap.size,o,none⟩) (k : Kept v v') : Kept (x.alloc (.cells c t)) v' ∧ ∀ o,v'.cell? ⟨x.heap.size,o,none⟩ = (x.alloc (.cells c t)).cell? ⟨x.heap.size,o,none⟩:=⟨h.1.trans k,laid_cell (h.1.trans k)⟩
theorem signed_64 (p : Bool) (v r q : Int) (hr : bits .or .i64 v (-9223372036854775808) = r) (hq : (if p = true then r else v) = q) (w : World) : Calls Tryz.prog 149 #[.agg #[.int .i64 (-9223372036854775808),.int .i64 9218868437227405312,.int .i64 9221120237041090561,.int .i64 52,.int .i64 (-1074)],.bool p,.int .i64 v] w fun e w' => e = .returned (.int .i64 q) ∧ Kept w w':=by
 subst hq
 go_enter Tryz.func149,Tryz.ntmps149
 cases p
 ·go_wp2
  go_ret
  exact ⟨rfl,(Kept.refl _).alloc _ _⟩
 ·go_wp2
  go_ret
  exact ⟨rfl,(Kept.refl _).alloc _ _⟩
theorem join_64_high (p : Bool) (x e : Int) (k : Nat) (hx0 : 0 < x) (hx1 : x ≤ 9223372036854775807) (he1 : -2000 ≤ e) (he2 : e ≤ 2000) (hk : k < 64) (o : Int) (L : Nat) (ho0 : 0 < o) (ho1 : o ≤ 9223372036854775807) (hL : L ≤ 64) (hsh : x / 2 ^ k = o)
  (Kz : Hid (∀ w : World,Tab w → Calls Tryz.prog 136 #[.int .u64 x] w fun e w' => e = .returned (.int .i64 (k : Int)) ∧ w = w'))
  (Kl : Hid (∀ w : World,Calls Tryz.prog 119 #[.int .u64 (IntKind.u64.wrap o)] w fun e w' => e = .returned (.int .i64 (L : Int)) ∧ w = w')) (U : Int) (hu : min (53 - (L : Int)) (e + (k : Int) + 1074) = U) (hU : 0 ≤ U) (hU2 : U ≤ 64) (hs : 2047 ≤ e + (k : Int) - U + 1074 + 1) (w : World) (hT : Tab w) : Calls Tryz.prog 127 #[.bool p,.int .i64 x,.int .i64 e,.int .i64 64] w fun e w' => e = .returned (.tuple #[.int .i64 0,.bool false]) ∧ Kept w w':=by
 have HT : Hid (Tab w):=hT
 clear hT
 go_enter Tryz.func127,Tryz.ntmps127
 go_wp2_with fail
 refine (layoutOf_64 _).mono ?_
 rintro e w1 ⟨rfl,hk1⟩
 go_wp2_with fail
 refine (Kz.out _ (HT.out.kept (hk1.alloc _ _))).mono ?_
 rintro e w2 ⟨rfl,rfl⟩
 go_wp2
 have hK:=Kept.refl (w1.alloc (.cells #[.int .i64 (-9223372036854775808),.int .i64 9218868437227405312,.int .i64 9221120237041090561,.int .i64 52,.int .i64 (-1074)] 52))
 go_region_held (fun v => Kept (w1.alloc (.cells #[.int .i64 (-9223372036854775808),.int .i64 9218868437227405312,.int .i64 9221120237041090561,.int .i64 52,.int .i64 (-1074)] 52)) v ∧ ∀ o,v.cell? ⟨w1.heap.size,o,none⟩ = (w1.alloc (.cells #[.int .i64 (-9223372036854775808),.int .i64 9218868437227405312,.int .i64 9221120237041090561,.int .i64 52,.int .i64 (-1074)] 52)).cell? ⟨w1.heap.size,o,none⟩) (first | exact jkeep0 hK | assumption) (first | (go_at_call 119; refine (Kl.out _).mono ?_; rintro e w3 ⟨rfl,rfl⟩))
 go_wp2
 go_ret2
 exact ⟨rfl,(hk1.alloc _ _).drew⟩
theorem join_64_yes (p : Bool) (x e : Int) (k : Nat) (hx0 : 0 < x) (hx1 : x ≤ 9223372036854775807) (he1 : -2000 ≤ e) (he2 : e ≤ 2000) (hk : k < 64) (o : Int) (L : Nat) (ho0 : 0 < o) (ho1 : o ≤ 9223372036854775807) (hL : L ≤ 64) (hsh : x / 2 ^ k = o)
  (Kz : Hid (∀ w : World,Tab w → Calls Tryz.prog 136 #[.int .u64 x] w fun e w' => e = .returned (.int .i64 (k : Int)) ∧ w = w'))
  (Kl : Hid (∀ w : World,Calls Tryz.prog 119 #[.int .u64 (IntKind.u64.wrap o)] w fun e w' => e = .returned (.int .i64 (L : Int)) ∧ w = w')) (U : Nat) (hu : min (53 - (L : Int)) (e + (k : Int) + 1074) = (U : Int)) (hU2 : U < 64) (hs : e + (k : Int) - (U : Int) + 1074 + 1 < 2047) (hs0 : 0 ≤ e + (k : Int) - (U : Int) + 1074) (v r : Int) (hv : 0 ≤ o * 2 ^ U) (hv2 : o * 2 ^ U < 2 * 4503599627370496) (hve : (e + (k : Int) - (U : Int) + 1074) * 4503599627370496 + o * 2 ^ U = v) (hr : bits .or .i64 v (-9223372036854775808) = r) (q : Int) (hq0 : (if p = true then r else v) = q) (w : World) (hT : Tab w) : Calls Tryz.prog 127 #[.bool p,.int .i64 x,.int .i64 e,.int .i64 64] w fun e w' => e = .returned (.tuple #[.int .i64 q,.bool true]) ∧ Kept w w':=by
 have HQ : Hid ((if p = true then r else v) = q):=hq0
 clear hq0
 obtain ⟨Q,hQ⟩ : ∃ Q,Q = o * 2 ^ U:=⟨_,rfl⟩
 have HM : Hid (min (IntKind.i64.wrap (IntKind.i64.wrap 53 - (L : Int))) (IntKind.i64.wrap (e + (k : Int) + 1074)) = (U : Int)):=by
  show min (IntKind.i64.wrap (IntKind.i64.wrap 53 - (L : Int))) (IntKind.i64.wrap (e + (k : Int) + 1074)) = (U : Int)
  rw [wrap_i64,wrap_i64,wrap_i64]
  omega
 have HW : Hid (IntKind.i64.wrap (IntKind.i64.wrap ((e + (k : Int) - (U : Int) + 1074) * 4503599627370496) + IntKind.i64.wrap (o * 2 ^ U)) = v):=by
  show IntKind.i64.wrap (IntKind.i64.wrap ((e + (k : Int) - (U : Int) + 1074) * 4503599627370496) + IntKind.i64.wrap (o * 2 ^ U)) = v
  rw [← hQ] at hv hv2 hve ⊢
  rw [wrap_i64,wrap_i64,wrap_i64]
  omega
 clear hve hv hv2 hQ
 have HT : Hid (Tab w):=hT
 clear hT
 go_enter Tryz.func127,Tryz.ntmps127
 go_wp2_with fail
 refine (layoutOf_64 _).mono ?_
 rintro e w1 ⟨rfl,hk1⟩
 go_wp2_with fail
 refine (Kz.out _ (HT.out.kept (hk1.alloc _ _))).mono ?_
 rintro e w2 ⟨rfl,rfl⟩
 go_wp2
 have hK:=Kept.refl (w1.alloc (.cells #[.int .i64 (-9223372036854775808),.int .i64 9218868437227405312,.int .i64 9221120237041090561,.int .i64 52,.int .i64 (-1074)] 52))
 go_region_held (fun v => Kept (w1.alloc (.cells #[.int .i64 (-9223372036854775808),.int .i64 9218868437227405312,.int .i64 9221120237041090561,.int .i64 52,.int .i64 (-1074)] 52)) v ∧ ∀ o,v.cell? ⟨w1.heap.size,o,none⟩ = (w1.alloc (.cells #[.int .i64 (-9223372036854775808),.int .i64 9218868437227405312,.int .i64 9221120237041090561,.int .i64 52,.int .i64 (-1074)] 52)).cell? ⟨w1.heap.size,o,none⟩) (first | exact jkeep0 hK | assumption) (first | (go_at_call 119; refine (Kl.out _).mono ?_; rintro e w3 ⟨rfl,rfl⟩))
 go_wp2
 have hK2:=hK.drew
 rw [HM.out]
 go_region_held (fun v => Kept (w1.alloc (.cells #[.int .i64 (-9223372036854775808),.int .i64 9218868437227405312,.int .i64 9221120237041090561,.int .i64 52,.int .i64 (-1074)] 52)) v ∧ ∀ o,v.cell? ⟨w1.heap.size,o,none⟩ = (w1.alloc (.cells #[.int .i64 (-9223372036854775808),.int .i64 9218868437227405312,.int .i64 9221120237041090561,.int .i64 52,.int .i64 (-1074)] 52)).cell? ⟨w1.heap.size,o,none⟩) (first | exact jkeep0 hK2 | (refine jkeep1 ?_ hk5; assumption)) (first | (go_at_call 149; rw [HW.out]; refine (signed_64 p v r q hr HQ.out _).mono ?_; rintro e w5 ⟨rfl,hk5⟩))
 go_wp2
 go_ret2
 exact ⟨rfl,(hk1.trans (((Kept.refl _).alloc _ _).trans (And.left ‹_›)))⟩
theorem signed_32 (p : Bool) (v r q : Int) (hr : bits .or .i64 v 2147483648 = r) (hq : (if p = true then r else v) = q) (w : World) : Calls Tryz.prog 149 #[.agg #[.int .i64 2147483648,.int .i64 2139095040,.int .i64 2143289345,.int .i64 23,.int .i64 (-149)],.bool p,.int .i64 v] w fun e w' => e = .returned (.int .i64 q) ∧ Kept w w':=by
 subst hq
 go_enter Tryz.func149,Tryz.ntmps149
 cases p
 ·go_wp2
  go_ret
  exact ⟨rfl,(Kept.refl _).alloc _ _⟩
 ·go_wp2
  go_ret
  exact ⟨rfl,(Kept.refl _).alloc _ _⟩
theorem join_32_high (p : Bool) (x e : Int) (k : Nat) (hx0 : 0 < x) (hx1 : x ≤ 9223372036854775807) (he1 : -2000 ≤ e) (he2 : e ≤ 2000) (hk : k < 64) (o : Int) (L : Nat) (ho0 : 0 < o) (ho1 : o ≤ 9223372036854775807) (hL : L ≤ 64) (hsh : x / 2 ^ k = o)
  (Kz : Hid (∀ w : World,Tab w → Calls Tryz.prog 136 #[.int .u64 x] w fun e w' => e = .returned (.int .i64 (k : Int)) ∧ w = w'))
  (Kl : Hid (∀ w : World,Calls Tryz.prog 119 #[.int .u64 (IntKind.u64.wrap o)] w fun e w' => e = .returned (.int .i64 (L : Int)) ∧ w = w')) (U : Int) (hu : min (24 - (L : Int)) (e + (k : Int) + 149) = U) (hU : 0 ≤ U) (hU2 : U ≤ 64) (hs : 255 ≤ e + (k : Int) - U + 149 + 1) (w : World) (hT : Tab w) : Calls Tryz.prog 127 #[.bool p,.int .i64 x,.int .i64 e,.int .i64 32] w fun e w' => e = .returned (.tuple #[.int .i64 0,.bool false]) ∧ Kept w w':=by
 have HT : Hid (Tab w):=hT
 clear hT
 go_enter Tryz.func127,Tryz.ntmps127
 go_wp2_with fail
 refine (layoutOf_32 _).mono ?_
 rintro e w1 ⟨rfl,hk1⟩
 go_wp2_with fail
 refine (Kz.out _ (HT.out.kept (hk1.alloc _ _))).mono ?_
 rintro e w2 ⟨rfl,rfl⟩
 go_wp2
 have hK:=Kept.refl (w1.alloc (.cells #[.int .i64 2147483648,.int .i64 2139095040,.int .i64 2143289345,.int .i64 23,.int .i64 (-149)] 52))
 go_region_held (fun v => Kept (w1.alloc (.cells #[.int .i64 2147483648,.int .i64 2139095040,.int .i64 2143289345,.int .i64 23,.int .i64 (-149)] 52)) v ∧ ∀ o,v.cell? ⟨w1.heap.size,o,none⟩ = (w1.alloc (.cells #[.int .i64 2147483648,.int .i64 2139095040,.int .i64 2143289345,.int .i64 23,.int .i64 (-149)] 52)).cell? ⟨w1.heap.size,o,none⟩) (first | exact jkeep0 hK | assumption) (first | (go_at_call 119; refine (Kl.out _).mono ?_; rintro e w3 ⟨rfl,rfl⟩))
 go_wp2
 go_ret2
 exact ⟨rfl,(hk1.alloc _ _).drew⟩
theorem join_32_yes (p : Bool) (x e : Int) (k : Nat) (hx0 : 0 < x) (hx1 : x ≤ 9223372036854775807) (he1 : -2000 ≤ e) (he2 : e ≤ 2000) (hk : k < 64) (o : Int) (L : Nat) (ho0 : 0 < o) (ho1 : o ≤ 9223372036854775807) (hL : L ≤ 64) (hsh : x / 2 ^ k = o)
  (Kz : Hid (∀ w : World,Tab w → Calls Tryz.prog 136 #[.int .u64 x] w fun e w' => e = .returned (.int .i64 (k : Int)) ∧ w = w'))
  (Kl : Hid (∀ w : World,Calls Tryz.prog 119 #[.int .u64 (IntKind.u64.wrap o)] w fun e w' => e = .returned (.int .i64 (L : Int)) ∧ w = w')) (U : Nat) (hu : min (24 - (L : Int)) (e + (k : Int) + 149) = (U : Int)) (hU2 : U < 64) (hs : e + (k : Int) - (U : Int) + 149 + 1 < 255) (hs0 : 0 ≤ e + (k : Int) - (U : Int) + 149) (v r : Int) (hv : 0 ≤ o * 2 ^ U) (hv2 : o * 2 ^ U < 2 * 8388608) (hve : (e + (k : Int) - (U : Int) + 149) * 8388608 + o * 2 ^ U = v) (hr : bits .or .i64 v 2147483648 = r) (q : Int) (hq0 : (if p = true then r else v) = q) (w : World) (hT : Tab w) : Calls Tryz.prog 127 #[.bool p,.int .i64 x,.int .i64 e,.int .i64 32] w fun e w' => e = .returned (.tuple #[.int .i64 q,.bool true]) ∧ Kept w w':=by
 have HQ : Hid ((if p = true then r else v) = q):=hq0
 clear hq0
 obtain ⟨Q,hQ⟩ : ∃ Q,Q = o * 2 ^ U:=⟨_,rfl⟩
 have HM : Hid (min (IntKind.i64.wrap (IntKind.i64.wrap 24 - (L : Int))) (IntKind.i64.wrap (e + (k : Int) + 149)) = (U : Int)):=by
  show min (IntKind.i64.wrap (IntKind.i64.wrap 24 - (L : Int))) (IntKind.i64.wrap (e + (k : Int) + 149)) = (U : Int)
  rw [wrap_i64,wrap_i64,wrap_i64]
  omega
 have HW : Hid (IntKind.i64.wrap (IntKind.i64.wrap ((e + (k : Int) - (U : Int) + 149) * 8388608) + IntKind.i64.wrap (o * 2 ^ U)) = v):=by
  show IntKind.i64.wrap (IntKind.i64.wrap ((e + (k : Int) - (U : Int) + 149) * 8388608) + IntKind.i64.wrap (o * 2 ^ U)) = v
  rw [← hQ] at hv hv2 hve ⊢
  rw [wrap_i64,wrap_i64,wrap_i64]
  omega
 clear hve hv hv2 hQ
 have HT : Hid (Tab w):=hT
 clear hT
 go_enter Tryz.func127,Tryz.ntmps127
 go_wp2_with fail
 refine (layoutOf_32 _).mono ?_
 rintro e w1 ⟨rfl,hk1⟩
 go_wp2_with fail
 refine (Kz.out _ (HT.out.kept (hk1.alloc _ _))).mono ?_
 rintro e w2 ⟨rfl,rfl⟩
 go_wp2
 have hK:=Kept.refl (w1.alloc (.cells #[.int .i64 2147483648,.int .i64 2139095040,.int .i64 2143289345,.int .i64 23,.int .i64 (-149)] 52))
 go_region_held (fun v => Kept (w1.alloc (.cells #[.int .i64 2147483648,.int .i64 2139095040,.int .i64 2143289345,.int .i64 23,.int .i64 (-149)] 52)) v ∧ ∀ o,v.cell? ⟨w1.heap.size,o,none⟩ = (w1.alloc (.cells #[.int .i64 2147483648,.int .i64 2139095040,.int .i64 2143289345,.int .i64 23,.int .i64 (-149)] 52)).cell? ⟨w1.heap.size,o,none⟩) (first | exact jkeep0 hK | assumption) (first | (go_at_call 119; refine (Kl.out _).mono ?_; rintro e w3 ⟨rfl,rfl⟩))
 go_wp2
 have hK2:=hK.drew
 rw [HM.out]
 go_region_held (fun v => Kept (w1.alloc (.cells #[.int .i64 2147483648,.int .i64 2139095040,.int .i64 2143289345,.int .i64 23,.int .i64 (-149)] 52)) v ∧ ∀ o,v.cell? ⟨w1.heap.size,o,none⟩ = (w1.alloc (.cells #[.int .i64 2147483648,.int .i64 2139095040,.int .i64 2143289345,.int .i64 23,.int .i64 (-149)] 52)).cell? ⟨w1.heap.size,o,none⟩) (first | exact jkeep0 hK2 | (refine jkeep1 ?_ hk5; assumption)) (first | (go_at_call 149; rw [HW.out]; refine (signed_32 p v r q hr HQ.out _).mono ?_; rintro e w5 ⟨rfl,hk5⟩))
 go_wp2
 go_ret2
 exact ⟨rfl,(hk1.trans (((Kept.refl _).alloc _ _).trans (And.left ‹_›)))⟩
end Go.Proofs.YtnniljhdcplkgaaGreatDoor
