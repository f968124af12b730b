/- The walks of exact's small functions over digits: areDigits,digit,piece,length,signOf,top. The walk of Join of package bits,way by way. -/
import Derived.Test.YtdhimkpfnhoagaaGreatDoorWo02
import Derived.Test.YtdhimkpfnhoagaaGreatDoorWo01
import Derived.Deep.RegionHeld
namespace Go.Proofs.YtdhimkpfnhoagaaGreatDoor
open Go.ChangeShapes Go.WideShapes Go.ChangeAt Go.RowKit
set_option linter.unusedVariables false
set_option linter.unusedSimpArgs false
set_option maxHeartbeats 16000000
set_option maxRecDepth 100000
def Reads (w : World) (b off : Nat) (L : List Int) : Prop:=∀ i,i < L.length → w.cell? ⟨b,off + i,none⟩ = some (.int .i64 (L.getD i 0))
def Sl (w : World) (v : Value) (L : List Int) : Prop :=
 ∃ ao cap,v = .slice ao L.length cap ∧ L.length ≤ cap ∧ cap ≤ maxLen ∧ (L ≠ [] → ∃ b off,ao = some ⟨b,off,none⟩ ∧ b < w.heap.size ∧ Reads w b off L)
theorem Reads.kept {w w' : World} {b off : Nat} {L : List Int} (h : Reads w b off L) (hb : b < w.heap.size) (k : Kept w w') : Reads w' b off L :=
 fun i hi => (k.below.cell (p:=⟨b,off + i,none⟩) hb).trans (h i hi)
theorem Sl.kept {w w' : World} {v : Value} {L : List Int} (h : Sl w v L) (k : Kept w w') : Sl w' v L:=by
 obtain ⟨ao,cap,e,hc,hm,hr⟩:=h
 refine ⟨ao,cap,e,hc,hm,fun hne => ?_⟩
 obtain ⟨b,off,e2,hb,hr⟩:=hr hne
 exact ⟨b,off,e2,Nat.lt_of_lt_of_le hb k.below.size,hr.kept hb k⟩
def dig (L : List Int) (i : Int) : Int:=if 0 ≤ i then L.getD i.toNat 0 else 0
theorem digit_in (L : List Int) (b off cap : Nat) (i : Nat) (hi : i < L.length) (w : World) (hr : Reads w b off L) : Calls Tryz.prog 156 #[.slice (some ⟨b,off,none⟩) L.length cap,.int .i64 (i : Int)] w fun e w' => e = .returned (.int .i64 (L.getD i 0)) ∧ w = w':=by
 have h1:=hr i hi
 have h2 : ((i : Int) < 0) = False:=by simp
 have h3 : ((L.length : Int) ≤ (i : Int)) = False:=by simp; omega
 generalize L.getD i 0 = d at *
 generalize L.length = n at *
 clear hr
 go_enter Tryz.func156,Tryz.ntmps156
 go_wp2
 go_ret
 exact ⟨rfl,rfl⟩
theorem digit_out (n : Nat) (ao : Option Addr) (cap : Nat) (i : Int) (hi : i < 0 ∨ (n : Int) ≤ i) (w : World) : Calls Tryz.prog 156 #[.slice ao n cap,.int .i64 i] w fun e w' => e = .returned (.int .i64 0) ∧ w = w':=by
 rcases (show i < 0 ∨ (0 ≤ i ∧ (n : Int) ≤ i) by omega) with h | ⟨h0,h⟩
 ·go_enter Tryz.func156,Tryz.ntmps156
  go_wp2
  go_ret
  exact ⟨rfl,rfl⟩
 ·go_enter Tryz.func156,Tryz.ntmps156
  go_wp2
  go_ret
  exact ⟨rfl,rfl⟩
theorem digit_any (L : List Int) (v : Value) (i : Int) (w : World) (h : Sl w v L) : Calls Tryz.prog 156 #[v,.int .i64 i] w fun e w' => e = .returned (.int .i64 (dig L i)) ∧ w = w':=by
 obtain ⟨ao,cap,rfl,hc,hm,hr⟩:=h
 by_cases hi : 0 ≤ i ∧ i < L.length
 ·obtain ⟨b,off,rfl,-,hr⟩:=hr (by intro h; subst h; simp at hi; omega)
  have:=digit_in L b off cap i.toNat (by omega) w hr
  rw [Int.toNat_of_nonneg hi.1] at this
  rw [dig,if_pos hi.1]
  exact this
 ·have : dig L i = 0:=by
   unfold dig
   split
   ·rw [List.getD_eq_getElem?_getD,List.getElem?_eq_none (by omega)]; rfl
   ·rfl
  rw [this]
  exact digit_out _ _ _ _ (by omega) w
theorem dig_nat (L : List Int) (h : Dg L) (q : Nat) : dig L (q : Int) = ((nv L / 2 ^ (30 * q) % 1073741824 : Nat) : Int):=by
 have h1:=nv_getD L h q
 have h2:=h.getD q
 rw [dig,if_pos (by omega),Int.toNat_natCast]
 omega
theorem dig_neg (L : List Int) (q : Int) (h : q < 0) : dig L q = 0:=by rw [dig,if_neg (by omega)]
def pcq (L : List Int) (q : Int) (s : Nat) : Int:=bits .and .i64 (bits .or .i64 (dig L q / 2 ^ s) (IntKind.i64.wrap (dig L (q + 1) * 2 ^ (30 - s)))) 1073741823
theorem pcq_nat (x y s : Nat) (hs : s < 30) (hx : x < 1073741824) (hy : y < 1073741824) : bits .and .i64 (bits .or .i64 ((x : Int) / 2 ^ s) (IntKind.i64.wrap ((y : Int) * 2 ^ (30 - s)))) 1073741823 = (((x / 2 ^ s + y * 2 ^ (30 - s)) % 1073741824 : Nat) : Int):=by
 obtain ⟨p,q,hp,hq,e⟩ : ∃ p q : Nat,2 ^ s = p ∧ 2 ^ (30 - s) = q ∧ p * q = 1073741824:=⟨_,_,rfl,rfl,by rw [← Nat.pow_add,show s + (30 - s) = 30 by omega]⟩
 have hp0 : 0 < p:=by rw [← hp]; exact Nat.two_pow_pos _
 have hq0 : 0 < q:=by rw [← hq]; exact Nat.two_pow_pos _
 have hq1 : q ≤ 1073741824:=by rw [← e]; exact Nat.le_mul_of_pos_left _ hp0
 have e1 : (x : Int) / 2 ^ s = ((x / 2 ^ s : Nat) : Int):=by rw [Int.natCast_ediv,Int.natCast_pow]; rfl
 have e2 : (y : Int) * 2 ^ (30 - s) = ((y * 2 ^ (30 - s) : Nat) : Int):=by rw [Int.natCast_mul,Int.natCast_pow]; rfl
 have h1 : x / 2 ^ s < 2 ^ (30 - s):=by
  rw [hp,hq]
  exact (Nat.div_lt_iff_lt_mul hp0).2 (by rw [Nat.mul_comm]; omega)
 have h2 : y * 2 ^ (30 - s) < 1152921504606846976:=by
  rw [hq]
  calc y * q ≤ y * 1073741824:=Nat.mul_le_mul_left _ hq1
   _ < 1152921504606846976:=by omega
 have e3 : IntKind.i64.wrap ((y * 2 ^ (30 - s) : Nat) : Int) = ((y * 2 ^ (30 - s) : Nat) : Int):=by
  rw [wrap_i64]; omega
 rw [e1,e2,e3,or_sum _ _ _ h1 (by have : x / 2 ^ s ≤ x:=Nat.div_le_self _ _; omega),mask30]
 rfl
theorem pcq_eq (L : List Int) (h : Dg L) (q : Int) (s : Nat) (hs : s < 30) : pcq L q s = pcz (nv L) (30 * q + s):=by
 unfold pcq pcz
 by_cases h0 : 0 ≤ q
 ·obtain ⟨n,rfl⟩ : ∃ n : Nat,q = n:=⟨q.toNat,by omega⟩
  rw [if_pos (by omega),show ((n : Int) + 1) = ((n + 1 : Nat) : Int) by omega,dig_nat L h,dig_nat L h,pcq_nat _ _ s hs (Nat.mod_lt _ (by decide)) (Nat.mod_lt _ (by decide)),piece_nat _ s hs,show (30 * (n : Int) + (s : Int)).toNat = 30 * n + s by omega]
 ·rw [if_neg (by omega),dig_neg L q (by omega)]
  by_cases h1 : q = -1
  ·subst h1
   have e:=dig_nat L h 0
   rw [show (-1 + 1 : Int) = ((0 : Nat) : Int) by rfl,e,show (0 : Int) = ((0 : Nat) : Int) from rfl,pcq_nat 0 _ s hs (by decide) (Nat.mod_lt _ (by decide)),show (-(30 * (-1) + (s : Int))).toNat = 30 - s by omega]
   simp [Nat.mod_mul_mod]
  ·rw [dig_neg L (q + 1) (by omega),show (0 : Int) = ((0 : Nat) : Int) from rfl,pcq_nat 0 0 s hs (by decide) (by decide)]
   obtain ⟨k,hk⟩ : ∃ k,(-(30 * q + (s : Int))).toNat = 30 + k:=⟨(-(30 * q + (s : Int))).toNat - 30,by omega⟩
   have e : nv L * (2 ^ 30 * 2 ^ k) % 1073741824 = 0:=by
    rw [Nat.mul_left_comm]
    exact Nat.mul_mod_right _ _
   rw [hk,Nat.pow_add,e]
   simp
theorem tdiv_at (p q s : Int) (h0 : 0 ≤ s) (hs : s < 30) (hp : p = 30 * q + s) (hc : 0 ≤ q ∨ s = 0) : p.tdiv 30 = q ∧ p.tmod 30 = s:=by
 by_cases h : 0 ≤ p
 ·rw [Int.tdiv_eq_ediv_of_nonneg (by omega),Int.tmod_eq_emod_of_nonneg (by omega)]
  omega
 ·have e : p.tdiv 30 = -((-p).tdiv 30):=by rw [Int.neg_tdiv]; omega
  have f : p.tmod 30 = -((-p).tmod 30):=by rw [Int.neg_tmod]; omega
  rw [e,f,Int.tdiv_eq_ediv_of_nonneg (by omega),Int.tmod_eq_emod_of_nonneg (by omega)]
  omega
theorem tdiv_below (p q s : Int) (h0 : 0 < s) (hs : s < 30) (hp : p = 30 * q + s) (hc : q < 0) : p.tdiv 30 = q + 1 ∧ p.tmod 30 = s - 30:=by
 have e : p.tdiv 30 = -((-p).tdiv 30):=by rw [Int.neg_tdiv]; omega
 have f : p.tmod 30 = -((-p).tmod 30):=by rw [Int.neg_tmod]; omega
 rw [e,f,Int.tdiv_eq_ediv_of_nonneg (by omega),Int.tmod_eq_emod_of_nonneg (by omega)]
 omega
theorem piece_at (L : List Int) (v : Value) (q : Int) (s : Nat) (hs : s < 30) (hq : q < 100000000) (hq0 : -100000000 < q) (p : Int) (hp : p = 30 * (q : Int) + s) (hc : 0 ≤ q ∨ (s : Int) = 0) (w : World) (h : Sl w v L) : Calls Tryz.prog 116 #[v,.int .i64 p] w fun e w' => e = .returned (.int .i64 (pcq L q s)) ∧ Kept w w':=by
 have H : Hid (Sl w v L):=h
 clear h
 obtain ⟨e1,e2⟩:=tdiv_at p q s (by omega) (by omega) hp hc
 clear hp hc
 have hK:=Kept.refl w
 have e3 : IntKind.i64.wrap (q + 1) = q + 1:=by rw [wrap_i64]; omega
 have e4 : IntKind.i64.wrap (30 - (s : Int)) = ((30 - s : Nat) : Int):=by rw [wrap_i64]; omega
 go_enter Tryz.func116,Tryz.ntmps116
 go_wp2_with fail
 go_region_held (fun u => Kept w u) (first | exact hK.drew | assumption) (first | (go_at_call 156; refine (digit_any L v _ _ (H.out.kept (by assumption))).mono ?_; rintro e w1 ⟨rfl,rfl⟩))
 go_wp2
 go_ret
 exact ⟨rfl,hK.drew⟩
theorem piece_below (L : List Int) (v : Value) (q : Int) (s : Nat) (hs : s < 30) (hq : q < 0) (hq0 : -100000000 < q) (p : Int) (hp : p = 30 * (q : Int) + s) (hc : 0 < s) (w : World) (h : Sl w v L) : Calls Tryz.prog 116 #[v,.int .i64 p] w fun e w' => e = .returned (.int .i64 (pcq L q s)) ∧ Kept w w':=by
 have H : Hid (Sl w v L):=h
 clear h
 obtain ⟨e1,e2⟩:=tdiv_below p q s (by omega) (by omega) hp hq
 clear hp
 have hK:=Kept.refl w
 have e3 : IntKind.i64.wrap (q + 1) = q + 1:=by rw [wrap_i64]; omega
 have e5 : IntKind.i64.wrap (q + 1 - 1) = q:=by rw [wrap_i64]; omega
 have e6 : IntKind.i64.wrap ((s : Int) - 30 + 30) = (s : Int):=by rw [wrap_i64]; omega
 have e4 : IntKind.i64.wrap (30 - (s : Int)) = ((30 - s : Nat) : Int):=by rw [wrap_i64]; omega
 go_enter Tryz.func116,Tryz.ntmps116
 go_wp2_with fail
 go_region_held (fun u => Kept w u) (first | exact hK.drew | assumption) (first | (go_at_call 156; refine (digit_any L v _ _ (H.out.kept (by assumption))).mono ?_; rintro e w1 ⟨rfl,rfl⟩))
 go_wp2
 go_ret
 exact ⟨rfl,hK.drew⟩
theorem piece_any (L : List Int) (hL : Dg L) (v : Value) (p : Int) (h1 : -1000000000 < p) (h2 : p < 1000000000) (w : World) (h : Sl w v L) : Calls Tryz.prog 116 #[v,.int .i64 p] w fun e w' => e = .returned (.int .i64 (pcz (nv L) p)) ∧ Kept w w':=by
 obtain ⟨s,hs⟩ : ∃ s : Nat,p % 30 = s:=⟨(p % 30).toNat,by omega⟩
 have e : 30 * (p / 30) + (s : Int) = p:=by omega
 have:=pcq_eq L hL (p / 30) s (by omega)
 rw [e] at this
 rw [← this]
 by_cases hc : 0 ≤ p / 30 ∨ (s : Int) = 0
 ·exact piece_at L v (p / 30) s (by omega) (by omega) (by omega) p e.symm hc w h
 ·exact piece_below L v (p / 30) s (by omega) (by omega) (by omega) p e.symm (by omega) w h
theorem jkeep0 {x v : World} {c : Array Value} {t : TypeId} (h : Kept (x.alloc (.cells c t)) v) : Kept (x.alloc (.cells c t)) v.drew ∧ ∀ o,v.drew.cell? ⟨x.heap.size,o,none⟩ = (x.alloc (.cells c t)).cell? ⟨x.heap.size,o,none⟩:=⟨h.drew,laid_cell h.drew⟩
theorem jkeep1 {x v v' : World} {c : Array Value} {t : TypeId} (h : Kept (x.alloc (.cells c t)) v ∧ ∀ o,v.cell? ⟨x.heap.size,o,none⟩ = (x.alloc (.cells c t)).cell? ⟨x.heap.size,o,none⟩) (k : Kept v v') : Kept (x.alloc (.cells c t)) v' ∧ ∀ o,v'.cell? ⟨x.heap.size,o,none⟩ = (x.alloc (.cells c t)).cell? ⟨x.heap.size,o,none⟩:=⟨h.1.trans k,laid_cell (h.1.trans k)⟩
theorem signed_64 (p : Bool) (v r q : Int) (hr : bits .or .i64 v (-9223372036854775808) = r) (hq : (if p = true then r else v) = q) (w : World) : Calls Tryz.prog 168 #[.agg #[.int .i64 (-9223372036854775808),.int .i64 9218868437227405312,.int .i64 9221120237041090561,.int .i64 52,.int .i64 (-1074)],.bool p,.int .i64 v] w fun e w' => e = .returned (.int .i64 q) ∧ Kept w w':=by
 subst hq
 go_enter Tryz.func168,Tryz.ntmps168
 cases p
 ·go_wp2
  go_ret
  exact ⟨rfl,(Kept.refl _).alloc _ _⟩
 ·go_wp2
  go_ret
  exact ⟨rfl,(Kept.refl _).alloc _ _⟩
theorem join_64_high (p : Bool) (x e : Int) (k : Nat) (hx0 : 0 < x) (hx1 : x ≤ 9223372036854775807) (he1 : -2000 ≤ e) (he2 : e ≤ 2000) (hk : k < 64) (o : Int) (L : Nat) (ho0 : 0 < o) (ho1 : o ≤ 9223372036854775807) (hL : L ≤ 64) (hsh : x / 2 ^ k = o)
  (Kz : Hid (∀ w : World,Tab w → Calls Tryz.prog 155 #[.int .u64 x] w fun e w' => e = .returned (.int .i64 (k : Int)) ∧ w = w'))
  (Kl : Hid (∀ w : World,Calls Tryz.prog 127 #[.int .u64 (IntKind.u64.wrap o)] w fun e w' => e = .returned (.int .i64 (L : Int)) ∧ w = w')) (U : Int) (hu : min (53 - (L : Int)) (e + (k : Int) + 1074) = U) (hU : 0 ≤ U) (hU2 : U ≤ 64) (hs : 2047 ≤ e + (k : Int) - U + 1074 + 1) (w : World) (hT : Tab w) : Calls Tryz.prog 129 #[.bool p,.int .i64 x,.int .i64 e,.int .i64 64] w fun e w' => e = .returned (.tuple #[.int .i64 0,.bool false]) ∧ Kept w w':=by
 have HT : Hid (Tab w):=hT
 clear hT
 go_enter Tryz.func129,Tryz.ntmps129
 go_wp2_with fail
 refine (layoutOf_64 _).mono ?_
 rintro e w1 ⟨rfl,hk1⟩
 go_wp2_with fail
 refine (Kz.out _ (HT.out.kept (hk1.alloc _ _))).mono ?_
 rintro e w2 ⟨rfl,rfl⟩
 go_wp2
 have hK:=Kept.refl (w1.alloc (.cells #[.int .i64 (-9223372036854775808),.int .i64 9218868437227405312,.int .i64 9221120237041090561,.int .i64 52,.int .i64 (-1074)] 139))
 go_region_held (fun v => Kept (w1.alloc (.cells #[.int .i64 (-9223372036854775808),.int .i64 9218868437227405312,.int .i64 9221120237041090561,.int .i64 52,.int .i64 (-1074)] 139)) v ∧ ∀ o,v.cell? ⟨w1.heap.size,o,none⟩ = (w1.alloc (.cells #[.int .i64 (-9223372036854775808),.int .i64 9218868437227405312,.int .i64 9221120237041090561,.int .i64 52,.int .i64 (-1074)] 139)).cell? ⟨w1.heap.size,o,none⟩) (first | exact jkeep0 hK | assumption) (first | (go_at_call 127; refine (Kl.out _).mono ?_; rintro e w3 ⟨rfl,rfl⟩))
 go_wp2
 go_ret2
 exact ⟨rfl,(hk1.alloc _ _).drew⟩
theorem join_64_yes (p : Bool) (x e : Int) (k : Nat) (hx0 : 0 < x) (hx1 : x ≤ 9223372036854775807) (he1 : -2000 ≤ e) (he2 : e ≤ 2000) (hk : k < 64) (o : Int) (L : Nat) (ho0 : 0 < o) (ho1 : o ≤ 9223372036854775807) (hL : L ≤ 64) (hsh : x / 2 ^ k = o)
  (Kz : Hid (∀ w : World,Tab w → Calls Tryz.prog 155 #[.int .u64 x] w fun e w' => e = .returned (.int .i64 (k : Int)) ∧ w = w'))
  (Kl : Hid (∀ w : World,Calls Tryz.prog 127 #[.int .u64 (IntKind.u64.wrap o)] w fun e w' => e = .returned (.int .i64 (L : Int)) ∧ w = w')) (U : Nat) (hu : min (53 - (L : Int)) (e + (k : Int) + 1074) = (U : Int)) (hU2 : U < 64) (hs : e + (k : Int) - (U : Int) + 1074 + 1 < 2047) (hs0 : 0 ≤ e + (k : Int) - (U : Int) + 1074) (v r : Int) (hv : 0 ≤ o * 2 ^ U) (hv2 : o * 2 ^ U < 2 * 4503599627370496) (hve : (e + (k : Int) - (U : Int) + 1074) * 4503599627370496 + o * 2 ^ U = v) (hr : bits .or .i64 v (-9223372036854775808) = r) (q : Int) (hq0 : (if p = true then r else v) = q) (w : World) (hT : Tab w) : Calls Tryz.prog 129 #[.bool p,.int .i64 x,.int .i64 e,.int .i64 64] w fun e w' => e = .returned (.tuple #[.int .i64 q,.bool true]) ∧ Kept w w':=by
 have HQ : Hid ((if p = true then r else v) = q):=hq0
 clear hq0
 obtain ⟨Q,hQ⟩ : ∃ Q,Q = o * 2 ^ U:=⟨_,rfl⟩
 have HM : Hid (min (IntKind.i64.wrap (IntKind.i64.wrap 53 - (L : Int))) (IntKind.i64.wrap (e + (k : Int) + 1074)) = (U : Int)):=by
  show min (IntKind.i64.wrap (IntKind.i64.wrap 53 - (L : Int))) (IntKind.i64.wrap (e + (k : Int) + 1074)) = (U : Int)
  rw [wrap_i64,wrap_i64,wrap_i64]
  omega
 have HW : Hid (IntKind.i64.wrap (IntKind.i64.wrap ((e + (k : Int) - (U : Int) + 1074) * 4503599627370496) + IntKind.i64.wrap (o * 2 ^ U)) = v):=by
  show IntKind.i64.wrap (IntKind.i64.wrap ((e + (k : Int) - (U : Int) + 1074) * 4503599627370496) + IntKind.i64.wrap (o * 2 ^ U)) = v
  rw [← hQ] at hv hv2 hve ⊢
  rw [wrap_i64,wrap_i64,wrap_i64]
  omega
 clear hve hv hv2 hQ
 have HT : Hid (Tab w):=hT
 clear hT
 go_enter Tryz.func129,Tryz.ntmps129
 go_wp2_with fail
 refine (layoutOf_64 _).mono ?_
 rintro e w1 ⟨rfl,hk1⟩
 go_wp2_with fail
 refine (Kz.out _ (HT.out.kept (hk1.alloc _ _))).mono ?_
 rintro e w2 ⟨rfl,rfl⟩
 go_wp2
 have hK:=Kept.refl (w1.alloc (.cells #[.int .i64 (-9223372036854775808),.int .i64 9218868437227405312,.int .i64 9221120237041090561,.int .i64 52,.int .i64 (-1074)] 139))
 go_region_held (fun v => Kept (w1.alloc (.cells #[.int .i64 (-9223372036854775808),.int .i64 9218868437227405312,.int .i64 9221120237041090561,.int .i64 52,.int .i64 (-1074)] 139)) v ∧ ∀ o,v.cell? ⟨w1.heap.size,o,none⟩ = (w1.alloc (.cells #[.int .i64 (-9223372036854775808),.int .i64 9218868437227405312,.int .i64 9221120237041090561,.int .i64 52,.int .i64 (-1074)] 139)).cell? ⟨w1.heap.size,o,none⟩) (first | exact jkeep0 hK | assumption) (first | (go_at_call 127; refine (Kl.out _).mono ?_; rintro e w3 ⟨rfl,rfl⟩))
 go_wp2
 have hK2:=hK.drew
 rw [HM.out]
 go_region_held (fun v => Kept (w1.alloc (.cells #[.int .i64 (-9223372036854775808),.int .i64 9218868437227405312,.int .i64 9221120237041090561,.int .i64 52,.int .i64 (-1074)] 139)) v ∧ ∀ o,v.cell? ⟨w1.heap.size,o,none⟩ = (w1.alloc (.cells #[.int .i64 (-9223372036854775808),.int .i64 9218868437227405312,.int .i64 9221120237041090561,.int .i64 52,.int .i64 (-1074)] 139)).cell? ⟨w1.heap.size,o,none⟩) (first | exact jkeep0 hK2 | (refine jkeep1 ?_ hk5; assumption)) (first | (go_at_call 168; rw [HW.out]; refine (signed_64 p v r q hr HQ.out _).mono ?_; rintro e w5 ⟨rfl,hk5⟩))
 go_wp2
 go_ret2
 exact ⟨rfl,(hk1.trans (((Kept.refl _).alloc _ _).trans (And.left ‹_›)))⟩
theorem signed_32 (p : Bool) (v r q : Int) (hr : bits .or .i64 v 2147483648 = r) (hq : (if p = true then r else v) = q) (w : World) : Calls Tryz.prog 168 #[.agg #[.int .i64 2147483648,.int .i64 2139095040,.int .i64 2143289345,.int .i64 23,.int .i64 (-149)],.bool p,.int .i64 v] w fun e w' => e = .returned (.int .i64 q) ∧ Kept w w':=by
 subst hq
 go_enter Tryz.func168,Tryz.ntmps168
 cases p
 ·go_wp2
  go_ret
  exact ⟨rfl,(Kept.refl _).alloc _ _⟩
 ·go_wp2
  go_ret
  exact ⟨rfl,(Kept.refl _).alloc _ _⟩
theorem join_32_high (p : Bool) (x e : Int) (k : Nat) (hx0 : 0 < x) (hx1 : x ≤ 9223372036854775807) (he1 : -2000 ≤ e) (he2 : e ≤ 2000) (hk : k < 64) (o : Int) (L : Nat) (ho0 : 0 < o) (ho1 : o ≤ 9223372036854775807) (hL : L ≤ 64) (hsh : x / 2 ^ k = o)
  (Kz : Hid (∀ w : World,Tab w → Calls Tryz.prog 155 #[.int .u64 x] w fun e w' => e = .returned (.int .i64 (k : Int)) ∧ w = w'))
  (Kl : Hid (∀ w : World,Calls Tryz.prog 127 #[.int .u64 (IntKind.u64.wrap o)] w fun e w' => e = .returned (.int .i64 (L : Int)) ∧ w = w')) (U : Int) (hu : min (24 - (L : Int)) (e + (k : Int) + 149) = U) (hU : 0 ≤ U) (hU2 : U ≤ 64) (hs : 255 ≤ e + (k : Int) - U + 149 + 1) (w : World) (hT : Tab w) : Calls Tryz.prog 129 #[.bool p,.int .i64 x,.int .i64 e,.int .i64 32] w fun e w' => e = .returned (.tuple #[.int .i64 0,.bool false]) ∧ Kept w w':=by
 have HT : Hid (Tab w):=hT
 clear hT
 go_enter Tryz.func129,Tryz.ntmps129
 go_wp2_with fail
 refine (layoutOf_32 _).mono ?_
 rintro e w1 ⟨rfl,hk1⟩
 go_wp2_with fail
 refine (Kz.out _ (HT.out.kept (hk1.alloc _ _))).mono ?_
 rintro e w2 ⟨rfl,rfl⟩
 go_wp2
 have hK:=Kept.refl (w1.alloc (.cells #[.int .i64 2147483648,.int .i64 2139095040,.int .i64 2143289345,.int .i64 23,.int .i64 (-149)] 139))
 go_region_held (fun v => Kept (w1.alloc (.cells #[.int .i64 2147483648,.int .i64 2139095040,.int .i64 2143289345,.int .i64 23,.int .i64 (-149)] 139)) v ∧ ∀ o,v.cell? ⟨w1.heap.size,o,none⟩ = (w1.alloc (.cells #[.int .i64 2147483648,.int .i64 2139095040,.int .i64 2143289345,.int .i64 23,.int .i64 (-149)] 139)).cell? ⟨w1.heap.size,o,none⟩) (first | exact jkeep0 hK | assumption) (first | (go_at_call 127; refine (Kl.out _).mono ?_; rintro e w3 ⟨rfl,rfl⟩))
 go_wp2
 go_ret2
 exact ⟨rfl,(hk1.alloc _ _).drew⟩
theorem join_32_yes (p : Bool) (x e : Int) (k : Nat) (hx0 : 0 < x) (hx1 : x ≤ 9223372036854775807) (he1 : -2000 ≤ e) (he2 : e ≤ 2000) (hk : k < 64) (o : Int) (L : Nat) (ho0 : 0 < o) (ho1 : o ≤ 9223372036854775807) (hL : L ≤ 64) (hsh : x / 2 ^ k = o)
  (Kz : Hid (∀ w : World,Tab w → Calls Tryz.prog 155 #[.int .u64 x] w fun e w' => e = .returned (.int .i64 (k : Int)) ∧ w = w'))
  (Kl : Hid (∀ w : World,Calls Tryz.prog 127 #[.int .u64 (IntKind.u64.wrap o)] w fun e w' => e = .returned (.int .i64 (L : Int)) ∧ w = w')) (U : Nat) (hu : min (24 - (L : Int)) (e + (k : Int) + 149) = (U : Int)) (hU2 : U < 64) (hs : e + (k : Int) - (U : Int) + 149 + 1 < 255) (hs0 : 0 ≤ e + (k : Int) - (U : Int) + 149) (v r : Int) (hv : 0 ≤ o * 2 ^ U) (hv2 : o * 2 ^ U < 2 * 8388608) (hve : (e + (k : Int) - (U : Int) + 149) * 8388608 + o * 2 ^ U = v) (hr : bits .or .i64 v 2147483648 = r) (q : Int) (hq0 : (if p = true then r else v) = q) (w : World) (hT : Tab w) : Calls Tryz.prog 129 #[.bool p,.int .i64 x,.int .i64 e,.int .i64 32] w fun e w' => e = .returned (.tuple #[.int .i64 q,.bool true]) ∧ Kept w w':=by
 have HQ : Hid ((if p = true then r else v) = q):=hq0
 clear hq0
 obtain ⟨Q,hQ⟩ : ∃ Q,Q = o * 2 ^ U:=⟨_,rfl⟩
 have HM : Hid (min (IntKind.i64.wrap (IntKind.i64.wrap 24 - (L : Int))) (IntKind.i64.wrap (e + (k : Int) + 149)) = (U : Int)):=by
  show min (IntKind.i64.wrap (IntKind.i64.wrap 24 - (L : Int))) (IntKind.i64.wrap (e + (k : Int) + 149)) = (U : Int)
  rw [wrap_i64,wrap_i64,wrap_i64]
  omega
 have HW : Hid (IntKind.i64.wrap (IntKind.i64.wrap ((e + (k : Int) - (U : Int) + 149) * 8388608) + IntKind.i64.wrap (o * 2 ^ U)) = v):=by
  show IntKind.i64.wrap (IntKind.i64.wrap ((e + (k : Int) - (U : Int) + 149) * 8388608) + IntKind.i64.wrap (o * 2 ^ U)) = v
  rw [← hQ] at hv hv2 hve ⊢
  rw [wrap_i64,wrap_i64,wrap_i64]
  omega
 clear hve hv hv2 hQ
 have HT : Hid (Tab w):=hT
 clear hT
 go_enter Tryz.func129,Tryz.ntmps129
 go_wp2_with fail
 refine (layoutOf_32 _).mono ?_
 rintro e w1 ⟨rfl,hk1⟩
 go_wp2_with fail
 refine (Kz.out _ (HT.out.kept (hk1.alloc _ _))).mono ?_
 rintro e w2 ⟨rfl,rfl⟩
 go_wp2
 have hK:=Kept.refl (w1.alloc (.cells #[.int .i64 2147483648,.int .i64 2139095040,.int .i64 2143289345,.int .i64 23,.int .i64 (-149)] 139))
 go_region_held (fun v => Kept (w1.alloc (.cells #[.int .i64 2147483648,.int .i64 2139095040,.int .i64 2143289345,.int .i64 23,.int .i64 (-149)] 139)) v ∧ ∀ o,v.cell? ⟨w1.heap.size,o,none⟩ = (w1.alloc (.cells #[.int .i64 2147483648,.int .i64 2139095040,.int .i64 2143289345,.int .i64 23,.int .i64 (-149)] 139)).cell? ⟨w1.heap.size,o,none⟩) (first | exact jkeep0 hK | assumption) (first | (go_at_call 127; refine (Kl.out _).mono ?_; rintro e w3 ⟨rfl,rfl⟩))
 go_wp2
 have hK2:=hK.drew
 rw [HM.out]
 go_region_held (fun v => Kept (w1.alloc (.cells #[.int .i64 2147483648,.int .i64 2139095040,.int .i64 2143289345,.int .i64 23,.int .i64 (-149)] 139)) v ∧ ∀ o,v.cell? ⟨w1.heap.size,o,none⟩ = (w1.alloc (.cells #[.int .i64 2147483648,.int .i64 2139095040,.int .i64 2143289345,.int .i64 23,.int .i64 (-149)] 139)).cell? ⟨w1.heap.size,o,none⟩) (first | exact jkeep0 hK2 | (refine jkeep1 ?_ hk5; assumption)) (first | (go_at_call 168; rw [HW.out]; refine (signed_32 p v r q hr HQ.out _).mono ?_; rintro e w5 ⟨rfl,hk5⟩))
 go_wp2
 go_ret2
 exact ⟨rfl,(hk1.trans (((Kept.refl _).alloc _ _).trans (And.left ‹_›)))⟩
end Go.Proofs.YtdhimkpfnhoagaaGreatDoor
