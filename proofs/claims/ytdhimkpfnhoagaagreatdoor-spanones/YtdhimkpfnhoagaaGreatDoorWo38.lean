/- The statements' own around. The laws' own intervals around a float; three cells. The document's ends: times,by: the walks. The walk of exact's below,in general: digits by values. The walk of exact's root: the leading bits of a square root,bit by bit. The walk of exact's take,in general: the quotient's digit,and the rest that is left. Long division,plainly. The walk of exact's quotient,in general. exact.Root of any valid number that is not below 0. exact's quotient of any two valid numbers that are not 0; what rounding asks of it. exact.Quot of any two valid numbers,the second one not 0. A quotient's cut,by values; exact.Quot rounded down. exact.Quot rounded down,by products. exact.Quot of any two valid numbers that are not 0,in both widths,in all three ways: by a cut. exact.Root of any valid number above 0,in both widths,in all three ways. The walk of the document's own shifted: two loops. The walks of the document's own Join,way by way; and the ways of package bits' Join that refuse. -/
import Derived.Test.YtdhimkpfnhoagaaGreatDoorWo37
import Derived.Test.YtdhimkpfnhoagaaGreatDoorWo27
import Derived.Test.YtdhimkpfnhoagaaGreatDoorWo19
import Derived.Test.YtdhimkpfnhoagaaGreatDoorWo08
import Derived.Test.YtdhimkpfnhoagaaGreatDoorWo23
import Derived.Test.YtdhimkpfnhoagaaGreatDoorWo20
import Derived.Test.YtdhimkpfnhoagaaGreatDoorWo14
import Derived.Test.YtdhimkpfnhoagaaGreatDoorWo33
import Derived.Test.YtdhimkpfnhoagaaGreatDoorWo04
import Derived.Test.YtdhimkpfnhoagaaGreatDoorWo12
namespace Go.Proofs.YtdhimkpfnhoagaaGreatDoor
open Go.ChangeShapes Go.WideShapes Go.ChangeAt Go.RowKit Ieee
set_option linter.unusedVariables false
set_option linter.unusedSimpArgs false
set_option maxHeartbeats 16000000
set_option maxRecDepth 100000
theorem New.set {w0 w : World} {v : Value} {x : Nm} (h : New w0 w v x) {p : Addr} (hp : p.block < w0.heap.size) (u : Value) : New w0 (w.setCell p u) v x:=by
 rcases h with h | ⟨g,cap,e,hg,ho,hne⟩
 ·exact .inl h
 ·exact .inr ⟨g,cap,e,hg,ho.setOther (by omega) _,hne⟩
/-- three cells of a block -/
structure P3 (w : World) (b : Nat) (u v x : Value) : Prop where
 c0 : w.cell? ⟨b,0,none⟩ = some u
 c1 : w.cell? ⟨b,1,none⟩ = some v
 c2 : w.cell? ⟨b,2,none⟩ = some x
theorem P3.new (w : World) (u v x : Value) (t : TypeId) : P3 (w.alloc (.cells #[u,v,x] t)) w.heap.size u v x:=⟨by simp [go_sem],by simp [go_sem],by simp [go_sem]⟩
theorem P3.lt {w : World} {b : Nat} {u v x : Value} (h : P3 w b u v x) : b < w.heap.size:=by
 have:=h.c0
 by_cases hb : b < w.heap.size
 ·exact hb
 ·have hg : w.heap[b]? = none:=by simp at hb ⊢; omega
  simp [World.cell?,hg] at this
theorem P3.kept {w w' : World} {b : Nat} {u v x : Value} (h : P3 w b u v x) (k : Kept w w') : P3 w' b u v x :=
 ⟨(k.below.cell (p:=⟨b,0,none⟩) h.lt).trans h.c0,(k.below.cell (p:=⟨b,1,none⟩) h.lt).trans h.c1,(k.below.cell (p:=⟨b,2,none⟩) h.lt).trans h.c2⟩
theorem P3.alloc {w : World} {b : Nat} {u v x : Value} (h : P3 w b u v x) (c : Array Value) (t : TypeId) : P3 (w.alloc (.cells c t)) b u v x:=h.kept ((Kept.refl w).alloc c t)
def numOf (y n : Int) : Nm:=if cls y n < 3 then ofN y n else ⟨false,[],0⟩
end Go.Proofs.YtdhimkpfnhoagaaGreatDoor
namespace Go.Proofs.YtdhimkpfnhoagaaGreatDoor
open Go.ChangeShapes Go.WideShapes Go.ChangeAt Go.RowKit
set_option linter.unusedVariables false
set_option linter.unusedSimpArgs false
set_option maxHeartbeats 16000000
set_option maxRecDepth 100000
def dg (V i : Nat) : Nat:=V / 2 ^ (30 * i) % 1073741824
/- the guess -/
def DgAt (w : World) (g off m V : Nat) : Prop:=∀ i,i < m → w.cell? ⟨g,off + i,none⟩ = some (.int .i64 ((dg V i : Nat) : Int))
theorem DgAt.kept {w w' : World} {g off m V : Nat} (h : DgAt w g off m V) (k : Kept w w') : DgAt w' g off m V:=fun i hi => (k.below.cell (p:=⟨g,off + i,none⟩) (World.block_lt_of_cell? w _ (h i hi))).trans (h i hi)
structure Rtz (A h l : Nat) : Prop where
 eq : h * h + l = A
 le : l ≤ 2 * h
theorem Rtz.zero : Rtz 0 0 0:=⟨rfl,Nat.le_refl _⟩
theorem sq_two (h : Nat) : 2 * h * (2 * h) = 4 * (h * h):=by
 rw [Nat.mul_mul_mul_comm]
theorem sq_odd (h : Nat) : (2 * h + 1) * (2 * h + 1) = 4 * (h * h) + 4 * h + 1:=by
 rw [Nat.add_mul,Nat.mul_add,sq_two]
 omega
theorem Rtz.step {A h l : Nat} (R : Rtz A h l) (A' : Nat) (hA : A' / 4 = A) : (4 * h + 1 ≤ 4 * l + A' % 4 → Rtz A' (2 * h + 1) (4 * l + A' % 4 - (4 * h + 1))) ∧ (¬ 4 * h + 1 ≤ 4 * l + A' % 4 → Rtz A' (2 * h) (4 * l + A' % 4)):=by
 obtain ⟨e,le⟩:=R
 refine ⟨fun hh => ⟨?_,?_⟩,fun hh => ⟨?_,?_⟩⟩
 ·rw [sq_odd]; omega
 ·omega
 ·rw [sq_two]; omega
 ·omega
theorem Rtz.lt {A h l : Nat} (R : Rtz A h l) : h * h ≤ A ∧ A < (h + 1) * (h + 1):=by
 obtain ⟨e,le⟩:=R
 have : (h + 1) * (h + 1) = h * h + 2 * h + 1:=by rw [Nat.add_mul,Nat.mul_add]; omega
 omega
structure TK (g off n : Nat) (w w' : World) : Prop where
 grw : Grw g w w'
 rest : ∀ i,(i < off ∨ off + n < i) → w'.cell? ⟨g,i,none⟩ = w.cell? ⟨g,i,none⟩
theorem TK.refl (g off n : Nat) (w : World) : TK g off n w w:=⟨Grw.refl _ _,fun _ _ => rfl⟩
theorem TK.kept {g off n : Nat} {w a b : World} (hg : g < w.heap.size) (h : TK g off n w a) (k : Kept a b) : TK g off n w b :=
 ⟨h.grw.trans (k.toGrw g),fun i hi => (k.below.cell (p:=⟨g,i,none⟩) (Nat.lt_of_lt_of_le hg h.grw.grown.size)).trans (h.rest i hi)⟩
theorem TK.set {g off n : Nat} {w a : World} (h : TK g off n w a) (j : Nat) (hj : j ≤ n) (v : Value) : TK g off n w (a.setCell ⟨g,off + j,none⟩ v) :=
 ⟨h.grw.setCell _ _,fun i hi => by
  exact (World.cell?_setCell_other a ⟨g,off + j,none⟩ ⟨g,i,none⟩ v (by intro he; injection he with _ he; omega)).trans (h.rest i hi)⟩
theorem half_iff (V H : Nat) (hH : 0 < H) : (V / H % 2 = 1) ↔ H ≤ V % (2 * H):=by
 have e1 : V / H = 2 * (V / (2 * H)) + V % (2 * H) / H:=by
  have hdm:=Nat.div_add_mod V (2 * H)
  have : V = V % (2 * H) + H * (2 * (V / (2 * H))):=by
   rw [← Nat.mul_assoc,Nat.mul_comm H 2]; omega
  rw [show V / H = (V % (2 * H) + H * (2 * (V / (2 * H)))) / H by rw [← this],Nat.add_mul_div_left _ _ hH]; omega
 have e2 : V % (2 * H) < 2 * H:=Nat.mod_lt _ (by omega)
 rw [e1]
 constructor
 ·intro h
  apply Decidable.byContradiction
  intro hn
  have hz : V % (2 * H) / H = 0:=Nat.div_eq_of_lt (by omega)
  omega
 ·intro h
  have : V % (2 * H) / H = 1:=by
   rw [show V % (2 * H) = (V % (2 * H) - H) + H * 1 by omega,Nat.add_mul_div_left _ _ hH,Nat.div_eq_of_lt (by omega)]
  omega
theorem cutz_lead (c D V E h : Nat) (rs : Bool) (j m k F : Nat) (hc : 0 < c) (hce : c % 2 = 0) (hE : 0 < E) (hh : h = V / E) (hrs : rs = decide (V % E ≠ 0)) (hk : k = h / 2 ^ (m + 1)) (hF : F = j * c + k) (hb : k < 2 * c) (hjk : j = 0 ∨ c ≤ k) (hQD : E * 2 ^ (m + 1) = 2 ^ j * D) : Cutz c D V k (E * 2 ^ (m + 1)) (E * 2 ^ m) F (decide (k % 2 = 1)) (decide (h / 2 ^ m % 2 = 1)) (rs || h % 2 ^ m != 0):=by
 have hp:=Nat.two_pow_pos m
 have hH : 0 < E * 2 ^ m:=Nat.mul_pos hE hp
 have hQ : E * 2 ^ (m + 1) = 2 * (E * 2 ^ m):=by rw [Nat.pow_succ,← Nat.mul_assoc,Nat.mul_comm]
 have hkq : V / (E * 2 ^ (m + 1)) = k:=by rw [hk,hh,Nat.div_div_eq_div_mul]
 refine ⟨hQ,hH,hkq,?_,?_,rfl,?_,?_,?_⟩
 ·rw [hF,rv_at c j k hc (by omega) hjk,hQD,Nat.mul_assoc]
 ·rw [hF,Nat.add_assoc,rv_at c j (k + 1) hc (by omega) (by omega),hQD,Nat.mul_assoc]
 ·rw [hF,Nat.add_mod,Nat.mul_mod,hce]; simp
 ·rw [hh,Nat.div_div_eq_div_mul,hQ]
  congr 1
  exact propext (half_iff V (E * 2 ^ m) hH)
 ·rw [hQ,Nat.mod_mul_left_mod,Nat.mod_mul,← hh,hrs]
  by_cases h1 : V % E = 0
  ·by_cases h2 : h % 2 ^ m = 0
   ·simp [h1,h2]
   ·have : ¬ E * (h % 2 ^ m) = 0:=by
     intro h0; rcases Nat.mul_eq_zero.1 h0 with h0 | h0 <;> omega
    rw [show (h % 2 ^ m != 0) = true by simpa using h2,h1,Nat.zero_add,decide_eq_true this]
    simp
  ·rw [decide_eq_true h1,Bool.true_or]
   exact (decide_eq_true (by omega)).symm
theorem half_pow (o : Int) (k j : Nat) (h : j < k) : o * 2 ^ (k - j) = 2 * (o * 2 ^ (k - (j + 1))):=by
 have e : k - j = (k - (j + 1)) + 1:=by omega
 rw [e,Int.pow_succ]
 have : o * (2 ^ (k - (j + 1)) * 2) = 2 * (o * 2 ^ (k - (j + 1))):=by
  rw [← Int.mul_assoc,Int.mul_comm]
 rw [this]
theorem shifted_64_yes (x e o : Int) (k : Nat) (hx : x = o * 2 ^ k) (hx1 : x ≤ 9223372036854775807) (ho0 : 0 < o) (ho2 : o % 2 = 1) (hk : k < 64) (he1 : -2000 ≤ e) (he2 : e ≤ 2000) (h53 : o < 9007199254740992) (hlow : -1074 ≤ e + (k : Int)) (U : Nat) (V : Int) (hV : o * 2 ^ U = V) (hUb : ∀ i : Nat,i < U → o * 2 ^ i < 4503599627370496 ∧ -1074 < e + (k : Int) - (i : Int)) (hUk : (U : Int) ≤ 4000) (hend : e + (k : Int) - (U : Int) ≤ -1074 ∨ (-1074 < e + (k : Int) - (U : Int) ∧ 4503599627370496 ≤ V)) (w : World) : Calls Tryz.prog 205 #[.agg #[.int .i64 64,.int .i64 53,.int .i64 4503599627370496,.int .i64 2047,.int .i64 (-1074),.int .i64 1024,.int .i64 9218868437227405312,.int .i64 (-9223372036854775808),.int .i64 9221120237041090561],.int .i64 x,.int .i64 e] w fun r w' => r = .returned (.tuple #[.int .i64 V,.int .i64 (e + (k : Int) - (U : Int)),.bool true]) ∧ Kept w w':=by
 have HV : Hid (o * 2 ^ U = V):=hV
 have HU : Hid (∀ i : Nat,i < U → o * 2 ^ i < 4503599627370496 ∧ -1074 < e + (k : Int) - (i : Int)):=hUb
 have hdbl : Hid (∀ i : Nat,o * 2 ^ (i + 1) = o * 2 ^ i + o * 2 ^ i):=by
  show ∀ i : Nat,o * 2 ^ (i + 1) = o * 2 ^ i + o * 2 ^ i
  intro i
  rw [Int.pow_succ,← Int.mul_assoc]
  omega
 have hpos : Hid (∀ i : Nat,0 < o * 2 ^ i):=by
  show ∀ i : Nat,0 < o * 2 ^ i
  exact fun i => Int.mul_pos ho0 (Int.pow_pos (by decide))
 have HE : Hid (e + (k : Int) - (U : Int) ≤ -1074 ∨ (-1074 < e + (k : Int) - (U : Int) ∧ 4503599627370496 ≤ V)):=hend
 clear hV hUb hend
 have hb : ∀ j : Nat,j ≤ k → 0 < o * 2 ^ (k - j) ∧ o * 2 ^ (k - j) ≤ x:=by
  intro j hj
  have hp : (0 : Int) < 2 ^ (k - j):=Int.pow_pos (by decide)
  have hq : (1 : Int) ≤ 2 ^ j:=by have : (0 : Int) < 2 ^ j:=Int.pow_pos (by decide); omega
  have h1 : 0 < o * 2 ^ (k - j):=Int.mul_pos ho0 hp
  refine ⟨h1,?_⟩
  have e1 : x = o * 2 ^ (k - j) * 2 ^ j:=by
   rw [hx,Int.mul_assoc,← Int.pow_add]
   congr 2
   omega
  rw [e1]
  have:=Int.mul_le_mul_of_nonneg_left hq (Int.le_of_lt h1)
  omega
 have HB : Hid (∀ j : Nat,j ≤ k → 0 < o * 2 ^ (k - j) ∧ o * 2 ^ (k - j) ≤ x):=hb
 have HX : Hid (x = o * 2 ^ k):=hx
 clear hb hx
 go_enter Tryz.func205,Tryz.ntmps205
 go_wp2
 go_loop [1,2] (fun m t => ∃ j : Nat,j ≤ k ∧ m = .int .i64 (o * 2 ^ (k - j)) ∧ t = .int .i64 (e + (j : Int))) (fun _ t => (e + (k : Int) - intOf t).toNat)
 case atStart => exact ⟨0,Nat.zero_le _,by rw [HX.out]; rfl,by simp⟩
 case round =>
  obtain ⟨j,hj,rfl,rfl⟩:=hrel
  have hjb:=HB.out j hj
  by_cases hlt : j < k
  ·have hA:=half_pow o k j hlt
   have hjb':=HB.out (j + 1) hlt
   obtain ⟨M,hM⟩ : ∃ M,M = o * 2 ^ (k - (j + 1)):=⟨_,rfl⟩
   rw [← hM] at hA hjb'
   rw [hA] at hjb ⊢
   have HM : Hid (M = o * 2 ^ (k - (j + 1))):=hM
   clear hM hA
   have hmod : (2 * M) % 2 = 0:=by omega
   go_wp2
   go_round
   case rel => exact ⟨j + 1,by omega,by rw [← HM.out],by go_num⟩
   case measure => simp [intOf]; omega
  ·obtain rfl : j = k:=by omega
   rw [Nat.sub_self,Int.pow_zero,Int.mul_one] at hjb ⊢
   have hodd : (o % 2 == 0) = false:=by rw [ho2]; rfl
   go_wp2
   go_loop [1,2] (fun m t => ∃ i : Nat,i ≤ U ∧ m = .int .i64 (o * 2 ^ i) ∧ t = .int .i64 (e + (j : Int) - (i : Int))) (fun _ t => (intOf t - (e + (j : Int) - (U : Int))).toNat)
   case atStart => exact ⟨0,Nat.zero_le _,by simp,by simp⟩
   case round =>
    obtain ⟨i,hi,rfl,rfl⟩:=hrel
    by_cases hlt2 : i < U
    ·obtain ⟨g1,g2⟩:=HU.out i hlt2
     have hd:=hdbl.out i
     have hp0:=hpos.out i
     obtain ⟨M,hM⟩ : ∃ M,M = o * 2 ^ i:=⟨_,rfl⟩
     rw [← hM] at g1 hd hp0 ⊢
     have HD : Hid (o * 2 ^ (i + 1) = M + M):=hd
     clear hd hM
     go_wp2
     go_round
     case rel => exact ⟨i + 1,by omega,by rw [HD.out],by go_num⟩
     case measure => simp [intOf]; omega
    ·obtain rfl : i = U:=by omega
     rw [HV.out]
     rcases HE.out with hx1 | ⟨hx1,hx2⟩
     ·go_wp2
      go_ret3
      exact ⟨rfl,(Kept.refl _).alloc _ _⟩
     ·go_wp2
      go_ret3
      exact ⟨rfl,(Kept.refl _).alloc _ _⟩
theorem shifted_32_yes (x e o : Int) (k : Nat) (hx : x = o * 2 ^ k) (hx1 : x ≤ 9223372036854775807) (ho0 : 0 < o) (ho2 : o % 2 = 1) (hk : k < 64) (he1 : -2000 ≤ e) (he2 : e ≤ 2000) (h53 : o < 16777216) (hlow : -149 ≤ e + (k : Int)) (U : Nat) (V : Int) (hV : o * 2 ^ U = V) (hUb : ∀ i : Nat,i < U → o * 2 ^ i < 8388608 ∧ -149 < e + (k : Int) - (i : Int)) (hUk : (U : Int) ≤ 4000) (hend : e + (k : Int) - (U : Int) ≤ -149 ∨ (-149 < e + (k : Int) - (U : Int) ∧ 8388608 ≤ V)) (w : World) : Calls Tryz.prog 205 #[.agg #[.int .i64 32,.int .i64 24,.int .i64 8388608,.int .i64 255,.int .i64 (-149),.int .i64 128,.int .i64 2139095040,.int .i64 2147483648,.int .i64 2143289345],.int .i64 x,.int .i64 e] w fun r w' => r = .returned (.tuple #[.int .i64 V,.int .i64 (e + (k : Int) - (U : Int)),.bool true]) ∧ Kept w w':=by
 have HV : Hid (o * 2 ^ U = V):=hV
 have HU : Hid (∀ i : Nat,i < U → o * 2 ^ i < 8388608 ∧ -149 < e + (k : Int) - (i : Int)):=hUb
 have hdbl : Hid (∀ i : Nat,o * 2 ^ (i + 1) = o * 2 ^ i + o * 2 ^ i):=by
  show ∀ i : Nat,o * 2 ^ (i + 1) = o * 2 ^ i + o * 2 ^ i
  intro i
  rw [Int.pow_succ,← Int.mul_assoc]
  omega
 have hpos : Hid (∀ i : Nat,0 < o * 2 ^ i):=by
  show ∀ i : Nat,0 < o * 2 ^ i
  exact fun i => Int.mul_pos ho0 (Int.pow_pos (by decide))
 have HE : Hid (e + (k : Int) - (U : Int) ≤ -149 ∨ (-149 < e + (k : Int) - (U : Int) ∧ 8388608 ≤ V)):=hend
 clear hV hUb hend
 have hb : ∀ j : Nat,j ≤ k → 0 < o * 2 ^ (k - j) ∧ o * 2 ^ (k - j) ≤ x:=by
  intro j hj
  have hp : (0 : Int) < 2 ^ (k - j):=Int.pow_pos (by decide)
  have hq : (1 : Int) ≤ 2 ^ j:=by have : (0 : Int) < 2 ^ j:=Int.pow_pos (by decide); omega
  have h1 : 0 < o * 2 ^ (k - j):=Int.mul_pos ho0 hp
  refine ⟨h1,?_⟩
  have e1 : x = o * 2 ^ (k - j) * 2 ^ j:=by
   rw [hx,Int.mul_assoc,← Int.pow_add]
   congr 2
   omega
  rw [e1]
  have:=Int.mul_le_mul_of_nonneg_left hq (Int.le_of_lt h1)
  omega
 have HB : Hid (∀ j : Nat,j ≤ k → 0 < o * 2 ^ (k - j) ∧ o * 2 ^ (k - j) ≤ x):=hb
 have HX : Hid (x = o * 2 ^ k):=hx
 clear hb hx
 go_enter Tryz.func205,Tryz.ntmps205
 go_wp2
 go_loop [1,2] (fun m t => ∃ j : Nat,j ≤ k ∧ m = .int .i64 (o * 2 ^ (k - j)) ∧ t = .int .i64 (e + (j : Int))) (fun _ t => (e + (k : Int) - intOf t).toNat)
 case atStart => exact ⟨0,Nat.zero_le _,by rw [HX.out]; rfl,by simp⟩
 case round =>
  obtain ⟨j,hj,rfl,rfl⟩:=hrel
  have hjb:=HB.out j hj
  by_cases hlt : j < k
  ·have hA:=half_pow o k j hlt
   have hjb':=HB.out (j + 1) hlt
   obtain ⟨M,hM⟩ : ∃ M,M = o * 2 ^ (k - (j + 1)):=⟨_,rfl⟩
   rw [← hM] at hA hjb'
   rw [hA] at hjb ⊢
   have HM : Hid (M = o * 2 ^ (k - (j + 1))):=hM
   clear hM hA
   have hmod : (2 * M) % 2 = 0:=by omega
   go_wp2
   go_round
   case rel => exact ⟨j + 1,by omega,by rw [← HM.out],by go_num⟩
   case measure => simp [intOf]; omega
  ·obtain rfl : j = k:=by omega
   rw [Nat.sub_self,Int.pow_zero,Int.mul_one] at hjb ⊢
   have hodd : (o % 2 == 0) = false:=by rw [ho2]; rfl
   go_wp2
   go_loop [1,2] (fun m t => ∃ i : Nat,i ≤ U ∧ m = .int .i64 (o * 2 ^ i) ∧ t = .int .i64 (e + (j : Int) - (i : Int))) (fun _ t => (intOf t - (e + (j : Int) - (U : Int))).toNat)
   case atStart => exact ⟨0,Nat.zero_le _,by simp,by simp⟩
   case round =>
    obtain ⟨i,hi,rfl,rfl⟩:=hrel
    by_cases hlt2 : i < U
    ·obtain ⟨g1,g2⟩:=HU.out i hlt2
     have hd:=hdbl.out i
     have hp0:=hpos.out i
     obtain ⟨M,hM⟩ : ∃ M,M = o * 2 ^ i:=⟨_,rfl⟩
     rw [← hM] at g1 hd hp0 ⊢
     have HD : Hid (o * 2 ^ (i + 1) = M + M):=hd
     clear hd hM
     go_wp2
     go_round
     case rel => exact ⟨i + 1,by omega,by rw [HD.out],by go_num⟩
     case measure => simp [intOf]; omega
    ·obtain rfl : i = U:=by omega
     rw [HV.out]
     rcases HE.out with hx1 | ⟨hx1,hx2⟩
     ·go_wp2
      go_ret3
      exact ⟨rfl,(Kept.refl _).alloc _ _⟩
     ·go_wp2
      go_ret3
      exact ⟨rfl,(Kept.refl _).alloc _ _⟩
theorem ret_pair {a b : Int} {p : Bool} (h : a = b) : Ending.returned (.tuple #[.int .i64 a,.bool p]) = .returned (.tuple #[.int .i64 b,.bool p]):=by rw [h]
theorem rj_zero_64 (p : Bool) (e : Int) (w : World) : Calls Tryz.prog 204 #[.bool p,.int .i64 0,.int .i64 e,.int .i64 64] w fun r w' => r = .returned (.tuple #[.int .i64 (if p = true then -9223372036854775808 else 0),.bool true]) ∧ Kept w w':=by
 by_cases h1 : 2000 < e <;> by_cases h2 : e < -2000
 ·omega
 all_goals
  cases p
  all_goals
   go_enter Tryz.func204,Tryz.ntmps204
   go_wp2_with (first | (go_at_call 136; refine (of_64 _).mono ?_; rintro e w1 ⟨rfl,hk1⟩))
   go_ret2
   exact ⟨rfl,hk1.alloc _ _⟩
theorem rj_yes_64 (p : Bool) (x e V E q : Int) (hx : 0 < x) (he1 : -2000 ≤ e) (he2 : e ≤ 2000) (hE : E ≤ 971) (hE0 : -1074 ≤ E) (hV0 : 0 < V) (hV1 : V < 9007199254740992) (hs : V < 4503599627370496 → E = -1074) (hq : q = (E + 1074) * 4503599627370496 + V + (if p = true then -9223372036854775808 else 0)) (Ks : Hid (∀ w : World,Calls Tryz.prog 205 #[.agg #[.int .i64 64,.int .i64 53,.int .i64 4503599627370496,.int .i64 2047,.int .i64 (-1074),.int .i64 1024,.int .i64 9218868437227405312,.int .i64 (-9223372036854775808),.int .i64 9221120237041090561],.int .i64 x,.int .i64 e] w fun e w' => e = .returned (.tuple #[.int .i64 V,.int .i64 E,.bool true]) ∧ Kept w w')) (w : World) : Calls Tryz.prog 204 #[.bool p,.int .i64 x,.int .i64 e,.int .i64 64] w fun r w' => r = .returned (.tuple #[.int .i64 q,.bool true]) ∧ Kept w w':=by
 have hx0 : (x == 0) = false:=by rw [beq_eq_false_iff_ne]; omega
 have HQ : Hid (q = (E + 1074) * 4503599627370496 + V + (if p = true then -9223372036854775808 else 0)):=hq
 have HS : Hid (V < 4503599627370496 → E = -1074):=hs
 clear hq hs
 cases p
 all_goals
  by_cases hvs : V < 4503599627370496
  all_goals
   go_enter Tryz.func204,Tryz.ntmps204
   go_wp2_with (first | (go_at_call 136; refine (of_64 _).mono ?_; rintro e w1 ⟨rfl,hk1⟩) | (go_at_call 205; refine (Ks.out _).mono ?_; rintro e w2 ⟨rfl,hk2⟩; have hcl:=laid_cell hk2))
   go_ret2
   refine ⟨ret_pair ?_,(hk1.alloc _ _).trans hk2⟩
   have hq:=HQ.out
   have hs:=HS.out
   simp only [Bool.false_eq_true,if_true,if_false] at hq
   try unfold wrap64
   omega
theorem rj_zero_32 (p : Bool) (e : Int) (w : World) : Calls Tryz.prog 204 #[.bool p,.int .i64 0,.int .i64 e,.int .i64 32] w fun r w' => r = .returned (.tuple #[.int .i64 (if p = true then 2147483648 else 0),.bool true]) ∧ Kept w w':=by
 by_cases h1 : 2000 < e <;> by_cases h2 : e < -2000
 ·omega
 all_goals
  cases p
  all_goals
   go_enter Tryz.func204,Tryz.ntmps204
   go_wp2_with (first | (go_at_call 136; refine (of_32 _).mono ?_; rintro e w1 ⟨rfl,hk1⟩))
   go_ret2
   exact ⟨rfl,hk1.alloc _ _⟩
theorem rj_yes_32 (p : Bool) (x e V E q : Int) (hx : 0 < x) (he1 : -2000 ≤ e) (he2 : e ≤ 2000) (hE : E ≤ 104) (hE0 : -149 ≤ E) (hV0 : 0 < V) (hV1 : V < 16777216) (hs : V < 8388608 → E = -149) (hq : q = (E + 149) * 8388608 + V + (if p = true then 2147483648 else 0)) (Ks : Hid (∀ w : World,Calls Tryz.prog 205 #[.agg #[.int .i64 32,.int .i64 24,.int .i64 8388608,.int .i64 255,.int .i64 (-149),.int .i64 128,.int .i64 2139095040,.int .i64 2147483648,.int .i64 2143289345],.int .i64 x,.int .i64 e] w fun e w' => e = .returned (.tuple #[.int .i64 V,.int .i64 E,.bool true]) ∧ Kept w w')) (w : World) : Calls Tryz.prog 204 #[.bool p,.int .i64 x,.int .i64 e,.int .i64 32] w fun r w' => r = .returned (.tuple #[.int .i64 q,.bool true]) ∧ Kept w w':=by
 have hx0 : (x == 0) = false:=by rw [beq_eq_false_iff_ne]; omega
 have HQ : Hid (q = (E + 149) * 8388608 + V + (if p = true then 2147483648 else 0)):=hq
 have HS : Hid (V < 8388608 → E = -149):=hs
 clear hq hs
 cases p
 all_goals
  by_cases hvs : V < 8388608
  all_goals
   go_enter Tryz.func204,Tryz.ntmps204
   go_wp2_with (first | (go_at_call 136; refine (of_32 _).mono ?_; rintro e w1 ⟨rfl,hk1⟩) | (go_at_call 205; refine (Ks.out _).mono ?_; rintro e w2 ⟨rfl,hk2⟩; have hcl:=laid_cell hk2))
   go_ret2
   refine ⟨ret_pair ?_,(hk1.alloc _ _).trans hk2⟩
   have hq:=HQ.out
   have hs:=HS.out
   simp only [Bool.false_eq_true,if_true,if_false] at hq
   try unfold wrap64
   omega
end Go.Proofs.YtdhimkpfnhoagaaGreatDoor
