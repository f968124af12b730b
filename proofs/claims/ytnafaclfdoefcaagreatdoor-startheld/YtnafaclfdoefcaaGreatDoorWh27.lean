/- A word's parts,as a float and back. A whole number times 2^-53 (2^-24): Go's float and the document's own Join. Words mixed: as whole numbers below 2^64. No two words become one; every number below 2^64 is some place's word; how many words are passed over; a shuffle as a list. The walks of mix,key,wordAt,Word,Next,Split of package rng,and of the document's own: for every draw. Next,Split: package rng's and the document's own. -/
import Derived.Test.YtnafaclfdoefcaaGreatDoorWh26
import Derived.Laws.Bits64b
import Derived.Test.YtnafaclfdoefcaaGreatDoorRows
import Derived.Test.YtnafaclfdoefcaaGreatDoorWh02
import Derived.Deep.RegionHeld
namespace Go.Proofs.YtnafaclfdoefcaaGreatDoor
open Go.ChangeShapes Go.WideShapes Go.ChangeAt Go.RowKit Ieee
set_option linter.unusedVariables false
set_option linter.unusedSimpArgs false
set_option maxHeartbeats 16000000
set_option maxRecDepth 100000
theorem cut_zero (neg : Bool) (m k d : Nat) (hm : m ≠ 0) (hd : d ≤ k) : Toward.zero.cut neg (m * 2 ^ k) d = m * 2 ^ (k - d):=by
 have hl:=log2_scale m k hm
 unfold Toward.cut
 simp only [Nat.one_shiftLeft]
 rw [hl,Nat.min_eq_left (by omega)]
 have e : m * 2 ^ k = m * 2 ^ (k - d) * 2 ^ d:=by rw [Nat.mul_assoc,← Nat.pow_add]; congr 2; omega
 rw [e,Nat.mul_div_cancel _ (Nat.two_pow_pos d)]
 simp
/-- a whole number below 2^53,told as a float,is told as an int again -/
theorem whole_int (m q K : Nat) (hK : K = 1074) (hm : m ≠ 0) (hm2 : m < 9007199254740992) (hq : q < FloatKind.f64.format.infRung) (hv : rungVal FloatKind.f64.format q = m * 2 ^ K) : floatToIntVal .f64 q .i64 = some (m : Int):=by
 have hsw : FloatKind.f64.format.infRung < FloatKind.f64.format.signWeight:=by decide +kernel
 have hr : rung FloatKind.f64.format q = q:=by unfold rung; exact Nat.mod_eq_of_lt (by omega)
 have hb : below FloatKind.f64.format q = false:=by
  unfold below
  rw [Nat.div_eq_of_lt (by omega)]
  rfl
 obtain ⟨m',i,h1,h2,h3,h4⟩:=read_num FloatKind.f64.format q (by rw [hr]; exact hq)
 rw [hr,hv] at h3
 rw [hb] at h1
 have hl : FloatKind.f64.format.leastPlace = -(K : Int):=by rw [hK]; exact least64
 rw [hl] at h2 h3
 have hcut : Toward.zero.cut false (m' <<< i.toNat) (-i).toNat = m:=by
  by_cases hi : 0 ≤ i
  ·obtain ⟨j,hj⟩ : ∃ j : Nat,i = (j : Int):=⟨i.toNat,by omega⟩
   subst hj
   have e : m' * 2 ^ j = m:=by
    have : m' * 2 ^ j * 2 ^ K = m * 2 ^ K:=by
     rw [Nat.mul_assoc,← Nat.pow_add,← h3]
     congr 2
     omega
    exact Nat.eq_of_mul_eq_mul_right (Nat.two_pow_pos K) this
   have h0 : (-(j : Int)).toNat = 0:=by omega
   rw [h0,Int.toNat_natCast,Nat.shiftLeft_eq,e]
   have:=cut_zero false m 0 0 hm (Nat.le_refl _)
   simpa using this
  ·obtain ⟨d,hd⟩ : ∃ d : Nat,i = -(d : Int):=⟨(-i).toNat,by omega⟩
   subst hd
   have e : m' = m * 2 ^ d:=by
    have h5 : (-(d : Int) - -(K : Int)).toNat = K - d:=by omega
    rw [h5] at h3
    have : m' * 2 ^ (K - d) = m * 2 ^ d * 2 ^ (K - d):=by
     rw [h3,Nat.mul_assoc,← Nat.pow_add]
     congr 2
     omega
    exact Nat.eq_of_mul_eq_mul_right (Nat.two_pow_pos _) this
   have h0 : (-(d : Int)).toNat = 0:=by omega
   have h1' : (- -(d : Int)).toNat = d:=by omega
   rw [h0,h1',Nat.shiftLeft_zero,e,cut_zero false m d d hm (Nat.le_refl _),Nat.sub_self]
   simp
 unfold floatToIntVal
 have : (FloatKind.f64.decode q).toInt .zero = some (m : Int):=by
  show (FloatKind.f64.format.read q).toInt .zero = _
  rw [h1]
  unfold Datum.toInt Datum.integral
  simp only [hcut]
  simp [signed]
 rw [this]
 have hmin : IntKind.i64.min = -9223372036854775808:=by decide
 have hmax : IntKind.i64.max = 9223372036854775807:=by decide
 simp only [hmin,hmax]
 rw [if_pos (by omega)]
theorem part_back (m : Nat) (hm2 : m < 9007199254740992) : ∃ r q : Nat, r < 9218868437227405312 ∧ FloatKind.f64.format.mul (floatOfInt .f64 (m : Int)) 4368491638549381120 = some r ∧ FloatKind.f64.format.mul r 4845873199050653696 = some q ∧ floatToIntVal .f64 q .i64 = some (m : Int) := by
  by_cases hm : m = 0
  · subst hm
    exact ⟨0, 0, by decide, by decide +kernel, by decide +kernel, by decide +kernel⟩
  · obtain ⟨K, hK⟩ : ∃ K : Nat, K = 1074 := ⟨_, rfl⟩
    obtain ⟨fb, hfb⟩ : ∃ fb : Nat, fb = 52 := ⟨_, rfl⟩
    have hsw : FloatKind.f64.format.infRung < FloatKind.f64.format.signWeight := by decide +kernel
    have hinf : 2 ^ (K + (fb + 1)) ≤ rungVal FloatKind.f64.format FloatKind.f64.format.infRung := by rw [rungVal_inf64]; exact Nat.pow_le_pow_right (by decide) (by rw [hK, hfb]; decide)
    obtain ⟨r, g1, g2, g3⟩ := frac_word FloatKind.f64.format m 4368491638549381120 (fb + 1) fb K (by rw [hfb]; decide +kernel) (by rw [hK]; exact least64) hm (by rw [hfb]; exact hm2) rfl (by omega) (by rw [hfb]; decide +kernel) hinf hsw
    have e0 : floatOfInt .f64 (m : Int) = FloatKind.f64.format.nearest false m 0 := by
      have : decide ((m : Int) < 0) = false := decide_eq_false (by omega)
      show FloatKind.f64.format.nearest (decide ((m : Int) < 0)) (m : Int).natAbs 0 = _
      rw [this, Int.natAbs_natCast]
    have hr : rung FloatKind.f64.format r = r := by unfold rung; exact Nat.mod_eq_of_lt (by omega)
    have hb : below FloatKind.f64.format r = false := by
      unfold below
      rw [Nat.div_eq_of_lt (by omega)]
      rfl
    obtain ⟨m', i, h1, h2, h3, h4⟩ := read_num FloatKind.f64.format r (by rw [hr]; exact g2)
    rw [hr, g3] at h3
    rw [hb] at h1
    have hl : FloatKind.f64.format.leastPlace = -(K : Int) := by rw [hK]; exact least64
    rw [hl] at h2 h3
    have hm' : m' ≠ 0 := by
      intro h0
      rw [h0, Nat.zero_mul] at h3
      exact absurd h3.symm (Nat.ne_of_gt (Nat.mul_pos (Nat.pos_of_ne_zero hm) (Nat.two_pow_pos _)))
    have hbin : FloatKind.f64.format.binade = 2 ^ fb := by rw [hfb]; decide +kernel
    have hfr : FloatKind.f64.format.fractionBits = fb := by rw [hfb]; decide +kernel
    have hml' : m'.log2 ≤ FloatKind.f64.format.fractionBits := by rw [hfr]; exact log2_lt m' fb hm' (by rw [Nat.pow_succ, Nat.mul_comm, ← hbin]; exact h4)
    have hval : m' * 2 ^ (i + ((fb + 1 : Nat) : Int) - FloatKind.f64.format.leastPlace).toNat = m * 2 ^ K := by
      have e1 : (i + ((fb + 1 : Nat) : Int) - FloatKind.f64.format.leastPlace).toNat = (i - -(K : Int)).toNat + (fb + 1) := by rw [hl]; omega
      rw [e1, Nat.pow_add, ← Nat.mul_assoc, h3, Nat.mul_assoc, ← Nat.pow_add]
      congr 2
      omega
    have hmK : m * 2 ^ K < rungVal FloatKind.f64.format FloatKind.f64.format.infRung := by
      refine Nat.lt_of_lt_of_le ?_ hinf
      rw [Nat.add_comm, Nat.pow_add]
      exact Nat.mul_lt_mul_of_pos_right (by rw [hfb]; exact hm2) (Nat.two_pow_pos _)
    obtain ⟨q, k1, k2, k3⟩ := nearest_exact FloatKind.f64.format false m' (i + ((fb + 1 : Nat) : Int)) hm' hml' (by rw [hl]; omega) (by rw [hval]; exact hmK)
    rw [hval] at k3
    have hw : FloatKind.f64.format.word false q = q := by unfold Format.word; simp
    rw [hw] at k1
    refine ⟨r, q, by have : FloatKind.f64.format.infRung = 9218868437227405312 := by decide +kernel
                     omega, by rw [e0]; exact g1, ?_, whole_int m q K hK hm hm2 k2 k3⟩
    have hc : FloatKind.f64.format.read 4845873199050653696 = .number false (2 ^ fb) 1 := by rw [hfb]; decide +kernel
    unfold Format.mul
    rw [h1, hc]
    show some (FloatKind.f64.format.nearest (false ^^ false) (m' * 2 ^ fb) (i + 1)) = some q
    rw [show (false ^^ false) = false from rfl, nearest_scale FloatKind.f64.format false m' fb _ hm' hml' (by rw [hl]; omega), show i + 1 + (fb : Int) = i + ((fb + 1 : Nat) : Int) by omega, k1]
theorem ofr_64 (r : Nat) (h : r < 9218868437227405312) : of64 r = (r : Int):=by
 have h2 : rung FloatKind.f64.format r = r:=by unfold rung; rw [sw64]; exact Nat.mod_eq_of_lt (by omega)
 unfold of64
 rw [self_64,h2,inf64,decide_eq_false (by omega),if_neg (by decide)]
 unfold wrap64
 omega
end Go.Proofs.YtnafaclfdoefcaaGreatDoor
namespace Go.Proofs.YtnafaclfdoefcaaGreatDoor
set_option linter.unusedVariables false
set_option linter.unusedSimpArgs false
set_option maxHeartbeats 16000000
set_option maxRecDepth 100000
def xsh (s z : Nat) : Nat:=z ^^^ z / 2 ^ s
def mixn (z : Nat) : Nat:=xsh 31 (xsh 27 (xsh 30 z * 13787848793156543929 % 18446744073709551616) * 10723151780598845931 % 18446744073709551616)
theorem xsh_lt (s z : Nat) (h : z < 18446744073709551616) : xsh s z < 18446744073709551616:=by
 have : z / 2 ^ s < 2 ^ 64:=Nat.lt_of_le_of_lt (Nat.div_le_self _ _) (by simpa using h)
 have:=Nat.xor_lt_two_pow (n:=64) (x:=z) (y:=z / 2 ^ s) (by simpa using h) this
 simpa [xsh] using this
theorem mixn_lt (z : Nat) : mixn z < 18446744073709551616:=xsh_lt _ _ (Nat.mod_lt _ (by decide))
/-- An int's word. -/
def un (x : Int) : Nat:=(x % 18446744073709551616).toNat
theorem un_lt (x : Int) : un x < 18446744073709551616:=by unfold un; omega
theorem un_cast (x : Int) : (un x : Int) = x % 18446744073709551616:=by unfold un; omega
def keyn (s t : Int) : Nat:=mixn (un s ^^^ mixn ((un t + 7146057691288625177) % 18446744073709551616))
def wn (s t a : Int) : Nat:=mixn ((keyn s t + (un a + 1) % 18446744073709551616 * 11400714819323198485 % 18446744073709551616) % 18446744073709551616)
theorem wn_lt (s t a : Int) : wn s t a < 18446744073709551616:=mixn_lt _
theorem xor_lt64 {a b : Nat} (ha : a < 18446744073709551616) (hb : b < 18446744073709551616) : a ^^^ b < 18446744073709551616:=by
 have:=Nat.xor_lt_two_pow (n:=64) (x:=a) (y:=b) (by simpa using ha) (by simpa using hb)
 simpa using this
theorem least (P : Nat → Prop) (n : Nat) (h : P n) : ∃ j,(∀ i,i < j → ¬ P i) ∧ P j:=by
 induction n using Nat.strongRecOn with
 | ind n ih =>
  by_cases hx : ∃ i,i < n ∧ P i
  ·obtain ⟨i,hi,hP⟩:=hx; exact ih i hi hP
  ·exact ⟨n,fun i hi hp => hx ⟨i,hi,hp⟩,h⟩
end Go.Proofs.YtnafaclfdoefcaaGreatDoor
namespace Go.Proofs.YtnafaclfdoefcaaGreatDoor
open Go.ChangeShapes Go.WideShapes Go.ChangeAt Go.RowKit
set_option linter.unusedVariables false
set_option linter.unusedSimpArgs false
set_option maxHeartbeats 16000000
set_option maxRecDepth 100000
def mixa (c : Int) (k : Int) (x : Int) : Int:=IntKind.u64.wrap (bits .xor .u64 x (x / k) * c)
def mixb (x : Int) : Int:=bits .xor .u64 x (x / 2147483648)
def mixz (x : Int) : Int:=mixb (mixa 10723151780598845931 134217728 (mixa 13787848793156543929 1073741824 x))
theorem mix_any (z : Int) (w : World) : Calls Tryz.prog 335 #[.int .u64 z] w fun e w' => e = .returned (.int .u64 (mixz z)) ∧ w = w':=by
 go_enter Tryz.func335,Tryz.ntmps335
 go_wp2
 go_ret
 exact ⟨rfl,rfl⟩
def keyz (s t : Int) : Int:=mixz (bits .xor .u64 (IntKind.u64.wrap s) (mixz (IntKind.u64.wrap (IntKind.u64.wrap t + 7146057691288625177))))
/-- A draw's three cells. -/
def Dr (w : World) (b : Nat) (s t a : Int) : Prop:=w.cell? ⟨b,0,none⟩ = some (.int .i64 s) ∧ w.cell? ⟨b,1,none⟩ = some (.int .i64 t) ∧ w.cell? ⟨b,2,none⟩ = some (.int .i64 a)
theorem dr_new (w : World) (s t a : Int) (T : TypeId) : Dr (w.alloc (.cells #[.int .i64 s,.int .i64 t,.int .i64 a] T)) w.heap.size s t a:=by
 refine ⟨?_,?_,?_⟩ <;> simp
theorem Dr.kept {w w' : World} {b : Nat} {s t a : Int} (h : Dr w b s t a) (k : Kept w w') : Dr w' b s t a :=
 ⟨(k.below.cell (World.block_lt_of_cell? _ _ h.1)).trans h.1,(k.below.cell (World.block_lt_of_cell? _ _ h.2.1)).trans h.2.1,(k.below.cell (World.block_lt_of_cell? _ _ h.2.2)).trans h.2.2⟩
theorem key_any (s t a : Int) (w : World) : Calls Tryz.prog 328 #[.agg #[.int .i64 s,.int .i64 t,.int .i64 a]] w fun e w' => e = .returned (.int .u64 (keyz s t)) ∧ Kept w w':=by
 have hK:=(Kept.refl w).alloc #[.int .i64 s,.int .i64 t,.int .i64 a] 82
 obtain ⟨c0,c1,c2⟩:=dr_new w s t a 82
 go_enter Tryz.func328,Tryz.ntmps328
 go_wp2_with fail
 go_region_held (fun u => Kept w u ∧ u.cell? ⟨w.heap.size,0,none⟩ = some (.int .i64 s) ∧ u.cell? ⟨w.heap.size,1,none⟩ = some (.int .i64 t)) (first | exact ⟨hK.drew,c0,c1⟩ | assumption) (first | (go_at_call 335; refine (mix_any _ _).mono ?_; rintro e w1 ⟨rfl,rfl⟩))
 go_wp2
 go_ret
 exact ⟨rfl,hK.drew⟩
def watz (k a : Int) : Int:=mixz (IntKind.u64.wrap (k + IntKind.u64.wrap (IntKind.u64.wrap (IntKind.u64.wrap a + 1) * 11400714819323198485)))
theorem wordAt_any (k a : Int) (w : World) : Calls Tryz.prog 327 #[.int .u64 k,.int .i64 a] w fun e w' => e = .returned (.int .u64 (watz k a)) ∧ w = w':=by
 go_enter Tryz.func327,Tryz.ntmps327
 go_wp2_with (first | (go_at_call 335; refine (mix_any _ _).mono ?_; rintro e w1 ⟨rfl,rfl⟩))
 go_ret
 exact ⟨rfl,rfl⟩
theorem word_any0 (s t a i : Int) (w : World) : Calls Tryz.prog 304 #[.agg #[.int .i64 s,.int .i64 t,.int .i64 a],.int .i64 i] w fun e w' => e = .returned (.int .i64 (IntKind.i64.wrap (watz (keyz s t) (IntKind.i64.wrap (a + i))))) ∧ Kept w w':=by
 have hK:=(Kept.refl w).alloc #[.int .i64 s,.int .i64 t,.int .i64 a] 82
 have hD:=dr_new w s t a 82
 have hS : ∀ u,Kept (w.alloc (.cells #[.int .i64 s,.int .i64 t,.int .i64 a] 82)) u → Kept w u ∧ Kept (w.alloc (.cells #[.int .i64 s,.int .i64 t,.int .i64 a] 82)) u ∧ u.cell? ⟨w.heap.size,0,none⟩ = some (.int .i64 s) ∧ u.cell? ⟨w.heap.size,1,none⟩ = some (.int .i64 t) ∧ u.cell? ⟨w.heap.size,2,none⟩ = some (.int .i64 a):=fun u hu => ⟨hK.trans hu,hu,hD.kept hu⟩
 have HS : Hid (∀ u,Kept (w.alloc (.cells #[.int .i64 s,.int .i64 t,.int .i64 a] 82)) u → _):=hS
 have HK : Hid (Kept (w.alloc (.cells #[.int .i64 s,.int .i64 t,.int .i64 a] 82)) (w.alloc (.cells #[.int .i64 s,.int .i64 t,.int .i64 a] 82)).drew):=(Kept.refl _).drew
 clear hS hD hK
 go_enter Tryz.func304,Tryz.ntmps304
 go_wp2_with fail
 go_region_held (fun u => Kept w u ∧ Kept (w.alloc (.cells #[.int .i64 s,.int .i64 t,.int .i64 a] 82)) u ∧ u.cell? ⟨w.heap.size,0,none⟩ = some (.int .i64 s) ∧ u.cell? ⟨w.heap.size,1,none⟩ = some (.int .i64 t) ∧ u.cell? ⟨w.heap.size,2,none⟩ = some (.int .i64 a)) (first | exact HS.out _ HK.out | assumption) (first | (go_at_call 328; refine (key_any _ _ _ _).mono ?_; rintro e w1 ⟨rfl,hk1⟩; have e0:=HS.out _ (Kept.trans (by assumption) hk1)) | (go_at_call 327; refine (wordAt_any _ _ _).mono ?_; rintro e w1 ⟨rfl,rfl⟩))
 go_wp2
 go_ret
 exact ⟨rfl,by first | exact e0.1 | (rename_i h; exact h.1)⟩
/-- The word at a place,as an int. -/
def wz (s t a : Int) : Int:=IntKind.i64.wrap (watz (keyz s t) a)
theorem watz_cong (k a b : Int) (h : a % 18446744073709551616 = b % 18446744073709551616) : watz k a = watz k b:=by
 unfold watz
 simp only [IntKind.wrap_u64]
 rw [h]
theorem wz_cong (s t a b : Int) (h : a % 18446744073709551616 = b % 18446744073709551616) : wz s t a = wz s t b:=by
 unfold wz; rw [watz_cong _ a b h]
theorem word_any (s t a i : Int) (w : World) : Calls Tryz.prog 304 #[.agg #[.int .i64 s,.int .i64 t,.int .i64 a],.int .i64 i] w fun e w' => e = .returned (.int .i64 (wz s t (a + i))) ∧ Kept w w':=by
 refine (word_any0 s t a i w).mono ?_
 rintro e w' ⟨rfl,hk⟩
 refine ⟨?_,hk⟩
 rw [wz_cong s t (a + i) (IntKind.i64.wrap (a + i)) (by rw [wrap_i64]; omega)]; rfl
/-- A draw's three cells,which may be written. -/
def Dw (w : World) (b : Nat) (s t a : Int) : Prop:=Dr w b s t a ∧ ∀ o,w.frozen? ⟨b,o,none⟩ = false
theorem dw_new (w : World) (s t a : Int) (T : TypeId) : Dw (w.alloc (.cells #[.int .i64 s,.int .i64 t,.int .i64 a] T)) w.heap.size s t a:=⟨dr_new w s t a T,fun o => by simp [go_sem]⟩
theorem Dw.kept {w w' : World} {b : Nat} {s t a : Int} (h : Dw w b s t a) (k : Kept w w') : Dw w' b s t a:=⟨h.1.kept k,fun o => (k.frozen _).trans (h.2 o)⟩
theorem Dw.set {w : World} {b : Nat} {s t a : Int} (h : Dw w b s t a) (x : Int) : Dw (w.setCell ⟨b,2,none⟩ (.int .i64 x)) b s t x :=
 ⟨⟨(World.cell?_setCell_other _ _ _ _ (by simp)).trans h.1.1,(World.cell?_setCell_other _ _ _ _ (by simp)).trans h.1.2.1,World.cell?_setCell_same _ _ _ h.1.2.2⟩,fun o => (World.frozen?_setCell _ _ _ _).trans (h.2 o)⟩
theorem Dw.far {w : World} {b : Nat} {s t a : Int} (h : Dw w b s t a) (p : Addr) (hp : p.block ≠ b) (v : Value) : Dw (w.setCell p v) b s t a :=
 ⟨⟨(World.cell?_setCell_far _ _ _ _ hp).trans h.1.1,(World.cell?_setCell_far _ _ _ _ hp).trans h.1.2.1,(World.cell?_setCell_far _ _ _ _ hp).trans h.1.2.2⟩,fun o => (World.frozen?_setCell _ _ _ _).trans (h.2 o)⟩
/-- A draw written into other cells. -/
def put3 (w : World) (c : Nat) (x y z : Value) : World:=((w.setCell ⟨c,0,none⟩ x).setCell ⟨c,1,none⟩ y).setCell ⟨c,2,none⟩ z
theorem keep3 {w X : World} {b c : Nat} {s t a : Int} (hw : Kept w X) (hb : w.heap.size ≤ c) (hne : c ≠ b) (d : Dr X b s t a) (x y z : Value) :
  Kept w (put3 X c x y z) ∧ (put3 X c x y z).cell? ⟨b,0,none⟩ = some (.int .i64 s) ∧ (put3 X c x y z).cell? ⟨b,1,none⟩ = some (.int .i64 t) ∧ (put3 X c x y z).cell? ⟨b,2,none⟩ = some (.int .i64 a):=by
 have e : ∀ o,(put3 X c x y z).cell? ⟨b,o,none⟩ = X.cell? ⟨b,o,none⟩:=fun o =>
  ((World.cell?_setCell_far _ _ _ _ hne).trans (World.cell?_setCell_far _ _ _ _ hne)).trans (World.cell?_setCell_far _ _ _ _ hne)
 exact ⟨((hw.setCell hb _).setCell hb _).setCell hb _,(e 0).trans d.1,(e 1).trans d.2.1,(e 2).trans d.2.2⟩
theorem keep3d {w X : World} {b c : Nat} {s t a : Int} (hw : Kept w X) (hb : w.heap.size ≤ c) (hne : c ≠ b) (d : Dr X b s t a) (x y z : Value) :
  Kept w (put3 X c x y z).drew ∧ (put3 X c x y z).drew.cell? ⟨b,0,none⟩ = some (.int .i64 s) ∧ (put3 X c x y z).drew.cell? ⟨b,1,none⟩ = some (.int .i64 t) ∧ (put3 X c x y z).drew.cell? ⟨b,2,none⟩ = some (.int .i64 a) :=
 ⟨(keep3 hw hb hne d x y z).1.drew,(keep3 hw hb hne d x y z).2⟩
theorem gnext_any (s t a : Int) (w : World) : Calls Tryz.prog 265 #[.agg #[.int .i64 s,.int .i64 t,.int .i64 a]] w fun e w' => e = .returned (.tuple #[.int .i64 (wz s t a),.agg #[.int .i64 s,.int .i64 t,.int .i64 (wrap64 (a + 1))]]) ∧ Kept w w':=by
 have e1 : a + 0 = a:=by omega
 have e2 : IntKind.i64.wrap (IntKind.u64.wrap (IntKind.u64.wrap a + 1)) = wrap64 (a + 1):=by
  rw [wrap_i64]; simp only [IntKind.wrap_u64]; unfold wrap64; omega
 go_enter Tryz.func265,Tryz.ntmps265
 go_wp2_with fail
 refine (word_any _ _ _ _ _).mono ?_
 rintro e w1 ⟨rfl,hk1⟩
 rw [e1]
 have hA:=(Kept.refl w).alloc #[.int .i64 s,.int .i64 t,.int .i64 a] 82
 have hB:=(Kept.refl (w.alloc (.cells #[.int .i64 s,.int .i64 t,.int .i64 a] 82))).alloc #[.int .i64 0,.int .i64 0,.int .i64 0] 82
 have hw1:=(hA.trans hB).trans hk1
 have hsz:=hw1.below.size
 have d1:=((dw_new w s t a 82).kept hB).kept hk1
 have d2:=(dw_new (w.alloc (.cells #[.int .i64 s,.int .i64 t,.int .i64 a] 82)) 0 0 0 82).kept hk1
 rw [show (w.alloc (.cells #[.int .i64 s,.int .i64 t,.int .i64 a] 82)).heap.size = w.heap.size + 1 by simp] at d2
 have d3:=d1.set (wrap64 (a + 1))
 have d4:=d2.far ⟨w.heap.size,2,none⟩ (by simp) (.int .i64 (wrap64 (a + 1)))
 have hw2:=hw1.setCell (p:=⟨w.heap.size,2,none⟩) (Nat.le_refl _) (.int .i64 (wrap64 (a + 1)))
 obtain ⟨⟨c0,c1,c2⟩,f1⟩:=d1
 clear hA hB hk1 d2
 go_upto_region 3 with fail
 obtain ⟨X,hX⟩ : ∃ X,X = w1.setCell ⟨w.heap.size,2,none⟩ (.int .i64 (wrap64 (a + 1))):=⟨_,rfl⟩
 rw [← hX] at d3 d4 hw2 ⊢
 clear hX c0 c1 c2 f1 hw1
 obtain ⟨⟨c0,c1,c2⟩,f1⟩:=d3
 obtain ⟨⟨c3,c4,c5⟩,f2⟩:=d4
 go_region_held (fun u => Kept w u ∧ u.cell? ⟨w.heap.size,0,none⟩ = some (.int .i64 s) ∧ u.cell? ⟨w.heap.size,1,none⟩ = some (.int .i64 t) ∧ u.cell? ⟨w.heap.size,2,none⟩ = some (.int .i64 (wrap64 (a + 1)))) (first | exact ⟨hw2.drew,c0,c1,c2⟩ | assumption | exact keep3d hw2 (by simp) (by simp) ⟨c0,c1,c2⟩ _ _ _) (fail)
 go_wp2
 exact bodyPost_ret (v:=.tuple #[.int .i64 (wz s t a),.agg #[.int .i64 s,.int .i64 t,.int .i64 (wrap64 (a + 1))]]) (by simp [results,Tryz.results265,go_sem, *]) rfl ⟨rfl,(keep3d hw2 (by simp) (by simp) ⟨c0,c1,c2⟩ _ _ _).1⟩
end Go.Proofs.YtnafaclfdoefcaaGreatDoor
