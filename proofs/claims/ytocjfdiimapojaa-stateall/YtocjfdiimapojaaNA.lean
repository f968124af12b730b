/- Plain arithmetic of the bit operations that package bits does on ints: what a mask,a sign bit turned,a sign bit laid say as sums and rests. No Go in sight. Plain arithmetic of lists of digits of 30 bits: what number they tell,its one list,its length in bits,the noughts below its lowest bit,its pieces. No Go in sight. The walks of layoutOf,Valid and Class of package bits: what each call gives,for every int and every width. The walks of math/bits.TrailingZeros and Len at 64 bits,over the library's own Go text and its table as it is laid. The walk of numbers of package bits,called with one pattern. The walks of exact's small functions over digits: areDigits,digit,piece,length,signOf,top. The walk of Parts of package bits: what the call gives,for every int and every width. The walks of the document's own Of,cut,Valid,Class,Parts: what each call gives,for every int and every width. The walks of the document's own Class and Parts. The walks of Neg,Abs,Canon,Next of package bits: what each call gives,width by width. Neg,Abs,Canon,Next,Prev of package bits: one contract each,for every int and every width. -/
import Derived.Laws.BitsAllLaws
import Derived.Laws.Entries
import Derived.OrdersHeld
import Derived.Test.YtocjfdiimapojaaRows
import Derived.WalkKit
import Derived.ProofKit
import Derived.OpenShut
import Derived.Below
import Derived.WalkLawsBesides
import Derived.Deep.QuietTactic
import Derived.BigQuiet
import Derived.Lib.TrailingZeros
import Derived.Laws.MathBits
import Derived.Laws.Bits64b
import Derived.Lib.Strings
import Derived.Lib.Slices
import Derived.Lib.Small
import Derived.Lib.Walk
import Derived.Lib.BitFns
import Derived.Deep.Light
import Derived.Deep.RegionHeld
namespace Go.Proofs.Ytocjfdiimapojaa
set_option maxHeartbeats 16000000
set_option maxRecDepth 100000
theorem ofInt_toNat (x : Int) : ((BitVec.ofInt 64 x).toNat : Int) = x % 18446744073709551616:=by
 rw [BitVec.toNat_ofInt]
 omega
theorem wrap_i64 (n : Int) : IntKind.i64.wrap n = (n + 9223372036854775808) % 18446744073709551616 - 9223372036854775808:=by
 simp [IntKind.wrap,IntKind.bits,IntKind.signed]
 omega
theorem bits_or (x y : Int) : bits .or .i64 x y = IntKind.i64.wrap ((BitVec.ofInt 64 x ||| BitVec.ofInt 64 y).toNat : Int):=rfl
/-! ### What a pattern says,as plain functions of the int and the width -/
def clsOf (s inf hid : Int) : Int:=if inf < s then 4 else if s = inf then 3 else if s = 0 then 0 else if s < hid then 1 else 2
def val (b n : Int) : Bool:=decide (n = 64 ∨ (n = 32 ∧ 0 ≤ b ∧ b < 4294967296))
def cls (b n : Int) : Int :=
 if n = 64 then clsOf (b % 9223372036854775808) 9218868437227405312 4503599627370496
 else if n = 32 then (if 0 ≤ b ∧ b < 4294967296 then clsOf (b % 2147483648) 2139095040 8388608 else 4) else 0
def sgn (b n : Int) : Bool:=if n = 64 then decide (b < 0) else decide (2147483648 ≤ b)
def fin (b n : Int) : Bool:=decide ((n = 64 ∨ n = 32) ∧ cls b n < 3)
def isnum (b n : Int) : Bool:=decide ((n = 64 ∨ n = 32) ∧ cls b n ≠ 4)
def nanOf (n : Int) : Int:=if n = 64 then 9221120237041090561 else if n = 32 then 2143289345 else 0
def can (b n : Int) : Int :=
 if isnum b n = true then (if n = 64 then (if b = -9223372036854775808 then 0 else b) else (if b = 2147483648 then 0 else b)) else nanOf n
theorem cls_valid (b : Int) (h : cls b 32 ≠ 4) : 0 ≤ b ∧ b < 4294967296:=by
 unfold cls at h
 rw [if_neg (by decide),if_pos rfl] at h
 split at h
 ·assumption
 ·omega
end Go.Proofs.Ytocjfdiimapojaa
namespace Go.Proofs.Ytocjfdiimapojaa
set_option maxHeartbeats 16000000
set_option maxRecDepth 100000
def nv : List Int → Nat
 | [] => 0
 | d :: l => d.toNat + 1073741824 * nv l
def Dg (L : List Int) : Prop:=∀ d ∈ L,0 ≤ d ∧ d < 1073741824
theorem Dg.nil : Dg []:=by intro d h; simp at h
theorem Dg.cons {d : Int} {L : List Int} (h0 : 0 ≤ d) (h1 : d < 1073741824) (h : Dg L) : Dg (d :: L):=by
 intro x hx
 rcases List.mem_cons.1 hx with rfl | hx
 ·exact ⟨h0,h1⟩
 ·exact h x hx
theorem Dg.getD {L : List Int} (h : Dg L) (i : Nat) : 0 ≤ L.getD i 0 ∧ L.getD i 0 < 1073741824:=by
 by_cases hi : i < L.length
 ·rw [List.getD_eq_getElem?_getD,List.getElem?_eq_getElem hi]
  exact h _ (List.getElem_mem hi)
 ·rw [List.getD_eq_getElem?_getD,List.getElem?_eq_none (by omega)]
  simp
/-! ### Length in bits,noughts below -/
def bl (n : Nat) : Nat:=if n = 0 then 0 else n.log2 + 1
/-! ### Pieces -/
end Go.Proofs.Ytocjfdiimapojaa

namespace Go.Proofs.Ytocjfdiimapojaa
open Go.ChangeShapes Go.WideShapes Go.ChangeAt Go.RowKit
set_option maxHeartbeats 16000000
set_option maxRecDepth 100000
structure Kept (w w' : World) : Prop where
 below : Below w.heap.size w w'
 frozen : ∀ a,w'.frozen? a = w.frozen? a
theorem Kept.refl (w : World) : Kept w w:=⟨Below.refl _ _,fun _ => rfl⟩
theorem Kept.trans {a b c : World} (h : Kept a b) (k : Kept b c) : Kept a c :=
 ⟨h.below.trans (k.below.mono h.below.size),fun x => (k.frozen x).trans (h.frozen x)⟩
theorem Kept.alloc {a b : World} (h : Kept a b) (c : Array Value) (t : TypeId) : Kept a (b.alloc (.cells c t)) :=
 ⟨h.below.alloc h.below.size _,fun x => (frozen?_alloc_cells _ _ _ x).trans (h.frozen x)⟩
theorem Kept.setCell {a b : World} (h : Kept a b) {p : Addr} (hp : a.heap.size ≤ p.block) (u : Value) : Kept a (b.setCell p u) :=
 ⟨h.below.setCell hp u,fun x => (World.frozen?_setCell _ _ _ _).trans (h.frozen x)⟩
theorem Kept.drew {a b : World} (h : Kept a b) : Kept a b.drew:=⟨h.below.drew,h.frozen⟩
theorem Kept.drewN {a b : World} (h : Kept a b) (n : Nat) : Kept a (b.drewN n):=⟨below_drewN h.below n,h.frozen⟩
theorem Kept.grown {a b : World} (h : Kept a b) : Grown a b:=⟨h.below.frame _,h.frozen,h.below.size⟩
theorem valid_64 (b : Int) (w : World) : Calls Try.prog 69 #[.int .i64 b,.int .i64 64] w fun e w' => e = .returned (.bool true) ∧ w = w':=by
 go_enter Try.func69,Try.ntmps69
 go_wp2
 go_ret
 exact ⟨rfl,rfl⟩
theorem valid_32 (b : Int) (w : World) : Calls Try.prog 69 #[.int .i64 b,.int .i64 32] w fun e w' => e = .returned (.bool (b / 4294967296 == 0)) ∧ w = w':=by
 go_enter Try.func69,Try.ntmps69
 go_wp2
 go_ret
 exact ⟨rfl,rfl⟩
theorem valid_0 (b n : Int) (h1 : (n == 32) = false) (h2 : (n == 64) = false) (w : World) : Calls Try.prog 69 #[.int .i64 b,.int .i64 n] w fun e w' => e = .returned (.bool false) ∧ w = w':=by
 go_enter Try.func69,Try.ntmps69
 go_wp2
 go_ret
 exact ⟨rfl,rfl⟩
theorem ret_int {k : IntKind} {a b : Int} (h : a = b) : Ending.returned (.int k a) = .returned (.int k b):=by rw [h]
theorem valid_any (b n : Int) (w : World) : Calls Try.prog 69 #[.int .i64 b,.int .i64 n] w fun e w' => e = .returned (.bool (val b n)) ∧ w = w':=by
 by_cases h64 : n = 64
 ·subst h64
  refine (valid_64 b w).mono ?_
  rintro e w' ⟨rfl,rfl⟩
  exact ⟨by simp [val],rfl⟩
 ·by_cases h32 : n = 32
  ·subst h32
   refine (valid_32 b w).mono ?_
   rintro e w' ⟨rfl,rfl⟩
   refine ⟨?_,rfl⟩
   have : (b / 4294967296 == 0) = val b 32:=by
    rw [Bool.eq_iff_iff]; simp [val]; omega
   rw [this]
  ·refine (valid_0 b n (by simpa using h32) (by simpa using h64) w).mono ?_
   rintro e w' ⟨rfl,rfl⟩
   exact ⟨by simp [val,h64,h32],rfl⟩
end Go.Proofs.Ytocjfdiimapojaa
namespace Go.Proofs.Ytocjfdiimapojaa
open Go.ChangeShapes Go.WideShapes Go.ChangeAt Go.RowKit
set_option maxHeartbeats 16000000
set_option maxRecDepth 100000
set_option linter.unusedVariables false
/-- The table of 64 lies in its variable. -/
def Tab (w : World) : Prop:=2 ≤ w.heap.size ∧ ∀ j,j < 64 → w.cell? ⟨1,j,none⟩ = some (.int .u8 (Lib.deBruijn64tab.getD j 0))
theorem Tab.kept {w w' : World} (h : Tab w) (k : Kept w w') : Tab w' :=
 ⟨Nat.le_trans h.1 k.below.size,fun j hj => (k.below.cell (p:=⟨1,j,none⟩) (by have:=h.1; show 1 < _; omega)).trans (h.2 j hj)⟩
end Go.Proofs.Ytocjfdiimapojaa
namespace Go.Proofs.Ytocjfdiimapojaa
open Go.ChangeShapes Go.WideShapes Go.ChangeAt Go.RowKit
set_option maxHeartbeats 16000000
set_option maxRecDepth 100000
theorem laid_cell {w1 w2 : World} {c : Array Value} {t : TypeId} (h : Kept (w1.alloc (.cells c t)) w2) (o : Nat) : w2.cell? ⟨w1.heap.size,o,none⟩ = (w1.alloc (.cells c t)).cell? ⟨w1.heap.size,o,none⟩ :=
 h.below.cell (p:=⟨w1.heap.size,o,none⟩) (by simp)
theorem tk {P : Program} {ops : Array Oper} {Q : Exit → Act → World → Prop} {md : Region.Mode} {S : World → Prop} {i : Nat} {oi : Oper} {v : Value} {fuel : Nat} {listed : Array Bool} {a : Act} {w : World} (hi : ops[i]? = some oi) (h : wpAnyH P md ops Q S fuel (listed.setIfInBounds i true) (a.put oi.dst v) w) (hy : YieldsIf P ops S oi v a := by exact .inl ⟨by rfl, by (intro w hSw; (try dsimp only at hSw); go_simp; try (with_reducible rfl))⟩) (hs : Region.noSelect ops = true := by kernel_rfl) (hf : Region.free md ops listed i = true := by kernel_rfl) (hr : (Region.ready md ops listed).contains i = true := by kernel_rfl) (hQ : ∀ c a w, Q (.panic c) (a.put oi.dst v) w → Q (.panic c) a w := by exact fun _ _ _ h => h) (hS : S w := by assumption) : wpAnyH P md ops Q S (fuel + 1) listed a w := wpAnyH_take hi hs hf hr hQ hy hS h
abbrev zA := @List.getElem_toArray
abbrev zB := @List.getElem_cons_succ
abbrev zC := @List.getElem_cons_zero
abbrev zD := @List.setIfInBounds_toArray
abbrev zE := @List.set_cons_zero
abbrev zF := @List.set_cons_succ
end Go.Proofs.Ytocjfdiimapojaa

namespace Go.Proofs.Ytocjfdiimapojaa
open Go.ChangeShapes Go.WideShapes Go.ChangeAt Go.RowKit
set_option maxHeartbeats 16000000
set_option maxRecDepth 100000
def Reads (w : World) (b off : Nat) (L : List Int) : Prop:=∀ i,i < L.length → w.cell? ⟨b,off + i,none⟩ = some (.int .i64 (L.getD i 0))
def Sl (w : World) (v : Value) (L : List Int) : Prop :=
 ∃ ao cap,v = .slice ao L.length cap ∧ L.length ≤ cap ∧ cap ≤ maxLen ∧ (L ≠ [] → ∃ b off,ao = some ⟨b,off,none⟩ ∧ b < w.heap.size ∧ Reads w b off L)
theorem Reads.kept {w w' : World} {b off : Nat} {L : List Int} (h : Reads w b off L) (hb : b < w.heap.size) (k : Kept w w') : Reads w' b off L :=
 fun i hi => (k.below.cell (p:=⟨b,off + i,none⟩) hb).trans (h i hi)
theorem Sl.kept {w w' : World} {v : Value} {L : List Int} (h : Sl w v L) (k : Kept w w') : Sl w' v L:=by
 obtain ⟨ao,cap,e,hc,hm,hr⟩:=h
 refine ⟨ao,cap,e,hc,hm,fun hne => ?_⟩
 obtain ⟨b,off,e2,hb,hr⟩:=hr hne
 exact ⟨b,off,e2,Nat.lt_of_lt_of_le hb k.below.size,hr.kept hb k⟩
end Go.Proofs.Ytocjfdiimapojaa

namespace Go.Proofs.Ytocjfdiimapojaa
open Go.ChangeShapes Go.WideShapes Go.ChangeAt Go.RowKit
set_option maxHeartbeats 16000000
set_option maxRecDepth 100000
theorem ret_parts {p q p' q' : Bool} {a c a' c' : Int} (h1 : p = p') (h2 : a = a') (h3 : c = c') (h4 : q = q') : Ending.returned (.tuple #[.bool p,.int .i64 a,.int .i64 c,.bool q]) = .returned (.tuple #[.bool p',.int .i64 a',.int .i64 c',.bool q']):=by rw [h1,h2,h3,h4]
end Go.Proofs.Ytocjfdiimapojaa

namespace Go.Proofs.Ytocjfdiimapojaa
open Go.ChangeShapes Go.WideShapes Go.ChangeAt Go.RowKit
set_option maxHeartbeats 16000000
set_option maxRecDepth 100000
theorem of_64 (w : World) : Calls Try.prog 78 #[.int .i64 64] w fun e w' => e = .returned (.tuple #[.agg #[.int .i64 64,.int .i64 53,.int .i64 4503599627370496,.int .i64 2047,.int .i64 (-1074),.int .i64 1024,.int .i64 9218868437227405312,.int .i64 (-9223372036854775808),.int .i64 9221120237041090561],.bool true]) ∧ Kept w w':=by
 go_enter Try.func78,Try.ntmps78
 go_wp2
 exact bodyPost_ret (v:=.tuple #[.agg #[.int .i64 64,.int .i64 53,.int .i64 4503599627370496,.int .i64 2047,.int .i64 (-1074),.int .i64 1024,.int .i64 9218868437227405312,.int .i64 (-9223372036854775808),.int .i64 9221120237041090561],.bool true]) (by simp [results,Try.results78,go_sem]) rfl ⟨rfl,(Kept.refl _).alloc _ _⟩
theorem of_32 (w : World) : Calls Try.prog 78 #[.int .i64 32] w fun e w' => e = .returned (.tuple #[.agg #[.int .i64 32,.int .i64 24,.int .i64 8388608,.int .i64 255,.int .i64 (-149),.int .i64 128,.int .i64 2139095040,.int .i64 2147483648,.int .i64 2143289345],.bool true]) ∧ Kept w w':=by
 go_enter Try.func78,Try.ntmps78
 go_wp2
 exact bodyPost_ret (v:=.tuple #[.agg #[.int .i64 32,.int .i64 24,.int .i64 8388608,.int .i64 255,.int .i64 (-149),.int .i64 128,.int .i64 2139095040,.int .i64 2147483648,.int .i64 2143289345],.bool true]) (by simp [results,Try.results78,go_sem]) rfl ⟨rfl,(Kept.refl _).alloc _ _⟩
theorem of_0 (n : Int) (h1 : (n == 32) = false) (h2 : (n == 64) = false) (w : World) : Calls Try.prog 78 #[.int .i64 n] w fun e w' => e = .returned (.tuple #[.agg #[.int .i64 0,.int .i64 0,.int .i64 0,.int .i64 0,.int .i64 0,.int .i64 0,.int .i64 0,.int .i64 0,.int .i64 0],.bool false]) ∧ Kept w w':=by
 go_enter Try.func78,Try.ntmps78
 go_wp2
 exact bodyPost_ret (v:=.tuple #[.agg #[.int .i64 0,.int .i64 0,.int .i64 0,.int .i64 0,.int .i64 0,.int .i64 0,.int .i64 0,.int .i64 0,.int .i64 0],.bool false]) (by simp [results,Try.results78,go_sem]) rfl ⟨rfl,(Kept.refl _).alloc _ _⟩
theorem cut_64_pos (b : Int) (h0 : 0 ≤ b) (hu : b ≤ 9223372036854775807) (w : World) : Calls Try.prog 79 #[.agg #[.int .i64 64,.int .i64 53,.int .i64 4503599627370496,.int .i64 2047,.int .i64 (-1074),.int .i64 1024,.int .i64 9218868437227405312,.int .i64 (-9223372036854775808),.int .i64 9221120237041090561],.int .i64 b] w fun e w' => e = .returned (.tuple #[.bool false,.int .i64 (b / 4503599627370496),.int .i64 (b % 4503599627370496),.bool true]) ∧ Kept w w':=by
 go_enter Try.func79,Try.ntmps79
 go_wp2
 go_quiet (fail)
 go_wp2
 exact bodyPost_ret (v:=.tuple #[.bool false,.int .i64 (b / 4503599627370496),.int .i64 (b % 4503599627370496),.bool true]) (by simp [results,Try.results79,go_sem,h0]) rfl ⟨rfl,(((Kept.refl _).alloc _ _).drewN _)⟩
theorem cut_64_neg (b : Int) (h0 : b < 0) (hu : -9223372036854775808 ≤ b) (w : World) : Calls Try.prog 79 #[.agg #[.int .i64 64,.int .i64 53,.int .i64 4503599627370496,.int .i64 2047,.int .i64 (-1074),.int .i64 1024,.int .i64 9218868437227405312,.int .i64 (-9223372036854775808),.int .i64 9221120237041090561],.int .i64 b] w fun e w' => e = .returned (.tuple #[.bool true,.int .i64 ((b - -9223372036854775808) / 4503599627370496),.int .i64 ((b - -9223372036854775808) % 4503599627370496),.bool true]) ∧ Kept w w':=by
 go_enter Try.func79,Try.ntmps79
 go_wp2
 go_quiet (fail)
 go_wp2
 exact bodyPost_ret (v:=.tuple #[.bool true,.int .i64 ((b - -9223372036854775808) / 4503599627370496),.int .i64 ((b - -9223372036854775808) % 4503599627370496),.bool true]) (by simp [results,Try.results79,go_sem]) rfl ⟨rfl,(((Kept.refl _).alloc _ _).drewN _)⟩
theorem cut_32_no1 (b : Int) (h0 : b < 0) (w : World) : Calls Try.prog 79 #[.agg #[.int .i64 32,.int .i64 24,.int .i64 8388608,.int .i64 255,.int .i64 (-149),.int .i64 128,.int .i64 2139095040,.int .i64 2147483648,.int .i64 2143289345],.int .i64 b] w fun e w' => e = .returned (.tuple #[.bool false,.int .i64 0,.int .i64 0,.bool false]) ∧ Kept w w':=by
 go_enter Try.func79,Try.ntmps79
 go_wp2
 exact bodyPost_ret (v:=.tuple #[.bool false,.int .i64 0,.int .i64 0,.bool false]) (by simp [results,Try.results79,go_sem]) rfl ⟨rfl,((Kept.refl _).alloc _ _)⟩
theorem cut_32_no2 (b : Int) (h0 : 4294967296 ≤ b) (w : World) : Calls Try.prog 79 #[.agg #[.int .i64 32,.int .i64 24,.int .i64 8388608,.int .i64 255,.int .i64 (-149),.int .i64 128,.int .i64 2139095040,.int .i64 2147483648,.int .i64 2143289345],.int .i64 b] w fun e w' => e = .returned (.tuple #[.bool false,.int .i64 0,.int .i64 0,.bool false]) ∧ Kept w w':=by
 go_enter Try.func79,Try.ntmps79
 go_wp2
 exact bodyPost_ret (v:=.tuple #[.bool false,.int .i64 0,.int .i64 0,.bool false]) (by simp [results,Try.results79,go_sem]) rfl ⟨rfl,((Kept.refl _).alloc _ _)⟩
theorem cut_32_yes (b : Int) (h0 : 0 ≤ b) (hu : b < 4294967296) (w : World) : Calls Try.prog 79 #[.agg #[.int .i64 32,.int .i64 24,.int .i64 8388608,.int .i64 255,.int .i64 (-149),.int .i64 128,.int .i64 2139095040,.int .i64 2147483648,.int .i64 2143289345],.int .i64 b] w fun e w' => e = .returned (.tuple #[.bool (decide (2147483648 ≤ b)),.int .i64 (b % 2147483648 / 8388608),.int .i64 (b % 8388608),.bool true]) ∧ Kept w w':=by
 go_enter Try.func79,Try.ntmps79
 go_wp2
 go_quiet (fail)
 go_wp2
 exact bodyPost_ret (v:=.tuple #[.bool (decide (2147483648 ≤ b)),.int .i64 (b % 2147483648 / 8388608),.int .i64 (b % 8388608),.bool true]) (by simp [results,Try.results79,go_sem]) rfl ⟨rfl,(((Kept.refl _).alloc _ _).drewN _)⟩
/-! ### One contract a width,for every pattern -/
def thr (b : Int) : Bool:=decide (0 ≤ b ∧ b < 4294967296)
def fld64 (b : Int) : Int:=b % 9223372036854775808 / 4503599627370496
def frc64 (b : Int) : Int:=b % 4503599627370496
def fld32 (b : Int) : Int:=if thr b = true then b % 2147483648 / 8388608 else 0
def frc32 (b : Int) : Int:=if thr b = true then b % 8388608 else 0
def sg32 (b : Int) : Bool:=thr b && sgn b 32
theorem cut_64 (b : Int) (hb1 : -9223372036854775808 ≤ b) (hb2 : b ≤ 9223372036854775807) (w : World) : Calls Try.prog 79 #[.agg #[.int .i64 64,.int .i64 53,.int .i64 4503599627370496,.int .i64 2047,.int .i64 (-1074),.int .i64 1024,.int .i64 9218868437227405312,.int .i64 (-9223372036854775808),.int .i64 9221120237041090561],.int .i64 b] w fun e w' => e = .returned (.tuple #[.bool (sgn b 64),.int .i64 (fld64 b),.int .i64 (frc64 b),.bool true]) ∧ Kept w w':=by
 by_cases h : 0 ≤ b
 ·refine (cut_64_pos b h hb2 w).mono ?_
  rintro e w' ⟨rfl,hk⟩
  exact ⟨ret_parts (by simp [sgn]; omega) (by unfold fld64; omega) (by unfold frc64; omega) rfl,hk⟩
 ·refine (cut_64_neg b (by omega) hb1 w).mono ?_
  rintro e w' ⟨rfl,hk⟩
  exact ⟨ret_parts (by simp [sgn]; omega) (by unfold fld64; omega) (by unfold frc64; omega) rfl,hk⟩
theorem cut_32 (b : Int) (w : World) : Calls Try.prog 79 #[.agg #[.int .i64 32,.int .i64 24,.int .i64 8388608,.int .i64 255,.int .i64 (-149),.int .i64 128,.int .i64 2139095040,.int .i64 2147483648,.int .i64 2143289345],.int .i64 b] w fun e w' => e = .returned (.tuple #[.bool (sg32 b),.int .i64 (fld32 b),.int .i64 (frc32 b),.bool (thr b)]) ∧ Kept w w':=by
 by_cases hv : 0 ≤ b ∧ b < 4294967296
 ·have ht : thr b = true:=by simp [thr,hv]
  refine (cut_32_yes b hv.1 hv.2 w).mono ?_
  rintro e w' ⟨rfl,hk⟩
  exact ⟨ret_parts (by simp [sg32,ht,sgn]) (by simp [fld32,ht]) (by simp [frc32,ht]) ht.symm,hk⟩
 ·have ht : thr b = false:=by simp [thr]; omega
  by_cases h : b < 0
  ·refine (cut_32_no1 b h w).mono ?_
   rintro e w' ⟨rfl,hk⟩
   exact ⟨ret_parts (by simp [sg32,ht]) (by simp [fld32,ht]) (by simp [frc32,ht]) ht.symm,hk⟩
  ·refine (cut_32_no2 b (by omega) w).mono ?_
   rintro e w' ⟨rfl,hk⟩
   exact ⟨ret_parts (by simp [sg32,ht]) (by simp [fld32,ht]) (by simp [frc32,ht]) ht.symm,hk⟩
theorem cls_64_eq (b : Int) : cls b 64 = if (fld64 b = 2047 ∧ 0 < frc64 b) then 4 else if fld64 b = 2047 then 3 else if 0 < fld64 b then 2 else if 0 < frc64 b then 1 else 0:=by
 unfold cls clsOf fld64 frc64
 rw [if_pos rfl]
 (repeat' split) <;> omega
theorem cls_32_eq (b : Int) : cls b 32 = if (thr b = false ∨ fld32 b = 255 ∧ 0 < frc32 b) then 4 else if fld32 b = 255 then 3 else if 0 < fld32 b then 2 else if 0 < frc32 b then 1 else 0:=by
 unfold cls
 rw [if_neg (by decide),if_pos rfl]
 by_cases hv : 0 ≤ b ∧ b < 4294967296
 ·have ht : thr b = true:=by simp [thr,hv]
  rw [if_pos hv]
  simp only [fld32,frc32,ht,if_true,Bool.true_eq_false,false_or]
  unfold clsOf
  (repeat' split) <;> omega
 ·have ht : thr b = false:=by simp [thr]; omega
  rw [if_neg hv,if_pos (Or.inl ht)]
end Go.Proofs.Ytocjfdiimapojaa

namespace Go.Proofs.Ytocjfdiimapojaa
open Go.ChangeShapes Go.WideShapes Go.ChangeAt Go.RowKit
set_option maxHeartbeats 16000000
set_option maxRecDepth 100000
theorem rclass_any (b n : Int) (hb1 : -9223372036854775808 ≤ b) (hb2 : b ≤ 9223372036854775807) (w : World) : Calls Try.prog 66 #[.int .i64 b, .int .i64 n] w fun e w' => e = .returned (.int .i64 (cls b n)) ∧ Kept w w' := by
  by_cases h64 : n = 64
  · subst h64
    go_enter Try.func66, Try.ntmps66
    go_wp2_with (first | (go_at_call 78; refine (of_64 _).mono ?_; rintro e w1 ⟨rfl, hk1⟩) | (go_at_call 79; refine (cut_64 _ hb1 hb2 _).mono ?_; rintro e w2 ⟨rfl, hk2⟩; have hcl := laid_cell hk2))
    all_goals
      go_ret
      refine ⟨ret_int ?_, (hk1.alloc _ _).trans hk2⟩
      rw [cls_64_eq]
      (repeat' split) <;> omega
  · by_cases h32 : n = 32
    · subst h32
      go_enter Try.func66, Try.ntmps66
      go_wp2_with (first | (go_at_call 78; refine (of_32 _).mono ?_; rintro e w1 ⟨rfl, hk1⟩) | (go_at_call 79; refine (cut_32 _ _).mono ?_; rintro e w2 ⟨rfl, hk2⟩; have hcl := laid_cell hk2))
      all_goals
        go_ret
        refine ⟨ret_int ?_, (hk1.alloc _ _).trans hk2⟩
        rw [cls_32_eq]
        first
          | (have hf : thr b = false := by simpa using ‹¬thr b = true›
             rw [if_pos (Or.inl hf)])
          | (have ht : thr b = true := by assumption
             simp only [ht, Bool.true_eq_false, false_or]
             (repeat' split) <;> omega)
    · have e1 : (n == 32) = false := by simpa using h32
      have e2 : (n == 64) = false := by simpa using h64
      have hv : Hid (cls b n = 0) := by show cls b n = 0; simp [cls, h64, h32]
      clear h64 h32
      go_enter Try.func66, Try.ntmps66
      go_wp2_with (first | (go_at_call 78; refine (of_0 _ e1 e2 _).mono ?_; rintro e w1 ⟨rfl, hk1⟩))
      go_ret
      exact ⟨ret_int hv.out.symm, (hk1.alloc _ _)⟩
end Go.Proofs.Ytocjfdiimapojaa

namespace Go.Proofs.Ytocjfdiimapojaa
open Go.ChangeShapes Go.WideShapes Go.ChangeAt Go.RowKit
set_option maxHeartbeats 16000000
set_option maxRecDepth 100000
set_option linter.unusedSimpArgs false
end Go.Proofs.Ytocjfdiimapojaa
namespace Go.Proofs.Ytocjfdiimapojaa
open Go.ChangeShapes Go.WideShapes Go.ChangeAt Go.RowKit
set_option maxHeartbeats 16000000
set_option maxRecDepth 100000
end Go.Proofs.Ytocjfdiimapojaa
