/- States and their bytes, without any program: what is written, what is read. -/
import Derived.Test.YtocjfdiimapojaaT3
namespace Go.Proofs.Ytocjfdiimapojaa
open Go.ChangeShapes Go.WideShapes Go.ChangeAt Go.RowKit
set_option linter.unusedVariables false
set_option linter.unusedSimpArgs false

/-- A matrix. -/
structure Mat where
  r : Int
  c : Int
  n : Int
  L : List Int
/-- A state. -/
structure Sta where
  a : Int
  b : Int
  d : Int
  P : List Mat
  Q : List (List Mat)
  lo : Int
  ra : Int

/-- What is read: a fault with its place, or something and the place behind it. -/
inductive Res (α : Type) where
  | no (e p : Int) : Res α
  | ok (x : α) (q : Nat) : Res α
abbrev Ps (α : Type) := List Int → Nat → Res α
def Res.andTo {α β : Type} (x : Res α) (f : α → Nat → Res β) : Res β := match x with | .no e p => .no e p | .ok a q => f a q
theorem Res.andTo_no {α β : Type} (e p : Int) (f : α → Nat → Res β) : (Res.no e p : Res α).andTo f = .no e p := rfl
theorem Res.andTo_ok {α β : Type} (a : α) (q : Nat) (f : α → Nat → Res β) : (Res.ok a q).andTo f = f a q := rfl
theorem Res.andTo_andTo {α β γ : Type} (x : Res α) (f : α → Nat → Res β) (g : β → Nat → Res γ) : (x.andTo f).andTo g = x.andTo fun a q => (f a q).andTo g := by cases x <;> rfl
def pbind {α β : Type} (p : Ps α) (f : α → Ps β) : Ps β := fun B i => (p B i).andTo fun a q => f a B q
def ppure {α : Type} (a : α) : Ps α := fun _ i => .ok a i
def prep {α : Type} : Nat → Ps α → Ps (List α)
  | 0, _ => ppure []
  | n + 1, p => pbind p fun a => pbind (prep n p) fun l => ppure (a :: l)

/-- The number that stands in the first k bytes from a place on. -/
def un : Nat → List Int → Nat → Int
  | 0, _, _ => 0
  | k + 1, B, i => un k B i + B.getD (i + k) 0 * (256 : Int) ^ k
def numv (k : Nat) (B : List Int) (i : Nat) : Int := IntKind.i64.wrap (un k B i)
def pnum (k : Nat) (g : Int → Bool) : Ps Int := fun B i => if i + k ≤ B.length then (if g (numv k B i) = true then .ok (numv k B i) (i + k) else .no 51 i) else .no 50 B.length
def pmk : List Int → Ps Unit
  | [] => ppure ()
  | x :: l => pbind (pnum 1 (fun n => n == x)) fun _ => pmk l
def pel (n : Int) : Ps Int := pnum (Int.tdiv n 8).toNat (fun b => fin b n)
def pmat : Ps Mat := pbind (pnum 1 (fun n => val 0 n)) fun n => pbind (pnum 2 (fun r => decide (r > 0))) fun r => pbind (pnum 2 (fun c => ckS r c n == 0)) fun c => pbind (prep (r * c).toNat (pel n)) fun L => ppure ⟨r, c, n, L⟩
def pmats (k : Nat) (m : Int) : Ps (List Mat) := pbind (pnum k (fun n => decide (n ≤ m))) fun n => prep n.toNat pmat
def stepB (n : Int) : Bool := decide (0 ≤ n ∧ n ≤ 1099511627776)
def anyB (_ : Int) : Bool := true
def pbody : Ps Sta := pbind (pmk [112, 115, 116, 1]) fun _ => pbind (pnum 8 stepB) fun a => pbind (pnum 8 stepB) fun b => pbind (pnum 8 stepB) fun d => pbind (pnum 8 anyB) fun lo => pbind (pnum 8 anyB) fun ra => pbind (pmats 2 64) fun P => pbind (pnum 2 (fun n => decide (n ≤ 64))) fun n => pbind (prep n.toNat (pmats 1 4)) fun Q => ppure ⟨a, b, d, P, Q, lo, ra⟩
/-- The sum of bytes, each times its place. -/
def sz : Nat → List Int → Int
  | _, [] => 0
  | i, b :: l => ((i : Int) + 1) * b + sz (i + 1) l
def sumB (l : List Int) : Int := sz 0 l % 4294967296
def pend : Ps Unit := fun B i => (pnum 4 anyB B i).andTo fun n q => if n = sumB (B.take i) then (if q = B.length then .ok () q else .no 51 q) else .no 52 i
def pall : Ps Sta := pbind pbody fun s => pbind pend fun _ => ppure s
def rread (B : List Int) : Res Sta := if B.length ≤ 16777216 then pall B 0 else .no 2 0

/-- Bytes. -/
def Byt (B : List Int) : Prop := ∀ i, i < B.length → 0 ≤ B.getD i 0 ∧ B.getD i 0 < 256
theorem Byt.at {B : List Int} (h : Byt B) (i : Nat) : 0 ≤ B.getD i 0 ∧ B.getD i 0 < 256 := by
  by_cases hi : i < B.length
  · exact h i hi
  · rw [List.getD_eq_getElem?_getD, List.getElem?_eq_none (by omega)]; simp
theorem un_rng (k : Nat) (B : List Int) (i : Nat) (h : Byt B) : 0 ≤ un k B i ∧ un k B i < 256 ^ k := by
  induction k with
  | zero => simp [un]
  | succ k ih =>
    have hb := h.at (i + k)
    unfold un
    rw [Int.pow_succ]
    generalize B.getD (i + k) 0 = x at *
    generalize un k B i = u at *
    have hp : (0 : Int) < 256 ^ k := Int.pow_pos (by decide)
    generalize (256 : Int) ^ k = p at *
    have h1 : 0 ≤ x * p := Int.mul_nonneg hb.1 (by omega)
    have h2 : x * p ≤ 255 * p := Int.mul_le_mul_of_nonneg_right (by omega) (by omega)
    omega
theorem or_wrap (x y k : Nat) (h : x < 2 ^ k) (hk : k ≤ 56) (hy : y < 256) : bits .or .i64 (x : Int) (IntKind.i64.wrap ((y * 2 ^ k : Nat) : Int)) = IntKind.i64.wrap ((x + y * 2 ^ k : Nat) : Int) := by
  rw [bits_or, BitVec.toNat_or]
  have hp : 2 ^ k ≤ 2 ^ 56 := Nat.pow_le_pow_right (by decide) hk
  have hz : y * 2 ^ k ≤ 255 * 2 ^ 56 := Nat.mul_le_mul (by omega) hp
  have hp2 : (2 : Nat) ^ 56 = 72057594037927936 := by decide
  rw [hp2] at hp hz
  have h1 := ofInt_toNat (x : Int)
  have h2 := ofInt_toNat (IntKind.i64.wrap ((y * 2 ^ k : Nat) : Int))
  rw [wrap_i64] at h2
  have e1 : (BitVec.ofInt 64 (x : Int)).toNat = x := by omega
  have e2 : (BitVec.ofInt 64 (IntKind.i64.wrap ((y * 2 ^ k : Nat) : Int))).toNat = y * 2 ^ k := by
    rw [wrap_i64]
    generalize y * 2 ^ k = z at *
    omega
  rw [e1, e2, Nat.or_comm, Nat.mul_comm, ← Nat.two_pow_add_eq_or_of_lt h, Nat.mul_comm (2 ^ k) y, Nat.add_comm]
theorem or_num (k : Nat) (hk : k ≤ 7) (B : List Int) (i : Nat) (h : Byt B) : bits .or .i64 (numv k B i) (IntKind.i64.wrap (B.getD (i + k) 0 * 2 ^ (8 * k))) = numv (k + 1) B i := by
  have h1 := un_rng k B i h
  have hb := h.at (i + k)
  have e : ∀ m : Nat, (256 : Int) ^ m = ((2 ^ (8 * m) : Nat) : Int) := fun m => by
    have h8 : ((2 ^ 8 : Nat) : Int) = 256 := by decide
    rw [Nat.pow_mul, Int.natCast_pow, h8]
  have hn : numv k B i = un k B i := by
    unfold numv
    have : (256 : Int) ^ k ≤ 256 ^ 7 := by
      have := Nat.pow_le_pow_right (n := 256) (by decide) hk
      have h9 := Int.ofNat_le.2 this
      rw [Int.natCast_pow, Int.natCast_pow] at h9
      exact h9
    have h3 : (256 : Int) ^ 7 = 72057594037927936 := by decide
    rw [wrap_i64]
    omega
  unfold numv at *
  rw [hn]
  show _ = IntKind.i64.wrap (un k B i + B.getD (i + k) 0 * (256 : Int) ^ k)
  rw [e k] at h1 ⊢
  generalize B.getD (i + k) 0 = x at *
  generalize un k B i = u at *
  obtain ⟨X, rfl⟩ := Int.eq_ofNat_of_zero_le hb.1
  obtain ⟨U, rfl⟩ := Int.eq_ofNat_of_zero_le h1.1
  have := or_wrap U X (8 * k) (Int.ofNat_lt.1 h1.2) (by omega) (by omega)
  rw [Int.natCast_add, Int.natCast_mul] at this
  rw [show (2 : Int) ^ (8 * k) = ((2 ^ (8 * k) : Nat) : Int) from (Int.natCast_pow 2 (8 * k)).symm]
  rw [← Int.natCast_mul] at this ⊢
  exact this
end Go.Proofs.Ytocjfdiimapojaa
