/- The laws' book of lists: Apart, of a book with lists of ints alone. The walks of Neg, Abs, Canon, Next of package bits: what each call gives, width by width. Neg, Abs, Canon, Next, Prev of package bits: one contract each, for every int and every width. Floats and their patterns: the walks of Float, Float32, Of, Of32, and of a sum that is a number. How the patterns of floats lie in order: a format's order of words is the order of their keys, the rung with the sign. No Go in sight. Patterns as floats: the key of a pattern, which patterns are no numbers, that a pattern comes back. The walk of widened of package bits: a pattern's value as a binary64. The walks of widened, Less, Same of package bits. The arithmetic of rounding: the floats as rungs, what is kept of a number and what is cut off; patterns by their keys. -/
import Derived.Test.YtcjgdfnbjbboeaaWr16
import Derived.Test.YtcjgdfnbjbboeaaWr17
import Derived.Test.YtcjgdfnbjbboeaaWr18
import Derived.Test.YtcjgdfnbjbboeaaWr02
import Derived.Test.YtcjgdfnbjbboeaaWr04
import Derived.Laws.FloatArith
import Derived.Laws.Externs
import Ieee.Arith
namespace Go.Proofs.Ytcjgdfnbjbboeaa
open Go.ChangeShapes Go.WideShapes Go.ChangeAt Go.RowKit
set_option linter.unusedVariables false
set_option linter.unusedSimpArgs false

theorem ownv_at {w : World} {g cap : Nat} {e : TypeId} {n : Nat} {f : Nat → Value} (h : OwnV w g cap e ((List.range n).map f)) (j : Nat) (hj : j < n) : w.cell? ⟨g, j, none⟩ = some (f j) := h.cell j _ (by rw [List.getElem?_map, List.getElem?_range hj]; rfl)
theorem RowI.rll {u : World} {B n : Nat} {a : Nat → Option Addr} {c m : Nat → Nat} {v : Value} {L : Nat → List Int} (h : RowI u B n a c m v) (hl : ∀ j, j < n → (L j).length = m j) (ho : ∀ j, j < n → Ew u (a j) (c j) (L j)) (h0 : ∀ j, j < n → a j = none → c j = 0) : Rll u v n a c L := by
  rcases h with h | ⟨g, cap, h1, h2, h3⟩
  · exact .inl h
  · refine .inr ⟨g, cap, h1, fun j hj => ⟨?_, (ho j hj).slx (h0 j hj)⟩⟩
    rw [hl j hj]
    exact ownv_at h3 j hj
theorem Bok.lls {u : World} {B n : Nat} {a : Nat → Option Addr} {c m : Nat → Nat} {a' : Nat → Option Addr} {c' : Nat → Nat} {L : Nat → List Int} {vW : Value} {g cap : Nat} (h : Bok u B n a c m a' c' L (.slice (some ⟨g, 0, none⟩) n cap) vW) (hn : 0 < n) : Lls u g n a c m L := by
  obtain ⟨g', cap', e, h2, h3⟩ : ∃ g' cap', Value.slice (some ⟨g, 0, none⟩) n cap = .slice (some ⟨g', 0, none⟩) n cap' ∧ B < g' ∧ OwnV u g' cap' 22 ((List.range n).map fun j => Value.slice (a j) (m j) (c j)) := by
    rcases h.rI with ⟨h1, -⟩ | h1
    · omega
    · exact h1
  simp only [Value.slice.injEq, Option.some.injEq, Addr.mk.injEq] at e
  obtain ⟨⟨rfl, -⟩, -, rfl⟩ := e
  refine ⟨fun j hj => ownv_at h3 j hj, h.own, h.len, h.ap, fun j hj hm => ?_⟩
  obtain ⟨M, ho⟩ := (h.own j hj).eb g hm
  exact own_two ho h3 rfl
theorem ebs_mem {n : Nat} {a : Nat → Option Addr} {b : Nat} (h : b ∈ ebs n a) : ∃ j, j < n ∧ b ∈ eb (a j) := by
  obtain ⟨j, h1, h2⟩ := List.mem_flatMap.1 h
  exact ⟨j, by simpa using h1, h2⟩
theorem Gout.kept {H0 : Nat} {a : Nat → Option Addr} {m : Nat → Nat} {i : Nat} {ov : Value} {u u' : World} {gb cb : Nat → Nat} (h : Gout H0 a m i ov u gb cb) (k : Kept u u') : Gout H0 a m i ov u' gb cb := by
  refine ⟨?_, fun j hj => ⟨(h.el j hj).1.kept k, (h.el j hj).2⟩⟩
  rcases h.row with h1 | ⟨go, co, h1, h2, h3⟩
  · exact .inl h1
  · exact .inr ⟨go, co, h1, h2, h3.kept k⟩
theorem Gout.rll {H0 : Nat} {a : Nat → Option Addr} {m : Nat → Nat} {n : Nat} {ov : Value} {u : World} {gb cb : Nat → Nat} (h : Gout H0 a m n ov u gb cb) : Rll u ov n (fun j => some ⟨gb j, 0, none⟩) cb (fun j => mkl (j : Int) 0 (m j + 96)) := by
  rcases h.row with h1 | ⟨go, co, h1, h2, h3⟩
  · exact .inl h1
  · refine .inr ⟨go, co, h1, fun j hj => ⟨?_, (h.el j hj).1.sl⟩⟩
    rw [mkl_len]
    exact ownv_at h3 j hj
theorem book_apart (B n : Nat) (hn0 : 0 < n) (hn : n ≤ 400) (a : Nat → Option Addr) (c m : Nat → Nat) (a' : Nat → Option Addr) (c' : Nat → Nat) (L : Nat → List Int) (vI vW : Value) (w : World) (hm : ∀ j, j < n → m j ≤ 900000) (h : Bok w B n a c m a' c' L vI vW) :
    Calls Try.prog 17 #[.pointer (some ⟨B, 0, none⟩)] w fun e w' => e = .returned (.bool true) ∧ ∃ W', Gs (B :: ebs n a) w W' ∧ Kept W' w' := by
  obtain ⟨g, cap, rfl⟩ : ∃ g cap, vI = .slice (some ⟨g, 0, none⟩) n cap := by
    rcases h.rI with ⟨h1, -⟩ | ⟨g, cap, h1, -⟩
    · omega
    · exact ⟨g, cap, h1⟩
  have hB : B ∉ ebs n a := fun hb => by
    obtain ⟨j, h1, h2⟩ := ebs_mem hb
    have := h.lo j h1 B h2
    omega
  have hl := h.lls hn0
  have hg : g ∉ ebs n a := fun hb => by
    obtain ⟨j, h1, h2⟩ := ebs_mem hb
    exact hl.out j h1 h2
  have hgw : g < w.heap.size := World.block_lt_of_cell? _ _ (hl.cell 0 hn0)
  have hlt : ∀ b ∈ ebs n a, b < w.heap.size := fun b hb => by
    obtain ⟨j, h1, h2⟩ := ebs_mem hb
    obtain ⟨M, ho⟩ := (h.own j h1).eb b h2
    exact ho.lt
  have hne : ∀ {u u' : World}, Ne7 u B → B < u.heap.size → Gs (ebs n a) u u' → Ne7 u' B := fun {u u'} q hu k => by
    have e := fun o => k.cell B o hu hB
    exact ⟨(e 2).trans q.c2, (e 4).trans q.c4, (e 6).trans q.c6, (e 8).trans q.c8, (e 10).trans q.c10, (e 12).trans q.c12, (e 14).trans q.c14⟩
  have K := apart_walk B (.slice (some ⟨g, 0, none⟩) n cap) (fun u => Ne7 u B ∧ u.cell? ⟨B, 0, none⟩ = some (.slice (some ⟨g, 0, none⟩) n cap) ∧ Lls u g n a c m (fun j => mkl (j : Int) 0 (m j)) ∧ Gs (ebs n a) w u)
    (fun v u => Ne7 u B ∧ u.cell? ⟨B, 0, none⟩ = some (.slice (some ⟨g, 0, none⟩) n cap) ∧ Lls u g n a c m (fun j => mkl (j : Int) 0 (m j)) ∧ (∃ H0 gb cb, Gout H0 a m n v u gb cb) ∧ Gs (ebs n a) w u) w h.ne (fun u q => q.1) (fun v u q => ⟨q.1, q.2.1⟩)
    (fun v u u' q k => ⟨q.1.kept k, (k.below.cell (p := ⟨B, 0, none⟩) (World.block_lt_of_cell? _ _ q.2.1)).trans q.2.1, q.2.2.1.kept k, (by
      obtain ⟨H0, gb, cb, h1⟩ := q.2.2.2.1
      exact ⟨H0, gb, cb, h1.kept k⟩), q.2.2.2.2.kept k⟩)
    (stillInts_any B _ _ n (by omega) a a' c c' L (fun j hj => by rw [h.len j hj]; have := hm j hj; omega) w h.c0 h.c1 (h.rI.rll h.len h.own h.cn) (h.rW.rll h.len h.own' h.cn'))
    (fun u k => by
      have hu := h.kept k
      refine (putInts_any B g cap n (by omega) a c m L u hu.c0 hB hg (fun b hb => Nat.lt_of_lt_of_le (hlt b hb) k.below.size) (fun j hj => by have := hm j hj; omega) (hu.lls hn0)).mono ?_
      rintro e w' ⟨rfl, h1, h2⟩
      exact ⟨rfl, hne hu.ne hu.lt h2, (h2.cell B 0 hu.lt hB).trans hu.c0, h1, (k.gs _).trans h2⟩)
    (fun u q => by
      obtain ⟨q1, q2, q3, q4⟩ := q
      refine (growInts_any B g cap n (by omega) a c m u q2 hB hg (Nat.lt_of_lt_of_le hgw q4.size) (fun b hb => Nat.lt_of_lt_of_le (hlt b hb) q4.size) hm h.cn q3).mono ?_
      rintro e w' ⟨v, rfl, ⟨gb, cb, h1⟩, h2, h3⟩
      have hu := World.block_lt_of_cell? _ _ q2
      exact ⟨v, rfl, hne q1 hu h3, (h3.cell B 0 hu hB).trans q2, h2, ⟨_, gb, cb, h1⟩, q4.trans h3⟩)
    (fun v u x q hx => by
      obtain ⟨q1, q2, q3, ⟨H0, gb, cb, q4⟩, q5⟩ := q
      rcases hx with rfl | rfl
      · refine markedInts_any _ n (by omega) a c (fun j => mkl (j : Int) 0 (m j)) (fun j hj => ⟨by rw [mkl_len], by rw [mkl_len]; have := hm j hj; omega⟩) u (.inr ⟨g, cap, rfl, fun j hj => ⟨?_, (q3.own j hj).slx (h.cn j hj)⟩⟩)
        rw [mkl_len]
        exact q3.cell j hj
      · exact markedInts_any _ n (by omega) _ cb (fun j => mkl (j : Int) 0 (m j + 96)) (fun j hj => ⟨by rw [mkl_len], by rw [mkl_len]; have := hm j hj; omega⟩) u q4.rll)
  refine K.mono ?_
  rintro e w' ⟨rfl, v, q⟩
  exact ⟨rfl, w', q.2.2.2.2.mono (fun b hb => List.mem_cons_of_mem _ hb), Kept.refl _⟩
end Go.Proofs.Ytcjgdfnbjbboeaa

namespace Go.Proofs.Ytcjgdfnbjbboeaa
open Go.ChangeShapes Go.WideShapes Go.ChangeAt Go.RowKit
set_option linter.unusedSimpArgs false

end Go.Proofs.Ytcjgdfnbjbboeaa

namespace Go.Proofs.Ytcjgdfnbjbboeaa
open Go.ChangeShapes Go.WideShapes Go.ChangeAt Go.RowKit

end Go.Proofs.Ytcjgdfnbjbboeaa

namespace Go.Proofs.Ytcjgdfnbjbboeaa
open Go.ChangeShapes Go.WideShapes Go.ChangeAt Go.RowKit

def pat32 (b : Int) : Nat := if val b 32 = true then (b % 4294967296).toNat else 2143289345
end Go.Proofs.Ytcjgdfnbjbboeaa

namespace Go.Proofs.Ytcjgdfnbjbboeaa
open Ieee

def rung (f : Format) (x : Nat) : Nat := x % f.signWeight
def below (f : Format) (x : Nat) : Bool := x / f.signWeight % 2 == 1
/-- The rung with the sign: the place of a word among all numbers (both zeros at 0). -/
def key (f : Format) (x : Nat) : Int := if below f x = true then -(rung f x : Int) else (rung f x : Int)

def sv (s : Bool) (v : Nat) : Int := if s = true then -(v : Int) else (v : Int)

end Go.Proofs.Ytcjgdfnbjbboeaa

namespace Go.Proofs.Ytcjgdfnbjbboeaa
open Ieee

end Go.Proofs.Ytcjgdfnbjbboeaa

namespace Go.Proofs.Ytcjgdfnbjbboeaa
open Go.ChangeShapes Go.WideShapes Go.ChangeAt Go.RowKit
open Ieee

def wide (b : Int) : Nat := FloatKind.f64.encode (FloatKind.f32.decode (pat32 b))

def W (x : Nat) : Nat := FloatKind.f64.encode (FloatKind.f32.decode x)

end Go.Proofs.Ytcjgdfnbjbboeaa

namespace Go.Proofs.Ytcjgdfnbjbboeaa
open Go.ChangeShapes Go.WideShapes Go.ChangeAt Go.RowKit
open Ieee

end Go.Proofs.Ytcjgdfnbjbboeaa

namespace Go.Proofs.Ytcjgdfnbjbboeaa
set_option linter.unusedVariables false
set_option linter.unusedSimpArgs false

def rv (c r : Nat) : Nat := if r < c then r else (c + r % c) * 2 ^ (r / c - 1)
/- against a common place s below all -/
/- what rounding asks: the place of the last bit that is kept, what is kept, the bit behind it, and whether there is more -/
structure Cutz (c D V k Q H F : Nat) (od hf rt : Bool) : Prop where
  two : Q = 2 * H
  pos : 0 < H
  kq : V / Q = k
  low : rv c F * D = k * Q
  high : rv c (F + 1) * D = (k + 1) * Q
  od : od = decide (k % 2 = 1)
  fod : F % 2 = k % 2
  hf : hf = decide (H ≤ V % Q)
  rt : rt = decide (V % Q % H ≠ 0)

/- what a cut tells, by values alone -/
theorem Cutz.rem {c D V k Q H F : Nat} {od hf rt : Bool} (h : Cutz c D V k Q H F od hf rt) : V = rv c F * D + V % Q ∧ rv c (F + 1) * D = rv c F * D + Q ∧ V % Q < Q := by
  have h1 := Nat.div_add_mod V Q
  have h2 : V % Q < Q := Nat.mod_lt _ (by have := h.two; have := h.pos; omega)
  rw [h.kq] at h1
  rw [h.low, h.high, Nat.add_mul, Nat.one_mul, Nat.mul_comm k Q]
  omega
theorem half_rest (r H : Nat) (hH : 0 < H) (h2 : r < 2 * H) : (H ≤ r ∨ r % H ≠ 0) ↔ r ≠ 0 := by
  by_cases h : r < H
  · rw [Nat.mod_eq_of_lt h]; omega
  · constructor
    · intro _; omega
    · intro _; left; omega
theorem Cutz.cut {c D V k Q H F : Nat} {od hf rt : Bool} (h : Cutz c D V k Q H F od hf rt) : (hf || rt) = decide (V ≠ rv c F * D) := by
  obtain ⟨h1, h2, h3⟩ := h.rem
  rw [h.hf, h.rt, ← Bool.decide_or]
  congr 1
  apply propext
  rw [half_rest (V % Q) H h.pos (by rw [← h.two]; exact h3)]
  omega
/- a finite one's parts -/
end Go.Proofs.Ytcjgdfnbjbboeaa
