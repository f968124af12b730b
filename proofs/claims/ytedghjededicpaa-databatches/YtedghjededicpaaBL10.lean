/- The laws' book of lists: Apart, of a book with lists of ints alone. -/
import Derived.Test.YtedghjededicpaaBL9
import Derived.Test.YtedghjededicpaaBL8
import Derived.Test.YtedghjededicpaaBK5
namespace Go.Proofs.Ytedghjededicpaa
open Go.ChangeShapes Go.WideShapes Go.ChangeAt Go.RowKit
set_option linter.unusedVariables false
set_option linter.unusedSimpArgs false

theorem ownv_at {w : World} {g cap : Nat} {e : TypeId} {n : Nat} {f : Nat → Value} (h : OwnV w g cap e ((List.range n).map f)) (j : Nat) (hj : j < n) : w.cell? ⟨g, j, none⟩ = some (f j) := h.cell j _ (by rw [List.getElem?_map, List.getElem?_range hj]; rfl)
theorem RowI.rll {u : World} {B n : Nat} {a : Nat → Option Addr} {c m : Nat → Nat} {v : Value} {L : Nat → List Int} (h : RowI u B n a c m v) (hl : ∀ j, j < n → (L j).length = m j) (ho : ∀ j, j < n → Ew u (a j) (c j) (L j)) (h0 : ∀ j, j < n → a j = none → c j = 0) : Rll u v n a c L := by
  rcases h with h | ⟨g, cap, h1, h2, h3⟩
  · exact .inl h
  · refine .inr ⟨g, cap, h1, fun j hj => ⟨?_, (ho j hj).slx (h0 j hj)⟩⟩
    rw [hl j hj]
    exact ownv_at h3 j hj
theorem Bok.lls {u : World} {B n : Nat} {a : Nat → Option Addr} {c m : Nat → Nat} {a' : Nat → Option Addr} {c' : Nat → Nat} {L : Nat → List Int} {vW : Value} {g cap : Nat} (h : Bok u B n a c m a' c' L (.slice (some ⟨g, 0, none⟩) n cap) vW) (hn : 0 < n) : Lls u g n a c m L := by
  obtain ⟨g', cap', e, h2, h3⟩ : ∃ g' cap', Value.slice (some ⟨g, 0, none⟩) n cap = .slice (some ⟨g', 0, none⟩) n cap' ∧ B < g' ∧ OwnV u g' cap' 23 ((List.range n).map fun j => Value.slice (a j) (m j) (c j)) := by
    rcases h.rI with ⟨h1, -⟩ | h1
    · omega
    · exact h1
  simp only [Value.slice.injEq, Option.some.injEq, Addr.mk.injEq] at e
  obtain ⟨⟨rfl, -⟩, -, rfl⟩ := e
  refine ⟨fun j hj => ownv_at h3 j hj, h.own, h.len, h.ap, fun j hj hm => ?_⟩
  obtain ⟨N, M, ho⟩ := (h.own j hj).eb g hm
  exact own_two ho h3 rfl
theorem ebs_mem {n : Nat} {a : Nat → Option Addr} {b : Nat} (h : b ∈ ebs n a) : ∃ j, j < n ∧ b ∈ eb (a j) := by
  obtain ⟨j, h1, h2⟩ := List.mem_flatMap.1 h
  exact ⟨j, by simpa using h1, h2⟩
theorem Gout.kept {H0 : Nat} {a : Nat → Option Addr} {m : Nat → Nat} {i : Nat} {ov : Value} {u u' : World} {gb cb : Nat → Nat} (h : Gout H0 a m i ov u gb cb) (k : Kept u u') : Gout H0 a m i ov u' gb cb := by
  refine ⟨?_, fun j hj => ⟨(h.el j hj).1.kept k, (h.el j hj).2⟩⟩
  rcases h.row with h1 | ⟨go, co, h1, h2, h3⟩
  · exact .inl h1
  · exact .inr ⟨go, co, h1, h2, h3.kept k⟩
theorem Gout.rll {H0 : Nat} {a : Nat → Option Addr} {m : Nat → Nat} {n : Nat} {ov : Value} {u : World} {gb cb : Nat → Nat} (h : Gout H0 a m n ov u gb cb) : Rll u ov n (fun j => some ⟨gb j, 0, none⟩) cb (fun j => mkl (j : Int) 0 (m j + 96)) := by
  rcases h.row with h1 | ⟨go, co, h1, h2, h3⟩
  · exact .inl h1
  · refine .inr ⟨go, co, h1, fun j hj => ⟨?_, (h.el j hj).1.sl⟩⟩
    rw [mkl_len]
    exact ownv_at h3 j hj
theorem book_apart (B n : Nat) (hn0 : 0 < n) (hn : n ≤ 400) (a : Nat → Option Addr) (c m : Nat → Nat) (a' : Nat → Option Addr) (c' : Nat → Nat) (L : Nat → List Int) (vI vW : Value) (w : World) (hm : ∀ j, j < n → m j ≤ 900000) (h : Bok w B n a c m a' c' L vI vW) :
    Calls Try.prog 13 #[.pointer (some ⟨B, 0, none⟩)] w fun e w' => e = .returned (.bool true) ∧ ∃ W', Gs (B :: ebs n a) w W' ∧ Kept W' w' := by
  obtain ⟨g, cap, rfl⟩ : ∃ g cap, vI = .slice (some ⟨g, 0, none⟩) n cap := by
    rcases h.rI with ⟨h1, -⟩ | ⟨g, cap, h1, -⟩
    · omega
    · exact ⟨g, cap, h1⟩
  have hB : B ∉ ebs n a := fun hb => by
    obtain ⟨j, h1, h2⟩ := ebs_mem hb
    exact h.lo j h1 B h2 rfl
  have hl := h.lls hn0
  have hg : g ∉ ebs n a := fun hb => by
    obtain ⟨j, h1, h2⟩ := ebs_mem hb
    exact hl.out j h1 h2
  have hgw : g < w.heap.size := World.block_lt_of_cell? _ _ (hl.cell 0 hn0)
  have hlt : ∀ b ∈ ebs n a, b < w.heap.size := fun b hb => by
    obtain ⟨j, h1, h2⟩ := ebs_mem hb
    obtain ⟨N, M, ho⟩ := (h.own j h1).eb b h2
    exact ho.lt
  have hne : ∀ {u u' : World}, Ne7 u B → B < u.heap.size → Gs (ebs n a) u u' → Ne7 u' B := fun {u u'} q hu k => by
    have e := fun o => k.cell B o hu hB
    exact ⟨(e 2).trans q.c2, (e 4).trans q.c4, (e 6).trans q.c6, (e 8).trans q.c8, (e 10).trans q.c10, (e 12).trans q.c12, (e 14).trans q.c14⟩
  have K := apart_walk B (.slice (some ⟨g, 0, none⟩) n cap) (fun u => Ne7 u B ∧ u.cell? ⟨B, 0, none⟩ = some (.slice (some ⟨g, 0, none⟩) n cap) ∧ Lls u g n a c m (fun j => mkl (j : Int) 0 (m j)) ∧ Gs (ebs n a) w u)
    (fun v u => Ne7 u B ∧ u.cell? ⟨B, 0, none⟩ = some (.slice (some ⟨g, 0, none⟩) n cap) ∧ Lls u g n a c m (fun j => mkl (j : Int) 0 (m j)) ∧ (∃ H0 gb cb, Gout H0 a m n v u gb cb) ∧ Gs (ebs n a) w u) w h.ne (fun u q => q.1) (fun v u q => ⟨q.1, q.2.1⟩)
    (fun v u u' q k => ⟨q.1.kept k, (k.below.cell (p := ⟨B, 0, none⟩) (World.block_lt_of_cell? _ _ q.2.1)).trans q.2.1, q.2.2.1.kept k, (by
      obtain ⟨H0, gb, cb, h1⟩ := q.2.2.2.1
      exact ⟨H0, gb, cb, h1.kept k⟩), q.2.2.2.2.kept k⟩)
    (stillInts_any B _ _ n (by omega) a a' c c' L (fun j hj => by rw [h.len j hj]; have := hm j hj; omega) w h.c0 h.c1 (h.rI.rll h.len h.own h.cn) (h.rW.rll h.len h.own' h.cn'))
    (fun u k => by
      have hu := h.kept k
      refine (putInts_any B g cap n (by omega) a c m L u hu.c0 hB hg (fun b hb => Nat.lt_of_lt_of_le (hlt b hb) k.below.size) (fun j hj => by have := hm j hj; omega) (hu.lls hn0)).mono ?_
      rintro e w' ⟨rfl, h1, h2⟩
      exact ⟨rfl, hne hu.ne hu.lt h2, (h2.cell B 0 hu.lt hB).trans hu.c0, h1, (k.gs _).trans h2⟩)
    (fun u q => by
      obtain ⟨q1, q2, q3, q4⟩ := q
      refine (growInts_any B g cap n (by omega) a c m u q2 hB hg (Nat.lt_of_lt_of_le hgw q4.size) (fun b hb => Nat.lt_of_lt_of_le (hlt b hb) q4.size) hm h.cn q3).mono ?_
      rintro e w' ⟨v, rfl, ⟨gb, cb, h1⟩, h2, h3⟩
      have hu := World.block_lt_of_cell? _ _ q2
      exact ⟨v, rfl, hne q1 hu h3, (h3.cell B 0 hu hB).trans q2, h2, ⟨_, gb, cb, h1⟩, q4.trans h3⟩)
    (fun v u x q hx => by
      obtain ⟨q1, q2, q3, ⟨H0, gb, cb, q4⟩, q5⟩ := q
      rcases hx with rfl | rfl
      · refine markedInts_any _ n (by omega) a c (fun j => mkl (j : Int) 0 (m j)) (fun j hj => ⟨by rw [mkl_len], by rw [mkl_len]; have := hm j hj; omega⟩) u (.inr ⟨g, cap, rfl, fun j hj => ⟨?_, (q3.own j hj).slx (h.cn j hj)⟩⟩)
        rw [mkl_len]
        exact q3.cell j hj
      · exact markedInts_any _ n (by omega) _ cb (fun j => mkl (j : Int) 0 (m j + 96)) (fun j hj => ⟨by rw [mkl_len], by rw [mkl_len]; have := hm j hj; omega⟩) u q4.rll)
  refine K.mono ?_
  rintro e w' ⟨rfl, v, q⟩
  exact ⟨rfl, w', q.2.2.2.2.mono (fun b hb => List.mem_cons_of_mem _ hb), Kept.refl _⟩
end Go.Proofs.Ytedghjededicpaa
