/- Regions that draw their order, where two or three operations that write or make memory may come up at once. For the law's walk of DataRows: two lists that a call tells, two boxes for them; the book. -/
import Derived.Test.YtcjgdfnbjbboeaaWr46
import Derived.Test.YtcjgdfnbjbboeaaWr50
namespace Go.Proofs.Ytcjgdfnbjbboeaa
open Go
set_option linter.unusedVariables false

section
variable {P : Program} {ops : Array Oper} {Q : Exit → Act → World → Prop} {md : Region.Mode} {S T : World → Prop} {D : List Nat}
/-- what is to be shown where operation i comes next -/
abbrev NextT (P : Program) (md : Region.Mode) (ops : Array Oper) (Q : Exit → Act → World → Prop) (S T : World → Prop) (D : List Nat) (fuel : Nat) (listed : Array Bool) (a : Act) (w : World) (i : Nat) (o : Oper) : Prop :=
  ∀ K' : Act → World → Prop, Shut (∀ a w, S w → T w → (S w → T w → wpAnyT P md ops Q S T D fuel (listed.setIfInBounds i true) a w) → K' a w) → if Region.wanted o (yielded ops a.tmps) = true then Oper.wp P o a w K' Q else K' (a.put o.dst undef) w
theorem wpAnyT_two {i j : Nat} {o o' : Oper} {fuel : Nat} {listed : Array Bool} {a : Act} {w : World} (hr : Region.ready md ops listed = [i, j]) (ho : ops[i]? = some o) (ho' : ops[j]? = some o')
    (h : NextT P md ops Q S T D fuel listed a w i o) (h' : NextT P md ops Q S T D fuel listed a w j o') :
    wpAnyT P md ops Q S T D (fuel + 1) listed a w := by
  refine ⟨fun h0 => (by rw [h0] at hr; cases hr), fun k hk => ?_⟩
  rw [hr] at hk
  rcases List.mem_cons.1 hk with rfl | hk
  · exact wpOp_step ho (fun K' hK => h K' (fun a w hS hT hW => hK a w ⟨⟨fun _ => hS, hT⟩, hW hS hT⟩))
  · obtain rfl := List.mem_singleton.1 hk
    exact wpOp_step ho' (fun K' hK => h' K' (fun a w hS hT hW => hK a w ⟨⟨fun _ => hS, hT⟩, hW hS hT⟩))
theorem wpAnyT_three {i j m : Nat} {o o' o'' : Oper} {fuel : Nat} {listed : Array Bool} {a : Act} {w : World} (hr : Region.ready md ops listed = [i, j, m]) (ho : ops[i]? = some o) (ho' : ops[j]? = some o') (ho'' : ops[m]? = some o'')
    (h : NextT P md ops Q S T D fuel listed a w i o) (h' : NextT P md ops Q S T D fuel listed a w j o') (h'' : NextT P md ops Q S T D fuel listed a w m o'') :
    wpAnyT P md ops Q S T D (fuel + 1) listed a w := by
  refine ⟨fun h0 => (by rw [h0] at hr; cases hr), fun k hk => ?_⟩
  rw [hr] at hk
  rcases List.mem_cons.1 hk with rfl | hk
  · exact wpOp_step ho (fun K' hK => h K' (fun a w hS hT hW => hK a w ⟨⟨fun _ => hS, hT⟩, hW hS hT⟩))
  · rcases List.mem_cons.1 hk with rfl | hk
    · exact wpOp_step ho' (fun K' hK => h' K' (fun a w hS hT hW => hK a w ⟨⟨fun _ => hS, hT⟩, hW hS hT⟩))
    · obtain rfl := List.mem_singleton.1 hk
      exact wpOp_step ho'' (fun K' hK => h'' K' (fun a w hS hT hW => hK a w ⟨⟨fun _ => hS, hT⟩, hW hS hT⟩))
/-- one alone, which is not late -/
theorem wpAnyT_one {i : Nat} {o : Oper} {fuel : Nat} {listed : Array Bool} {a : Act} {w : World} (hr : Region.ready md ops listed = [i]) (ho : ops[i]? = some o) (h : NextT P md ops Q S T D fuel listed a w i o) :
    wpAnyT P md ops Q S T D (fuel + 1) listed a w := by
  refine ⟨fun h0 => (by rw [h0] at hr; cases hr), fun k hk => ?_⟩
  rw [hr] at hk
  obtain rfl := List.mem_singleton.1 hk
  exact wpOp_step ho (fun K' hK => h K' (fun a w hS hT hW => hK a w ⟨⟨fun _ => hS, hT⟩, hW hS hT⟩))
end
end Go.Proofs.Ytcjgdfnbjbboeaa

namespace Go.Proofs.Ytcjgdfnbjbboeaa
open Go.ChangeShapes Go.WideShapes Go.ChangeAt Go.RowKit
set_option linter.unusedVariables false
set_option linter.unusedSimpArgs false

theorem Bq.belowH {w w' : World} {b H : Nat} {vs : List Value} (h : Bq w b vs) (k : Below H w w') (hb : b < H) : Bq w' b vs :=
  ⟨fun i v e => (k.cell hb).trans (h.c i v e), fun o => (World.frozen?_of_block (a := ⟨b, o, none⟩) (k.block b hb)).trans (h.fz o), Nat.lt_of_lt_of_le h.lt k.size⟩
theorem Own.belowH {w w' : World} {g cap H : Nat} {L : List Int} (h : Own w g cap L) (k : Below H w w') (hb : g < H) : Own w' g cap L := by
  obtain ⟨cur, hg, r⟩ := h
  exact ⟨cur, (k.block g hb).trans hg, r⟩
theorem Bq.gs {S : List Nat} {w w' : World} {b : Nat} {vs : List Value} (h : Bq w b vs) (k : Gs S w w') (hn : b ∉ S) : Bq w' b vs :=
  ⟨fun i v e => (k.cell b i h.lt hn).trans (h.c i v e), fun o => (k.frozen _).trans (h.fz o), Nat.lt_of_lt_of_le h.lt k.size⟩
theorem Gs.belowH {S : List Nat} {w w' : World} {H : Nat} (k : Gs S w w') (hS : ∀ b ∈ S, H ≤ b) (hH : H ≤ w.heap.size) : Below H w w' :=
  ⟨k.os, k.tape, k.output, k.size, fun i hi => k.block i (by omega) (fun hm => by have := hS i hm; omega)⟩
/-- two lists that a call tells: where they lie -/
def AG (ps : List Int → List Int → Prop) (lo hi : Nat) (W : World) (a : Option Addr) (p kl : Nat) (a' : Option Addr) (p' kl' : Nat) : Prop :=
  ∃ K K' : List Int, K.length = kl ∧ K'.length = kl' ∧ ps K K' ∧ Ew W a p K ∧ Ew W a' p' K' ∧ (∀ b ∈ eb a, lo ≤ b ∧ b < hi) ∧ ∀ b ∈ eb a', lo ≤ b ∧ b < hi
theorem AG.below {ps : List Int → List Int → Prop} {lo hi : Nat} {W W' : World} {a : Option Addr} {p kl : Nat} {a' : Option Addr} {p' kl' : Nat} (h : AG ps lo hi W a p kl a' p' kl') (k : Below W.heap.size W W') : AG ps lo hi W' a p kl a' p' kl' := by
  obtain ⟨K, K', h1, h2, h3, h4, h5, h6, h7⟩ := h
  exact ⟨K, K', h1, h2, h3, h4.below k, h5.below k, h6, h7⟩
theorem ew_far4 {lo hi : Nat} {W : World} {a : Option Addr} {p : Nat} {K : List Int} (h : Ew W a p K) (hb : ∀ b ∈ eb a, lo ≤ b ∧ b < hi) {B : Nat} (hB : B < lo ∨ hi ≤ B) (v0 v1 v2 v3 : Value) : Ew (st4w W B v0 v1 v2 v3) a p K := by
  have q : ∀ b ∈ eb a, b ≠ B := fun b h => by have := hb b h; omega
  exact ew_far (p := ⟨B, 3, none⟩) (ew_far (p := ⟨B, 2, none⟩) (ew_far (p := ⟨B, 1, none⟩) (ew_far (p := ⟨B, 0, none⟩) h q v0) q v1) q v2) q v3
theorem AG.far4 {ps : List Int → List Int → Prop} {lo hi : Nat} {W : World} {a : Option Addr} {p kl : Nat} {a' : Option Addr} {p' kl' : Nat} (h : AG ps lo hi W a p kl a' p' kl') {B : Nat} (hB : B < lo ∨ hi ≤ B) (v0 v1 v2 v3 : Value) : AG ps lo hi (st4w W B v0 v1 v2 v3) a p kl a' p' kl' := by
  obtain ⟨K, K', h1, h2, h3, h4, h5, h6, h7⟩ := h
  exact ⟨K, K', h1, h2, h3, ew_far4 h4 h6 hB _ _ _ _, ew_far4 h5 h7 hB _ _ _ _, h6, h7⟩
/-- what the program's two lists are besides -/
def P8 (X : List Int → List Int → Prop) (lo hi : Nat) (a : Option Addr) (p : Nat) (a' : Option Addr) (p' : Nat) (K K' : List Int) : Prop :=
  X K K' ∧ K.length ≤ 4096 ∧ K'.length ≤ 4096 ∧ (a = none → p = 0) ∧ (a' = none → p' = 0) ∧ ∃ Hm, lo ≤ Hm ∧ Hm ≤ hi ∧ (∀ b ∈ eb a, lo ≤ b ∧ b < Hm) ∧ ∀ b ∈ eb a', Hm ≤ b ∧ b < hi
theorem SR.ag {X : List Int → List Int → Prop} {H : Nat} {w' : World} {a : Option Addr} {p : Nat} {K : List Int} {a' : Option Addr} {p' : Nat} {K' : List Int} (h : SR H w' a p K a' p' K') (hX : X K K') : AG (P8 X H w'.heap.size a p a' p') H w'.heap.size w' a p K.length a' p' K'.length := by
  obtain ⟨h1, h2, h3, h4, h5, h6, Hm, g1, g2, g3, g4⟩ := h
  exact ⟨K, K', rfl, rfl, ⟨hX, h5, h6, h3, h4, Hm, g1, g2, g3, g4⟩, h1, h2, fun b hb => ⟨(g3 b hb).1, Nat.lt_of_lt_of_le (g3 b hb).2 g2⟩, fun b hb => ⟨Nat.le_trans g1 (g4 b hb).1, (g4 b hb).2⟩⟩
theorem ew_lt {u : World} {a : Option Addr} {c : Nat} {L : List Int} (h : Ew u a c L) : ∀ b ∈ eb a, b < u.heap.size := fun b hb => by
  rcases h with ⟨rfl, -⟩ | ⟨g, rfl, ho⟩
  · simp [eb] at hb
  · have e : b = g := by simpa [eb] using hb
    rw [e]; exact ho.lt
theorem SD.ag {X : List Int → List Int → Prop} {H : Nat} {w' : World} {a : Option Addr} {p : Nat} {K : List Int} {a' : Option Addr} {p' : Nat} {K' : List Int} (h : SD H w' a p K a' p' K') (hX : X K K') : AG X H w'.heap.size w' a p K.length a' p' K'.length := by
  obtain ⟨h1, h2, -, -, h5, h6⟩ := h
  exact ⟨K, K', rfl, rfl, hX, h1, h2, fun b hb => ⟨h5 b hb, ew_lt h1 b hb⟩, fun b hb => ⟨h6 b hb, ew_lt h2 b hb⟩⟩
theorem ew_sl {u : World} {a : Option Addr} {c : Nat} {L : List Int} (h : Ew u a c L) (hc : a = none → c ≤ maxLen) : Sl u (.slice a L.length c) L := by
  rcases h with ⟨rfl, rfl⟩ | ⟨g, rfl, ho⟩
  · exact ⟨none, c, rfl, Nat.zero_le _, hc rfl, fun h => absurd rfl h⟩
  · exact ho.sl
theorem ew_own {B : Nat} {w w' : World} {a : Option Addr} {c : Nat} {K : List Int} (h : Ew w a c K) (ho : ∀ x d M, B < x → Own w x d M → Own w' x d M) (hb : ∀ b ∈ eb a, B < b) : Ew w' a c K := by
  rcases h with h | ⟨g, rfl, h⟩
  · exact .inl h
  · exact .inr ⟨g, rfl, ho g _ _ (hb g (by simp [eb])) h⟩
abbrev PXT := Int → Int → Int → Int → Int → Option Addr → Nat → Option Addr → Nat → Nat → Nat → List Int → List Int → Prop
/-- two boxes with what a call told -/
def TB2 (PX : PXT) (U : World) (b b' : Nat) (q m cc cc' nn : Int) (a : Option Addr) (p k : Nat) (a' : Option Addr) (p' k' : Nat) (Y : World) : Prop :=
  U.heap.size ≤ b ∧ U.heap.size ≤ b' ∧ b ≠ b' ∧ Bq Y b [.int .i64 m, .int .i64 cc, .int .i64 nn, .slice a k p] ∧ Bq Y b' [.int .i64 m, .int .i64 cc', .int .i64 nn, .slice a' k' p'] ∧ Below U.heap.size U Y ∧
  ∃ lo hi, U.heap.size ≤ lo ∧ hi ≤ Y.heap.size ∧ AG (PX q m cc cc' nn a p a' p' lo hi) lo hi Y a p k a' p' k'
theorem via2 {G : Prop} (Fact F : Nat → Nat → Int → Int → Int → Int → Int → Option Addr → Nat → Nat → Option Addr → Nat → Nat → World → Prop) (h1 : Hid (∀ b b' q m cc cc' nn a p k a' p' k' Y, Fact b b' q m cc cc' nn a p k a' p' k' Y → F b b' q m cc cc' nn a p k a' p' k' Y) → G) (h2 : ∀ b b' q m cc cc' nn a p k a' p' k' Y, Fact b b' q m cc cc' nn a p k a' p' k' Y → F b b' q m cc cc' nn a p k a' p' k' Y) : G := h1 (hidq h2)
end Go.Proofs.Ytcjgdfnbjbboeaa
