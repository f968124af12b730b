/- The laws' book of lists: one list more. -/
import Derived.Test.YtedghjededicpaaBL7
import Derived.Test.YtedghjededicpaaBK3
namespace Go.Proofs.Ytedghjededicpaa
open Go.ChangeShapes Go.WideShapes Go.ChangeAt Go.RowKit
set_option linter.unusedVariables false
set_option linter.unusedSimpArgs false

def up {α : Type} (f : Nat → α) (n : Nat) (x : α) (j : Nat) : α := if j = n then x else f j
theorem up_eq {α : Type} (f : Nat → α) (n : Nat) (x : α) : up f n x n = x := if_pos rfl
theorem up_lt {α : Type} (f : Nat → α) (n : Nat) (x : α) {j : Nat} (h : j < n) : up f n x j = f j := if_neg (by omega)
/- a row of lists, behind the book -/
def RowI (u : World) (B n : Nat) (a : Nat → Option Addr) (c m : Nat → Nat) (v : Value) : Prop := (n = 0 ∧ v = .slice none 0 0) ∨ ∃ g cap, v = .slice (some ⟨g, 0, none⟩) n cap ∧ B < g ∧ OwnV u g cap 23 ((List.range n).map fun j => Value.slice (a j) (m j) (c j))
def rb (v : Value) : List Nat := match v with
  | .slice (some x) _ _ => [x.block]
  | _ => []
theorem RowI.form {u : World} {B n : Nat} {a : Nat → Option Addr} {c m : Nat → Nat} {v : Value} (h : RowI u B n a c m v) : ∃ ao co, v = .slice ao n co := by
  rcases h with ⟨rfl, h1⟩ | ⟨g, cap, h1, -⟩
  · exact ⟨_, _, h1⟩
  · exact ⟨_, _, h1⟩
theorem RowI.gs {S : List Nat} {u u' : World} {B n : Nat} {a : Nat → Option Addr} {c m : Nat → Nat} {v : Value} (h : RowI u B n a c m v) (k : Gs S u u') (hn : ∀ b ∈ rb v, b ∉ S) : RowI u' B n a c m v := by
  rcases h with h | ⟨g, cap, h1, h2, h3⟩
  · exact .inl h
  · exact .inr ⟨g, cap, h1, h2, h3.gs k (hn g (by rw [h1]; simp [rb]))⟩
theorem RowI.lt {u : World} {B n : Nat} {a : Nat → Option Addr} {c m : Nat → Nat} {v : Value} (h : RowI u B n a c m v) : ∀ b ∈ rb v, B < b ∧ b < u.heap.size := fun b hb => by
  rcases h with ⟨-, h1⟩ | ⟨g, cap, h1, h2, h3⟩
  · rw [h1] at hb; simp [rb] at hb
  · rw [h1] at hb
    have : b = g := by simpa [rb] using hb
    rw [this]
    exact ⟨h2, h3.lt⟩
theorem RowI.ne {u : World} {B n : Nat} {a : Nat → Option Addr} {c m : Nat → Nat} {v : Value} (h : RowI u B n a c m v) {x d : Nat} {L : List Int} (ho : Own u x d L) : x ∉ rb v := fun hb => by
  rcases h with ⟨-, h1⟩ | ⟨g, cap, h1, h2, h3⟩
  · rw [h1] at hb; simp [rb] at hb
  · rw [h1] at hb
    have : x = g := by simpa [rb] using hb
    exact own_two ho h3 this
theorem row_app {u : World} {B n : Nat} {a : Nat → Option Addr} {c m : Nat → Nat} {v : Value} (h : RowI u B n a c m v) (hn : n ≤ 900) (hB : B < u.heap.size) (al : Option Addr) (ml cl : Nat) :
    ∃ g cap w', (∀ ty, (Builtin.append_ #[36, 36] ty #[v, .slice (some ⟨u.heap.size, 0, none⟩) 1 1]).run Try.prog (u.alloc (.cells #[.slice al ml cl] 23)) = .ok (.slice (some ⟨g, 0, none⟩) (n + 1) cap) w') ∧ RowI w' B (n + 1) (up a n al) (up c n cl) (up m n ml) (.slice (some ⟨g, 0, none⟩) (n + 1) cap) ∧ (u.heap.size ≤ g ∨ g ∈ rb v) ∧ Gs (rb v) u w' := by
  have k0 : Kept u (u.alloc (.cells #[.slice al ml cl] 23)) := (Kept.refl u).alloc _ _
  obtain ⟨olds, hol⟩ : ∃ olds, olds = (List.range n).map fun j => Value.slice (a j) (m j) (c j) := ⟨_, rfl⟩
  have hlen : olds.length = n := by rw [hol, List.length_map, List.length_range]
  have hR0 : Rw (u.alloc (.cells #[.slice al ml cl] 23)) v 23 olds := by
    rcases h with ⟨h1, h2⟩ | ⟨go, co, h1, h2, h3⟩
    · subst h1
      exact .inl ⟨by rw [hol]; rfl, h2⟩
    · rw [← hol] at h3
      exact .inr ⟨go, co, by rw [h1, hlen], h3.gs (k0.gs []) (by simp)⟩
  obtain ⟨go, co, w', hr, hO, hk⟩ := app_gen 36 23 blli_under (.slice none 0 0) 24 bli_info (by simp [Value.cells]) (by omega) (u.alloc (.cells #[.slice al ml cl] 23)) v olds [.slice al ml cl] hR0 ⟨u.heap.size, 0, none⟩ 1 1 rfl (fun j v hj => by
    rw [Addr.add_lit, Nat.zero_add]
    rcases j with _ | j
    · cases hj; simp [go_sem]
    · simp at hj) (fun v hv => by simp at hv; rw [hv]; rfl) (by omega) (by omega)
  rw [hlen] at hr
  have hg : (u.heap.size ≤ go ∨ go ∈ rb v) ∧ Gs (rb v) u w' := by
    rcases hk with ⟨h1, k⟩ | ⟨h1, k⟩
    · exact ⟨.inl (by rw [h1]; simp), (k0.trans k).gs _⟩
    · have hv : rb v = [go] := by rw [h1]; rfl
      exact ⟨.inr (by rw [hv]; simp), by rw [hv]; exact (k0.gs _).trans k.gs⟩
  have hBg : B < go := by
    rcases hg.1 with h1 | h1
    · omega
    · exact (h.lt go h1).1
  refine ⟨go, co, w', hr, .inr ⟨go, co, rfl, hBg, ?_⟩, hg⟩
  rw [List.range_succ, List.map_append]
  have e1 : ((List.range n).map fun j => Value.slice (up a n al j) (up m n ml j) (up c n cl j)) = olds := by
    rw [hol]
    refine List.map_congr_left (fun j hj => ?_)
    rw [List.mem_range] at hj
    rw [up_lt _ _ _ hj, up_lt _ _ _ hj, up_lt _ _ _ hj]
  rw [e1]
  simp only [List.map_cons, List.map_nil, up_eq]
  exact hO
/- the book, with n lists of ints and none of another kind -/
structure Bok (u : World) (B n : Nat) (a : Nat → Option Addr) (c m : Nat → Nat) (a' : Nat → Option Addr) (c' : Nat → Nat) (L : Nat → List Int) (vI vW : Value) : Prop where
  c0 : u.cell? ⟨B, 0, none⟩ = some vI
  c1 : u.cell? ⟨B, 1, none⟩ = some vW
  fz : ∀ o, u.frozen? ⟨B, o, none⟩ = false
  ne : Ne7 u B
  rI : RowI u B n a c m vI
  rW : RowI u B n a' c' m vW
  ap0 : ∀ b ∈ rb vI, b ∉ rb vW
  own : ∀ j, j < n → Ew u (a j) (c j) (L j)
  own' : ∀ j, j < n → Ew u (a' j) (c' j) (L j)
  len : ∀ j, j < n → (L j).length = m j
  cn : ∀ j, j < n → a j = none → c j = 0
  cn' : ∀ j, j < n → a' j = none → c' j = 0
  ap : ∀ j k, j < n → k < n → j ≠ k → ∀ b ∈ eb (a j), b ∉ eb (a k)
  lo : ∀ j, j < n → ∀ b ∈ eb (a j), b ≠ B
  lo' : ∀ j, j < n → ∀ b ∈ eb (a' j), b ≠ B
theorem Bok.lt {u : World} {B n : Nat} {a : Nat → Option Addr} {c m : Nat → Nat} {a' : Nat → Option Addr} {c' : Nat → Nat} {L : Nat → List Int} {vI vW : Value} (h : Bok u B n a c m a' c' L vI vW) : B < u.heap.size := World.block_lt_of_cell? _ _ h.c0
theorem Ew.kept {u u' : World} {a : Option Addr} {c : Nat} {L : List Int} (h : Ew u a c L) (k : Kept u u') : Ew u' a c L := h.gs (k.gs []) (fun _ _ h => by cases h)
theorem Bok.kept {u u' : World} {B n : Nat} {a : Nat → Option Addr} {c m : Nat → Nat} {a' : Nat → Option Addr} {c' : Nat → Nat} {L : Nat → List Int} {vI vW : Value} (h : Bok u B n a c m a' c' L vI vW) (k : Kept u u') : Bok u' B n a c m a' c' L vI vW :=
  ⟨(k.below.cell (p := ⟨B, 0, none⟩) h.lt).trans h.c0, (k.below.cell (p := ⟨B, 1, none⟩) h.lt).trans h.c1, fun o => (k.frozen _).trans (h.fz o), h.ne.kept k, h.rI.gs (k.gs []) (fun _ _ h => by cases h), h.rW.gs (k.gs []) (fun _ _ h => by cases h), h.ap0, fun j hj => (h.own j hj).kept k, fun j hj => (h.own' j hj).kept k, h.len, h.cn, h.cn', h.ap, h.lo, h.lo'⟩
theorem Ew.slx {u : World} {a : Option Addr} {c : Nat} {L : List Int} (h : Ew u a c L) (h0 : a = none → c = 0) : Sl u (.slice a L.length c) L := by
  rcases h with ⟨rfl, rfl⟩ | ⟨b, off, rfl, ho⟩
  · exact ⟨none, c, rfl, by simp, by rw [h0 rfl]; simp [maxLen], fun h => absurd rfl h⟩
  · exact ho.sl
theorem Ew.eb {u : World} {a : Option Addr} {c : Nat} {L : List Int} (h : Ew u a c L) : ∀ b ∈ eb a, ∃ N M, Own u b N M := fun b hb => by
  rcases h with ⟨rfl, -⟩ | ⟨x, off, rfl, N, M, ho, -⟩
  · simp [Go.Proofs.Ytedghjededicpaa.eb] at hb
  · have : b = x := by simpa [Go.Proofs.Ytedghjededicpaa.eb] using hb
    rw [this]
    exact ⟨N, M, ho⟩
theorem Ew.row {S : List Nat} {u u' : World} {a : Option Addr} {c : Nat} {L : List Int} (h : Ew u a c L) (k : Gs S u u') {B n : Nat} {a2 : Nat → Option Addr} {c2 m2 : Nat → Nat} {v : Value} (r : RowI u B n a2 c2 m2 v) (hS : ∀ b ∈ S, b = B ∨ b ∈ rb v) (hB : ∀ b ∈ Go.Proofs.Ytedghjededicpaa.eb a, b ≠ B) : Ew u' a c L := h.gs k (fun b hb hs => by
  obtain ⟨N, M, ho⟩ := h.eb b hb
  rcases hS b hs with h1 | h1
  · exact hB b hb h1
  · exact r.ne ho h1)
theorem cell_setb (w : World) (D o p : Nat) (v : Value) (h : ∃ x, w.cell? ⟨D, o, none⟩ = some x) : (w.setCell ⟨D, o, none⟩ v).cell? ⟨D, p, none⟩ = if p = o then some v else w.cell? ⟨D, p, none⟩ := by
  obtain ⟨x, hx⟩ := h
  by_cases hp : p = o
  · subst hp
    simp [go_sem, hx]
  · have hq : ¬ o = p := fun e => hp e.symm
    simp [go_sem, hp, hq]
theorem Ne7.set {u : World} {B : Nat} (h : Ne7 u B) (o : Nat) (ho : o < 2) (v : Value) (d : Value) (hd : u.cell? ⟨B, o, none⟩ = some d) : Ne7 (u.setCell ⟨B, o, none⟩ v) B := by
  have e : ∀ j, j ≠ o → (u.setCell ⟨B, o, none⟩ v).cell? ⟨B, j, none⟩ = u.cell? ⟨B, j, none⟩ := fun j hj => by
    rw [cell_setb _ _ _ _ _ ⟨d, hd⟩, if_neg hj]
  exact ⟨(e 2 (by omega)).trans h.c2, (e 4 (by omega)).trans h.c4, (e 6 (by omega)).trans h.c6, (e 8 (by omega)).trans h.c8, (e 10 (by omega)).trans h.c10, (e 12 (by omega)).trans h.c12, (e 14 (by omega)).trans h.c14⟩
set_option maxHeartbeats 4000000 in
set_option maxRecDepth 100000 in
theorem bookInts (B n : Nat) (hn : n < 400) (a : Nat → Option Addr) (c m : Nat → Nat) (a' : Nat → Option Addr) (c' : Nat → Nat) (L : Nat → List Int) (vI vW : Value) (w : World) (h : Bok w B n a c m a' c' L vI vW) (al : Option Addr) (cl : Nat) (Ll : List Int) (hl : Ll.length ≤ 1000000) (hE : Ew w al cl Ll) (h0 : al = none → cl = 0) (hap : ∀ j, j < n → ∀ b ∈ eb al, b ∉ eb (a j)) (hlo : ∀ b ∈ eb al, b ≠ B) :
    Calls Try.prog 11 #[.pointer (some ⟨B, 0, none⟩), .slice al Ll.length cl] w fun e w' => e = .returned (.tuple #[]) ∧ (∃ a2 c2 vI' vW', Bok w' B (n + 1) (up a n al) (up c n cl) (up m n Ll.length) a2 c2 (up L n Ll) vI' vW') ∧ (∀ x d M, x ≠ B → Own w x d M → Own w' x d M) ∧ Gs (B :: (rb vI ++ rb vW)) w w' := by
  obtain ⟨aI, cI, rfl⟩ := h.rI.form
  obtain ⟨aW, cW, rfl⟩ := h.rW.form
  have hBw := h.lt
  obtain ⟨g1, d1, w1, hr1, R1, hg1, G1⟩ := row_app h.rI (by omega) hBw al Ll.length cl
  have hBI : B ∉ rb (.slice aI n cI) := fun hb => by have := (h.rI.lt B hb).1; omega
  have hBW : B ∉ rb (.slice aW n cW) := fun hb => by have := (h.rW.lt B hb).1; omega
  obtain ⟨S, hS⟩ : ∃ S, S = B :: (rb (.slice aI n cI) ++ rb (.slice aW n cW)) := ⟨_, rfl⟩
  have sB : B ∈ S := by rw [hS]; simp
  have sI : ∀ b ∈ rb (.slice aI n cI), b ∈ S := fun b hb => by rw [hS]; simp [hb]
  have sW : ∀ b ∈ rb (.slice aW n cW), b ∈ S := fun b hb => by rw [hS]; simp [hb]
  obtain ⟨v1, hv1⟩ : ∃ v, v = Value.slice (some ⟨g1, 0, none⟩) (n + 1) d1 := ⟨_, rfl⟩
  obtain ⟨X, hX⟩ : ∃ X, X = w1.setCell ⟨B, 0, none⟩ (.slice (some ⟨g1, 0, none⟩) (n + 1) d1) := ⟨_, rfl⟩
  have e0 : w1.cell? ⟨B, 0, none⟩ = some (.slice aI n cI) := (G1.cell B 0 hBw hBI).trans h.c0
  have f0 : w1.frozen? ⟨B, 0, none⟩ = false := (G1.frozen _).trans (h.fz 0)
  have GX : Gs (B :: rb (.slice aI n cI)) w X := by rw [hX]; exact (G1.mono (fun b hb => List.mem_cons_of_mem _ hb)).setCell (.inl (by simp)) _
  have x1 : X.cell? ⟨B, 1, none⟩ = some (.slice aW n cW) := by
    rw [hX, cell_setb _ _ _ _ _ ⟨_, e0⟩, if_neg (by decide)]
    exact (G1.cell B 1 hBw hBI).trans h.c1
  have x0 : X.cell? ⟨B, 0, none⟩ = some (.slice (some ⟨g1, 0, none⟩) (n + 1) d1) := by rw [hX, cell_setb _ _ _ _ _ ⟨_, e0⟩, if_pos rfl]
  have xF : ∀ o, X.frozen? ⟨B, o, none⟩ = false := fun o => (GX.frozen _).trans (h.fz o)
  have xN : Ne7 X B := by
    rw [hX]
    refine Ne7.set ?_ 0 (by decide) _ _ e0
    have q := fun o => G1.cell B o hBw hBI
    exact ⟨(q 2).trans h.ne.c2, (q 4).trans h.ne.c4, (q 6).trans h.ne.c6, (q 8).trans h.ne.c8, (q 10).trans h.ne.c10, (q 12).trans h.ne.c12, (q 14).trans h.ne.c14⟩
  have xW : RowI X B n a' c' m (.slice aW n cW) := h.rW.gs GX (fun b hb hm => by
    rcases List.mem_cons.1 hm with h1 | h1
    · rw [h1] at hb; exact hBW hb
    · exact h.ap0 b h1 hb)
  have xE : Ew X al cl Ll := hE.row GX h.rI (fun b hb => List.mem_cons.1 hb) hlo
  have xI : RowI X B (n + 1) (up a n al) (up c n cl) (up m n Ll.length) (.slice (some ⟨g1, 0, none⟩) (n + 1) d1) := by
    rw [hX]
    refine R1.gs ((Gs.refl [B] w1).setCell (.inl (by simp)) _) (fun b hb hm => ?_)
    have := (R1.lt b hb).1
    have : b = B := by simpa using hm
    omega
  have hg1w : g1 ∉ rb (.slice aW n cW) ∧ B < g1 ∧ g1 < X.heap.size := by
    have h1 := R1.lt g1 (by simp [rb])
    refine ⟨fun hm => ?_, h1.1, ?_⟩
    · rcases hg1 with h2 | h2
      · have := (h.rW.lt g1 hm).2; omega
      · exact h.ap0 g1 h2 hm
    · rw [hX]; simpa using h1.2
  obtain ⟨Y, hY⟩ : ∃ Y, Y = X.drew := ⟨_, rfl⟩
  have kXY : Kept X Y := by rw [hY]; exact (Kept.refl X).drew
  obtain ⟨v2, w2, hr2, k2, hf2⟩ := app_nil Ll (by omega) (.slice al Ll.length cl) Y ((xE.kept kXY).slx h0)
  obtain ⟨a2, c2, rfl, E2, hlo2, h02⟩ : ∃ a2 c2, v2 = .slice a2 Ll.length c2 ∧ Ew w2 a2 c2 Ll ∧ (∀ b ∈ eb a2, Y.heap.size ≤ b) ∧ (a2 = none → c2 = 0) := by
    rcases hf2 with ⟨rfl, e⟩ | ⟨g2, d2, e, h1, h2⟩
    · exact ⟨none, 0, e, .inl ⟨rfl, rfl⟩, fun b hb => (by simp [eb] at hb), fun _ => rfl⟩
    · exact ⟨some ⟨g2, 0, none⟩, d2, e, .inr ⟨g2, 0, rfl, .of h2⟩, fun b hb => (by
        have : b = g2 := by simpa [eb] using hb
        omega), fun h => (by cases h)⟩
  have kX2 := kXY.trans k2
  have hBx : B < X.heap.size := World.block_lt_of_cell? _ _ x0
  have hX2 := kX2.below.size
  obtain ⟨g3, d3, w3, hr3, R3, hg3, G3⟩ := row_app (xW.gs (kX2.gs []) (fun _ _ h => by cases h)) (by omega) (Nat.lt_of_lt_of_le hBx hX2) a2 Ll.length c2
  have y1 : w3.cell? ⟨B, 1, none⟩ = some (.slice aW n cW) := (G3.cell B 1 (Nat.lt_of_lt_of_le hBx hX2) hBW).trans ((kX2.below.cell (p := ⟨B, 1, none⟩) hBx).trans x1)
  have y0 : w3.cell? ⟨B, 0, none⟩ = some (.slice (some ⟨g1, 0, none⟩) (n + 1) d1) := (G3.cell B 0 (Nat.lt_of_lt_of_le hBx hX2) hBW).trans ((kX2.below.cell (p := ⟨B, 0, none⟩) hBx).trans x0)
  have yF : ∀ o, w3.frozen? ⟨B, o, none⟩ = false := fun o => (G3.frozen _).trans ((kX2.frozen _).trans (xF o))
  have yN : Ne7 w3 B := by
    have q := fun o => G3.cell B o (Nat.lt_of_lt_of_le hBx hX2) hBW
    have z := xN.kept kX2
    exact ⟨(q 2).trans z.c2, (q 4).trans z.c4, (q 6).trans z.c6, (q 8).trans z.c8, (q 10).trans z.c10, (q 12).trans z.c12, (q 14).trans z.c14⟩
  obtain ⟨Z, hZ⟩ : ∃ Z, Z = w3.setCell ⟨B, 1, none⟩ (.slice (some ⟨g3, 0, none⟩) (n + 1) d3) := ⟨_, rfl⟩
  have G3Z : Gs (B :: rb (.slice aW n cW)) w2 Z := by rw [hZ]; exact (G3.mono (fun b hb => List.mem_cons_of_mem _ hb)).setCell (.inl (by simp)) _
  have GZ : Gs S w Z := (GX.mono (fun b hb => by
    rcases List.mem_cons.1 hb with h1 | h1
    · rw [h1]; exact sB
    · exact sI b h1)).trans ((kX2.gs _).trans (G3Z.mono (fun b hb => by
    rcases List.mem_cons.1 hb with h1 | h1
    · rw [h1]; exact sB
    · exact sW b h1)))
  have hfin : ∀ x d M, x ≠ B → Own w x d M → Own Z x d M := fun x d M hx ho => ho.gs GZ (fun hm => by
    rw [hS] at hm
    rcases List.mem_cons.1 hm with h1 | h1
    · exact hx h1
    · rcases List.mem_append.1 h1 with h2 | h2
      · exact h.rI.ne ho h2
      · exact h.rW.ne ho h2)
  have hEw : ∀ {x : Option Addr} {d : Nat} {M : List Int}, (∀ b ∈ eb x, b ≠ B) → Ew w x d M → Ew Z x d M := fun {x d M} hb he => by
    rcases he with h1 | ⟨b, off, rfl, N, M', ho, h4⟩
    · exact .inl h1
    · exact .inr ⟨b, off, rfl, N, M', hfin b N M' (hb b (by simp [eb])) ho, h4⟩
  have hEnd : ∃ a2 c2 vI' vW', Bok Z B (n + 1) (up a n al) (up c n cl) (up m n Ll.length) a2 c2 (up L n Ll) vI' vW' := by
    have hlt : ∀ j, j < n + 1 → j ≠ n → j < n := fun j h1 h2 => by omega
    refine ⟨up a' n a2, up c' n c2, .slice (some ⟨g1, 0, none⟩) (n + 1) d1, .slice (some ⟨g3, 0, none⟩) (n + 1) d3, ?_, ?_, fun o => ?_, ?_, ?_, ?_, ?_, fun j hj => ?_, fun j hj => ?_, fun j hj => ?_, fun j hj hnone => ?_, fun j hj hnone => ?_, fun j k hj hk hjk => ?_, fun j hj => ?_, fun j hj => ?_⟩
    · rw [hZ, cell_setb _ _ _ _ _ ⟨_, y1⟩, if_neg (by decide)]; exact y0
    · rw [hZ, cell_setb _ _ _ _ _ ⟨_, y1⟩, if_pos rfl]
    · rw [hZ]; exact (World.frozen?_setCell _ _ _ _).trans (yF o)
    · rw [hZ]; exact yN.set 1 (by decide) _ _ y1
    · refine (xI.gs (kX2.gs []) (fun _ _ h => by cases h)).gs G3Z (fun b hb hm => ?_)
      have hbg : b = g1 := by simpa [rb] using hb
      rw [hbg] at hm
      rcases List.mem_cons.1 hm with h1 | h1
      · omega
      · exact hg1w.1 h1
    · rw [hZ]
      refine R3.gs ((Gs.refl [B] w3).setCell (.inl (by simp)) _) (fun b hb hm => ?_)
      have := (R3.lt b hb).1
      have : b = B := by simpa using hm
      omega
    · intro b hb hb3
      have e1 : b = g1 := by simpa [rb] using hb
      have e3 : b = g3 := by simpa [rb] using hb3
      rcases hg3 with h1 | h1
      · omega
      · rw [← e3, e1] at h1; exact hg1w.1 h1
    · by_cases e : j = n
      · subst e; rw [up_eq, up_eq, up_eq]; exact hEw hlo hE
      · have := hlt j hj e; rw [up_lt _ _ _ this, up_lt _ _ _ this, up_lt _ _ _ this]; exact hEw (h.lo j this) (h.own j this)
    · by_cases e : j = n
      · subst e
        rw [up_eq, up_eq, up_eq]
        rcases E2 with h1 | ⟨b, off, rfl, ho⟩
        · exact .inl h1
        · refine .inr ⟨b, off, rfl, ho.gs G3Z (fun hm => ?_)⟩
          have hb2 := hlo2 b (by simp [eb])
          have hxy := kXY.below.size
          rcases List.mem_cons.1 hm with h1 | h1
          · omega
          · have := (xW.lt b h1).2; omega
      · have := hlt j hj e; rw [up_lt _ _ _ this, up_lt _ _ _ this, up_lt _ _ _ this]; exact hEw (h.lo' j this) (h.own' j this)
    · by_cases e : j = n
      · subst e; rw [up_eq, up_eq]
      · have := hlt j hj e; rw [up_lt _ _ _ this, up_lt _ _ _ this]; exact h.len j this
    · by_cases e : j = n
      · subst e; rw [up_eq] at hnone ⊢; exact h0 hnone
      · have := hlt j hj e; rw [up_lt _ _ _ this] at hnone ⊢; exact h.cn j this hnone
    · by_cases e : j = n
      · subst e; rw [up_eq] at hnone ⊢; exact h02 hnone
      · have := hlt j hj e; rw [up_lt _ _ _ this] at hnone ⊢; exact h.cn' j this hnone
    · by_cases e : j = n
      · subst e
        have hk2 := hlt k hk (Ne.symm hjk)
        rw [up_eq, up_lt _ _ _ hk2]; exact hap k hk2
      · have hj2 := hlt j hj e
        rw [up_lt _ _ _ hj2]
        by_cases e2 : k = n
        · subst e2; rw [up_eq]; exact fun b hb hb2 => hap j hj2 b hb2 hb
        · have hk2 := hlt k hk e2
          rw [up_lt _ _ _ hk2]; exact h.ap j k hj2 hk2 hjk
    · by_cases e : j = n
      · subst e; rw [up_eq]; exact hlo
      · have := hlt j hj e; rw [up_lt _ _ _ this]; exact h.lo j this
    · by_cases e : j = n
      · subst e; rw [up_eq]; exact fun b hb => by have := hlo2 b hb; have := kXY.below.size; omega
      · have := hlt j hj e; rw [up_lt _ _ _ this]; exact h.lo' j this
  have HEND := (show Hid ((∃ a2 c2 vI' vW', Bok Z B (n + 1) (up a n al) (up c n cl) (up m n Ll.length) a2 c2 (up L n Ll) vI' vW') ∧ (∀ x d M, x ≠ B → Own w x d M → Own Z x d M) ∧ Gs S w Z) from ⟨hEnd, hfin, GZ⟩)
  have H1 := (show Hid (∀ ty, (Builtin.append_ #[36, 36] ty #[.slice aI n cI, .slice (some ⟨w.heap.size, 0, none⟩) 1 1]).run Try.prog (w.alloc (.cells #[.slice al Ll.length cl] 23)) = .ok (.slice (some ⟨g1, 0, none⟩) (n + 1) d1) w1) from hr1)
  have H2 := (show Hid (∀ ty, (Builtin.append_ #[23, 23] ty #[.slice none 0 0, .slice al Ll.length cl]).run Try.prog Y = .ok (.slice a2 Ll.length c2) w2) from hr2)
  have H3 := (show Hid (∀ ty, (Builtin.append_ #[36, 36] ty #[.slice aW n cW, .slice (some ⟨w2.heap.size, 0, none⟩) 1 1]).run Try.prog (w2.alloc (.cells #[.slice a2 Ll.length c2] 23)) = .ok (.slice (some ⟨g3, 0, none⟩) (n + 1) d3) w3) from hr3)
  have HX := (show Hid (X = w1.setCell ⟨B, 0, none⟩ (.slice (some ⟨g1, 0, none⟩) (n + 1) d1)) from hX)
  have HZ := (show Hid (Z = w3.setCell ⟨B, 1, none⟩ (.slice (some ⟨g3, 0, none⟩) (n + 1) d3)) from hZ)
  have HC : Hid (∀ u, u = X ∨ u = Y ∨ u = w2 ∨ u = w2.alloc (.cells #[.slice a2 Ll.length c2] 23) ∨ u = w3 → u.cell? ⟨B, 1, none⟩ = some (.slice aW n cW)) := fun u hu => by
    rcases hu with rfl | rfl | rfl | rfl | rfl
    · exact x1
    · exact (kXY.below.cell (p := ⟨B, 1, none⟩) hBx).trans x1
    · exact (kX2.below.cell (p := ⟨B, 1, none⟩) hBx).trans x1
    · exact ((kX2.alloc _ _).below.cell (p := ⟨B, 1, none⟩) hBx).trans x1
    · exact y1
  have c0 := h.c0
  have HY := (show Hid (Y = X.drew) from hY)
  have HYF := (show Hid (w3.frozen? ⟨B, 1, none⟩ = false) from yF 1)
  have hni : (n : Int) < 400 := by omega
  obtain ⟨ll, hll⟩ : ∃ ll, Ll.length = ll := ⟨_, rfl⟩
  rw [hll] at H1 H2 H3 HC ⊢
  rw [← hS]
  rw [hll] at HEND
  clear h02 hr1 hr2 hr3 hEnd hfin GZ G3Z G3 R3 hg3 R1 hg1 G1 hX hZ hY x0 x1 xF xN xW xE xI GX hg1w kXY k2 hf2 E2 hlo2 kX2 hBx hX2 y0 y1 yF yN h hE h0 hap hlo hS sB sI sW hBI hBW hBw hv1 v1 hEw hl hll
  go_enter Try.func11, Try.ntmps11
  go_upto_region 2 with (first | (at_builtin; refine wpList_append_run rfl _ _ _ rfl _ _ rfl rfl _ _ (H1.out _) ?_))
  rw [← HX.out]
  clear c0 e0 f0 H1 HX
  refine wp_region_late [11] (fun u => u.cell? ⟨B, 1, none⟩ = some (.slice aW n cW)) (by kernel_rfl) (HC.out _ (by rw [← HY.out]; exact .inr (.inl rfl))) (fun hHeld => ?_)
  rw [← HY.out] at hHeld ⊢
  clear HY
  refine wpAnyD_take (i := 0) (v := ?_) rfl (by kernel_rfl) (by kernel_rfl) (by kernel_rfl) (by kernel_rfl) (fun _ _ _ h => h) (Or.inl ⟨by rfl, ?hya0⟩) hHeld ?_
  case hya0 => (intro w hSw; (try dsimp only at hSw); go_simp; try (with_reducible rfl))
  (try simp only [Act.put, List.getElem_toArray, List.getElem_cons_succ, List.getElem_cons_zero, List.setIfInBounds_toArray, List.set_cons_zero, List.set_cons_succ])
  refine wpAnyD_take (i := 1) (v := ?_) rfl (by kernel_rfl) (by kernel_rfl) (by kernel_rfl) (by kernel_rfl) (fun _ _ _ h => h) (Or.inl ⟨by rfl, ?hya1⟩) hHeld ?_
  case hya1 => (intro w hSw; (try dsimp only at hSw); go_simp; try (with_reducible rfl))
  (try simp only [Act.put, List.getElem_toArray, List.getElem_cons_succ, List.getElem_cons_zero, List.setIfInBounds_toArray, List.set_cons_zero, List.set_cons_succ])
  refine wpAnyD_take (i := 2) (v := ?_) rfl (by kernel_rfl) (by kernel_rfl) (by kernel_rfl) (by kernel_rfl) (fun _ _ _ h => h) (Or.inl ⟨by rfl, ?hya2⟩) hHeld ?_
  case hya2 => (intro w hSw; (try dsimp only at hSw); go_simp; try (with_reducible rfl))
  (try simp only [Act.put, List.getElem_toArray, List.getElem_cons_succ, List.getElem_cons_zero, List.setIfInBounds_toArray, List.set_cons_zero, List.set_cons_succ])
  refine wpAnyD_take (i := 3) (v := ?_) rfl (by kernel_rfl) (by kernel_rfl) (by kernel_rfl) (by kernel_rfl) (fun _ _ _ h => h) (Or.inl ⟨by rfl, ?hya3⟩) hHeld ?_
  case hya3 => (intro w hSw; (try dsimp only at hSw); go_simp; try (with_reducible rfl))
  (try simp only [Act.put, List.getElem_toArray, List.getElem_cons_succ, List.getElem_cons_zero, List.setIfInBounds_toArray, List.set_cons_zero, List.set_cons_succ])
  refine wpAnyD_take (i := 4) (v := ?_) rfl (by kernel_rfl) (by kernel_rfl) (by kernel_rfl) (by kernel_rfl) (fun _ _ _ h => h) (Or.inl ⟨by rfl, ?hya4⟩) hHeld ?_
  case hya4 => (intro w hSw; (try dsimp only at hSw); go_simp; try (with_reducible rfl))
  (try simp only [Act.put, List.getElem_toArray, List.getElem_cons_succ, List.getElem_cons_zero, List.setIfInBounds_toArray, List.set_cons_zero, List.set_cons_succ])
  refine wpAnyD_take (i := 5) (v := ?_) rfl (by kernel_rfl) (by kernel_rfl) (by kernel_rfl) (by kernel_rfl) (fun _ _ _ h => h) (Or.inl ⟨by rfl, ?hya5⟩) hHeld ?_
  case hya5 => (intro w hSw; (try dsimp only at hSw); go_simp; try (with_reducible rfl))
  (try simp only [Act.put, List.getElem_toArray, List.getElem_cons_succ, List.getElem_cons_zero, List.setIfInBounds_toArray, List.set_cons_zero, List.set_cons_succ])
  refine wpAnyD_step (i := 6) (by kernel_rfl) rfl (fun K hK9 => ?_)
  rw [if_pos (by rfl)]
  refine oper_append_run _ _ _ rfl _ _ rfl rfl _ _ (H2.out _) ?_
  refine hK9.out _ _ (HC.out _ (.inr (.inr (.inl rfl)))) (fun hH2 => ?_)
  clear hK9 K
  (try simp only [Act.put, List.getElem_toArray, List.getElem_cons_succ, List.getElem_cons_zero, List.setIfInBounds_toArray, List.set_cons_zero, List.set_cons_succ])
  refine wpAnyD_step (i := 7) (by kernel_rfl) rfl (fun K hK9 => ?_)
  go_simp
  refine hK9.out _ _ (HC.out _ (.inr (.inr (.inr (.inl rfl))))) (fun hH3 => ?_)
  clear hK9 K
  refine wpAnyD_step (i := 8) (by kernel_rfl) rfl (fun K hK9 => ?_)
  rw [if_pos (by rfl)]
  refine oper_append_run _ _ _ rfl _ _ rfl rfl _ _ (H3.out _) ?_
  refine hK9.out _ _ (HC.out _ (.inr (.inr (.inr (.inr rfl))))) (fun hH4 => ?_)
  clear hK9 K
  (try simp only [Act.put, List.getElem_toArray, List.getElem_cons_succ, List.getElem_cons_zero, List.setIfInBounds_toArray, List.set_cons_zero, List.set_cons_succ])
  refine wpAnyD_take (i := 9) (v := ?_) rfl (by kernel_rfl) (by kernel_rfl) (by kernel_rfl) (by kernel_rfl) (fun _ _ _ h => h) (Or.inl ⟨by rfl, ?hyb9⟩) hH4 ?_
  case hyb9 => (intro w hSw; (try dsimp only at hSw); go_simp; try (with_reducible rfl))
  (try simp only [Act.put, List.getElem_toArray, List.getElem_cons_succ, List.getElem_cons_zero, List.setIfInBounds_toArray, List.set_cons_zero, List.set_cons_succ])
  refine wpAnyD_take (i := 10) (v := ?_) rfl (by kernel_rfl) (by kernel_rfl) (by kernel_rfl) (by kernel_rfl) (fun _ _ _ h => h) (Or.inl ⟨by rfl, ?hyb10⟩) hH4 ?_
  case hyb10 => (intro w hSw; (try dsimp only at hSw); go_simp; try (with_reducible rfl))
  (try simp only [Act.put, List.getElem_toArray, List.getElem_cons_succ, List.getElem_cons_zero, List.setIfInBounds_toArray, List.set_cons_zero, List.set_cons_succ])
  have e1 := HC.out w3 (.inr (.inr (.inr (.inr rfl))))
  have f1 := HYF.out
  refine wpAnyD_late (i := 11) (by kernel_rfl) rfl rfl (fun K hK9 => ?_)
  go_simp
  refine hK9.out _ _ ?_
  clear hK9 K
  (try simp only [Act.put, List.getElem_toArray, List.getElem_cons_succ, List.getElem_cons_zero, List.setIfInBounds_toArray, List.set_cons_zero, List.set_cons_succ])
  refine wpAnyD_done (by kernel_rfl) ?_ _
  (try simp only [Act.put, List.getElem_toArray, List.getElem_cons_succ, List.getElem_cons_zero, List.setIfInBounds_toArray, List.set_cons_zero, List.set_cons_succ])
  rw [← HZ.out]
  clear hHeld hH2 hH3 hH4 e1 f1 HZ HC
  go_wp2_with fail
  exact bodyPost_end (v := .tuple #[]) (by simp [results, Try.results11, go_sem]) rfl ⟨rfl, HEND.out.1, HEND.out.2.1, HEND.out.2.2⟩
end Go.Proofs.Ytedghjededicpaa
