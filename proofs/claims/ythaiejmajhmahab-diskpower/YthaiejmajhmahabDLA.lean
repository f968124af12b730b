/- Package disk: rows of elements of one's own; what stays. -/
import Derived.Test.YthaiejmajhmahabDKJ
import Derived.OwnWalk
import Derived.Laws.Cover3
import Derived.Laws.OwnMore
import Derived.Laws.AppendOwn
import Derived.Deep.AppendSrc
import Derived.Deep.Upon
import Derived.Deep.Cut
import Derived.OneCell
namespace Go.Proofs.Ythaiejmajhmahab
open Go.ChangeShapes Go.WideShapes Go.ChangeAt Go.RowKit
set_option linter.unusedVariables false
set_option linter.unusedSimpArgs false

theorem Kept.drew {a b : World} (h : Kept a b) : Kept a b.drew := ⟨h.below.drew, h.frozen⟩
structure Grw (g : Nat) (w w' : World) : Prop where
  grown : w.grownBy w' (some g)
  frozen : ∀ a, a.block < w.heap.size → w'.frozen? a = w.frozen? a

theorem Grw.refl (g : Nat) (w : World) : Grw g w w := ⟨World.grownBy.refl _ _, fun _ _ => rfl⟩
theorem Grw.trans {g : Nat} {a b c : World} (h : Grw g a b) (k : Grw g b c) : Grw g a c :=
  ⟨⟨k.grown.os.trans h.grown.os, k.grown.tape.trans h.grown.tape, k.grown.output.trans h.grown.output, Nat.le_trans h.grown.size k.grown.size, fun i hi hne => (k.grown.block i (Nat.lt_of_lt_of_le hi h.grown.size) hne).trans (h.grown.block i hi hne)⟩, fun x hx => (k.frozen x (Nat.lt_of_lt_of_le hx h.grown.size)).trans (h.frozen x hx)⟩
theorem Kept.toGrw {a b : World} (g : Nat) (h : Kept a b) : Grw g a b := ⟨⟨h.below.os, h.below.tape, h.below.output, h.below.size, fun i hi _ => h.below.block i hi⟩, h.frozen⟩
theorem Kept.grw {a b c : World} {g : Nat} (h : Kept a b) (hg : a.heap.size ≤ g) (k : Grw g b c) : Kept a c :=
  ⟨h.below.grown k.grown h.below.size (fun i e => by cases e; exact hg), fun x hx => (k.frozen x (Nat.lt_of_lt_of_le hx h.below.size)).trans (h.frozen x hx)⟩
theorem Grw.setCell {g : Nat} {a b : World} (h : Grw g a b) (j : Nat) (u : Value) : Grw g a (b.setCell ⟨g, j, none⟩ u) :=
  ⟨⟨h.grown.os, h.grown.tape, h.grown.output, by simpa using h.grown.size, fun i hi hne => (Below.heap_setCell b ⟨g, j, none⟩ u i (fun e => hne (by rw [e]))).trans (h.grown.block i hi hne)⟩, fun x hx => (World.frozen?_setCell _ _ _ _).trans (h.frozen x hx)⟩

theorem wpList_append_run {P : Program} {w : World} {ops : Array Oper} {rest : List Oper} {o : Oper} {a : Act} {Q : Exit → Act → World → Prop} (hgd : o.guard = none) (s x : Operand) (t : TypeId)
    (ho : o.op = .call { callee := .builtin .append, args := #[s, x], argTypes := #[t, t] }) (v xv : Value) (hs : a.eval s = v) (hx : a.eval x = xv) (v' : Value) (w' : World)
    (hr : (Builtin.append_ #[t, t] o.type #[v, xv]).run P w = .ok v' w') (h : wpList P ops Q rest (a.put o.dst v') w') : wpList P ops Q (o :: rest) a w := by
  refine wpList_plain hgd fun K hK => ?_
  unfold Oper.wp execOp
  simp only [ho, resolve, invoke, builtin, Sem.run_bind, Sem.run_pure, Result.andThen_ok, List.map_toArray, List.map_cons, List.map_nil, hs, hx, hr]
  exact hK _ _ h


theorem Grw.setCells {g : Nat} {a : World} (news : List Value) : ∀ {b : World} (h : Grw g a b) (o : Nat), Grw g a (b.setCells g o news) := by
  induction news with
  | nil => intro b h o; exact h
  | cons x r ih => intro b h o; exact ih (h.setCell o x) (o + 1)
/-- What lies stays, but for some blocks. -/
structure KX (X : Nat → Prop) (w w' : World) : Prop where
  os : w'.os = w.os
  tape : w'.tape = w.tape
  output : w'.output = w.output
  size : w.heap.size ≤ w'.heap.size
  block : ∀ i, i < w.heap.size → ¬ X i → w'.heap[i]? = w.heap[i]?
  frozen : ∀ a, a.block < w.heap.size → w'.frozen? a = w.frozen? a
theorem Kept.kx {a b : World} (h : Kept a b) (X : Nat → Prop) : KX X a b := ⟨h.below.os, h.below.tape, h.below.output, h.below.size, fun i hi _ => h.below.block i hi, h.frozen⟩
theorem Grw.kx {g : Nat} {a b : World} (h : Grw g a b) : KX (fun i => i = g) a b := ⟨h.grown.os, h.grown.tape, h.grown.output, h.grown.size, fun i hi hne => h.grown.block i hi (by simp; exact hne), h.frozen⟩
theorem KX.mono {X Y : Nat → Prop} {a b : World} (h : KX X a b) (hXY : ∀ i, X i → Y i) : KX Y a b := ⟨h.os, h.tape, h.output, h.size, fun i hi hn => h.block i hi (fun hx => hn (hXY i hx)), h.frozen⟩
theorem KX.trans {X : Nat → Prop} {a b c : World} (h : KX X a b) (k : KX X b c) : KX X a c :=
  ⟨k.os.trans h.os, k.tape.trans h.tape, k.output.trans h.output, Nat.le_trans h.size k.size, fun i hi hn => (k.block i (Nat.lt_of_lt_of_le hi h.size) hn).trans (h.block i hi hn), fun x hx => (k.frozen x (Nat.lt_of_lt_of_le hx h.size)).trans (h.frozen x hx)⟩
theorem KX.grw {X : Nat → Prop} {g : Nat} {a b : World} (h : KX X a b) (hX : ∀ i, i < a.heap.size → X i → i = g) : Grw g a b :=
  ⟨⟨h.os, h.tape, h.output, h.size, fun i hi hne => h.block i hi (fun hx => hne (by rw [hX i hi hx]))⟩, h.frozen⟩
/-- A row of one's own: its cells, sz to an element. -/
def OwnS (w : World) (g cap sz : Nat) (e : TypeId) (V : List Value) : Prop := ∃ cur, w.heap[g]? = some (.cells cur e (0, 0)) ∧ V.length ≤ cap * sz ∧ cap ≤ maxLen ∧ cur.size = cap * sz ∧ cur.toList.take V.length = V
theorem OwnS.lt {w : World} {g cap sz : Nat} {e : TypeId} {V : List Value} (h : OwnS w g cap sz e V) : g < w.heap.size := by
  obtain ⟨cur, hg, -⟩ := h
  exact lt_of_block hg
theorem OwnS.on {w w' : World} {g cap sz : Nat} {e : TypeId} {V : List Value} (h : OwnS w g cap sz e V) (k : w'.heap[g]? = w.heap[g]?) : OwnS w' g cap sz e V := by
  obtain ⟨cur, hg, r⟩ := h
  exact ⟨cur, k.trans hg, r⟩
theorem OwnS.kept {w w' : World} {g cap sz : Nat} {e : TypeId} {V : List Value} (h : OwnS w g cap sz e V) (k : Kept w w') : OwnS w' g cap sz e V := h.on (k.below.block g h.lt)
theorem OwnS.setOther {w : World} {g cap sz : Nat} {e : TypeId} {V : List Value} (h : OwnS w g cap sz e V) {p : Addr} (hp : g ≠ p.block) (u : Value) : OwnS (w.setCell p u) g cap sz e V := h.on (Below.heap_setCell w p u g hp)
theorem OwnS.cell {w : World} {g cap sz : Nat} {e : TypeId} {V : List Value} (h : OwnS w g cap sz e V) (i : Nat) (x : Value) (hi : V[i]? = some x) : w.cell? ⟨g, i, none⟩ = some x := by
  obtain ⟨cur, hg, h1, h2, h3, h4⟩ := h
  rw [cell_of_row w g i cur e (0, 0) hg]
  rw [← h4, List.getElem?_take] at hi
  split at hi
  · simpa using hi
  · cases hi
theorem OwnS.some {w : World} {g cap sz : Nat} {e : TypeId} {V : List Value} (h : OwnS w g cap sz e V) (i : Nat) (hi : i < cap * sz) : (w.cell? ⟨g, i, none⟩).isSome = true := by
  obtain ⟨cur, hg, h1, h2, h3, h4⟩ := h
  rw [cell_of_row w g i cur e (0, 0) hg]
  simp
  omega
theorem OwnS.free {w : World} {g cap sz : Nat} {e : TypeId} {V : List Value} (h : OwnS w g cap sz e V) (i : Nat) : w.frozen? ⟨g, i, none⟩ = false := by
  obtain ⟨cur, hg, -⟩ := h
  exact frozen_of_row w g i cur e hg
theorem OwnS.push {w : World} {g cap sz : Nat} {e : TypeId} {V : List Value} (h : OwnS w g cap sz e V) (hi : V.length < cap * sz) (x : Value) : OwnS (w.setCell ⟨g, V.length, none⟩ x) g cap sz e (V ++ [x]) := by
  obtain ⟨cur, hg, h1, h2, h3, h4⟩ := h
  refine ⟨cur.setIfInBounds V.length x, heap_setCell_same w g V.length cur e _ hg, by simp; omega, h2, by simpa using h3, ?_⟩
  rw [Array.toList_setIfInBounds, List.length_append, List.length_singleton, List.take_set, List.take_add_one, h4]
  have : (cur.toList)[V.length]? = Option.some (cur.toList[V.length]'(by simp; omega)) := List.getElem?_eq_getElem _
  rw [this, List.set_append_right _ _ (by omega), Nat.sub_self]
  rfl
theorem OwnS.pushes {g cap sz : Nat} {e : TypeId} (news : List Value) : ∀ {w : World} {V : List Value} (h : OwnS w g cap sz e V) (hi : V.length + news.length ≤ cap * sz), OwnS (w.setCells g V.length news) g cap sz e (V ++ news) := by
  induction news with
  | nil => intro w V h hi; simpa [World.setCells] using h
  | cons x r ih =>
    intro w V h hi
    simp only [List.length_cons] at hi
    have h2 := h.push (by omega) x
    have := ih h2 (by simp; omega)
    rw [List.length_append, List.length_singleton] at this
    rw [World.setCells]
    simpa using this
theorem ownS_new (w : World) (e : TypeId) (z : Value) (sz : Nat) (hz : z.cells.size = sz) (V : List Value) (k cap : Nat) (hk : V.length = k * sz) (h1 : k ≤ cap) (h2 : cap ≤ maxLen) : OwnS (w.alloc (.cells (V.toArray ++ Builtin.zeroCells z.cells (cap - k)) e)) w.heap.size cap sz e V := by
  have hc : cap * sz = k * sz + (cap - k) * sz := by rw [← Nat.add_mul]; congr 1; omega
  refine ⟨_, heap_alloc_new w _, ?_, h2, ?_, ?_⟩
  · rw [hk, hc]; omega
  · simp [size_zeroCells, hz]; rw [hk, hc]
  · simp

/-- A row of k elements that is one's own, or none yet. -/
def MS (sz : Nat) (e : TypeId) (H : Nat) (w : World) (v : Value) (k : Nat) (V : List Value) : Prop := (k = 0 ∧ V = [] ∧ v = .slice none 0 0) ∨ ∃ g cap, v = .slice (some ⟨g, 0, none⟩) k cap ∧ H ≤ g ∧ V.length = k * sz ∧ k ≤ cap ∧ OwnS w g cap sz e V
theorem MS.len {sz : Nat} {e : TypeId} {H : Nat} {w : World} {v : Value} {k : Nat} {V : List Value} (h : MS sz e H w v k V) : V.length = k * sz := by
  rcases h with ⟨rfl, rfl, -⟩ | ⟨g, cap, -, -, h, -⟩
  · simp
  · exact h
theorem MS.form {sz : Nat} {e : TypeId} {H : Nat} {w : World} {v : Value} {k : Nat} {V : List Value} (h : MS sz e H w v k V) : ∃ ao c, v = .slice ao k c := by
  rcases h with ⟨rfl, rfl, rfl⟩ | ⟨g, cap, rfl, -⟩
  · exact ⟨none, 0, rfl⟩
  · exact ⟨_, _, rfl⟩
theorem MS.kept {sz : Nat} {e : TypeId} {H : Nat} {w w' : World} {v : Value} {k : Nat} {V : List Value} (h : MS sz e H w v k V) (kk : Kept w w') : MS sz e H w' v k V := by
  rcases h with h | ⟨g, cap, h1, h2, h3, h4, h5⟩
  · exact .inl h
  · exact .inr ⟨g, cap, h1, h2, h3, h4, h5.kept kk⟩
theorem MS.mono {sz : Nat} {e : TypeId} {H H' : Nat} {w : World} {v : Value} {k : Nat} {V : List Value} (h : MS sz e H w v k V) (hH : H' ≤ H) : MS sz e H' w v k V := by
  rcases h with h | ⟨g, cap, h1, h2, h3, h4, h5⟩
  · exact .inl h
  · exact .inr ⟨g, cap, h1, by omega, h3, h4, h5⟩
theorem MS.setOther {sz : Nat} {e : TypeId} {H : Nat} {w : World} {v : Value} {k : Nat} {V : List Value} (h : MS sz e H w v k V) {p : Addr} (hp : p.block < H) (u : Value) : MS sz e H (w.setCell p u) v k V := by
  rcases h with h | ⟨g, cap, h1, h2, h3, h4, h5⟩
  · exact .inl h
  · exact .inr ⟨g, cap, h1, h2, h3, h4, h5.setOther (by omega) u⟩

/-- One more element behind such a row: what lies below H lies as it lay. -/
theorem app_elemx (t e : TypeId) (ht : Try.prog.underlying t = some (.slice e)) (z : Value) (sz by8 : Nat) (hinf : (Try.prog.info? e).map (fun i => (i.zero, i.size, i.bytes)) = some (some z, sz, by8)) (hz : z.cells.size = sz) (hby : by8 ≤ 96)
    (H : Nat) (wr : World) (lv : Value) (k : Nat) (V : List Value) (hM : MS sz e H wr lv k V) (news : List Value) (hn : news.length = sz) (h1 : ∀ u ∈ news, u.oneCell' = true) (hH : H ≤ wr.heap.size) (hlen : k < 100000000) :
    ∃ v' w', (∀ ty, (Builtin.append_ #[t, t] ty #[lv, .slice (some ⟨wr.heap.size, 0, none⟩) 1 1]).run Try.prog (wr.alloc (.cells news.toArray e)) = .ok v' w') ∧ MS sz e H w' v' (k + 1) (V ++ news) ∧ KX (fun b => ∃ n c, lv = .slice (some ⟨b, 0, none⟩) n c) wr w' ∧ ∀ b n c, v' = .slice (some ⟨b, 0, none⟩) n c → (∃ n c, lv = .slice (some ⟨b, 0, none⟩) n c) ∨ wr.heap.size ≤ b := by
  obtain ⟨i, hi, hz2, hs, hb⟩ := info_parts hinf
  have hK : Kept wr (wr.alloc (.cells news.toArray e)) := (Kept.refl _).alloc _ _
  have hVl := hM.len
  obtain ⟨w, hw⟩ : ∃ w, w = wr.alloc (.cells news.toArray e) := ⟨_, rfl⟩
  have hws : w.heap.size = wr.heap.size + 1 := by rw [hw]; simp
  have hcell : ∀ j u, news[j]? = some u → w.cell? ((⟨wr.heap.size, 0, none⟩ : Addr).add j) = some u := fun j u hj => by
    rw [hw, Addr.add_lit, Nat.zero_add]
    rw [cell_of_row (wr.alloc (.cells news.toArray e)) wr.heap.size j news.toArray e (0, 0) (heap_alloc_new wr _)]
    simpa using hj
  have hS : Src Try.prog i.size t (.slice (some ⟨wr.heap.size, 0, none⟩) 1 1) 1 news w := Src.ofSlice w ht ⟨wr.heap.size, 0, none⟩ 1 1 news (by rw [hs, hn]; simp) hcell h1
  rw [← hw] at hK ⊢
  have hnl : (V ++ news).length = (k + 1) * sz := by rw [List.length_append, hVl, hn, Nat.succ_mul]
  rcases hM with ⟨rfl, rfl, rfl⟩ | ⟨g, cap, rfl, hg, -, hkc, hO⟩
  · obtain ⟨C, hC⟩ : ∃ C, grownCap w (0 + 1) 0 e = C := ⟨_, rfl⟩
    have hC1 : 0 + 1 ≤ C := by rw [← hC]; exact grownCap_ge _ _ _ _
    have hC2 : C ≤ maxLen := by rw [← hC]; exact grownCap_le_maxLen _ _ _ _ (by simp [maxLen])
    have hN := ownS_new w.drew e z sz hz news 1 C (by rw [hn]; simp) (by omega) hC2
    have hKN : Kept w (w.drew.alloc (.cells (news.toArray ++ Builtin.zeroCells z.cells (C - 1)) e)) := (Kept.refl w).drew.alloc _ _
    refine ⟨_, _, fun ty => ?_, .inr ⟨w.heap.size, C, rfl, by omega, by simpa using hnl, by omega, by simpa using hN⟩, (hK.trans hKN).kx _, fun b _ _ e' => .inr (by cases e'; omega)⟩
    have := run_append_grow_src w t t ty e i z ht hi hz2 none 0 0 [] (by simpa using run_firstCells_none (P := Try.prog) w.drew i.size 0 0 0) (.slice (some ⟨wr.heap.size, 0, none⟩) 1 1) 1 news hS (by omega) (by omega) (growslice_fits (by omega) (by rw [hb]; omega))
    rw [hC] at this
    rw [this]
    simp
  · have hO' := hO.kept hK
    by_cases hr : k + 1 ≤ cap
    · have hroom : V.length + news.length ≤ cap * sz := by
        rw [hVl, hn, ← Nat.succ_mul]
        exact Nat.mul_le_mul_right _ hr
      have hG := (Grw.refl g w).setCells news V.length
      refine ⟨_, w.setCells g V.length news, fun ty => ?_, .inr ⟨g, cap, rfl, hg, hnl, hr, hO'.pushes news hroom⟩, (hK.kx _).trans ((hG.kx).mono fun b hb => by subst hb; exact ⟨_, _, rfl⟩), fun b _ _ e' => .inl (by cases e'; exact ⟨_, _, rfl⟩)⟩
      · have := run_append_room_src w t t ty e i ht hi g 0 k cap (.slice (some ⟨wr.heap.size, 0, none⟩) 1 1) 1 news hS hr (fun j hj => hO'.some _ (by rw [hs, ← hVl]; omega)) (fun j hj => hO'.free _)
        rw [this, hs, hVl]
        simp
    · obtain ⟨C, hC⟩ : ∃ C, grownCap w (k + 1) cap e = C := ⟨_, rfl⟩
      have hC1 : k + 1 ≤ C := by rw [← hC]; exact grownCap_ge _ _ _ _
      have hC2 : C ≤ maxLen := by rw [← hC]; exact grownCap_le_maxLen _ _ _ _ (by simp [maxLen]; omega)
      have hN := ownS_new w.drew e z sz hz (V ++ news) (k + 1) C hnl hC1 hC2
      have hKN : Kept w (w.drew.alloc (.cells ((V ++ news).toArray ++ Builtin.zeroCells z.cells (C - (k + 1))) e)) := (Kept.refl w).drew.alloc _ _
      refine ⟨_, _, fun ty => ?_, .inr ⟨w.heap.size, C, rfl, by omega, hnl, hC1, by simpa using hN⟩, (hK.trans hKN).kx _, fun b _ _ e' => .inr (by cases e'; omega)⟩
      have hcl : cap < k + 1 := by omega
      have := run_append_grow_src w t t ty e i z ht hi hz2 (some ⟨g, 0, none⟩) k cap V (run_firstCells_some (P := Try.prog) w.drew i.size k ⟨g, 0, none⟩ k cap V (by rw [hs]; exact hVl) (fun j u hu => by rw [Addr.add_lit, Nat.zero_add]; exact hO'.cell j u hu)) (.slice (some ⟨wr.heap.size, 0, none⟩) 1 1) 1 news hS hcl (by omega) (growslice_fits hcl (by rw [hb]; exact Nat.le_trans (Nat.mul_le_mul_left _ hby) (by omega)))
      rw [hC] at this
      rw [this]
theorem app_src (t e : TypeId) (ht : Try.prog.underlying t = some (.slice e)) (z : Value) (sz by8 : Nat) (hinf : (Try.prog.info? e).map (fun i => (i.zero, i.size, i.bytes)) = some (some z, sz, by8)) (hz : z.cells.size = sz) (hby : by8 ≤ 96)
    (H : Nat) (w : World) (lv : Value) (k : Nat) (V : List Value) (hM : MS sz e H w lv k V) (xv : Value) (k2 : Nat) (V2 : List Value) (hS0 : Src Try.prog sz t xv k2 V2 w) (hXl : V2.length = k2 * sz) (h1 : ∀ u ∈ V2, u.oneCell' = true) (hH : H ≤ w.heap.size) (hlen : k + k2 < 100000000) :
    ∃ v' w', (∀ ty, (Builtin.append_ #[t, t] ty #[lv, xv]).run Try.prog w = .ok v' w') ∧ MS sz e H w' v' (k + k2) (V ++ V2) ∧ KX (fun b => ∃ n c, lv = .slice (some ⟨b, 0, none⟩) n c) w w' ∧ ∀ b n c, v' = .slice (some ⟨b, 0, none⟩) n c → (∃ n c, lv = .slice (some ⟨b, 0, none⟩) n c) ∨ w.heap.size ≤ b := by
  obtain ⟨i, hi, hz2, hs, hb⟩ := info_parts hinf
  have hVl := hM.len
  have hS : Src Try.prog i.size t xv k2 V2 w := by rw [hs]; exact hS0
  have hnl : (V ++ V2).length = (k + k2) * sz := by rw [List.length_append, hVl, hXl, Nat.add_mul]
  have grow : ∀ (base : Option Addr) (cap : Nat), lv = .slice base k cap → cap < k + k2 → (Builtin.firstCells i.size k (.slice base k cap)).run Try.prog w.drew = .ok V.toArray w.drew → ∃ v' w', (∀ ty, (Builtin.append_ #[t, t] ty #[lv, xv]).run Try.prog w = .ok v' w') ∧ MS sz e H w' v' (k + k2) (V ++ V2) ∧ KX (fun b => ∃ n c, lv = .slice (some ⟨b, 0, none⟩) n c) w w' ∧ ∀ b n c, v' = .slice (some ⟨b, 0, none⟩) n c → (∃ n c, lv = .slice (some ⟨b, 0, none⟩) n c) ∨ w.heap.size ≤ b := fun base cap e1 hc hf => by
    subst e1
    obtain ⟨C, hC⟩ : ∃ C, grownCap w (k + k2) cap e = C := ⟨_, rfl⟩
    have hC1 : k + k2 ≤ C := by rw [← hC]; exact grownCap_ge _ _ _ _
    have hC2 : C ≤ maxLen := by rw [← hC]; exact grownCap_le_maxLen _ _ _ _ (by simp [maxLen]; omega)
    have hN := ownS_new w.drew e z sz hz (V ++ V2) (k + k2) C hnl hC1 hC2
    have hKN : Kept w (w.drew.alloc (.cells ((V ++ V2).toArray ++ Builtin.zeroCells z.cells (C - (k + k2))) e)) := (Kept.refl w).drew.alloc _ _
    refine ⟨_, _, fun ty => ?_, .inr ⟨w.heap.size, C, rfl, by omega, hnl, hC1, by simpa using hN⟩, hKN.kx _, fun b _ _ e' => .inr (by cases e'; exact Nat.le_refl _)⟩
    have := run_append_grow_src w t t ty e i z ht hi hz2 base k cap V hf xv k2 V2 hS hc (by omega) (growslice_fits hc (by rw [hb]; exact Nat.le_trans (Nat.mul_le_mul_left _ hby) (by omega)))
    rw [hC] at this
    rw [this]
  rcases hM with ⟨rfl, rfl, rfl⟩ | ⟨g, cap, rfl, hg, -, hkc, hO⟩
  · by_cases h0 : k2 = 0
    · subst h0
      have hV2 : V2 = [] := List.length_eq_zero_iff.1 (by omega)
      subst hV2
      refine ⟨.slice none 0 0, w, fun ty => ?_, .inl ⟨rfl, rfl, rfl⟩, (Kept.refl w).kx _, fun b _ _ e' => by cases e'⟩
      rcases hS.kind with ⟨e', hk⟩ | hk <;> simp [Builtin.append_, run_underlying ht, run_underlying hk, sizeOf, typeInfo, hi, hS.len, hS.cells]
    · exact grow none 0 rfl (by omega) (by simpa using run_firstCells_none (P := Try.prog) w.drew i.size 0 0 0)
  · by_cases hr : k + k2 ≤ cap
    · have hroom : V.length + V2.length ≤ cap * sz := by
        rw [hVl, hXl, ← Nat.add_mul]
        exact Nat.mul_le_mul_right _ hr
      have hG := (Grw.refl g w).setCells V2 V.length
      refine ⟨_, w.setCells g V.length V2, fun ty => ?_, .inr ⟨g, cap, rfl, hg, hnl, hr, hO.pushes V2 hroom⟩, (hG.kx).mono fun b hb => (by subst hb; exact ⟨_, _, rfl⟩), fun b _ _ e' => .inl (by cases e'; exact ⟨_, _, rfl⟩)⟩
      have := run_append_room_src w t t ty e i ht hi g 0 k cap xv k2 V2 hS hr (fun j hj => hO.some _ (by rw [hs, ← hVl]; omega)) (fun j hj => hO.free _)
      rw [this, hs, hVl]
      simp
    · exact grow (some ⟨g, 0, none⟩) cap rfl (by omega) (run_firstCells_some (P := Try.prog) w.drew i.size k ⟨g, 0, none⟩ k cap V (by rw [hs]; exact hVl) (fun j u hu => by rw [Addr.add_lit, Nat.zero_add]; exact hO.cell j u hu))
theorem app_list (t e : TypeId) (ht : Try.prog.underlying t = some (.slice e)) (z : Value) (sz by8 : Nat) (hinf : (Try.prog.info? e).map (fun i => (i.zero, i.size, i.bytes)) = some (some z, sz, by8)) (hz : z.cells.size = sz) (hby : by8 ≤ 96)
    (H : Nat) (w : World) (lv : Value) (k : Nat) (V : List Value) (hM : MS sz e H w lv k V) (xv : Value) (k2 : Nat) (V2 : List Value) (hX : MS sz e 0 w xv k2 V2) (h1 : ∀ u ∈ V2, u.oneCell' = true) (hH : H ≤ w.heap.size) (hlen : k + k2 < 100000000) :
    ∃ v' w', (∀ ty, (Builtin.append_ #[t, t] ty #[lv, xv]).run Try.prog w = .ok v' w') ∧ MS sz e H w' v' (k + k2) (V ++ V2) ∧ KX (fun b => ∃ n c, lv = .slice (some ⟨b, 0, none⟩) n c) w w' ∧ ∀ b n c, v' = .slice (some ⟨b, 0, none⟩) n c → (∃ n c, lv = .slice (some ⟨b, 0, none⟩) n c) ∨ w.heap.size ≤ b := by
  obtain ⟨i, hi, hz2, hs, hb⟩ := info_parts hinf
  have hXl := hX.len
  refine app_src t e ht z sz by8 hinf hz hby H w lv k V hM xv k2 V2 ?_ hXl h1 hH hlen
  rcases hX with ⟨rfl, rfl, rfl⟩ | ⟨g, cap, rfl, -, -, hkc, hO⟩
  · exact Src.ofNil w ht 0
  · exact Src.ofSlice w ht ⟨g, 0, none⟩ k2 cap V2 hXl (fun j u hj => by rw [Addr.add_lit, Nat.zero_add]; exact hO.cell j u hj) h1
theorem hid {p : Prop} (h : p) : Hid p := h
end Go.Proofs.Ythaiejmajhmahab
