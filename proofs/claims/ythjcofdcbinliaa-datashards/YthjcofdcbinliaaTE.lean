/- Lists by pieces; what is turned between two worlds lies in listed blocks; appends. -/
import Derived.Test.YthjcofdcbinliaaT4
import Derived.Test.YthjcofdcbinliaaTD
namespace Go.Proofs.Ythjcofdcbinliaa
open Go.ChangeShapes Go.WideShapes Go.ChangeAt Go.RowKit
set_option linter.unusedVariables false
set_option linter.unusedSimpArgs false

theorem lst_app (a b : Nat) (f : Nat → Int) : lst a f ++ lst b (fun c => f (a + c)) = lst (a + b) f := by
  unfold lst
  rw [List.range_add, List.map_append, List.map_map]
  rfl
theorem lst_snoc (a : Nat) (f : Nat → Int) : lst a f ++ [f a] = lst (a + 1) f := lst_app a 1 f
theorem lst_self (L : List Int) : lst L.length (fun i => L.getD i 0) = L := by
  apply List.ext_getElem
  · simp [lst]
  · intro i h1 h2
    simp [lst, List.getD_eq_getElem?_getD, h2]
/-- Pieces of one length, one behind the other. -/
def flat (R D : Nat) (f : Nat → Nat → Int) : List Int := (List.range R).flatMap fun x => lst D (f x)
theorem flat_lst (D : Nat) (hD : 0 < D) (f : Nat → Nat → Int) : ∀ R, flat R D f = lst (R * D) (fun j => f (j / D) (j % D)) := by
  intro R
  induction R with
  | zero => simp [flat, lst]
  | succ R ih =>
    have : flat (R + 1) D f = flat R D f ++ lst D (f R) := by
      unfold flat
      rw [List.range_succ, List.flatMap_append]
      simp
    rw [this, ih, Nat.succ_mul, ← lst_app]
    congr 1
    apply lst_ext
    intro i hi
    rw [Nat.mul_comm, Nat.mul_add_div hD, Nat.div_eq_of_lt hi, Nat.mul_add_mod, Nat.mod_eq_of_lt hi, Nat.add_zero]
/-- A list some times. -/
def rep (q : Nat) (L : List Int) : List Int := (List.replicate q L).flatten
theorem rep_zero (L : List Int) : rep 0 L = [] := rfl
theorem rep_succ (q : Nat) (L : List Int) : rep (q + 1) L = rep q L ++ L := by
  unfold rep
  rw [List.replicate_succ', List.flatten_append]
  simp
theorem rep_length (q : Nat) (L : List Int) : (rep q L).length = q * L.length := by
  unfold rep
  rw [List.length_flatten]
  simp
theorem rep_flat (q D : Nat) (f : Nat → Int) : rep q (lst D f) = flat q D (fun _ => f) := by
  induction q with
  | zero => simp [rep, flat]
  | succ q ih =>
    rw [rep_succ, ih]
    unfold flat
    rw [List.range_succ, List.flatMap_append]
    simp
/-- A row. -/
def rowL (M : List Int) (C x : Nat) : List Int := lst C (fun c => M.getD (x * C + c) 0)
theorem rowL_length (M : List Int) (C x : Nat) : (rowL M C x).length = C := lst_length _ _
/-- What has come of the rows in turn, each some times. -/
def widL {R : Nat} (M : List Int) (C q : Nat) (pre : List (Fin R)) : List Int := pre.flatMap fun x => rep q (rowL M C x.1)
theorem widL_length {R : Nat} (M : List Int) (C q : Nat) (pre : List (Fin R)) : (widL M C q pre).length = pre.length * (q * C) := by
  induction pre with
  | nil => simp [widL]
  | cons x r ih =>
    have : widL M C q (x :: r) = rep q (rowL M C x.1) ++ widL M C q r := by simp [widL]
    rw [this, List.length_append, ih, rep_length, rowL_length, List.length_cons, Nat.succ_mul, Nat.add_comm]
theorem widL_snoc {R : Nat} (M : List Int) (C q : Nat) (pre : List (Fin R)) (x : Fin R) : widL M C q (pre ++ [x]) = widL M C q pre ++ rep q (rowL M C x.1) := by
  simp [widL]
theorem finRange_flat (R : Nat) (g : Nat → List Int) : ((List.finRange R).flatMap fun x => g x.1) = (List.range R).flatMap g := by
  have : List.range R = (List.finRange R).map (fun x => x.1) := by
    apply List.ext_getElem
    · simp
    · intro i h1 h2
      simp
  rw [this, List.flatMap_map]
/-- The element that comes to a place of a stretched matrix. -/
def stf (M : List Int) (R C cs : Nat) (j : Nat) : Int := M.getD ((if R = 1 then 0 else j / cs) * C + (if C = 1 then 0 else j % cs)) 0
theorem rep_row (M : List Int) (C cs x : Nat) (hC : 0 < C) (hcs : cs = C ∨ (C = 1 ∧ 0 < cs)) : rep (cs / C) (rowL M C x) = lst cs (fun c => M.getD (x * C + (if C = 1 then 0 else c)) 0) := by
  rcases hcs with rfl | ⟨rfl, h⟩
  · rw [Nat.div_self hC, rep_succ, rep_zero, List.nil_append]
    unfold rowL
    apply lst_ext
    intro i hi
    split
    · congr 1; omega
    · rfl
  · unfold rowL
    rw [Nat.div_one, rep_flat, flat_lst 1 (by decide), Nat.mul_one]
    apply lst_ext
    intro i hi
    simp [Nat.mod_one]
theorem widL_all (M : List Int) (R C cs : Nat) (hC : 0 < C) (hcs : cs = C ∨ (C = 1 ∧ 0 < cs)) : widL M C (cs / C) (List.finRange R) = lst (R * cs) (fun j => M.getD ((j / cs) * C + (if C = 1 then 0 else j % cs)) 0) := by
  unfold widL
  have h0 : 0 < cs := by omega
  rw [finRange_flat R (fun x => rep (cs / C) (rowL M C x))]
  have : (fun x => rep (cs / C) (rowL M C x)) = fun x => lst cs ((fun x c => M.getD (x * C + (if C = 1 then 0 else c)) 0) x) := by
    funext x
    exact rep_row M C cs x hC hcs
  rw [this]
  exact flat_lst cs h0 _ R
theorem stretch_all (M : List Int) (R C rs cs : Nat) (hR : 0 < R) (hC : 0 < C) (hrs : rs = R ∨ (R = 1 ∧ 0 < rs)) (hcs : cs = C ∨ (C = 1 ∧ 0 < cs)) : rep (rs / R) (widL M C (cs / C) (List.finRange R)) = lst (rs * cs) (stf M R C cs) := by
  have h0 : 0 < cs := by omega
  rw [widL_all M R C cs hC hcs]
  rcases hrs with rfl | ⟨rfl, h⟩
  · rw [Nat.div_self hR, rep_succ, rep_zero, List.nil_append]
    apply lst_ext
    intro i hi
    unfold stf
    by_cases h1 : rs = 1
    · subst h1
      rw [Nat.one_mul] at hi
      rw [if_pos rfl, Nat.div_eq_of_lt hi]
    · rw [if_neg h1]
  · rw [Nat.div_one, Nat.one_mul, rep_flat, flat_lst cs h0]
    apply lst_ext
    intro i hi
    unfold stf
    have := Nat.mod_lt i h0
    simp [Nat.div_eq_of_lt this]

/-- What is turned between two worlds is in the listed blocks, or new. -/
structure GrwS (S : List Nat) (w w' : World) : Prop where
  os : w'.os = w.os
  tape : w'.tape = w.tape
  output : w'.output = w.output
  size : w.heap.size ≤ w'.heap.size
  block : ∀ i, i < w.heap.size → i ∉ S → w'.heap[i]? = w.heap[i]?
  frozen : ∀ a, w'.frozen? a = w.frozen? a
theorem GrwS.refl (S : List Nat) (w : World) : GrwS S w w := ⟨rfl, rfl, rfl, Nat.le_refl _, fun _ _ _ => rfl, fun _ => rfl⟩
theorem GrwS.trans {S : List Nat} {a b c : World} (h : GrwS S a b) (k : GrwS S b c) : GrwS S a c :=
  ⟨k.os.trans h.os, k.tape.trans h.tape, k.output.trans h.output, Nat.le_trans h.size k.size, fun i hi hn => (k.block i (Nat.lt_of_lt_of_le hi h.size) hn).trans (h.block i hi hn), fun x => (k.frozen x).trans (h.frozen x)⟩
theorem GrwS.mono {S S' : List Nat} {a b : World} (h : GrwS S a b) (hs : ∀ i ∈ S, i ∈ S') : GrwS S' a b :=
  ⟨h.os, h.tape, h.output, h.size, fun i hi hn => h.block i hi (fun hm => hn (hs i hm)), h.frozen⟩
/-- What is turned besides is new to the first world. -/
theorem GrwS.then {S S' : List Nat} {a b c : World} (h : GrwS S a b) (k : GrwS S' b c) (hs : ∀ i ∈ S', i ∈ S ∨ a.heap.size ≤ i) : GrwS S a c :=
  ⟨k.os.trans h.os, k.tape.trans h.tape, k.output.trans h.output, Nat.le_trans h.size k.size, fun i hi hn => (k.block i (Nat.lt_of_lt_of_le hi h.size) (fun hm => by rcases hs i hm with h1 | h1; exact hn h1; omega)).trans (h.block i hi hn), fun x => (k.frozen x).trans (h.frozen x)⟩
theorem Kept.toS {a b : World} (S : List Nat) (h : Kept a b) : GrwS S a b := ⟨h.below.os, h.below.tape, h.below.output, h.below.size, fun i hi _ => h.below.block i hi, h.frozen⟩
theorem Grw.toS {g : Nat} {a b : World} (h : Grw g a b) : GrwS [g] a b := ⟨h.grown.os, h.grown.tape, h.grown.output, h.grown.size, fun i hi hn => h.grown.block i hi (by simpa using hn), h.frozen⟩
theorem Kept.grwS {S : List Nat} {a b c : World} (h : Kept a b) (hS : ∀ i ∈ S, a.heap.size ≤ i) (k : GrwS S b c) : Kept a c :=
  ⟨⟨k.os.trans h.below.os, k.tape.trans h.below.tape, k.output.trans h.below.output, Nat.le_trans h.below.size k.size, fun i hi => (k.block i (Nat.lt_of_lt_of_le hi h.below.size) (fun hm => by have := hS i hm; omega)).trans (h.below.block i hi)⟩, fun x => (k.frozen x).trans (h.frozen x)⟩
theorem GrwS.setCell {S : List Nat} {a b : World} (h : GrwS S a b) {p : Addr} (hp : p.block ∈ S ∨ a.heap.size ≤ p.block) (u : Value) : GrwS S a (b.setCell p u) :=
  ⟨h.os, h.tape, h.output, by simpa using h.size, fun i hi hn => (Below.heap_setCell b p u i (fun e => by subst e; rcases hp with h1 | h1; exact hn h1; omega)).trans (h.block i hi hn), fun x => (World.frozen?_setCell _ _ _ _).trans (h.frozen x)⟩


theorem GrwS.bl {S : List Nat} {a b c : World} (h : GrwS S a b) (k : Below a.heap.size b c) (hf : ∀ x, c.frozen? x = b.frozen? x) : GrwS S a c :=
  ⟨k.os.trans h.os, k.tape.trans h.tape, k.output.trans h.output, Nat.le_trans h.size k.size, fun i hi hn => (k.block i hi).trans (h.block i hi hn), fun x => (hf x).trans (h.frozen x)⟩
theorem GrwS.kept {S : List Nat} {a b c : World} (h : GrwS S a b) (k : Kept b c) : GrwS S a c := h.trans (k.toS S)
theorem GrwS.cell {S : List Nat} {a b : World} (h : GrwS S a b) {B o : Nat} (hB : B < a.heap.size) (hn : B ∉ S) : b.cell? ⟨B, o, none⟩ = a.cell? ⟨B, o, none⟩ :=
  World.cell?_of_block (w := a) (a := ⟨B, o, none⟩) (h.block B hB hn)
theorem GrwS.m4 {S : List Nat} {a b : World} (h : GrwS S a b) {B : Nat} {r c n s : Value} (hM : M4 a B r c n s) (hn : B ∉ S) : M4 b B r c n s :=
  ⟨(h.cell hM.lt hn).trans hM.c0, (h.cell hM.lt hn).trans hM.c1, (h.cell hM.lt hn).trans hM.c2, (h.cell hM.lt hn).trans hM.c3⟩
theorem GrwS.reads {S : List Nat} {a b : World} (h : GrwS S a b) {B off : Nat} {L : List Int} (hB : B < a.heap.size) (hn : B ∉ S) (hr : Reads a B off L) : Reads b B off L :=
  fun i hi => (h.cell hB hn).trans (hr i hi)
theorem Own.grwS {S : List Nat} {w w' : World} {g cap : Nat} {L : List Int} (h : Own w g cap L) (k : GrwS S w w') (hn : g ∉ S) : Own w' g cap L := by
  have hl := h.lt
  obtain ⟨cur, hg, r⟩ := h
  exact ⟨cur, (k.block g hl hn).trans hg, r⟩
theorem MR.setOther {H : Nat} {w : World} {v : Value} {M : List Int} (h : MR H w v M) {p : Addr} (hp : p.block < H) (u : Value) : MR H (w.setCell p u) v M := by
  rcases h with h | ⟨g, cap, e, hg, ho⟩
  · exact .inl h
  · exact .inr ⟨g, cap, e, hg, ho.setOther (by omega) u⟩
theorem MR.len {H : Nat} {w : World} {v : Value} {M : List Int} (h : MR H w v M) : ∃ ao c, v = .slice ao M.length c := by
  rcases h with ⟨rfl, rfl⟩ | ⟨g, cap, e, hg, ho⟩
  · exact ⟨none, 0, rfl⟩
  · exact ⟨_, _, e⟩
/-- The slice of a matrix in four cells turned. -/
theorem M4.set3 {w : World} {B : Nat} {r c n s : Value} (h : M4 w B r c n s) (u : Value) : M4 (w.setCell ⟨B, 3, none⟩ u) B r c n u := by
  obtain ⟨c0, c1, c2, c3⟩ := h
  exact ⟨by simp [go_sem, *], by simp [go_sem, *], by simp [go_sem, *], by simp [go_sem, *]⟩
theorem M4.setOther {w : World} {B : Nat} {r c n s : Value} (h : M4 w B r c n s) {p : Addr} (hp : B ≠ p.block) (u : Value) : M4 (w.setCell p u) B r c n s := by
  have hb := Below.heap_setCell w p u B hp
  exact ⟨(World.cell?_of_block (w := w) (a := ⟨B, 0, none⟩) hb).trans h.c0, (World.cell?_of_block (w := w) (a := ⟨B, 1, none⟩) hb).trans h.c1, (World.cell?_of_block (w := w) (a := ⟨B, 2, none⟩) hb).trans h.c2, (World.cell?_of_block (w := w) (a := ⟨B, 3, none⟩) hb).trans h.c3⟩
theorem M4.below {w w' : World} {B H : Nat} {r c n s : Value} (h : M4 w B r c n s) (k : Below H w w') (hB : B < H) : M4 w' B r c n s :=
  ⟨(k.cell (p := ⟨B, 0, none⟩) hB).trans h.c0, (k.cell (p := ⟨B, 1, none⟩) hB).trans h.c1, (k.cell (p := ⟨B, 2, none⟩) hB).trans h.c2, (k.cell (p := ⟨B, 3, none⟩) hB).trans h.c3⟩

/-- One more int behind a row of one's own: what lies below H lies as it lay. -/
theorem app_one (H : Nat) (wr : World) (lv : Value) (M : List Int) (hM : MR H wr lv M) (d : Int) (hH : H ≤ wr.heap.size) (hlen : M.length < 10000000) : ∃ v' w', (∀ ty, (Builtin.append_ #[29, 29] ty #[lv, .slice (some ⟨wr.heap.size, 0, none⟩) 1 1]).run Try.prog (wr.alloc (.cells #[.int .i64 d] 3)) = .ok v' w') ∧ MR H w' v' (M ++ [d]) ∧ Below H wr w' ∧ (∀ x, w'.frozen? x = wr.frozen? x) := by
  have hK : Kept wr (wr.alloc (.cells #[.int .i64 d] 3)) := (Kept.refl _).alloc _ _
  have hR : Rw (wr.alloc (.cells #[.int .i64 d] 3)) lv 3 (M.map (Value.int .i64)) := by
    rcases hM with ⟨rfl, rfl⟩ | ⟨g, cap, rfl, hg, ho⟩
    · exact .inl ⟨rfl, rfl⟩
    · exact .inr ⟨g, cap, by rw [List.length_map], own_v.1 (ho.kept hK)⟩
  obtain ⟨g, cap, w', hr, ho, hk⟩ := app_gen 29 3 li_under (.int .i64 0) 8 int_info (by rfl) (by decide) (wr.alloc (.cells #[.int .i64 d] 3)) lv (M.map (Value.int .i64)) [.int .i64 d] hR ⟨wr.heap.size, 0, none⟩ 1 1 rfl (fun j u hj => by
    rcases j with _ | j
    · cases hj
      simp [go_sem]
    · simp at hj) (fun u hu => by rw [List.mem_singleton.1 hu]; rfl) (by decide) (by rw [List.length_map]; omega)
  rw [List.length_map] at hr
  have hO : Own w' g cap (M ++ [d]) := own_v.2 (by rw [List.map_append]; exact ho)
  have hgH : H ≤ g := by
    rcases hk with ⟨e, -⟩ | ⟨e, -⟩
    · rw [e]; simp; omega
    · rcases hM with ⟨-, rfl⟩ | ⟨g0, cap0, rfl, hg, -⟩
      · simp at e
      · have e' : g0 = g := by simp at e; exact e.1
        omega
  refine ⟨_, w', hr, .inr ⟨g, cap, by rw [List.length_append]; rfl, hgH, hO⟩, ?_, ?_⟩
  · rcases hk with ⟨e, kk⟩ | ⟨e, gg⟩
    · exact (hK.trans kk).below.mono hH
    · exact (hK.below.mono hH).trans ⟨gg.grown.os, gg.grown.tape, gg.grown.output, gg.grown.size, fun i hi => gg.grown.block i (by simp; omega) (by simp; omega)⟩
  · intro x
    rcases hk with ⟨e, kk⟩ | ⟨e, gg⟩
    · exact (kk.frozen x).trans (hK.frozen x)
    · exact (gg.frozen x).trans (hK.frozen x)

/-- A list behind a row that has room for it. -/
theorem app_room (w : World) (g cap : Nat) (L : List Int) (ho : Own w g cap L) (N : List Int) (b off m c : Nat) (hm : N.length = m) (hN : Reads w b off N) (hr : L.length + m ≤ cap) (k : Nat) (hk : L.length = k) :
    (∀ ty, (Builtin.append_ #[29, 29] ty #[.slice (some ⟨g, 0, none⟩) k cap, .slice (some ⟨b, off, none⟩) m c]).run Try.prog w = .ok (.slice (some ⟨g, 0, none⟩) (k + m) cap) (w.setCells g k (N.map (Value.int .i64)))) ∧ Own (w.setCells g k (N.map (Value.int .i64))) g cap (L ++ N) ∧ Grw g w (w.setCells g k (N.map (Value.int .i64))) := by
  subst hk
  subst hm
  have hV := own_v.1 ho
  obtain ⟨i, hi, hz2, hs, hb⟩ := info_parts (int_info)
  have hS : Src Try.prog i.size 29 (.slice (some ⟨b, off, none⟩) N.length c) N.length (N.map (Value.int .i64)) w := Src.ofSlice w li_under ⟨b, off, none⟩ N.length c _ (by rw [hs]; simp) (fun j u hj => by
      rw [List.getElem?_map] at hj
      by_cases hjl : j < N.length
      · rw [List.getElem?_eq_getElem hjl] at hj
        cases hj
        have := hN j hjl
        rw [List.getD_eq_getElem?_getD, List.getElem?_eq_getElem hjl] at this
        rw [Addr.add_lit]
        simpa using this
      · rw [List.getElem?_eq_none (by omega)] at hj
        cases hj) (fun u hu => by obtain ⟨x, -, rfl⟩ := List.mem_map.1 hu; rfl)
  refine ⟨fun ty => ?_, ?_, (Grw.refl g w).setCells _ _⟩
  · have := run_append_room_src w 29 29 ty 3 i li_under hi g 0 L.length cap (.slice (some ⟨b, off, none⟩) N.length c) N.length (N.map (Value.int .i64)) hS hr (fun j hj => hV.some _ (by rw [hs]; have hj2 : j < N.length := (by simpa using hj); omega)) (fun j hj => hV.free _)
    rw [this, hs]
    simp
  · have := hV.pushes (N.map (Value.int .i64)) (by simp; omega)
    rw [List.length_map, ← List.map_append] at this
    exact own_v.2 this

theorem keeps_setCells (news : List Value) : ∀ (W : World) (g o : Nat), KeepsOthers W (W.setCells g o news) := by
  induction news with
  | nil => intro W g o; exact KeepsOthers.refl _
  | cons x r ih => intro W g o; exact (KeepsOthers.setCell _ _ _).trans (ih _ _ _)
end Go.Proofs.Ythjcofdcbinliaa
