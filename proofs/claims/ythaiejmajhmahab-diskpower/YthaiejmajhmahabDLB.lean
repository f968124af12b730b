/- Package disk: maps of names to files, as functions of the name. -/
import Derived.Test.YthaiejmajhmahabDLA
import Derived.Sort.KeysCollected
import Derived.Maps.RangeWalk
namespace Go.Proofs.Ythaiejmajhmahab
open Go.ChangeShapes Go.WideShapes Go.ChangeAt Go.RowKit Go.Maps
set_option linter.unusedVariables false
set_option linter.unusedSimpArgs false

theorem kept_of_kx {X : Nat → Prop} {w u u' : World} (h : Kept w u) (k : KX X u u') (hX : ∀ b, X b → w.heap.size ≤ b) : Kept w u' := by
  have k' : KX X w u' := (h.kx X).trans k
  exact ⟨⟨k'.os, k'.tape, k'.output, k'.size, fun i hi => k'.block i hi (fun hx => by have := hX i hx; omega)⟩, k'.frozen⟩
theorem KX.kept {X : Nat → Prop} {w u' : World} (k : KX X w u') (hX : ∀ b, X b → w.heap.size ≤ b) : Kept w u' := kept_of_kx (Kept.refl w) k hX

abbrev sK (s : ByteArray) : Lit := .string s.data.toList
theorem sK_inj {s t : ByteArray} (h : sK s = sK t) : s = t := by
  have h1 : s.data.toList = t.data.toList := by simpa [sK] using h
  cases s; cases t
  simpa [Array.toList_inj] using h1
theorem str_u : Try.prog.underlying 9 = some .string := by kernel_rfl
theorem key_s : Keyed Try.prog 9 := string_keyed str_u
theorem map_u : Try.prog.underlying 44 = some (.map 9 52) := by kernel_rfl
theorem zero_p (w : World) : (zeroValue 52).run Try.prog w = .ok (.pointer none) w := by kernel_rfl
theorem keyOf_s (s : ByteArray) (h : s.size ≤ maxLen) : keyOf Try.prog 9 (.string s) = some (sK s) := Go.WideMaps.keyOf_string_mk str_u h
theorem key_lit (l : List UInt8) : WideAt.IsKeyLit (.string l) := by simp [WideAt.IsKeyLit]

abbrev Nms := ByteArray → Option Nat
def upd (m : Nms) (s : ByteArray) (q : Option Nat) : Nms := fun t => if t = s then q else m t
/-- What a map's reading says of names. -/
structure Vw (D : DataW Unit) (m : Nms) : Prop where
  has : ∀ s, Maps.has D (sK s) = (m s).isSome
  at_ : ∀ s f, m s = some f → ∀ z, D.atKey (sK s) z = pd (some f)
theorem Vw.look {D : DataW Unit} {m : Nms} (h : Vw D m) (s : ByteArray) : D.atKey (sK s) (pd none) = pd (m s) := by
  cases e : m s
  · exact Maps.atKey_of_not_has (by rw [h.has, e]; rfl) _
  · exact h.at_ s _ e _
theorem Vw.put {D : DataW Unit} {m : Nms} (h : Vw D m) (hD : IsMap D) (s : ByteArray) (f : Nat) : Vw (D.put (sK s) (pd (some f))) (upd m s (some f)) := by
  refine ⟨fun t => ?_, fun t g e z => ?_⟩
  · unfold upd
    by_cases ht : t = s
    · subst ht; rw [if_pos rfl, Maps.has_put_same hD (key_lit _)]; rfl
    · rw [if_neg ht, Maps.has_put_other (fun e => ht (sK_inj e)), h.has]
  · unfold upd at e
    by_cases ht : t = s
    · subst ht; rw [if_pos rfl] at e; cases e; exact Maps.atKey_put_same hD (key_lit _) _ _
    · rw [if_neg ht] at e; rw [Maps.atKey_put_other (fun e => ht (sK_inj e)), h.at_ t g e]
theorem Vw.del {D : DataW Unit} {m : Nms} (h : Vw D m) (s : ByteArray) : Vw (D.del (sK s)) (upd m s none) := by
  refine ⟨fun t => ?_, fun t g e z => ?_⟩
  · unfold upd
    by_cases ht : t = s
    · subst ht; rw [if_pos rfl, Maps.has_del_same]; rfl
    · rw [if_neg ht, Maps.has_del_other (fun e => ht (sK_inj e)), h.has]
  · unfold upd at e
    by_cases ht : t = s
    · subst ht; rw [if_pos rfl] at e; cases e
    · rw [if_neg ht] at e; rw [Maps.atKey_del_other (fun e => ht (sK_inj e)), h.at_ t g e]

/-- A map of names, of at most n of them. -/
def Mp (w : World) (b n : Nat) (m : Nms) : Prop := ∃ D, w.ownsMap Try.prog 9 (ptrElem (H := Unit)) b n D ∧ Vw D m
theorem Mp.lt {w : World} {b n : Nat} {m : Nms} (h : Mp w b n m) : b < w.heap.size := by obtain ⟨D, h, -⟩ := h; exact h.lt
theorem Mp.mono {w : World} {b n n' : Nat} {m : Nms} (h : Mp w b n m) (hn : n ≤ n') : Mp w b n' m := by obtain ⟨D, h, v⟩ := h; exact ⟨D, h.mono hn, v⟩
theorem Mp.on {w w' : World} {b n : Nat} {m : Nms} (h : Mp w b n m) (k : w'.heap[b]? = w.heap[b]?) : Mp w' b n m := by
  obtain ⟨D, ⟨es, clock, hb, F, hs, hD⟩, v⟩ := h
  exact ⟨D, ⟨es, clock, k.trans hb, F, hs, hD⟩, v⟩
theorem Mp.kx {X : Nat → Prop} {w w' : World} {b n : Nat} {m : Nms} (h : Mp w b n m) (k : KX X w w') (hn : ¬ X b) : Mp w' b n m := h.on (k.block b h.lt hn)
theorem Mp.isMap {w : World} {b n : Nat} {m : Nms} (h : Mp w b n m) : ∃ es clock, w.heap[b]? = some (.map es clock) := by
  obtain ⟨D, ⟨es, clock, hb, -⟩, -⟩ := h
  exact ⟨es, clock, hb⟩

/-- A list of pairs that holds what a map holds and what is no longer to come. -/
structure Enum (m : Nms) (left : ByteArray → Bool) (N : List (ByteArray × Nat)) : Prop where
  nd : (N.map (·.1)).Nodup
  mem : ∀ s f, (s, f) ∈ N ↔ (m s = some f ∧ left s = false)
theorem Enum.start (m : Nms) : Enum m (fun s => (m s).isSome) [] := ⟨by simp, fun s f => by
  refine ⟨fun h => by simp at h, fun ⟨h1, h2⟩ => ?_⟩
  rw [h1] at h2
  cases h2⟩
theorem Enum.step {m : Nms} {left : ByteArray → Bool} {N : List (ByteArray × Nat)} (h : Enum m left N) {s : ByteArray} {f : Nat} (hl : left s = true) (hm : m s = some f) : Enum m (fun t => left t && !decide (t = s)) (N ++ [(s, f)]) := by
  refine ⟨?_, fun t g => ?_⟩
  · rw [List.map_append, List.map_cons, List.map_nil, List.nodup_append]
    refine ⟨h.nd, by simp, fun a ha b hb => ?_⟩
    rw [List.mem_singleton] at hb
    subst hb
    rintro rfl
    obtain ⟨⟨a', g⟩, hp, rfl⟩ := List.mem_map.1 ha
    have := ((h.mem a' g).1 hp).2
    rw [this] at hl
    cases hl
  · rw [List.mem_append, List.mem_singleton, h.mem]
    by_cases ht : t = s
    · subst ht
      simp [hl, hm]
      exact eq_comm
    · simp [ht]
theorem Enum.perm {m : Nms} {left : ByteArray → Bool} {N N' : List (ByteArray × Nat)} (h : Enum m left N) (h' : Enum m left N') : N.Perm N' := by
  have nd : ∀ {L : List (ByteArray × Nat)}, (L.map (·.1)).Nodup → L.Nodup := fun {L} h => by
    rw [List.nodup_iff_pairwise_ne] at h ⊢
    rw [List.pairwise_map] at h
    exact h.imp fun h e => h (by rw [e])
  exact (List.perm_ext_iff_of_nodup (nd h.nd) (nd h'.nd)).2 fun ⟨s, f⟩ => (h.mem s f).trans (h'.mem s f).symm
/-- All that a map holds. -/
abbrev Full (m : Nms) (N : List (ByteArray × Nat)) : Prop := Enum m (fun _ => false) N
theorem Full.len {m : Nms} {N N' : List (ByteArray × Nat)} (h : Full m N) (h' : Full m N') : N.length = N'.length := (h.perm h').length_eq
theorem Mp.full {w : World} {b n : Nat} {m : Nms} {D : DataW Unit} (h : w.ownsMap Try.prog 9 (ptrElem (H := Unit)) b n D) (v : Vw D m) : ∃ N, Full m N ∧ N.length = Maps.size D ∧ N.length ≤ n ∧ ∀ p ∈ N, p.1.size ≤ maxLen := by
  have hsz := h.size_le
  obtain ⟨es, hD, hpw, -⟩ := h.entries key_s
  obtain ⟨es', hD', hko⟩ := h.keysOf
  obtain rfl : es = es' := by rw [hD] at hD'; simpa using hD'
  subst hD
  have hks : ∀ p ∈ es, ∃ s : ByteArray, p.1 = sK s ∧ s.size ≤ maxLen := fun p hp => by
    obtain ⟨x, hx⟩ := hko p hp
    obtain ⟨s, -, e, hl⟩ := keyOf_string_inv str_u hx
    exact ⟨s, e, hl⟩
  refine ⟨es.map fun p => ((⟨(strOf p.1).toArray⟩ : ByteArray), (m ⟨(strOf p.1).toArray⟩).getD 0), ⟨?_, fun s f => ?_⟩, ?_, ?_, ?_⟩
  · rw [List.map_map, List.nodup_iff_pairwise_ne, List.pairwise_map]
    refine hpw.imp_of_mem fun {p q} hp hq hne e => hne ?_
    obtain ⟨s, es1, -⟩ := hks p hp
    obtain ⟨t, et, -⟩ := hks q hq
    simp only [Function.comp, es1, et, strOf] at e ⊢
    have := congrArg (fun x : ByteArray => x.data.toList) e
    simpa [sK] using this
  · rw [List.mem_map]
    constructor
    · rintro ⟨p, hp, e⟩
      obtain ⟨t, et, -⟩ := hks p hp
      have e0 : (⟨(strOf p.1).toArray⟩ : ByteArray) = t := by rw [et]; simp [strOf]
      rw [e0] at e
      have hh : Maps.has (.map es) (sK t) = true := List.any_eq_true.2 ⟨p, hp, by rw [et]; exact WideAt.sameKey_self (key_lit _)⟩
      rw [v.has] at hh
      obtain ⟨g, hg⟩ := Option.isSome_iff_exists.1 hh
      rw [hg] at e
      cases e
      exact ⟨hg, rfl⟩
    · rintro ⟨hm, -⟩
      have hh : Maps.has (.map es) (sK s) = true := by rw [v.has, hm]; rfl
      obtain ⟨p, hp, hpk⟩ := List.any_eq_true.1 hh
      have := WideAt.sameKey_eq hpk
      refine ⟨p, hp, ?_⟩
      have e0 : (⟨(strOf p.1).toArray⟩ : ByteArray) = s := by rw [this]; simp [strOf]
      rw [e0, hm]
      rfl
  · rw [List.length_map]; rfl
  · rw [List.length_map]; exact hsz
  · intro q hq
    obtain ⟨p, hp, rfl⟩ := List.mem_map.1 hq
    obtain ⟨t, et, ht⟩ := hks p hp
    have e0 : (⟨(strOf p.1).toArray⟩ : ByteArray) = t := by rw [et]; simp [strOf]
    rw [e0]
    exact ht

/-- A range over such a map under way. -/
def Rng (w : World) (b r n : Nat) (m : Nms) (left : ByteArray → Bool) (cnt : Nat) : Prop := ∃ D lf, w.ranges Try.prog 9 (ptrElem (H := Unit)) b r n D lf cnt ∧ Vw D m ∧ (∀ s, lf (sK s) = left s) ∧ ∀ s, left s = true → (m s).isSome = true
theorem Rng.mp {w : World} {b r n cnt : Nat} {m : Nms} {left : ByteArray → Bool} (h : Rng w b r n m left cnt) : Mp w b n m := by obtain ⟨D, lf, h, v, -⟩ := h; exact ⟨D, h.owns, v⟩
theorem Rng.left_eq {w : World} {b r n cnt : Nat} {m : Nms} {left : ByteArray → Bool} (h : Rng w b r n m left cnt) : w.rangeLeft b r = cnt := by obtain ⟨D, lf, h, v, -⟩ := h; exact h.left_eq
theorem Rng.lt {w : World} {b r n cnt : Nat} {m : Nms} {left : ByteArray → Bool} (h : Rng w b r n m left cnt) : r < w.heap.size := by obtain ⟨D, lf, h, v, -⟩ := h; exact h.lt
theorem Rng.iter {w : World} {b r n cnt : Nat} {m : Nms} {left : ByteArray → Bool} (h : Rng w b r n m left cnt) : ∃ x s e c, w.heap[r]? = some (.mapIter x s e c) := by
  obtain ⟨D, lf, ⟨es, clock, since, seen, c0, -, -, -, -, hr, -⟩, -⟩ := h
  exact ⟨_, _, _, _, hr⟩
theorem Rng.on {w w' : World} {b r n cnt : Nat} {m : Nms} {left : ByteArray → Bool} (h : Rng w b r n m left cnt) (k1 : w'.heap[b]? = w.heap[b]?) (k2 : w'.heap[r]? = w.heap[r]?) : Rng w' b r n m left cnt := by
  obtain ⟨D, lf, ⟨es, clock, since, seen, c0, hb, F, hs, hD, hr, rest⟩, v⟩ := h
  exact ⟨D, lf, ⟨es, clock, since, seen, c0, k1.trans hb, F, hs, hD, k2.trans hr, rest⟩, v⟩
theorem frozen_on {w w' : World} (h : ∀ i : Nat, w'.heap[i]? = w.heap[i]? ∨ ((∀ c t f, w'.heap[i]? ≠ some (Obj.cells c t f)) ∧ ∀ c t f, w.heap[i]? ≠ some (Obj.cells c t f))) (a : Addr) : w'.frozen? a = w.frozen? a := by
  unfold World.frozen?
  rcases h a.block with e | ⟨e1, e2⟩
  · rw [e]
  · split
    · rename_i h; exact absurd h (e1 _ _ _)
    · split
      · rename_i h; exact absurd h (e2 _ _ _)
      · rfl

section
variable (w : World) {ops : Array Oper} {rest : List Oper} {o : Oper} {a : Act} {Q : Exit → Act → World → Prop}
theorem look_mp_ok (hg : o.guard = none) (m x : Operand) (hop : o.op = Op.lookup 44 m x true) (b n : Nat) (M : Nms) (hM : Mp w b n M) (hm : a.eval m = .map (some b)) (s : ByteArray) (hx : a.eval x = .string s) (hs : s.size ≤ maxLen)
    (hK : wpList Try.prog ops Q rest (a.put o.dst (.tuple #[pv (M s), .bool (M s).isSome])) w) : wpList Try.prog ops Q (o :: rest) a w := by
  obtain ⟨D, hO, v⟩ := hM
  refine wpList_look_ptr_ok w hg m x _ hop _ _ key_s map_u (zero_p w) b n D hm hO _ _ hx (keyOf_s s hs) fun q hq => ?_
  rw [v.look] at hq
  rw [← pd_inj hq, v.has]
  exact hK
theorem look_mp (hg : o.guard = none) (m x : Operand) (hop : o.op = Op.lookup 44 m x false) (b n : Nat) (M : Nms) (hM : Mp w b n M) (hm : a.eval m = .map (some b)) (s : ByteArray) (hx : a.eval x = .string s) (hs : s.size ≤ maxLen)
    (hK : wpList Try.prog ops Q rest (a.put o.dst (pv (M s))) w) : wpList Try.prog ops Q (o :: rest) a w := by
  obtain ⟨D, hO, v⟩ := hM
  refine wpList_look_ptr w hg m x _ hop _ _ key_s map_u (zero_p w) b n D hm hO _ _ hx (keyOf_s s hs) fun q hq => ?_
  rw [v.look] at hq
  rw [← pd_inj hq]
  exact hK
theorem turned_kx {w w' : World} {b : Nat} (h : w.mapTurned w' b) : KX (fun i => i = b) w w' := by
  have hg := h.grown
  exact ⟨hg.os, hg.tape, hg.output, hg.size, fun i hi hne => hg.block i hi (by simp; exact hne), fun x _ => h.frozen x⟩
theorem del_mp (hg : o.guard = none) (m x : Operand) (hop : o.op = Op.call { callee := Callee.builtin Builtin.delete, args := #[m, x], argTypes := #[44, 9] }) (b n : Nat) (M : Nms) (hM : Mp w b n M) (hm : a.eval m = .map (some b)) (s : ByteArray) (hx : a.eval x = .string s) (hs : s.size ≤ maxLen)
    (hK : ∀ w', Mp w' b n (upd M s none) → KX (fun i => i = b) w w' → wpList Try.prog ops Q rest (a.put o.dst (.tuple #[])) w') : wpList Try.prog ops Q (o :: rest) a w := by
  obtain ⟨D, hO, v⟩ := hM
  exact wpList_delete_own w hg m x _ _ hop _ key_s map_u _ b n D hm hO _ _ hx (keyOf_s s hs) fun w' h1 h2 => hK w' ⟨_, h1, v.del s⟩ (turned_kx h2)
theorem put_mp (hg : o.guard = none) (m x y : Operand) (hop : o.op = Op.mapUpdate 44 m x y) (b n : Nat) (M : Nms) (hM : Mp w b n M) (hn : n < 1000000000) (hm : a.eval m = .map (some b)) (s : ByteArray) (hx : a.eval x = .string s) (hs : s.size ≤ maxLen) (f : Nat) (hy : a.eval y = .pointer (some ⟨f, 0, none⟩))
    (hK : ∀ w', Mp w' b (n + 1) (upd M s (some f)) → KX (fun i => i = b) w w' → wpList Try.prog ops Q rest (a.put o.dst undef) w') : wpList Try.prog ops Q (o :: rest) a w := by
  obtain ⟨D, hO, v⟩ := hM
  exact wpList_mapUpdate_in w hg m x y _ hop _ _ key_s map_u _ b n D hm hO (by unfold maxLen; omega) _ _ _ hx hy (keyOf_s s hs) _ _ (ptrElem_mk (some f)) fun w' h1 h2 => hK w' ⟨_, h1, v.put hO.isMap s f⟩ (turned_kx h2)
theorem iter_kx {w w' : World} {r : Nat} (hg : w.grownBy w' (some r)) (hs : w'.heap.size = w.heap.size) (h1 : ∃ x s e c, w.heap[r]? = some (.mapIter x s e c)) (h2 : ∃ x s e c, w'.heap[r]? = some (.mapIter x s e c)) : KX (fun i => i = r) w w' := by
  refine ⟨hg.os, hg.tape, hg.output, hg.size, fun i hi hne => hg.block i hi (by simp; exact hne), fun x _ => frozen_on (fun i => ?_) x⟩
  by_cases e : i = r
  · subst e
    obtain ⟨_, _, _, _, h1⟩ := h1
    obtain ⟨_, _, _, _, h2⟩ := h2
    exact .inr ⟨fun c t f e => (by rw [h2] at e; cases e), fun c t f e => (by rw [h1] at e; cases e)⟩
  · by_cases hi : i < w.heap.size
    · exact .inl (hg.block i hi (by simp; exact e))
    · exact .inl (by rw [Array.getElem?_eq_none (by omega), Array.getElem?_eq_none (by omega)])
theorem range_mp (hg : o.guard = none) (m : Operand) (hop : o.op = Op.range 44 m) (b n : Nat) (M : Nms) (hM : Mp w b n M) (hm : a.eval m = .map (some b))
    (hK : ∀ w' cnt, Rng w' b w.heap.size n M (fun s => (M s).isSome) cnt → cnt ≤ n → Kept w w' → w'.heap.size = w.heap.size + 1 → wpList Try.prog ops Q rest (a.put o.dst (.pointer (some ⟨w.heap.size, 0, none⟩))) w') : wpList Try.prog ops Q (o :: rest) a w := by
  obtain ⟨D, hO, v⟩ := hM
  have hsz := hO.size_le
  refine wpList_range_own w hg m _ hop _ _ key_s map_u _ b n D hm hO fun w' h1 h2 h3 => ?_
  have hR : Rng w' b w.heap.size n M (fun s => (M s).isSome) (Maps.size D) := ⟨D, _, h1, v, fun s => v.has s, fun s h => h⟩
  refine hK w' _ hR hsz ⟨⟨h2.os, h2.tape, h2.output, h2.size, fun i hi => h2.block i hi (by simp)⟩, fun x _ => frozen_on (fun i => ?_) x⟩ h3
  by_cases e : i < w.heap.size
  · exact .inl (h2.block i e (by simp))
  · by_cases e2 : i = w.heap.size
    · subst e2
      obtain ⟨_, _, _, _, h4⟩ := hR.iter
      exact .inr ⟨fun c t f e => (by rw [h4] at e; cases e), fun c t f e => (by rw [Array.getElem?_eq_none (Nat.le_refl _)] at e; cases e)⟩
    · exact .inl (by rw [Array.getElem?_eq_none (by omega), Array.getElem?_eq_none (by omega)])
theorem next_mp (hg : o.guard = none) (it : Operand) (hop : o.op = Op.next it false) (b r n : Nat) (M : Nms) (left : ByteArray → Bool) (cnt : Nat) (hit : a.eval it = .pointer (some ⟨r, 0, none⟩)) (h : Rng w b r n M left cnt)
    (hDone : (∀ s, left s = false) → wpList Try.prog ops Q rest (a.put o.dst (.tuple #[.bool false])) w)
    (hMore : ∀ (s : ByteArray) (f : Nat) (w' : World) (cnt' : Nat), s.size ≤ maxLen → left s = true → M s = some f → Rng w' b r n M (fun t => left t && !decide (t = s)) cnt' → cnt' < cnt → KX (fun i => i = r) w w' → w'.heap.size = w.heap.size →
      (Instr.entry (.pointer (some ⟨r, 0, none⟩))).run Try.prog w' = .ok (.tuple #[.string s, .pointer (some ⟨f, 0, none⟩)]) w' → wpList Try.prog ops Q rest (a.put o.dst (.tuple #[.bool true, .string s, .pointer (some ⟨f, 0, none⟩)])) w') : wpList Try.prog ops Q (o :: rest) a w := by
  have hI := h.iter
  obtain ⟨D, lf, hr, v, hl, hls⟩ := h
  refine wpList_next_sp w hg it hop _ key_s str_u b r n D lf cnt hit hr (fun _ h0 => hDone fun s => by rw [← hl]; exact h0 _) fun s q w' cnt' hsz hlk hat hrg hlt hgr hsize hen => ?_
  have hl1 : left s = true := by rw [← hl]; exact hlk
  obtain ⟨f, hf⟩ := Option.isSome_iff_exists.1 (hls s hl1)
  have hq : some f = q := pd_inj ((v.at_ s f hf (pd none)).symm.trans (hat _))
  subst hq
  have hR : Rng w' b r n M (fun t => left t && !decide (t = s)) cnt' := ⟨D, _, hrg, v, fun t => by
    rw [hl]
    congr 2
    by_cases e : t = s
    · subst e; rw [decide_eq_true rfl]; exact WideAt.sameKey_self (key_lit _)
    · rw [decide_eq_false e]; exact sameKey_ne fun e2 => e (sK_inj e2), fun t ht => hls t (by
    rw [Bool.and_eq_true] at ht
    exact ht.1)⟩
  exact hMore s f w' cnt' hsz hl1 hf hR hlt (iter_kx hgr hsize hI hR.iter) hsize hen
theorem del_rng (hg : o.guard = none) (m x : Operand) (hop : o.op = Op.call { callee := Callee.builtin Builtin.delete, args := #[m, x], argTypes := #[44, 9] }) (b r n : Nat) (M : Nms) (left : ByteArray → Bool) (cnt : Nat) (hm : a.eval m = .map (some b)) (h : Rng w b r n M left cnt) (s : ByteArray) (hx : a.eval x = .string s) (hs : s.size ≤ maxLen)
    (hK : ∀ w' cnt', Rng w' b r n (upd M s none) (fun t => left t && !decide (t = s)) cnt' → cnt' ≤ cnt → KX (fun i => i = b) w w' → wpList Try.prog ops Q rest (a.put o.dst (.tuple #[])) w') : wpList Try.prog ops Q (o :: rest) a w := by
  obtain ⟨D, lf, hr, v, hl, hls⟩ := h
  refine wpList_delete_ranges w hg m x _ _ hop _ key_s map_u _ b r n D lf cnt hm hr _ _ hx (keyOf_s s hs) fun w' cnt' h1 h2 h3 => ?_
  refine hK w' cnt' ⟨_, _, h1, v.del s, fun t => ?_, fun t ht => ?_⟩ h2 (turned_kx h3)
  · rw [hl]
    congr 2
    by_cases e : t = s
    · subst e; rw [decide_eq_true rfl]; exact WideAt.sameKey_self (key_lit _)
    · rw [decide_eq_false e]; exact sameKey_ne fun e2 => e (sK_inj e2)
  · rw [Bool.and_eq_true, Bool.not_eq_true', decide_eq_false_iff_not] at ht
    unfold upd
    rw [if_neg ht.2]
    exact hls t ht.1
theorem len_mp (hg : o.guard = none) (m : Operand) (hop : o.op = Op.call { callee := Callee.builtin Builtin.len, args := #[m], argTypes := #[44] }) (b n : Nat) (M : Nms) (hM : Mp w b n M) (hm : a.eval m = .map (some b))
    (hK : ∀ N, Full M N → N.length ≤ n → wpList Try.prog ops Q rest (a.put o.dst (.int .i64 N.length)) w) : wpList Try.prog ops Q (o :: rest) a w := by
  obtain ⟨D, hO, v⟩ := hM
  obtain ⟨N, h1, h2, h3, -⟩ := Mp.full hO v
  refine wpList_len_own w hg m _ hop _ _ map_u _ b n D hm hO ?_
  rw [← h2]
  exact hK N h1 h3
end
end Go.Proofs.Ythaiejmajhmahab
