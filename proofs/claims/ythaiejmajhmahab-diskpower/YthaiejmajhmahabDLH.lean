/- Package disk: what a file's bytes become. -/
import Derived.Test.YthaiejmajhmahabDLG
namespace Go.Proofs.Ythaiejmajhmahab
open Go.ChangeShapes Go.WideShapes Go.ChangeAt Go.RowKit Go.Maps
set_option linter.unusedVariables false
set_option linter.unusedSimpArgs false

theorem MS.take {e : TypeId} {H : Nat} {w : World} {a : Option Addr} {n c : Nat} {V : List Value} (h : MS 1 e H w (.slice a n c) n V) (m : Nat) (hm : m ≤ n) : MS 1 e H w (.slice a m c) m (V.take m) := by
  rcases h with ⟨rfl, rfl, h⟩ | ⟨g, cap, h1, h2, h3, h4, cur, h5, h6, h7, h8, h9⟩
  · obtain rfl : m = 0 := by omega
    exact .inl ⟨rfl, by simp, h⟩
  · cases h1
    refine .inr ⟨g, c, rfl, h2, by rw [List.length_take]; omega, by omega, cur, h5, by rw [List.length_take]; omega, h7, h8, ?_⟩
    have hVl : V.length = n := by omega
    rw [List.length_take, ← h9, List.take_take]
    congr 1
    simp
    simp at h8
    omega
/-- What a file's bytes become, if the first few of a work's come to them. -/
def ontoL (x : Wk) (few : Nat) (l : List UInt8) : List UInt8 := if x.kind = 1 then x.bytes.take few else l ++ x.bytes.take few
theorem bsl_u : Try.prog.underlying 27 = some (.slice 5) := by kernel_rfl
theorem u8_i : (Try.prog.info? 5).map (fun i => (i.zero, i.size, i.bytes)) = some (some (.int .u8 0), 1, 1) := by kernel_rfl
theorem bv_take (l : List UInt8) (m : Nat) : (bv l).take m = bv (l.take m) := by simp [bv, List.map_take]
/-- Bytes that can be read. -/
def Rd (w : World) (v : Value) (l : List UInt8) : Prop := (l = [] ∧ v = .slice none 0 0) ∨ ∃ g c, v = .slice (some ⟨g, 0, none⟩) l.length c ∧ g < w.heap.size ∧ ∀ j u, (bv l)[j]? = some u → w.cell? ⟨g, j, none⟩ = some u
theorem Rb.rd {w : World} {v : Value} {l : List UInt8} (h : Rb w v l) : Rd w v l := by
  rcases h with ⟨h0, -, rfl⟩ | ⟨g, cap, rfl, -, -, -, hO⟩
  · exact .inl ⟨List.length_eq_zero_iff.1 h0, rfl⟩
  · exact .inr ⟨g, cap, rfl, hO.lt, fun j u hj => hO.cell j u hj⟩
theorem Rd.form {w : World} {v : Value} {l : List UInt8} (h : Rd w v l) : ∃ ao c, v = .slice ao l.length c := by
  rcases h with ⟨rfl, rfl⟩ | ⟨g, c, rfl, -⟩
  · exact ⟨none, 0, rfl⟩
  · exact ⟨_, _, rfl⟩
theorem Rd.onb {w w' : World} {v : Value} {l : List UInt8} (h : Rd w v l) (k : ∀ b, b < w.heap.size → ob v b → w'.heap[b]? = w.heap[b]?) (hs : w.heap.size ≤ w'.heap.size) : Rd w' v l := by
  rcases h with h | ⟨g, c, h1, h2, h3⟩
  · exact .inl h
  · exact .inr ⟨g, c, h1, Nat.lt_of_lt_of_le h2 hs, fun j u hj => (World.cell?_of_block (w := w) (k g h2 ⟨_, _, h1⟩)).trans (h3 j u hj)⟩
theorem Rd.kept {w w' : World} {v : Value} {l : List UInt8} (h : Rd w v l) (k : Kept w w') : Rd w' v l := h.onb (fun b hb _ => k.below.block b hb) k.below.size
theorem Rd.nil (w : World) : Rd w (.slice none 0 0) [] := .inl ⟨rfl, rfl⟩
/-- Bytes behind bytes. -/
theorem app_bytes (w : World) (old v : Value) (l k : List UInt8) (ho : Rb w old l) (hv : Rd w v k) (h : l.length + k.length < 100000000) :
    ∃ v' w', (∀ ty, (Builtin.append_ #[27, 27] ty #[old, v]).run Try.prog w = .ok v' w') ∧ Rb w' v' (l ++ k) ∧ KX (fun b => ob old b) w w' ∧ ∀ b, ob v' b → ob old b ∨ w.heap.size ≤ b := by
  have hS : Src Try.prog 1 27 v k.length (bv k) w := by
    rcases hv with ⟨rfl, rfl⟩ | ⟨g, c, rfl, -, hc⟩
    · exact Src.ofNil w bsl_u 0
    · exact Src.ofSlice w bsl_u ⟨g, 0, none⟩ k.length c (bv k) (by simp [bv]) (fun j u hj => by rw [Addr.add_lit, Nat.zero_add]; exact hc j u hj) (bv_one k)
  obtain ⟨v', w', h1, h2, h3, h4⟩ := app_src 27 5 bsl_u (.int .u8 0) 1 1 u8_i rfl (by decide) 0 w old l.length (bv l) ho v k.length (bv k) hS (by simp [bv]) (bv_one k) (by omega) h
  refine ⟨v', w', h1, ?_, h3, fun b hb => ?_⟩
  · unfold Rb
    rw [bv_app, List.length_append]
    exact h2
  · obtain ⟨n, c, e⟩ := hb
    exact h4 b n c e
theorem wp_appd (w : World) {ops : Array Oper} {rest : List Oper} {o : Oper} {a : Act} {Q : Exit → Act → World → Prop} (hg : o.guard = none) (s x : Operand) (hop : o.op = .call { callee := .builtin .append, args := #[s, x], argTypes := #[27, 27] })
    (old v : Value) (l k : List UInt8) (hs : a.eval s = old) (hx : a.eval x = v) (ho : Rb w old l) (hv : Rd w v k) (h : l.length + k.length < 100000000)
    (hK : ∀ v' w', Rb w' v' (l ++ k) → KX (fun b => ob old b) w w' → (∀ b, ob v' b → ob old b ∨ w.heap.size ≤ b) → wpList Try.prog ops Q rest (a.put o.dst v') w') : wpList Try.prog ops Q (o :: rest) a w := by
  obtain ⟨v', w', h1, h2, h3, h4⟩ := app_bytes w old v l k ho hv h
  exact wpList_append_run hg s x _ hop old v hs hx v' w' (h1 _) (hK v' w' h2 h3 h4)
theorem wp_app (w : World) {ops : Array Oper} {rest : List Oper} {o : Oper} {a : Act} {Q : Exit → Act → World → Prop} (hg : o.guard = none) (s x : Operand) (hop : o.op = .call { callee := .builtin .append, args := #[s, x], argTypes := #[27, 27] })
    (old v : Value) (l k : List UInt8) (hs : a.eval s = old) (hx : a.eval x = v) (ho : Rb w old l) (hv : Rb w v k) (h : l.length + k.length < 100000000)
    (hK : ∀ v' w', Rb w' v' (l ++ k) → KX (fun b => ob old b) w w' → (∀ b, ob v' b → ob old b ∨ w.heap.size ≤ b) → wpList Try.prog ops Q rest (a.put o.dst v') w') : wpList Try.prog ops Q (o :: rest) a w :=
  wp_appd w hg s x hop old v l k hs hx ho hv.rd h hK
theorem Rb.take {w : World} {a : Option Addr} {n c : Nat} {l : List UInt8} (h : Rb w (.slice a n c) l) (hn : l.length = n) (m : Nat) (hm : m ≤ n) : Rb w (.slice a m c) (l.take m) := by
  unfold Rb at h ⊢
  rw [hn] at h
  have := MS.take h m hm
  rw [bv_take] at this
  rw [List.length_take, hn, Nat.min_eq_left hm]
  exact this
theorem Rb.nil (w : World) : Rb w (.slice none 0 0) [] := .inl ⟨rfl, rfl, rfl⟩
theorem Rb.kept {w w' : World} {v : Value} {l : List UInt8} (h : Rb w v l) (k : Kept w w') : Rb w' v l := MS.kept h k
set_option maxHeartbeats 1000000 in
theorem onto_any (x : Wk) (v old : Value) (l : List UInt8) (few : Int) (hf0 : 0 ≤ few) (w : World) (hv : Rb w v x.bytes) (ho : Rb w old l) (hlen : l.length + x.bytes.length < 100000000) :
    Calls Try.prog 37 #[wval x v, old, .int .i64 few] w fun e w' => ∃ v', e = .returned v' ∧ Rb w' v' (ontoL x few.toNat l) ∧ KX (fun b => ob old b) w w' ∧ ∀ b, ob v' b → ob old b ∨ w.heap.size ≤ b := by
  obtain ⟨m, rfl⟩ : ∃ m : Nat, few = m := ⟨few.toNat, by omega⟩
  obtain ⟨k, s, t, ln, f, bs⟩ := x
  obtain ⟨ao2, c2, rfl⟩ := ho.form
  simp only at *
  have hv2 := hv
  have HO := hid fun (u : World) (k : Kept w u) => ho.kept k
  have HL := hid (show ∀ m, l.length + (bs.take m).length < 100000000 from fun m => by rw [List.length_take]; omega)
  have HL0 := hid (show ∀ m, ([] : List UInt8).length + (bs.take m).length < 100000000 from fun m => by rw [List.length_take, List.length_nil]; omega)
  have HE0 := hid fun (u u' : World) (v' : Value) (k : Kept w u) (h3 : KX (fun b => ob (.slice none 0 0) b) u u') (h4 : ∀ b, ob v' b → ob (.slice none 0 0) b ∨ u.heap.size ≤ b) => (show KX (fun b => ob (.slice ao2 l.length c2) b) w u' ∧ ∀ b, ob v' b → ob (.slice ao2 l.length c2) b ∨ w.heap.size ≤ b from
    ⟨(k.kx (fun b => ob (.slice ao2 l.length c2) b)).plus h3 fun b hb => absurd hb (ob_nil b), fun b hb => .inr ((h4 b hb).elim (fun h => absurd h (ob_nil b)) fun h => Nat.le_trans k.below.size h)⟩)
  have HE1 := hid fun (u u' : World) (v' : Value) (k : Kept w u) (h3 : KX (fun b => ob (.slice ao2 l.length c2) b) u u') (h4 : ∀ b, ob v' b → ob (.slice ao2 l.length c2) b ∨ u.heap.size ≤ b) => (show KX (fun b => ob (.slice ao2 l.length c2) b) w u' ∧ ∀ b, ob v' b → ob (.slice ao2 l.length c2) b ∨ w.heap.size ≤ b from
    ⟨(k.kx (fun b => ob (.slice ao2 l.length c2) b)).plus h3 fun b hb => .inl hb, fun b hb => (h4 b hb).imp id fun h => Nat.le_trans k.below.size h⟩)
  have HV := hid hv
  clear ho hv
  obtain ⟨n, hn0⟩ : ∃ n, bs.length = n := ⟨_, rfl⟩
  unfold Rb at hv2
  rw [hn0] at hv2
  have HN := hid hn0
  clear hlen hf0
  rcases hv2 with ⟨hn, hV, rfl⟩ | ⟨g, cap, rfl, -, hV, hcap, hO⟩
  · have HT := hid fun (u : World) (k : Kept w u) => (show Rb u (.slice none 0 0) (bs.take m) from by
      have : bs = [] := List.length_eq_zero_iff.1 (by rw [HN.out]; exact hn)
      rw [this, List.take_nil]
      exact Rb.nil u)
    clear hV HN hn
    have hmin : (if 0 < m then (0 : Int) else m) = 0 := by split <;> omega
    by_cases h : k = 1
    · subst h
      go_enter Try.func37, Try.ntmps37
      go_wp2_with (first | (at_builtin; refine wp_app _ rfl _ _ rfl _ _ [] (bs.take m) rfl rfl (Rb.nil _) (HT.out _ ((Kept.refl w).alloc _ _)) (HL0.out m) ?_; intro v' w' r2 r3 r4))
      go_ret
      exact ⟨v', rfl, r2, HE0.out _ _ _ ((Kept.refl w).alloc _ _) r3 r4⟩
    · have e : ∀ q, ontoL ⟨k, s, t, ln, f, bs⟩ q l = l ++ bs.take q := fun q => if_neg h
      simp only [e]
      have HE := hid h
      go_enter Try.func37, Try.ntmps37
      go_wp2_with (first | (at_builtin; refine wp_app _ rfl _ _ rfl _ _ l (bs.take m) rfl rfl (HO.out _ ((Kept.refl w).alloc _ _)) (HT.out _ ((Kept.refl w).alloc _ _)) (HL.out m) ?_; intro v' w' r2 r3 r4))
      go_ret
      exact ⟨v', rfl, r2, HE1.out _ _ _ ((Kept.refl w).alloc _ _) r3 r4⟩
  · clear hV hO
    have HT := hid fun (u : World) (k : Kept w u) (j : Nat) (hj : j ≤ n) => (HV.out.kept k).take HN.out j hj
    have HTn : bs.take n = bs := by rw [← HN.out]; exact List.take_length
    have HTm : n ≤ m → bs.take m = bs := fun h => List.take_of_length_le (by rw [HN.out]; exact h)
    have HTn := hid HTn
    have HTm := hid HTm
    by_cases hmn : m < n
    · by_cases h : k = 1
      · subst h
        go_enter Try.func37, Try.ntmps37
        go_wp2_with (first | (at_builtin; refine wp_app _ rfl _ _ rfl _ _ [] (bs.take m) rfl rfl (Rb.nil _) (HT.out _ ((Kept.refl w).alloc _ _) m (Nat.le_of_lt hmn)) (HL0.out m) ?_; intro v' w' r2 r3 r4))
        go_ret
        exact ⟨v', rfl, r2, HE0.out _ _ _ ((Kept.refl w).alloc _ _) r3 r4⟩
      · have e : ∀ q, ontoL ⟨k, s, t, ln, f, bs⟩ q l = l ++ bs.take q := fun q => if_neg h
        simp only [e]
        go_enter Try.func37, Try.ntmps37
        go_wp2_with (first | (at_builtin; refine wp_app _ rfl _ _ rfl _ _ l (bs.take m) rfl rfl (HO.out _ ((Kept.refl w).alloc _ _)) (HT.out _ ((Kept.refl w).alloc _ _) m (Nat.le_of_lt hmn)) (HL.out m) ?_; intro v' w' r2 r3 r4))
        go_ret
        exact ⟨v', rfl, r2, HE1.out _ _ _ ((Kept.refl w).alloc _ _) r3 r4⟩
    · have hmn : n ≤ m := by omega
      have hmin : (if n < m then (n : Int) else m) = n := by split <;> omega
      by_cases h : k = 1
      · subst h
        go_enter Try.func37, Try.ntmps37
        go_wp2_with (first | (at_builtin; refine wp_app _ rfl _ _ rfl _ _ [] (bs.take n) rfl rfl (Rb.nil _) (HT.out _ ((Kept.refl w).alloc _ _) n (Nat.le_refl n)) (HL0.out n) ?_; intro v' w' r2 r3 r4))
        go_ret
        rw [HTn.out] at r2
        exact ⟨v', rfl, (by unfold ontoL; rw [if_pos rfl]; simp only [Int.toNat_natCast]; rw [HTm.out hmn]; exact r2), HE0.out _ _ _ ((Kept.refl w).alloc _ _) r3 r4⟩
      · have e : ∀ q, ontoL ⟨k, s, t, ln, f, bs⟩ q l = l ++ bs.take q := fun q => if_neg h
        simp only [e]
        go_enter Try.func37, Try.ntmps37
        go_wp2_with (first | (at_builtin; refine wp_app _ rfl _ _ rfl _ _ l (bs.take n) rfl rfl (HO.out _ ((Kept.refl w).alloc _ _)) (HT.out _ ((Kept.refl w).alloc _ _) n (Nat.le_refl n)) (HL.out n) ?_; intro v' w' r2 r3 r4))
        go_ret
        rw [HTn.out] at r2
        exact ⟨v', rfl, (by simp only [Int.toNat_natCast]; rw [HTm.out hmn]; exact r2), HE1.out _ _ _ ((Kept.refl w).alloc _ _) r3 r4⟩
end Go.Proofs.Ythaiejmajhmahab
