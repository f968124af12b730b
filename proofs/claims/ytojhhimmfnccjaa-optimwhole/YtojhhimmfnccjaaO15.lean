/- The walk of OptimWhole. -/
import Derived.Test.YtojhhimmfnccjaaO14
import Derived.Test.YtojhhimmfnccjaaO13b
import Derived.Laws.Shifts
namespace Go.Proofs.Ytojhhimmfnccjaa
open Go.ChangeShapes Go.WideShapes Go.ChangeAt Go.RowKit Ieee
set_option linter.unusedVariables false
set_option linter.unusedSimpArgs false

def rowb (v : Value) : List Nat := match v with
  | .slice (some a) _ _ => [a.block]
  | _ => []
/-- One more int behind a row: what is turned is the row's own block alone. -/
theorem app_gs (H : Nat) (wr : World) (lv : Value) (M : List Int) (hM : MR H wr lv M) (d : Int) (hH : H ≤ wr.heap.size) (hlen : M.length < 10000000) : ∃ g cap w', (∀ ty, (Builtin.append_ #[22, 22] ty #[lv, .slice (some ⟨wr.heap.size, 0, none⟩) 1 1]).run Try.prog (wr.alloc (.cells #[.int .i64 d] 3)) = .ok (.slice (some ⟨g, 0, none⟩) (M.length + 1) cap) w') ∧ Own w' g cap (M ++ [d]) ∧ H ≤ g ∧ Gs (rowb lv) wr w' ∧ (g ∈ rowb lv ∨ wr.heap.size ≤ g) := by
  have hK : Kept wr (wr.alloc (.cells #[.int .i64 d] 3)) := (Kept.refl _).alloc _ _
  have hR : Rw (wr.alloc (.cells #[.int .i64 d] 3)) lv 3 (M.map (Value.int .i64)) := by
    rcases hM with ⟨rfl, rfl⟩ | ⟨g, cap, rfl, hg, ho⟩
    · exact .inl ⟨rfl, rfl⟩
    · exact .inr ⟨g, cap, by rw [List.length_map], own_v.1 (ho.kept hK)⟩
  obtain ⟨g, cap, w', hr, ho, hk⟩ := app_gen 22 3 li_under (.int .i64 0) 8 int_info (by rfl) (by decide) (wr.alloc (.cells #[.int .i64 d] 3)) lv (M.map (Value.int .i64)) [.int .i64 d] hR ⟨wr.heap.size, 0, none⟩ 1 1 rfl (fun j u hj => by
    rcases j with _ | j
    · cases hj
      simp [go_sem]
    · simp at hj) (fun u hu => by rw [List.mem_singleton.1 hu]; rfl) (by decide) (by rw [List.length_map]; omega)
  rw [List.length_map] at hr
  have hO : Own w' g cap (M ++ [d]) := own_v.2 (by rw [List.map_append]; exact ho)
  rcases hk with ⟨e, kk⟩ | ⟨e, gg⟩
  · have e' : g = wr.heap.size + 1 := by rw [e]; simp
    exact ⟨g, cap, w', hr, hO, by omega, (hK.trans kk).gs _, .inr (by omega)⟩
  · rw [List.length_map] at e
    rw [e] at hM
    have hgH : H ≤ g := by
      rcases hM with ⟨-, h⟩ | ⟨g0, cap0, h, hg, -⟩
      · cases h
      · have : g = g0 := by simp at h; exact h.1
        omega
    rw [e]
    exact ⟨g, cap, w', by rw [e] at hr; exact hr, hO, hgH, (hK.gs _).trans gg.gs, .inl (by simp [rowb])⟩
theorem MR.gs {S : List Nat} {H : Nat} {w w' : World} {v : Value} {M : List Int} (h : MR H w v M) (k : Gs S w w') (hd : ∀ b ∈ rowb v, b ∉ S) : MR H w' v M := by
  rcases h with h | ⟨g, cap, rfl, hg, ho⟩
  · exact .inl h
  · exact .inr ⟨g, cap, rfl, hg, ho.gs k (hd g (by simp [rowb]))⟩
theorem MR.lo {H : Nat} {w : World} {v : Value} {M : List Int} (h : MR H w v M) : ∀ b ∈ rowb v, H ≤ b ∧ b < w.heap.size := by
  rcases h with ⟨-, rfl⟩ | ⟨g, cap, rfl, hg, ho⟩
  · intro b hb; cases hb
  · intro b hb
    simp only [rowb, List.mem_singleton] at hb
    exact ⟨by omega, by have := ho.lt; omega⟩
theorem MR.len2 {H : Nat} {w : World} {v : Value} {M : List Int} (h : MR H w v M) : ∃ ao c, v = .slice ao M.length c := by
  rcases h with ⟨rfl, rfl⟩ | ⟨g, cap, e, hg, ho⟩
  · exact ⟨none, 0, rfl⟩
  · exact ⟨_, _, e⟩
/-- what stands while the lists grow: two matrices in their variables, three rows that share nothing -/
structure St (w : World) (H B9 B10 : Nat) (l n : Int) (u : World) (lA lB lW : Value) (MA MB MW : List Int) : Prop where
  k : Kept w u
  sz : H ≤ u.heap.size
  a : Bk u B9 [.int .i64 1, .int .i64 l, .int .i64 n, lA]
  b : Bk u B10 [.int .i64 1, .int .i64 l, .int .i64 n, lB]
  mA : MR H u lA MA
  mB : MR H u lB MB
  mW : MR H u lW MW
  d1 : ∀ b ∈ rowb lA, b ∉ rowb lB
  d2 : ∀ b ∈ rowb lA, b ∉ rowb lW
  d3 : ∀ b ∈ rowb lB, b ∉ rowb lW
theorem St.kept {w : World} {H B9 B10 : Nat} {l n : Int} {u u' : World} {lA lB lW : Value} {MA MB MW : List Int} (h : St w H B9 B10 l n u lA lB lW MA MB MW) (k : Kept u u') : St w H B9 B10 l n u' lA lB lW MA MB MW :=
  ⟨h.k.trans k, Nat.le_trans h.sz k.below.size, h.a.kept k, h.b.kept k, h.mA.kept k, h.mB.kept k, h.mW.kept k, h.d1, h.d2, h.d3⟩
structure Nn (w : World) (H B9 B10 : Nat) : Prop where
  ne : B9 ≠ B10
  h9 : B9 < H
  h10 : B10 < H
  w9 : w.heap.size ≤ B9
  w10 : w.heap.size ≤ B10
theorem mr_new {H : Nat} {w : World} {g cap : Nat} {M : List Int} {d : Int} (ho : Own w g cap (M ++ [d])) (hg : H ≤ g) : MR H w (.slice (some ⟨g, 0, none⟩) (M.length + 1) cap) (M ++ [d]) := .inr ⟨g, cap, by rw [List.length_append]; rfl, hg, ho⟩
theorem MR.put {H : Nat} {w : World} {v : Value} {M : List Int} (h : MR H w v M) {p : Addr} (hp : p.block < H) (u : Value) : MR H (w.setCell p u) v M := by
  rcases h with h | ⟨g, cap, e, hg, ho⟩
  · exact .inl h
  · exact .inr ⟨g, cap, e, hg, ho.setOther (by omega) u⟩
theorem row_apart {H g : Nat} {u : World} {lv lo : Value} {M : List Int} (hm : MR H u lo M) (hg : g ∈ rowb lv ∨ u.heap.size ≤ g) (hd : ∀ b ∈ rowb lv, b ∉ rowb lo) : g ∉ rowb lo := fun h => by
  rcases hg with h1 | h1
  · exact hd g h1 h
  · have := (hm.lo g h).2
    omega
theorem bk_out {H B : Nat} {u : World} {lv : Value} {M : List Int} (hm : MR H u lv M) (hB : B < H) : B ∉ rowb lv := fun h => by have := (hm.lo B h).1; omega
theorem St.growA {w : World} {H B9 B10 : Nat} {l n : Int} {u : World} {lA lB lW : Value} {MA MB MW : List Int} (hN : Nn w H B9 B10) (h : St w H B9 B10 l n u lA lB lW MA MB MW) (d : Int) (hlen : MA.length < 10000000) :
    ∃ g cap w', (∀ ty, (Builtin.append_ #[22, 22] ty #[lA, .slice (some ⟨u.heap.size, 0, none⟩) 1 1]).run Try.prog (u.alloc (.cells #[.int .i64 d] 3)) = .ok (.slice (some ⟨g, 0, none⟩) (MA.length + 1) cap) w') ∧ Gs (rowb lA) u w' ∧ Bk w' B9 [.int .i64 1, .int .i64 l, .int .i64 n, lA] ∧
      St w H B9 B10 l n (w'.setCell ⟨B9, 3, none⟩ (.slice (some ⟨g, 0, none⟩) (MA.length + 1) cap)) (.slice (some ⟨g, 0, none⟩) (MA.length + 1) cap) lB lW (MA ++ [d]) MB MW := by
  obtain ⟨g, cap, w', hr, ho, hg, hG, hor⟩ := app_gs H u lA MA h.mA d h.sz hlen
  have i9 := bk_out h.mA hN.h9
  have i10 := bk_out h.mA hN.h10
  have hb := h.a.gs hG i9
  refine ⟨g, cap, w', hr, hG, hb, ?_⟩
  have hkw : Kept w w' := h.k.gsn (fun j hj => by have h1 := (h.mA.lo j hj).1; have h2 := hN.h9; have h3 := hN.w9; omega) hG
  exact ⟨hkw.setCell hN.w9 _, by have := hG.size; have := h.sz; simp; omega, hb.set 3 _, (h.b.gs hG i10).far (Ne.symm hN.ne) _, (mr_new ho hg).put hN.h9 _, (h.mB.gs hG (fun b hb hb2 => h.d1 b hb2 hb)).put hN.h9 _, (h.mW.gs hG (fun b hb hb2 => h.d2 b hb2 hb)).put hN.h9 _,
    (fun b hb => by simp only [rowb, List.mem_singleton] at hb; subst hb; exact row_apart h.mB hor h.d1), (fun b hb => by simp only [rowb, List.mem_singleton] at hb; subst hb; exact row_apart h.mW hor h.d2), h.d3⟩
theorem St.growB {w : World} {H B9 B10 : Nat} {l n : Int} {u : World} {lA lB lW : Value} {MA MB MW : List Int} (hN : Nn w H B9 B10) (h : St w H B9 B10 l n u lA lB lW MA MB MW) (d : Int) (hlen : MB.length < 10000000) :
    ∃ g cap w', (∀ ty, (Builtin.append_ #[22, 22] ty #[lB, .slice (some ⟨u.heap.size, 0, none⟩) 1 1]).run Try.prog (u.alloc (.cells #[.int .i64 d] 3)) = .ok (.slice (some ⟨g, 0, none⟩) (MB.length + 1) cap) w') ∧ Gs (rowb lB) u w' ∧ Bk w' B10 [.int .i64 1, .int .i64 l, .int .i64 n, lB] ∧
      St w H B9 B10 l n (w'.setCell ⟨B10, 3, none⟩ (.slice (some ⟨g, 0, none⟩) (MB.length + 1) cap)) lA (.slice (some ⟨g, 0, none⟩) (MB.length + 1) cap) lW MA (MB ++ [d]) MW := by
  obtain ⟨g, cap, w', hr, ho, hg, hG, hor⟩ := app_gs H u lB MB h.mB d h.sz hlen
  have i9 := bk_out h.mB hN.h9
  have i10 := bk_out h.mB hN.h10
  have hb := h.b.gs hG i10
  refine ⟨g, cap, w', hr, hG, hb, ?_⟩
  have hkw : Kept w w' := h.k.gsn (fun j hj => by have h1 := (h.mB.lo j hj).1; have h2 := hN.h9; have h3 := hN.w9; omega) hG
  exact ⟨hkw.setCell hN.w10 _, by have := hG.size; have := h.sz; simp; omega, (h.a.gs hG i9).far hN.ne _, hb.set 3 _, (h.mA.gs hG (fun b hb hb2 => h.d1 b hb hb2)).put hN.h10 _, (mr_new ho hg).put hN.h10 _, (h.mW.gs hG (fun b hb hb2 => h.d3 b hb2 hb)).put hN.h10 _,
    (fun b hb hb2 => by simp only [rowb, List.mem_singleton] at hb2; subst hb2; exact row_apart h.mA hor (fun c hc hc2 => h.d1 c hc2 hc) hb), h.d2, (fun b hb => by simp only [rowb, List.mem_singleton] at hb; subst hb; exact row_apart h.mW hor h.d3)⟩
theorem St.growW {w : World} {H B9 B10 : Nat} {l n : Int} {u : World} {lA lB lW : Value} {MA MB MW : List Int} (hN : Nn w H B9 B10) (h : St w H B9 B10 l n u lA lB lW MA MB MW) (d : Int) (hlen : MW.length < 10000000) :
    ∃ g cap w', (∀ ty, (Builtin.append_ #[22, 22] ty #[lW, .slice (some ⟨u.heap.size, 0, none⟩) 1 1]).run Try.prog (u.alloc (.cells #[.int .i64 d] 3)) = .ok (.slice (some ⟨g, 0, none⟩) (MW.length + 1) cap) w') ∧
      St w H B9 B10 l n w' lA lB (.slice (some ⟨g, 0, none⟩) (MW.length + 1) cap) MA MB (MW ++ [d]) := by
  obtain ⟨g, cap, w', hr, ho, hg, hG, hor⟩ := app_gs H u lW MW h.mW d h.sz hlen
  have i9 := bk_out h.mW hN.h9
  have i10 := bk_out h.mW hN.h10
  refine ⟨g, cap, w', hr, ?_⟩
  have hkw : Kept w w' := h.k.gsn (fun j hj => by have h1 := (h.mW.lo j hj).1; have h2 := hN.h9; have h3 := hN.w9; omega) hG
  exact ⟨hkw, by have := hG.size; have := h.sz; omega, h.a.gs hG i9, h.b.gs hG i10, h.mA.gs hG (fun b hb hb2 => h.d2 b hb hb2), h.mB.gs hG (fun b hb hb2 => h.d3 b hb hb2), mr_new ho hg,
    h.d1, (fun b hb hb2 => by simp only [rowb, List.mem_singleton] at hb2; subst hb2; exact row_apart h.mA hor (fun c hc hc2 => h.d2 c hc2 hc) hb), (fun b hb hb2 => by simp only [rowb, List.mem_singleton] at hb2; subst hb2; exact row_apart h.mB hor (fun c hc hc2 => h.d3 c hc2 hc) hb)⟩
set_option maxHeartbeats 8000000 in
set_option maxRecDepth 100000 in
theorem ow_no (L0 L1 : List Int) (ar0 ar1 : Option Addr) (cr0 cr1 : Nat) (sh n : Int) (h : ¬ (1 ≤ L0.length ∧ L0.length ≤ 60 ∧ L1.length = L0.length ∧ 0 ≤ sh ∧ sh ≤ 8 ∧ (n = 32 ∨ n = 64))) (w : World) :
    Calls Try.prog 3 #[.slice ar0 L0.length cr0, .slice ar1 L1.length cr1, .int .i64 sh, .int .i64 n] w fun e w' => e = .returned (.bool true) ∧ Kept w w' := by
  have KA : Hid (∀ u, Calls Try.prog 4 #[] u fun e w' => e = .returned (.bool true) ∧ Kept u w') := fun u => alive17 u
  have HH := hid h
  clear h
  go_enter Try.func3, Try.ntmps3
  have fin : ∀ u, Kept w u → Calls Try.prog 4 #[] u fun e w' => e = .returned (.bool true) ∧ Kept w w' := fun u k => (alive17 u).mono (fun e w' h => ⟨h.1, k.trans h.2⟩)
  have FI := hid fin
  clear fin
  have KA2 : Hid (∀ u, Kept w u → Calls Try.prog 4 #[] u fun e w' => e = .returned (.bool true) ∧ Kept w w') := FI.out
  have kw := Kept.refl w
  by_cases q0 : L0.length = 0
  · have b0 : ((L0.length : Int) == 0) = true := by rw [beq_iff_eq]; omega
    clear HH q0
    go_wp2_with (first | (go_at_call 4; refine (KA2.out _ kw).mono ?_; rintro e u1 ⟨rfl, k1⟩; replace kw := k1; clear k1))
    go_ret
    exact ⟨rfl, kw⟩
  have b0 : ((L0.length : Int) == 0) = false := by rw [beq_eq_false_iff_ne]; omega
  by_cases q1 : 60 < L0.length
  · have b1 : (decide ((60 : Int) < (L0.length : Int))) = true := by simp; omega
    clear HH q1
    go_wp2_with (first | (go_at_call 4; refine (KA2.out _ kw).mono ?_; rintro e u1 ⟨rfl, k1⟩; replace kw := k1; clear k1))
    go_ret
    exact ⟨rfl, kw⟩
  have b1 : (decide ((60 : Int) < (L0.length : Int))) = false := by simp; omega
  by_cases q2 : L1.length ≠ L0.length
  · have b2 : ((L1.length : Int) != (L0.length : Int)) = true := by simp; omega
    clear HH q2
    go_wp2_with (first | (go_at_call 4; refine (KA2.out _ kw).mono ?_; rintro e u1 ⟨rfl, k1⟩; replace kw := k1; clear k1))
    go_ret
    exact ⟨rfl, kw⟩
  have b2 : ((L1.length : Int) != (L0.length : Int)) = false := by simp; omega
  by_cases q3 : sh < 0
  · have b3 : (decide (sh < 0)) = true := by simp; omega
    clear HH q3
    go_wp2_with (first | (go_at_call 4; refine (KA2.out _ kw).mono ?_; rintro e u1 ⟨rfl, k1⟩; replace kw := k1; clear k1))
    go_ret
    exact ⟨rfl, kw⟩
  have b3 : (decide (sh < 0)) = false := by simp; omega
  by_cases q4 : 8 < sh
  · have b4 : (decide (8 < sh)) = true := by simp; omega
    clear HH q4
    go_wp2_with (first | (go_at_call 4; refine (KA2.out _ kw).mono ?_; rintro e u1 ⟨rfl, k1⟩; replace kw := k1; clear k1))
    go_ret
    exact ⟨rfl, kw⟩
  have b4 : (decide (8 < sh)) = false := by simp; omega
  have b5 : (n != 32) = true := by simp; intro h; exact HH.out ⟨by omega, by omega, by omega, by omega, by omega, .inl h⟩
  have b6 : (n != 64) = true := by simp; intro h; exact HH.out ⟨by omega, by omega, by omega, by omega, by omega, .inr h⟩
  clear HH q0 q1 q2 q3 q4
  go_wp2_with (first | (go_at_call 4; refine (KA2.out _ kw).mono ?_; rintro e u1 ⟨rfl, k1⟩; replace kw := k1; clear k1))
  go_ret
  exact ⟨rfl, kw⟩
/-- the numbers that a list has, one behind the other -/
def ups (f : Nat → Int) (i : Nat) : List Int := (List.range i).map f
theorem ups_len (f : Nat → Int) (i : Nat) : (ups f i).length = i := by simp [ups]
theorem ups_succ (f : Nat → Int) (i : Nat) : ups f i ++ [f i] = ups f (i + 1) := by simp [ups, List.range_succ]
theorem ups_get (f : Nat → Int) (i j : Nat) (h : j < i) : (ups f i).getD j 0 = f j := by simp [ups, List.getD_eq_getElem?_getD, h]
set_option maxHeartbeats 8000000 in
set_option maxRecDepth 100000 in
theorem ow_yes (l : Nat) (h1 : 1 ≤ l) (h60 : l ≤ 60) (x0 y0 : Nat → Int) (x y : Nat → Int) (b0 o0 b1 o1 cr0 cr1 : Nat) (s : Nat) (hs : s < 9) (n : Int) (hn : (n != 32) = false ∨ (n != 32) = true ∧ (n != 64) = false) (fb : Int → Int) (P : Int) (hP : P = 2 ^ s) (w : World)
    (hx : ∀ i, (x0 i).tmod 1000 = x i) (hy : ∀ i, (y0 i).tmod 1000 = y i) (ax : ∀ i, (x i).natAbs < 1000) (ay : ∀ i, (y i).natAbs < 1000)
    (r0 : ∀ i, i < l → w.cell? ⟨b0, o0 + i, none⟩ = some (.int .i64 (x0 i))) (r1 : ∀ i, i < l → w.cell? ⟨b1, o1 + i, none⟩ = some (.int .i64 (y0 i)))
    (KF : Hid (∀ z u, Calls Try.prog 5 #[.int .i64 z, .int .i64 n] u fun e w' => e = .returned (.int .i64 (fb z)) ∧ u = w'))
    (KT : Hid (∀ z u, z.natAbs < 2000 → Calls Try.prog 7 #[.int .i64 (fb z), .int .i64 n] u fun e w' => e = .returned (.tuple #[.int .i64 z, .bool true]) ∧ u = w'))
    (KS : Hid (∀ ga ca gb cb u, Own u ga ca (ups (fun j => fb (x j)) l) → Own u gb cb (ups (fun j => fb (y j * P)) l) → Calls Try.prog 6 #[z7, .int .i64 (rt 64 s), .agg #[.int .i64 1, .int .i64 (l : Int), .int .i64 n, .slice (some ⟨ga, 0, none⟩) l ca], .agg #[.int .i64 1, .int .i64 (l : Int), .int .i64 n, .slice (some ⟨gb, 0, none⟩) l cb], .slice none 0 0] u fun e w' => ∃ g, e = .returned (.tuple #[.agg #[.int .i64 1, .int .i64 (l : Int), .int .i64 n, .slice (some ⟨g, 0, none⟩) l l], .slice none 0 0, .int .i64 0, .int .i64 0]) ∧ u.heap.size ≤ g ∧ Own w' g l (stl l (fun i => fb (x i - y i)) l) ∧ Kept u w')) :
    Calls Try.prog 3 #[.slice (some ⟨b0, o0, none⟩) l cr0, .slice (some ⟨b1, o1, none⟩) l cr1, .int .i64 (s : Int), .int .i64 n] w fun e w' => e = .returned (.bool true) ∧ Kept w w' := by
  have KA : Hid (∀ u, Calls Try.prog 4 #[] u fun e w' => e = .returned (.bool true) ∧ Kept u w') := fun u => alive17 u
  have f0 : ((l : Int) == 0) = false := by rw [beq_eq_false_iff_ne]; omega
  have f1 : decide ((60 : Int) < (l : Int)) = false := by simp; omega
  have f2 : ((l : Int) != (l : Int)) = false := by simp
  have f3 : decide ((s : Int) < 0) = false := by simp
  have f4 : decide ((8 : Int) < (s : Int)) = false := by simp; omega
  have HN := hid hn
  have HX := hid hx
  have HY := hid hy
  have AX := hid ax
  have AY := hid ay
  have R0 : Hid (∀ u, Kept w u → ∀ i, i < l → u.cell? ⟨b0, o0 + i, none⟩ = some (.int .i64 (x0 i))) := fun u k i hi => (k.below.cell (p := ⟨b0, o0 + i, none⟩) (World.block_lt_of_cell? _ _ (r0 i hi))).trans (r0 i hi)
  have R1 : Hid (∀ u, Kept w u → ∀ i, i < l → u.cell? ⟨b1, o1 + i, none⟩ = some (.int .i64 (y0 i))) := fun u k i hi => (k.below.cell (p := ⟨b1, o1 + i, none⟩) (World.block_lt_of_cell? _ _ (r1 i hi))).trans (r1 i hi)
  have HP := hid hP
  have hrt : rt 64 s = (1023 - (s : Int)) * 4503599627370496 := by unfold rt; rw [if_pos rfl]; omega
  rw [hrt] at KS
  clear hrt
  clear hn hx hy ax ay r0 r1 hP
  go_enter Try.func3, Try.ntmps3
  go_upto_region 1 with fail
  go_cut [56] from 22 to 56 (fun v wx => v = .bool false ∧ Kept w wx)
  case first =>
    rcases HN.out with g1 | ⟨g1, g2⟩
    · go_wp2_with (first | (go_at_call 4; refine (KA.out _).mono ?_; rintro e u1 ⟨rfl, k1⟩))
      go_meet
      exact ⟨rfl, k1⟩
    · go_wp2_with (first | (go_at_call 4; refine (KA.out _).mono ?_; rintro e u1 ⟨rfl, k1⟩))
      go_meet
      exact ⟨rfl, k1⟩
  case rest =>
    obtain ⟨rfl, kc⟩ := hcut
    clear f0 f1 f2 f3 f4
    go_upto_region 5 with fail
    obtain ⟨X1, hX1⟩ : ∃ X, X = wc.alloc (.cells #[.int .i64 1, .int .i64 (l : Int), .int .i64 n, .slice none 0 0] 25) := ⟨_, rfl⟩
    obtain ⟨X, hX⟩ : ∃ X, X = X1.alloc (.cells #[.int .i64 1, .int .i64 (l : Int), .int .i64 n, .slice none 0 0] 25) := ⟨_, rfl⟩
    obtain ⟨B9, hB9⟩ : ∃ B, B = wc.heap.size := ⟨_, rfl⟩
    obtain ⟨B10, hB10⟩ : ∃ B, B = B9 + 1 := ⟨_, rfl⟩
    have kX : Kept wc X := by rw [hX, hX1]; exact ((Kept.refl wc).alloc _ _).alloc _ _
    have e1 : X1.heap.size = wc.heap.size + 1 := by rw [hX1]; simp
    have e2 : X.heap.size = wc.heap.size + 1 + 1 := by rw [hX, ← e1]; simp
    have b9 : Bk X B9 [.int .i64 1, .int .i64 (l : Int), .int .i64 n, .slice none 0 0] := by rw [hX]; refine Bk.alloc ?_ _ _; rw [hX1, hB9]; exact Bk.new wc [.int .i64 1, .int .i64 (l : Int), .int .i64 n, .slice none 0 0] _
    have b10 : Bk X B10 [.int .i64 1, .int .i64 (l : Int), .int .i64 n, .slice none 0 0] := by
      rw [hX, hB10, hB9]
      have := Bk.new X1 [.int .i64 1, .int .i64 (l : Int), .int .i64 n, .slice none 0 0] 25
      rw [e1] at this
      exact this
    rw [← hX1, ← hX, ← hB9, ← hB10]
    have hN : Hid (B9 ≠ B10 ∧ B9 < X.heap.size ∧ B10 < X.heap.size ∧ w.heap.size ≤ B9 ∧ w.heap.size ≤ B10 ∧ w.heap.size ≤ X.heap.size) := (show _ ∧ _ ∧ _ ∧ _ ∧ _ ∧ _ from by have := kc.below.size; omega)
    have kW : Kept w X := kc.trans kX
    clear hX hX1 hB9 hB10 e1 e2 kX kc
    obtain ⟨H, hH⟩ : ∃ H, H = X.heap.size := ⟨_, rfl⟩
    have NN : Hid (Nn w H B9 B10) := (show Nn w H B9 B10 from ⟨hN.out.1, by rw [hH]; exact hN.out.2.1, by rw [hH]; exact hN.out.2.2.1, hN.out.2.2.2.1, hN.out.2.2.2.2.1⟩)
    have S0 : Hid (St w H B9 B10 (l : Int) n X (.slice none 0 0) (.slice none 0 0) (.slice none 0 0) (ups (fun j => fb (x j)) 0) (ups (fun j => fb (y j * P)) 0) (ups (fun j => x j - y j) 0)) := (show St w H B9 B10 (l : Int) n X (.slice none 0 0) (.slice none 0 0) (.slice none 0 0) (ups (fun j => fb (x j)) 0) (ups (fun j => fb (y j * P)) 0) (ups (fun j => x j - y j) 0) from ⟨kW, by rw [hH]; exact Nat.le_refl _, b9, b10, .inl ⟨rfl, rfl⟩, .inl ⟨rfl, rfl⟩, .inl ⟨rfl, rfl⟩, (fun b hb => by cases hb), (fun b hb => by cases hb), (fun b hb => by cases hb)⟩)
    clear hH hN b9 b10 kW
    go_wp2_with fail
    go_loopw [11, 12] (fun wv iv wr => ∃ (i : Nat) (lA lB : Value), i ≤ l ∧ iv = .int .i64 i ∧ St w H B9 B10 (l : Int) n wr lA lB wv (ups (fun j => fb (x j)) i) (ups (fun j => fb (y j * P)) i) (ups (fun j => x j - y j) i)) (fun _ iv _ => l - (intOf iv).toNat)
    case atStart => exact ⟨0, .slice none 0 0, .slice none 0 0, Nat.zero_le _, rfl, S0.out⟩
    case round =>
      clear S0
      obtain ⟨i, lA, lB, hil, rfl, hst⟩ := hrel
      have wr_ := hst.k
      by_cases hi : i < l
      · have q0 := R0.out _ wr_ i hi
        have q1 := R1.out _ wr_ i hi
        have ex := HX.out i
        have ey := HY.out i
        have hax := AX.out i
        have hay := AY.out i
        have hP0 : 1 ≤ P ∧ P ≤ 256 := by
          have hp := HP.out
          have : ∀ s : Nat, s < 9 → (1 : Int) ≤ 2 ^ s ∧ (2 : Int) ^ s ≤ 256 := by decide
          rw [hp]
          exact this s hs
        have hw2 : IntKind.i64.wrap ((2 : Int) ^ s) = P := by rw [wrap_i64, ← HP.out]; omega
        have uA := ups_succ (fun j => fb (x j)) i
        have uB := ups_succ (fun j => fb (y j * P)) i
        have uW := ups_succ (fun j => x j - y j) i
        have UA := hid uA
        have UB := hid uB
        have UW := hid uW
        clear uA uB uW
        have hyP : -256000 ≤ y i * P ∧ y i * P ≤ 256000 := by
          have h3 : -999 ≤ y i ∧ y i ≤ 999 := by omega
          have h4 : (y i * P).natAbs ≤ 999 * 256 := by
            rw [Int.natAbs_mul]
            exact Nat.mul_le_mul (by omega) (by omega)
          omega
        have wP : IntKind.i64.wrap (y i * P) = y i * P := by rw [wrap_i64]; omega
        have wx : IntKind.i64.wrap (x i) = x i := by rw [wrap_i64]; omega
        have wy : IntKind.i64.wrap (y i) = y i := by rw [wrap_i64]; omega
        have wd : IntKind.i64.wrap (x i - y i) = x i - y i := by rw [wrap_i64]; omega
        obtain ⟨xa, hxa⟩ : ∃ z, z = x0 i := ⟨_, rfl⟩
        obtain ⟨ya, hya⟩ : ∃ z, z = y0 i := ⟨_, rfl⟩
        rw [← hxa] at q0 ex
        rw [← hya] at q1 ey
        obtain ⟨xx, hxx⟩ : ∃ z, z = x i := ⟨_, rfl⟩
        obtain ⟨yy, hyy⟩ : ∃ z, z = y i := ⟨_, rfl⟩
        obtain ⟨zz, hzz⟩ : ∃ z, z = yy * P := ⟨_, rfl⟩
        obtain ⟨dd, hdd⟩ : ∃ z, z = xx - yy := ⟨_, rfl⟩
        rw [← hxx] at ex wx wd
        rw [← hyy] at ey wP wy wd
        rw [← hzz] at wP
        rw [← hdd] at wd
        simp only [← hxx, ← hyy, ← hzz, ← hdd] at UA UB UW
        have HZ : ∀ z : Int, z = yy * P → z = zz := fun z h => h.trans hzz.symm
        have hm : yy * P = zz := hzz.symm
        have hd' : xx - yy = dd := hdd.symm
        have HYA := hid hya
        have EY := hid ey
        clear hxa hya hxx hyy hzz hdd HZ hax hay hyP hP0
        have bl0 := World.block_lt_of_cell? _ _ q0
        have bl1 := World.block_lt_of_cell? _ _ q1
        have HS : Hid (∀ u, Kept wr u → Kept wr u ∧ u.cell? ⟨b0, o0 + i, none⟩ = some (.int .i64 xa) ∧ u.cell? ⟨b1, o1 + i, none⟩ = some (.int .i64 ya)) := fun u q => ⟨q, (q.below.cell (p := ⟨b0, o0 + i, none⟩) bl0).trans q0, (q.below.cell (p := ⟨b1, o1 + i, none⟩) bl1).trans q1⟩
        clear bl0 bl1
        go_upto_region 9 with fail
        refine wp_region_late [] (fun u => Kept wr u ∧ u.cell? ⟨b0, o0 + i, none⟩ = some (.int .i64 xa) ∧ u.cell? ⟨b1, o1 + i, none⟩ = some (.int .i64 ya)) (by kernel_rfl) (HS.out _ (Kept.refl wr).drew) (fun hHeld => ?_)
        refine wpAnyD_take (i := 0) (v := ?_) rfl (by kernel_rfl) (by kernel_rfl) (by kernel_rfl) (by kernel_rfl) (fun _ _ _ h => h) (Or.inl ⟨by rfl, ?hya0⟩) hHeld ?_
        case hya0 => (intro w hSw; (try dsimp only at hSw); go_simp; try (with_reducible rfl))
        (try simp only [Act.put, List.getElem_toArray, List.getElem_cons_succ, List.getElem_cons_zero, List.setIfInBounds_toArray, List.set_cons_zero, List.set_cons_succ])
        refine wpAnyD_take (i := 1) (v := ?_) rfl (by kernel_rfl) (by kernel_rfl) (by kernel_rfl) (by kernel_rfl) (fun _ _ _ h => h) (Or.inl ⟨by rfl, ?hya1⟩) hHeld ?_
        case hya1 => (intro w hSw; (try dsimp only at hSw); go_simp; try (with_reducible rfl))
        (try simp only [Act.put, List.getElem_toArray, List.getElem_cons_succ, List.getElem_cons_zero, List.setIfInBounds_toArray, List.set_cons_zero, List.set_cons_succ])
        refine wpAnyD_take (i := 2) (v := ?_) rfl (by kernel_rfl) (by kernel_rfl) (by kernel_rfl) (by kernel_rfl) (fun _ _ _ h => h) (Or.inl ⟨by rfl, ?hya2⟩) hHeld ?_
        case hya2 => (intro w hSw; (try dsimp only at hSw); go_simp; try (with_reducible rfl))
        (try simp only [Act.put, List.getElem_toArray, List.getElem_cons_succ, List.getElem_cons_zero, List.setIfInBounds_toArray, List.set_cons_zero, List.set_cons_succ])
        refine wpAnyD_take (i := 3) (v := ?_) rfl (by kernel_rfl) (by kernel_rfl) (by kernel_rfl) (by kernel_rfl) (fun _ _ _ h => h) (Or.inl ⟨by rfl, ?hya3⟩) hHeld ?_
        case hya3 => (intro w hSw; (try dsimp only at hSw); go_simp; try (with_reducible rfl))
        (try simp only [Act.put, List.getElem_toArray, List.getElem_cons_succ, List.getElem_cons_zero, List.setIfInBounds_toArray, List.set_cons_zero, List.set_cons_succ])
        refine wpAnyD_take (i := 4) (v := ?_) rfl (by kernel_rfl) (by kernel_rfl) (by kernel_rfl) (by kernel_rfl) (fun _ _ _ h => h) (Or.inl ⟨by rfl, ?hya4⟩) hHeld ?_
        case hya4 => (intro w hSw; (try dsimp only at hSw); go_simp; try (with_reducible rfl))
        (try simp only [Act.put, List.getElem_toArray, List.getElem_cons_succ, List.getElem_cons_zero, List.setIfInBounds_toArray, List.set_cons_zero, List.set_cons_succ])
        refine wpAnyD_take (i := 5) (v := ?_) rfl (by kernel_rfl) (by kernel_rfl) (by kernel_rfl) (by kernel_rfl) (fun _ _ _ h => h) (Or.inl ⟨by rfl, ?hya5⟩) hHeld ?_
        case hya5 => (intro w hSw; (try dsimp only at hSw); go_simp; try (with_reducible rfl))
        (try simp only [Act.put, List.getElem_toArray, List.getElem_cons_succ, List.getElem_cons_zero, List.setIfInBounds_toArray, List.set_cons_zero, List.set_cons_succ])
        refine wpAnyD_take (i := 6) (v := ?_) rfl (by kernel_rfl) (by kernel_rfl) (by kernel_rfl) (by kernel_rfl) (fun _ _ _ h => h) (Or.inl ⟨by rfl, ?hya6⟩) hHeld ?_
        case hya6 => (intro w hSw; (try dsimp only at hSw); go_simp; try (with_reducible rfl))
        (try simp only [Act.put, List.getElem_toArray, List.getElem_cons_succ, List.getElem_cons_zero, List.setIfInBounds_toArray, List.set_cons_zero, List.set_cons_succ])
        refine wpAnyD_take (i := 7) (v := ?_) rfl (by kernel_rfl) (by kernel_rfl) (by kernel_rfl) (by kernel_rfl) (fun _ _ _ h => h) (Or.inl ⟨by rfl, ?hya7⟩) hHeld ?_
        case hya7 => (intro w hSw; (try dsimp only at hSw); go_simp; try (with_reducible rfl))
        (try simp only [Act.put, List.getElem_toArray, List.getElem_cons_succ, List.getElem_cons_zero, List.setIfInBounds_toArray, List.set_cons_zero, List.set_cons_succ])
        refine wpAnyD_take (i := 8) (v := ?_) rfl (by kernel_rfl) (by kernel_rfl) (by kernel_rfl) (by kernel_rfl) (fun _ _ _ h => h) (Or.inl ⟨by rfl, ?hya8⟩) hHeld ?_
        case hya8 => (intro w hSw; (try dsimp only at hSw); go_simp; try (with_reducible rfl))
        (try simp only [Act.put, List.getElem_toArray, List.getElem_cons_succ, List.getElem_cons_zero, List.setIfInBounds_toArray, List.set_cons_zero, List.set_cons_succ])
        refine wpAnyD_take (i := 9) (v := ?_) rfl (by kernel_rfl) (by kernel_rfl) (by kernel_rfl) (by kernel_rfl) (fun _ _ _ h => h) (Or.inl ⟨by rfl, ?hya9⟩) hHeld ?_
        case hya9 => (intro w hSw; (try dsimp only at hSw); go_simp; try (with_reducible rfl))
        (try simp only [Act.put, List.getElem_toArray, List.getElem_cons_succ, List.getElem_cons_zero, List.setIfInBounds_toArray, List.set_cons_zero, List.set_cons_succ])
        refine wpAnyD_take (i := 10) (v := ?_) rfl (by kernel_rfl) (by kernel_rfl) (by kernel_rfl) (by kernel_rfl) (fun _ _ _ h => h) (Or.inl ⟨by rfl, ?hya10⟩) hHeld ?_
        case hya10 => (intro w hSw; (try dsimp only at hSw); go_simp; try (with_reducible rfl))
        (try simp only [Act.put, List.getElem_toArray, List.getElem_cons_succ, List.getElem_cons_zero, List.setIfInBounds_toArray, List.set_cons_zero, List.set_cons_succ])
        refine wpAnyD_take (i := 11) (v := ?_) rfl (by kernel_rfl) (by kernel_rfl) (by kernel_rfl) (by kernel_rfl) (fun _ _ _ h => h) (Or.inl ⟨by rfl, ?hya11⟩) hHeld ?_
        case hya11 => (intro w hSw; (try dsimp only at hSw); go_simp; try (with_reducible rfl))
        (try simp only [Act.put, List.getElem_toArray, List.getElem_cons_succ, List.getElem_cons_zero, List.setIfInBounds_toArray, List.set_cons_zero, List.set_cons_succ])
        refine wpAnyD_take (i := 12) (v := ?_) rfl (by kernel_rfl) (by kernel_rfl) (by kernel_rfl) (by kernel_rfl) (fun _ _ _ h => h) (Or.inl ⟨by rfl, ?hya12⟩) hHeld ?_
        case hya12 => (intro w hSw; (try dsimp only at hSw); go_simp; try (with_reducible rfl))
        (try simp only [Act.put, List.getElem_toArray, List.getElem_cons_succ, List.getElem_cons_zero, List.setIfInBounds_toArray, List.set_cons_zero, List.set_cons_succ])
        refine wpAnyD_take (i := 13) (v := ?_) rfl (by kernel_rfl) (by kernel_rfl) (by kernel_rfl) (by kernel_rfl) (fun _ _ _ h => h) (Or.inl ⟨by rfl, ?hya13⟩) hHeld ?_
        case hya13 => (intro w hSw; (try dsimp only at hSw); go_simp; try (with_reducible rfl))
        (try simp only [Act.put, List.getElem_toArray, List.getElem_cons_succ, List.getElem_cons_zero, List.setIfInBounds_toArray, List.set_cons_zero, List.set_cons_succ])
        refine wpAnyD_take (i := 14) (v := ?_) rfl (by kernel_rfl) (by kernel_rfl) (by kernel_rfl) (by kernel_rfl) (fun _ _ _ h => h) (Or.inl ⟨by rfl, ?hya14⟩) hHeld ?_
        case hya14 => (intro w hSw; (try dsimp only at hSw); go_simp; try (with_reducible rfl))
        (try simp only [Act.put, List.getElem_toArray, List.getElem_cons_succ, List.getElem_cons_zero, List.setIfInBounds_toArray, List.set_cons_zero, List.set_cons_succ])
        refine wpAnyD_done (by kernel_rfl) ?_ _
        (try simp only [Act.put, List.getElem_toArray, List.getElem_cons_succ, List.getElem_cons_zero, List.setIfInBounds_toArray, List.set_cons_zero, List.set_cons_succ])
        have ST := hst.kept (Kept.refl wr).drew
        generalize wr.drew = v0 at *
        clear HS q0 q1 hst wr_ hw2 ex ey wx wy wP
        obtain ⟨aA, cA, eA⟩ := ST.mA.len2
        rw [ups_len] at eA
        subst eA
        have ST' := ST.kept (Kept.refl v0).drew
        clear ST
        obtain ⟨gA, pA, wA, hr, hG, hbk, ST⟩ := ST'.growA NN.out (fb xx) (by rw [ups_len]; omega)
        rw [ups_len] at hr ST
        have HU := UA.out
        rw [HU] at ST
        clear HU UA
        have hnb : B9 ∉ rowb (.slice aA i cA) := bk_out ST'.mA NN.out.h9
        have bk0 := ST'.a
        have HS : Hid (∀ u, Gs (rowb (.slice aA i cA)) v0.drew u → Gs (rowb (.slice aA i cA)) v0.drew u ∧ u.cell? ⟨B9, 3, none⟩ = some (.slice aA i cA)) := fun u q => ⟨q, (bk0.gs q hnb).c 3 _ rfl⟩
        clear bk0 hnb ST'
        go_upto_region 10 with fail
        obtain ⟨VA, hV⟩ : ∃ V, V = wA.setCell ⟨B9, 3, none⟩ (.slice (some ⟨gA, 0, none⟩) (i + 1) pA) := ⟨_, rfl⟩
        rw [← hV] at ST
        have k3 := hbk.c 3 _ rfl
        have kf := hbk.fz
        have HGx := hid hG
        clear hbk hG
        have HS0 := HS.out _ (Gs.refl _ v0.drew)
        refine wp_region_late [8] (fun u => Gs (rowb (.slice aA i cA)) v0.drew u ∧ u.cell? ⟨B9, 3, none⟩ = some (.slice aA i cA)) (by kernel_rfl) (HS0) (fun hHeld => ?_)
        generalize hvd : v0.drew = vdA at *
        clear hvd
        refine wpAnyD_take (i := 0) (v := ?_) rfl (by kernel_rfl) (by kernel_rfl) (by kernel_rfl) (by kernel_rfl) (fun _ _ _ h => h) (Or.inl ⟨by rfl, ?hyrA0⟩) hHeld ?_
        case hyrA0 => (intro w hSw; (try dsimp only at hSw); go_simp; try (with_reducible rfl))
        (try simp only [Act.put, List.getElem_toArray, List.getElem_cons_succ, List.getElem_cons_zero, List.setIfInBounds_toArray, List.set_cons_zero, List.set_cons_succ])
        refine wpAnyD_take (i := 1) (v := ?_) rfl (by kernel_rfl) (by kernel_rfl) (by kernel_rfl) (by kernel_rfl) (fun _ _ _ h => h) (Or.inl ⟨by rfl, ?hyrA1⟩) hHeld ?_
        case hyrA1 => (intro w hSw; (try dsimp only at hSw); go_simp; try (with_reducible rfl))
        (try simp only [Act.put, List.getElem_toArray, List.getElem_cons_succ, List.getElem_cons_zero, List.setIfInBounds_toArray, List.set_cons_zero, List.set_cons_succ])
        refine wpAnyD_take (i := 2) (v := ?_) rfl (by kernel_rfl) (by kernel_rfl) (by kernel_rfl) (by kernel_rfl) (fun _ _ _ h => h) (Or.inl ⟨by rfl, ?hyrA2⟩) hHeld ?_
        case hyrA2 => (intro w hSw; (try dsimp only at hSw); go_simp; try (with_reducible rfl))
        (try simp only [Act.put, List.getElem_toArray, List.getElem_cons_succ, List.getElem_cons_zero, List.setIfInBounds_toArray, List.set_cons_zero, List.set_cons_succ])
        refine wpAnyD_take (i := 3) (v := ?_) rfl (by kernel_rfl) (by kernel_rfl) (by kernel_rfl) (by kernel_rfl) (fun _ _ _ h => h) (Or.inl ⟨by rfl, ?hyrA3⟩) hHeld ?_
        case hyrA3 => (intro w hSw; (try dsimp only at hSw); go_simp; try (with_reducible rfl))
        (try simp only [Act.put, List.getElem_toArray, List.getElem_cons_succ, List.getElem_cons_zero, List.setIfInBounds_toArray, List.set_cons_zero, List.set_cons_succ])
        refine wpAnyD_step (i := 4) (by kernel_rfl) rfl (fun K hK9 => ?_)
        go_simp
        go_wp2_with fail
        refine (KF.out _ _).mono ?_
        rintro e uqA ⟨rfl, rfl⟩
        refine hK9.out _ _ (hHeld) (fun hHa => ?_)
        clear hK9 K
        (try simp only [Act.put, List.getElem_toArray, List.getElem_cons_succ, List.getElem_cons_zero, List.setIfInBounds_toArray, List.set_cons_zero, List.set_cons_succ])
        refine wpAnyD_step (i := 5) (by kernel_rfl) rfl (fun K hK9 => ?_)
        go_simp
        refine hK9.out _ _ (HS.out _ (((Kept.refl vdA).alloc _ _).gs _)) (fun hHb => ?_)
        clear hK9 K
        (try simp only [Act.put, List.getElem_toArray, List.getElem_cons_succ, List.getElem_cons_zero, List.setIfInBounds_toArray, List.set_cons_zero, List.set_cons_succ])
        refine wpAnyD_step (i := 6) (by kernel_rfl) rfl (fun K hK9 => ?_)
        rw [if_pos (by rfl)]
        refine oper_append_run _ _ _ rfl _ _ rfl rfl _ _ (hr _) ?_
        refine hK9.out _ _ (HS.out _ HGx.out) (fun hHc => ?_)
        clear hK9 K
        (try simp only [Act.put, List.getElem_toArray, List.getElem_cons_succ, List.getElem_cons_zero, List.setIfInBounds_toArray, List.set_cons_zero, List.set_cons_succ])
        refine wpAnyD_take (i := 7) (v := ?_) rfl (by kernel_rfl) (by kernel_rfl) (by kernel_rfl) (by kernel_rfl) (fun _ _ _ h => h) (Or.inl ⟨by rfl, ?hysA7⟩) hHc ?_
        case hysA7 => (intro w hSw; (try dsimp only at hSw); go_simp; try (with_reducible rfl))
        (try simp only [Act.put, List.getElem_toArray, List.getElem_cons_succ, List.getElem_cons_zero, List.setIfInBounds_toArray, List.set_cons_zero, List.set_cons_succ])
        refine wpAnyD_late (i := 8) (by kernel_rfl) rfl rfl (fun K hK9 => ?_)
        go_simp
        refine hK9.out _ _ ?_
        clear hK9 K
        (try simp only [Act.put, List.getElem_toArray, List.getElem_cons_succ, List.getElem_cons_zero, List.setIfInBounds_toArray, List.set_cons_zero, List.set_cons_succ])
        rw [← hV]
        refine wpAnyD_done (by kernel_rfl) ?_ _
        (try simp only [Act.put, List.getElem_toArray, List.getElem_cons_succ, List.getElem_cons_zero, List.setIfInBounds_toArray, List.set_cons_zero, List.set_cons_succ])
        clear hHeld hHa hHb hHc HS HS0 HGx hr k3 kf hV
        obtain ⟨aB, cB, eB⟩ := ST.mB.len2
        rw [ups_len] at eB
        subst eB
        have ST' := ST.kept (Kept.refl VA).drew
        clear ST
        obtain ⟨gB, pB, wB, hr, hG, hbk, ST⟩ := ST'.growB NN.out (fb zz) (by rw [ups_len]; omega)
        rw [ups_len] at hr ST
        have HU := UB.out
        rw [HU] at ST
        clear HU UB
        have hnb : B10 ∉ rowb (.slice aB i cB) := bk_out ST'.mB NN.out.h10
        have bk0 := ST'.b
        have HS : Hid (∀ u, Gs (rowb (.slice aB i cB)) VA.drew u → Gs (rowb (.slice aB i cB)) VA.drew u ∧ u.cell? ⟨B10, 3, none⟩ = some (.slice aB i cB)) := fun u q => ⟨q, (bk0.gs q hnb).c 3 _ rfl⟩
        clear bk0 hnb ST'
        go_upto_region 11 with fail
        obtain ⟨VB, hV⟩ : ∃ V, V = wB.setCell ⟨B10, 3, none⟩ (.slice (some ⟨gB, 0, none⟩) (i + 1) pB) := ⟨_, rfl⟩
        rw [← hV] at ST
        have k3 := hbk.c 3 _ rfl
        have kf := hbk.fz
        have HGx := hid hG
        clear hbk hG
        have HS0 := HS.out _ (Gs.refl _ VA.drew)
        refine wp_region_late [8] (fun u => Gs (rowb (.slice aB i cB)) VA.drew u ∧ u.cell? ⟨B10, 3, none⟩ = some (.slice aB i cB)) (by kernel_rfl) (HS0) (fun hHeld => ?_)
        generalize hvd : VA.drew = vdB at *
        clear hvd
        refine wpAnyD_take (i := 0) (v := ?_) rfl (by kernel_rfl) (by kernel_rfl) (by kernel_rfl) (by kernel_rfl) (fun _ _ _ h => h) (Or.inl ⟨by rfl, ?hyrB0⟩) hHeld ?_
        case hyrB0 => (intro w hSw; (try dsimp only at hSw); go_simp; try (with_reducible rfl))
        (try simp only [Act.put, List.getElem_toArray, List.getElem_cons_succ, List.getElem_cons_zero, List.setIfInBounds_toArray, List.set_cons_zero, List.set_cons_succ])
        refine wpAnyD_take (i := 1) (v := ?_) rfl (by kernel_rfl) (by kernel_rfl) (by kernel_rfl) (by kernel_rfl) (fun _ _ _ h => h) (Or.inl ⟨by rfl, ?hyrB1⟩) hHeld ?_
        case hyrB1 => (intro w hSw; (try dsimp only at hSw); go_simp; try (with_reducible rfl))
        (try simp only [Act.put, List.getElem_toArray, List.getElem_cons_succ, List.getElem_cons_zero, List.setIfInBounds_toArray, List.set_cons_zero, List.set_cons_succ])
        refine wpAnyD_take (i := 2) (v := ?_) rfl (by kernel_rfl) (by kernel_rfl) (by kernel_rfl) (by kernel_rfl) (fun _ _ _ h => h) (Or.inl ⟨by rfl, ?hyrB2⟩) hHeld ?_
        case hyrB2 => (intro w hSw; (try dsimp only at hSw); go_simp; try (with_reducible rfl))
        (try simp only [Act.put, List.getElem_toArray, List.getElem_cons_succ, List.getElem_cons_zero, List.setIfInBounds_toArray, List.set_cons_zero, List.set_cons_succ])
        refine wpAnyD_take (i := 3) (v := ?_) rfl (by kernel_rfl) (by kernel_rfl) (by kernel_rfl) (by kernel_rfl) (fun _ _ _ h => h) (Or.inl ⟨by rfl, ?hyrB3⟩) hHeld ?_
        case hyrB3 => (intro w hSw; (try dsimp only at hSw); go_simp; try (with_reducible rfl))
        (try simp only [Act.put, List.getElem_toArray, List.getElem_cons_succ, List.getElem_cons_zero, List.setIfInBounds_toArray, List.set_cons_zero, List.set_cons_succ])
        refine wpAnyD_step (i := 4) (by kernel_rfl) rfl (fun K hK9 => ?_)
        go_simp
        go_wp2_with fail
        refine (KF.out _ _).mono ?_
        rintro e uqB ⟨rfl, rfl⟩
        refine hK9.out _ _ (hHeld) (fun hHa => ?_)
        clear hK9 K
        (try simp only [Act.put, List.getElem_toArray, List.getElem_cons_succ, List.getElem_cons_zero, List.setIfInBounds_toArray, List.set_cons_zero, List.set_cons_succ])
        refine wpAnyD_step (i := 5) (by kernel_rfl) rfl (fun K hK9 => ?_)
        go_simp
        refine hK9.out _ _ (HS.out _ (((Kept.refl vdB).alloc _ _).gs _)) (fun hHb => ?_)
        clear hK9 K
        (try simp only [Act.put, List.getElem_toArray, List.getElem_cons_succ, List.getElem_cons_zero, List.setIfInBounds_toArray, List.set_cons_zero, List.set_cons_succ])
        refine wpAnyD_step (i := 6) (by kernel_rfl) rfl (fun K hK9 => ?_)
        rw [if_pos (by rfl)]
        refine oper_append_run _ _ _ rfl _ _ rfl rfl _ _ (hr _) ?_
        refine hK9.out _ _ (HS.out _ HGx.out) (fun hHc => ?_)
        clear hK9 K
        (try simp only [Act.put, List.getElem_toArray, List.getElem_cons_succ, List.getElem_cons_zero, List.setIfInBounds_toArray, List.set_cons_zero, List.set_cons_succ])
        refine wpAnyD_take (i := 7) (v := ?_) rfl (by kernel_rfl) (by kernel_rfl) (by kernel_rfl) (by kernel_rfl) (fun _ _ _ h => h) (Or.inl ⟨by rfl, ?hysB7⟩) hHc ?_
        case hysB7 => (intro w hSw; (try dsimp only at hSw); go_simp; try (with_reducible rfl))
        (try simp only [Act.put, List.getElem_toArray, List.getElem_cons_succ, List.getElem_cons_zero, List.setIfInBounds_toArray, List.set_cons_zero, List.set_cons_succ])
        refine wpAnyD_late (i := 8) (by kernel_rfl) rfl rfl (fun K hK9 => ?_)
        go_simp
        refine hK9.out _ _ ?_
        clear hK9 K
        (try simp only [Act.put, List.getElem_toArray, List.getElem_cons_succ, List.getElem_cons_zero, List.setIfInBounds_toArray, List.set_cons_zero, List.set_cons_succ])
        rw [← hV]
        refine wpAnyD_done (by kernel_rfl) ?_ _
        (try simp only [Act.put, List.getElem_toArray, List.getElem_cons_succ, List.getElem_cons_zero, List.setIfInBounds_toArray, List.set_cons_zero, List.set_cons_succ])
        clear hHeld hHa hHb hHc HS HS0 HGx hr k3 kf hV
        obtain ⟨aW, cW, eW⟩ := ST.mW.len2
        rw [ups_len] at eW
        subst eW
        obtain ⟨gW, pW, wW, hr, ST2⟩ := ST.growW NN.out dd (by rw [ups_len]; omega)
        rw [ups_len] at hr ST2
        have HU := UW.out
        rw [HU] at ST2
        clear HU UW
        have q1 := R1.out _ ST.k i hi
        rw [← HYA.out] at q1
        have ey := EY.out
        go_wp2_with (first | (at_builtin; refine wpList_append_run rfl _ _ _ rfl _ _ rfl rfl _ _ (hr _) ?_))
        go_roundw
        case rel => exact ⟨i + 1, _, _, by omega, by go_num, ST2⟩
        case measure => simp [intOf]; omega
      · obtain rfl : i = l := by omega
        have oA := hst.mA
        have oB := hst.mB
        have hmA : ∃ g cap, lA = .slice (some ⟨g, 0, none⟩) i cap ∧ Own wr g cap (ups (fun j => fb (x j)) i) := by
          rcases oA with ⟨h, -⟩ | ⟨g, cap, e, -, ho⟩
          · have := ups_len (fun j => fb (x j)) i
            rw [h] at this
            simp at this
            omega
          · rw [ups_len] at e
            exact ⟨g, cap, e, ho⟩
        have hmB : ∃ g cap, lB = .slice (some ⟨g, 0, none⟩) i cap ∧ Own wr g cap (ups (fun j => fb (y j * P)) i) := by
          rcases oB with ⟨h, -⟩ | ⟨g, cap, e, -, ho⟩
          · have := ups_len (fun j => fb (y j * P)) i
            rw [h] at this
            simp at this
            omega
          · rw [ups_len] at e
            exact ⟨g, cap, e, ho⟩
        have hmW : ∃ g cap, u11 = .slice (some ⟨g, 0, none⟩) i cap ∧ Own wr g cap (ups (fun j => x j - y j) i) := by
          rcases hst.mW with ⟨h, -⟩ | ⟨g, cap, e, -, ho⟩
          · have := ups_len (fun j => x j - y j) i
            rw [h] at this
            simp at this
            omega
          · rw [ups_len] at e
            exact ⟨g, cap, e, ho⟩
        obtain ⟨gA, pA, rfl, hoA⟩ := hmA
        obtain ⟨gB, pB, rfl, hoB⟩ := hmB
        obtain ⟨gW, pW, rfl, hoW⟩ := hmW
        have z0 := hst.a.c 0 _ rfl
        have z1 := hst.a.c 1 _ rfl
        have z2 := hst.a.c 2 _ rfl
        have z3 := hst.a.c 3 _ rfl
        have y0' := hst.b.c 0 _ rfl
        have y1' := hst.b.c 1 _ rfl
        have y2' := hst.b.c 2 _ rfl
        have y3' := hst.b.c 3 _ rfl
        have OA := hid hoA
        have OB' := hid hoB
        have OW := hid hoW
        clear hoA hoB hoW oA oB
        go_upto_region 14 with (first | (go_at_call 6; refine (KS.out _ _ _ _ _ OA.out OB'.out).mono ?_; rintro e u6 ⟨g, rfl, hg, ho, k6⟩))
        obtain ⟨Z, hZ⟩ : ∃ Z, Z = u6.alloc (.cells #[.int .i64 1, .int .i64 (i : Int), .int .i64 n, .slice (some ⟨g, 0, none⟩) i i] 25) := ⟨_, rfl⟩
        obtain ⟨B15, hB15⟩ : ∃ B, B = u6.heap.size := ⟨_, rfl⟩
        have kZ : Kept u6 Z := by rw [hZ]; exact (Kept.refl u6).alloc _ _
        have bZ : Bk Z B15 [.int .i64 1, .int .i64 (i : Int), .int .i64 n, .slice (some ⟨g, 0, none⟩) i i] := by rw [hZ, hB15]; exact Bk.new u6 [.int .i64 1, .int .i64 (i : Int), .int .i64 n, .slice (some ⟨g, 0, none⟩) i i] _
        rw [← hZ, ← hB15]
        have oG := hid (ho.kept kZ)
        have oW := hid ((OW.out.kept k6).kept kZ)
        have KK : Hid (Kept w Z) := (show Kept w Z from (hst.k.trans k6).trans kZ)
        have c3 := bZ.c 3 _ rfl
        clear hZ hB15 ho hg kZ bZ k6 hst z0 z1 z2 z3 y0' y1' y2' y3' wr_
        go_wp2_with fail
        go_loopw [19] (fun jv wr2 => ∃ j : Nat, j ≤ i ∧ jv = .int .i64 j ∧ wr2 = Z) (fun jv _ => i - (intOf jv).toNat)
        case atStart => exact ⟨0, Nat.zero_le _, rfl, rfl⟩
        case round =>
          obtain ⟨j, hji, rfl, rfl⟩ := hrel
          by_cases hj : j < i
          · have t1 := oG.out.cell j (by rw [stl_len]; exact hj)
            rw [stl_get _ _ _ _ hj, if_pos hj] at t1
            have t2 := oW.out.cell j (by rw [ups_len]; exact hj)
            rw [ups_get _ _ _ hj] at t2
            have a1 := AX.out j
            have a2 := AY.out j
            have hz : Hid ((x j - y j).natAbs < 2000) := (show (x j - y j).natAbs < 2000 from by omega)
            clear a1 a2
            generalize x j - y j = zz at *
            go_wp2_with (first | (go_at_call 7; refine (KT.out _ _ hz.out).mono ?_; rintro e u7 ⟨rfl, rfl⟩))
            go_roundw
            case rel => exact ⟨j + 1, by omega, by go_num, by first | rfl | trivial⟩
            case measure => simp [intOf]; omega
          · obtain rfl : j = i := by omega
            go_wp2_with fail
            go_ret
            exact ⟨rfl, KK.out⟩
theorem tm_lt (a : Int) : (a.tmod 1000).natAbs < 1000 := by
  have h1 := Int.tmod_lt_of_pos a (show (0 : Int) < 1000 by decide)
  have h2 := Int.lt_tmod_of_pos a (show (0 : Int) < 1000 by decide)
  omega
theorem ow_64 (L0 L1 : List Int) (l : Nat) (h1 : 1 ≤ l) (h60 : l ≤ 60) (b0 o0 b1 o1 cr0 cr1 s : Nat) (hs : s < 9) (w : World) (r0 : ∀ i, i < l → w.cell? ⟨b0, o0 + i, none⟩ = some (.int .i64 (L0.getD i 0))) (r1 : ∀ i, i < l → w.cell? ⟨b1, o1 + i, none⟩ = some (.int .i64 (L1.getD i 0))) :
    Calls Try.prog 3 #[.slice (some ⟨b0, o0, none⟩) l cr0, .slice (some ⟨b1, o1, none⟩) l cr1, .int .i64 (s : Int), .int .i64 64] w fun e w' => e = .returned (.bool true) ∧ Kept w w' := by
  have hx : ∀ i, ((L0.getD i 0).tmod 1000).natAbs < 1000 := fun i => tm_lt _
  have hy : ∀ i, ((L1.getD i 0).tmod 1000).natAbs < 1000 := fun i => tm_lt _
  refine ow_yes l h1 h60 (fun i => L0.getD i 0) (fun i => L1.getD i 0) (fun i => (L0.getD i 0).tmod 1000) (fun i => (L1.getD i 0).tmod 1000) b0 o0 b1 o1 cr0 cr1 s hs 64 (.inr ⟨by decide, by decide⟩) (fun z => of64 (floatOfInt .f64 z)) (2 ^ s) rfl w (fun _ => rfl) (fun _ => rfl) hx hy r0 r1 (fun z u => fromInt64 z u) (fun z u hz => toInt64 z hz u) (fun ga ca gb cb u oa ob => ?_)
  have := stepP_64 s hs l h1 (by omega) (fun i => (L0.getD i 0).tmod 1000) (fun i => (L1.getD i 0).tmod 1000) (fun i _ => hx i) (fun i _ => hy i) _ _ (ups_len _ _) (ups_len _ _) (fun i hi => ups_get _ _ _ hi) (fun i hi => ups_get _ _ _ hi) ga ca gb cb u oa ob
  simp only [show ((1 : Nat) : Int) = 1 from rfl] at this
  exact this
theorem ow_32 (L0 L1 : List Int) (l : Nat) (h1 : 1 ≤ l) (h60 : l ≤ 60) (b0 o0 b1 o1 cr0 cr1 s : Nat) (hs : s < 9) (w : World) (r0 : ∀ i, i < l → w.cell? ⟨b0, o0 + i, none⟩ = some (.int .i64 (L0.getD i 0))) (r1 : ∀ i, i < l → w.cell? ⟨b1, o1 + i, none⟩ = some (.int .i64 (L1.getD i 0))) :
    Calls Try.prog 3 #[.slice (some ⟨b0, o0, none⟩) l cr0, .slice (some ⟨b1, o1, none⟩) l cr1, .int .i64 (s : Int), .int .i64 32] w fun e w' => e = .returned (.bool true) ∧ Kept w w' := by
  have hx : ∀ i, ((L0.getD i 0).tmod 1000).natAbs < 1000 := fun i => tm_lt _
  have hy : ∀ i, ((L1.getD i 0).tmod 1000).natAbs < 1000 := fun i => tm_lt _
  refine ow_yes l h1 h60 (fun i => L0.getD i 0) (fun i => L1.getD i 0) (fun i => (L0.getD i 0).tmod 1000) (fun i => (L1.getD i 0).tmod 1000) b0 o0 b1 o1 cr0 cr1 s hs 32 (.inl (by decide)) (fun z => of32 (floatOfInt .f32 z)) (2 ^ s) rfl w (fun _ => rfl) (fun _ => rfl) hx hy r0 r1 (fun z u => fromInt32 z u) (fun z u hz => toInt32 z hz u) (fun ga ca gb cb u oa ob => ?_)
  have := stepP_32 s hs l h1 (by omega) (fun i => (L0.getD i 0).tmod 1000) (fun i => (L1.getD i 0).tmod 1000) (fun i _ => hx i) (fun i _ => hy i) _ _ (ups_len _ _) (ups_len _ _) (fun i hi => ups_get _ _ _ hi) (fun i hi => ups_get _ _ _ hi) ga ca gb cb u oa ob
  simp only [show ((1 : Nat) : Int) = 1 from rfl] at this
  exact this
theorem optimWhole_true (L0 L1 : List Int) (ar0 ar1 : Option Addr) (cr0 cr1 : Nat) (sh n : Int) (w : World) (hS0 : Sl w (.slice ar0 L0.length cr0) L0) (hS1 : Sl w (.slice ar1 L1.length cr1) L1) :
    Calls Try.prog 3 #[.slice ar0 L0.length cr0, .slice ar1 L1.length cr1, .int .i64 sh, .int .i64 n] w fun e w' => e = .returned (.bool true) ∧ Kept w w' := by
  by_cases h : 1 ≤ L0.length ∧ L0.length ≤ 60 ∧ L1.length = L0.length ∧ 0 ≤ sh ∧ sh ≤ 8 ∧ (n = 32 ∨ n = 64)
  · obtain ⟨h1, h60, hl, g1, g2, hn⟩ := h
    obtain ⟨s, rfl⟩ : ∃ s : Nat, sh = (s : Int) := ⟨sh.toNat, by omega⟩
    obtain ⟨ao0, c0, e0, -, -, f0⟩ := hS0
    obtain ⟨ao1, c1, e1, -, -, f1⟩ := hS1
    obtain ⟨b0, o0, rfl, -, rd0⟩ := f0 (fun e => by rw [e] at h1; simp at h1)
    obtain ⟨b1, o1, rfl, -, rd1⟩ := f1 (fun e => by have h0 : L1.length = 0 := (by rw [e]; rfl); omega)
    simp only [Value.slice.injEq] at e0 e1
    obtain ⟨rfl, -, rfl⟩ := e0
    obtain ⟨rfl, -, rfl⟩ := e1
    rw [hl]
    rcases hn with rfl | rfl
    · exact ow_32 L0 L1 L0.length h1 h60 b0 o0 b1 o1 _ _ s (by omega) w rd0 (fun i hi => rd1 i (by omega))
    · exact ow_64 L0 L1 L0.length h1 h60 b0 o0 b1 o1 _ _ s (by omega) w rd0 (fun i hi => rd1 i (by omega))
  · exact ow_no L0 L1 ar0 ar1 cr0 cr1 sh n h w
end Go.Proofs.Ytojhhimmfnccjaa
