/- The walk of exact's lay. -/
import Derived.Test.YtkmengfmiamdaaaDoorD12
namespace Go.Proofs.YtkmengfmiamdaaaDoor
open Go.ChangeShapes Go.WideShapes Go.ChangeAt Go.RowKit
set_option linter.unusedVariables false
set_option linter.unusedSimpArgs false

def sg (neg : Bool) (d : Int) : Int := if neg = true then -d else d
def dsh (neg : Bool) (s : Nat) (L : List Int) : List Int := L.map fun d => sg neg (d * 2 ^ s)
theorem dsh_length (neg : Bool) (s : Nat) (L : List Int) : (dsh neg s L).length = L.length := by simp [dsh]
theorem dsh_val (neg : Bool) (s : Nat) (L : List Int) (h : Dg L) : cv (dsh neg s L) = sg neg ((nv L : Int) * 2 ^ s) := by
  induction L with
  | nil => cases neg <;> simp [dsh, cv, nv, sg]
  | cons d L ih =>
    have hd := h.head
    have := ih h.tail
    simp only [dsh, List.map_cons, cv, nv] at this ⊢
    rw [this]
    cases neg
    · simp only [sg, Bool.false_eq_true, if_false, Int.natCast_add, Int.natCast_mul, Int.add_mul, Int.toNat_of_nonneg hd.1]
      rw [← Int.mul_assoc]
      rfl
    · simp only [sg, if_true, Int.natCast_add, Int.natCast_mul, Int.add_mul, Int.toNat_of_nonneg hd.1]
      rw [Int.mul_neg, ← Int.mul_assoc, Int.neg_add]
      rfl
theorem shl_bound (d : Int) (s : Nat) (h0 : 0 ≤ d) (h1 : d < 1073741824) (hs : s < 30) : 0 ≤ d * 2 ^ s ∧ d * 2 ^ s ≤ 576460752303423488 := by
  have h2 : (2 : Int) ^ s ≤ 2 ^ 29 := by
    have : 2 ^ s ≤ 2 ^ 29 := Nat.pow_le_pow_right (by decide) (by omega)
    have e : ((2 ^ s : Nat) : Int) ≤ ((2 ^ 29 : Nat) : Int) := by omega
    rw [Int.natCast_pow, Int.natCast_pow] at e
    exact e
  have h3 : (0 : Int) < 2 ^ s := Int.pow_pos (by decide)
  constructor
  · exact Int.mul_nonneg h0 (by omega)
  · have : d * 2 ^ s ≤ d * 2 ^ 29 := Int.mul_le_mul_of_nonneg_left h2 h0
    have e : (2 : Int) ^ 29 = 536870912 := rfl
    rw [e] at this
    omega
theorem dsh_bound (neg : Bool) (s : Nat) (hs : s < 30) (L : List Int) (h : Dg L) : ∀ d ∈ dsh neg s L, -1152921504606846976 ≤ d ∧ d ≤ 1152921504606846975 := by
  intro d hd
  simp only [dsh, List.mem_map] at hd
  obtain ⟨c, hc, rfl⟩ := hd
  have h1 := h c hc
  have := shl_bound c s h1.1 h1.2 hs
  cases neg <;> simp only [sg, Bool.false_eq_true, if_false, if_true] <;> omega
theorem dsh_take (neg : Bool) (s : Nat) (L : List Int) (k : Nat) (hk : k < L.length) : (dsh neg s L).take (k + 1) = (dsh neg s L).take k ++ [sg neg (L.getD k 0 * 2 ^ s)] := by
  have hk2 : k < (dsh neg s L).length := by rw [dsh_length]; exact hk
  rw [List.take_add_one, List.getElem?_eq_getElem hk2]
  congr 1
  simp [dsh, List.getD_eq_getElem?_getD, List.getElem?_eq_getElem hk]

set_option maxHeartbeats 1000000 in
theorem lay_nil (g : Nat) (n cap : Nat) (neg : Bool) (ao : Option Addr) (c2 : Nat) (x p : Int) (w : World) : Calls Tryd.prog 73 #[.slice (some ⟨g, 0, none⟩) n cap, .agg #[.bool neg, .slice ao 0 c2, .int .i64 x], .int .i64 p] w fun e w' => e = .returned (.tuple #[]) ∧ Kept w w' := by
  go_enter Tryd.func73, Tryd.ntmps73
  go_wp2
  refine wp_loop_rounds 1 ?_
  rw [rounds_succ]
  go_wp2
  go_end0
  exact ⟨rfl, (Kept.refl _).alloc _ _⟩

set_option maxHeartbeats 2000000 in
set_option maxRecDepth 100000 in
theorem lay_some (C : List Int) (g cap : Nat) (neg : Bool) (L : List Int) (hL : Dg L) (b off c2 : Nat) (x p : Int) (f s : Nat) (hs : s < 30) (hp : p = 30 * (f : Int) + (s : Int)) (hfit : f + L.length < C.length) (hlen : C.length < 100000000) (hb : ∀ j, -4294967296 ≤ C.getD j 0 ∧ C.getD j 0 ≤ 4294967296) (hbg : b ≠ g) (w : World) (hbw : b < w.heap.size) (hr : Reads w b off L) (h : Own w g cap C) : Calls Tryd.prog 73 #[.slice (some ⟨g, 0, none⟩) C.length cap, .agg #[.bool neg, .slice (some ⟨b, off, none⟩) L.length c2, .int .i64 x], .int .i64 p] w fun e w' => e = .returned (.tuple #[]) ∧ Own w' g cap (layL C f (dsh neg s L)) ∧ Grw g w w' := by
  have hK := (Kept.refl w).alloc #[.bool neg, .slice (some ⟨b, off, none⟩) L.length c2, .int .i64 x] 31
  have hgl := h.lt
  have hcap : C.length ≤ cap := by obtain ⟨_, _, h1, _⟩ := h; exact h1
  obtain ⟨e1, e2⟩ := tdiv_at p f s (by omega) (by omega) hp (.inl (by omega))
  have HBd : Hid (∀ k, k ≤ L.length → ∀ j, -6442450944 ≤ (layL C f ((dsh neg s L).take k)).getD j 0 ∧ (layL C f ((dsh neg s L).take k)).getD j 0 ≤ 6442450944) := by
    intro k hk j
    have := layL_bound C f ((dsh neg s L).take k) 4294967296 (by omega) (by rw [List.length_take, dsh_length]; omega) (fun d hd => dsh_bound neg s hs L hL d (List.mem_of_mem_take hd)) (fun j _ => by have := hb j; omega) (by have := hb f; omega) (fun j _ => hb j) j
    omega
  have HO : Hid (Own (w.alloc (.cells #[.bool neg, .slice (some ⟨b, off, none⟩) L.length c2, .int .i64 x] 31)) g cap C) := h.kept hK
  have HR : Hid (Reads (w.alloc (.cells #[.bool neg, .slice (some ⟨b, off, none⟩) L.length c2, .int .i64 x] 31)) b off L) := hr.kept hbw hK
  have hbl : b < (w.alloc (.cells #[.bool neg, .slice (some ⟨b, off, none⟩) L.length c2, .int .i64 x] 31)).heap.size := by simp; omega
  obtain ⟨n, hn⟩ : ∃ n, n = L.length := ⟨_, rfl⟩
  have HN : Hid (n = L.length) := hn
  obtain ⟨m, hmm⟩ : ∃ m, m = C.length := ⟨_, rfl⟩
  have HM : Hid (m = C.length) := hmm
  rw [← hn] at hfit HO HR hK hbl ⊢
  rw [← hmm] at hfit hlen hcap ⊢
  have HK : Hid (Kept w (w.alloc (.cells #[.bool neg, .slice (some ⟨b, off, none⟩) n c2, .int .i64 x] 31))) := hK
  have HLe : Hid (∀ k, (layL C f ((dsh neg s L).take k)).length = m) := fun k => by rw [layL_length]; exact hmm.symm
  clear h hb hr hn hmm hK hp
  go_enter Tryd.func73, Tryd.ntmps73
  go_wp2
  go_loopw [17] (fun i wr => ∃ (k : Nat), k ≤ n ∧ i = .int .i64 k ∧ Own wr g cap (layL C f ((dsh neg s L).take k)) ∧ Grw g (w.alloc (.cells #[.bool neg, .slice (some ⟨b, off, none⟩) n c2, .int .i64 x] 31)) wr) (fun i _ => n - (intOf i).toNat)
  case atStart => exact ⟨0, Nat.zero_le _, rfl, by simpa [layL] using HO.out, Grw.refl _ _⟩
  case round =>
    obtain ⟨k, hk, rfl, hO, hG⟩ := hrel
    have HO2 : Hid (Own wr g cap (layL C f ((dsh neg s L).take k))) := hO
    have HG : Hid (Grw g (w.alloc (.cells #[.bool neg, .slice (some ⟨b, off, none⟩) n c2, .int .i64 x] 31)) wr) := hG
    have hgn : g ≠ w.heap.size := by omega
    have hb0 : wr.cell? ⟨w.heap.size, 0, none⟩ = some (.bool neg) := (grw_new hG hgn 0).1.trans (by simp [go_sem])
    have hb1 : wr.cell? ⟨w.heap.size, 1, none⟩ = some (.slice (some ⟨b, off, none⟩) n c2) := (grw_new hG hgn 1).1.trans (by simp [go_sem])
    by_cases hkn : k < n
    · have hkL : k < L.length := by have := HN.out; omega
      have hd := hL.getD k
      have hsb := shl_bound _ s hd.1 hd.2 hs
      have hcell : wr.cell? ⟨b, off + k, none⟩ = some (.int .i64 (L.getD k 0)) := by
        have hbk := hG.grown.block b hbl (by simpa using hbg)
        exact (World.cell?_of_block (a := ⟨b, off + k, none⟩) hbk).trans (HR.out k hkL)
      have hl := HLe.out k
      have m1 := hO.cell (f + k) (by rw [hl]; omega)
      have m2 := hO.cell (f + k + 1) (by rw [hl]; omega)
      have f1 := hO.free (f + k)
      have f2 := hO.free (f + k + 1)
      have q1 := HBd.out k (by have := HN.out; omega) (f + k)
      have q2 := HBd.out k (by have := HN.out; omega) (f + k + 1)
      have hnext : layL C f ((dsh neg s L).take (k + 1)) = ((layL C f ((dsh neg s L).take k)).set (f + k) ((layL C f ((dsh neg s L).take k)).getD (f + k) 0 + sg neg (L.getD k 0 * 2 ^ s) % 1073741824)).set (f + k + 1) ((layL C f ((dsh neg s L).take k)).getD (f + k + 1) 0 + sg neg (L.getD k 0 * 2 ^ s) / 1073741824) := by
        rw [dsh_take neg s L k hkL, layL_snoc, List.length_take, dsh_length, Nat.min_eq_left (by omega)]
      obtain ⟨M, hM⟩ : ∃ M, M = layL C f ((dsh neg s L).take k) := ⟨_, rfl⟩
      rw [← hM] at m1 m2 q1 q2 hnext HO2 hl
      have HX : Hid (layL C f ((dsh neg s L).take (k + 1)) = (M.set (f + k) (M.getD (f + k) 0 + sg neg (L.getD k 0 * 2 ^ s) % 1073741824)).set (f + k + 1) (M.getD (f + k + 1) 0 + sg neg (L.getD k 0 * 2 ^ s) / 1073741824)) := hnext
      obtain ⟨t, ht⟩ : ∃ t, t = sg neg (L.getD k 0 * 2 ^ s) := ⟨_, rfl⟩
      have Ht : Hid (t = sg neg (L.getD k 0 * 2 ^ s)) := ht
      have hw : IntKind.i64.wrap (L.getD k 0 * 2 ^ s) = L.getD k 0 * 2 ^ s := by rw [wrap_i64]; omega
      have htb : -576460752303423488 ≤ t ∧ t ≤ 576460752303423488 := by rw [ht]; cases neg <;> simp only [sg, Bool.false_eq_true, if_false, if_true] <;> omega
      generalize hu : L.getD k 0 * 2 ^ s = u at *
      generalize hLd : L.getD k 0 = d at *
      generalize hm1 : M.getD (f + k) 0 = v1 at *
      generalize hm2 : M.getD (f + k + 1) 0 = v2 at *
      have hmask := mask30 t
      have hw5 : IntKind.i64.wrap u = u := hw
      clear hnext hM hO hG hw hl hm1 hm2 hLd
      have HU : Hid (d * 2 ^ s = u) := hu
      cases neg
      · have htu : t = u := by rw [ht]; rfl
        subst htu
        clear ht Ht
        go_wp2
        go_roundw
        case rel =>
          have hx := HX.out
          simp only [sg, Bool.false_eq_true, if_false, if_true] at hx
          refine ⟨k + 1, by omega, by go_num, ?_, (HG.out.setCell _ _).setCell _ _⟩
          rw [hx]
          exact (HO2.out.set _ _).set _ _
        case measure => simp [intOf]; omega
      · have htu : t = -u := by rw [ht]; rfl
        subst htu
        clear ht Ht
        go_wp2
        go_roundw
        case rel =>
          have hx := HX.out
          simp only [sg, Bool.false_eq_true, if_false, if_true] at hx
          refine ⟨k + 1, by omega, by go_num, ?_, (HG.out.setCell _ _).setCell _ _⟩
          rw [hx]
          exact (HO2.out.set _ _).set _ _
        case measure => simp [intOf]; omega
    · obtain rfl : k = n := by omega
      have hfull : (dsh neg s L).take k = dsh neg s L := List.take_of_length_le (by rw [dsh_length]; have := HN.out; omega)
      go_wp2
      go_end0
      rw [hfull] at hO
      exact ⟨rfl, hO, (HK.out.toGrw g).trans HG.out⟩
end Go.Proofs.YtkmengfmiamdaaaDoor
