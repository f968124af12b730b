/- Bytes that are copied; within; bytes that are cut off, bytes with one more. -/
import Derived.Test.YtfbcdbfalopkeaaWG
namespace Go.Proofs.Ytfbcdbfalopkeaa
open Go.ChangeShapes Go.WideShapes Go.ChangeAt Go.RowKit
set_option linter.unusedVariables false
set_option linter.unusedSimpArgs false

/-- Bytes that were copied: new ones. -/
def BN (H : Nat) (w : World) (v : Value) (L : List Int) : Prop := (L = [] ∧ v = .slice none 0 0) ∨ ∃ g C, v = .slice (some ⟨g, 0, none⟩) L.length C ∧ H ≤ g ∧ OwnV w g C 5 (L.map (Value.int .u8))
theorem BN.rd {H : Nat} {w : World} {v : Value} {L : List Int} (h : BN H w v L) : ∃ ao c, v = .slice ao L.length c ∧ L.length ≤ c ∧ (L ≠ [] → ∃ b off, ao = some ⟨b, off, none⟩ ∧ b < w.heap.size ∧ BR w b off L) := by
  rcases h with ⟨rfl, rfl⟩ | ⟨g, C, rfl, -, ho⟩
  · exact ⟨none, 0, rfl, Nat.le_refl _, fun h => absurd rfl h⟩
  · have hc : L.length ≤ C := by
      obtain ⟨cur, -, h2, -⟩ := ho
      simpa using h2
    exact ⟨_, C, rfl, hc, own_br ho⟩
theorem bapp_nil (L : List Int) (hlen : L.length < 100000000) (ao : Option Addr) (cap : Nat) (w : World) (hr : L ≠ [] → ∃ b off, ao = some ⟨b, off, none⟩ ∧ b < w.heap.size ∧ BR w b off L) :
    ∃ v' w', (∀ ty, (Builtin.append_ #[26, 26] ty #[.slice none 0 0, .slice ao L.length cap]).run Try.prog w = .ok v' w') ∧ Kept w w' ∧ BN w.heap.size w' v' L := by
  by_cases hne : L = []
  · subst hne
    obtain ⟨i, hi, hz2, hs, hb⟩ := info_parts lb_info
    refine ⟨_, w, fun ty => run_append_nothing w 26 26 ty 5 i lb_under hi none 0 0 (by omega) _ ?_, Kept.refl w, .inl ⟨rfl, rfl⟩⟩
    cases ao with
    | none => exact Src.ofNil w lb_under cap
    | some a => exact Src.ofSlice w lb_under a 0 cap [] (by simp) (fun j u hu => by simp at hu) (fun u hu => by cases hu)
  · obtain ⟨b, off, rfl, hb, hr⟩ := hr hne
    have hpos := List.length_pos_iff.2 hne
    obtain ⟨g, C, w', hrun, hO, hk⟩ := app_gen 26 5 lb_under (.int .u8 0) 1 lb_info (by simp [Value.cells]) (by omega) w (.slice none 0 0) [] (L.map (Value.int .u8)) (.inl ⟨rfl, rfl⟩) ⟨b, off, none⟩ L.length cap (by simp) (fun j u hj => by
      rw [List.getElem?_map] at hj
      by_cases hjl : j < L.length
      · rw [List.getElem?_eq_getElem hjl] at hj
        cases hj
        have := hr j hjl
        rw [List.getD_eq_getElem?_getD, List.getElem?_eq_getElem hjl] at this
        rw [Addr.add_lit]
        simpa using this
      · rw [List.getElem?_eq_none (by omega)] at hj
        cases hj) (fun u hu => by obtain ⟨x, -, rfl⟩ := List.mem_map.1 hu; rfl) hpos (by simpa using hlen)
    rcases hk with ⟨rfl, hK⟩ | ⟨e, -⟩
    · refine ⟨_, w', fun ty => by simpa using hrun ty, hK, .inr ⟨_, C, rfl, Nat.le_refl _, by simpa using hO⟩⟩
    · cases e
theorem app_elemy (t e : TypeId) (ht : Try.prog.underlying t = some (.slice e)) (z : Value) (sz by8 : Nat) (hinf : (Try.prog.info? e).map (fun i => (i.zero, i.size, i.bytes)) = some (some z, sz, by8)) (hz : z.cells.size = sz) (hby : by8 ≤ 64)
    (H : Nat) (wr : World) (lv : Value) (k : Nat) (V : List Value) (hM : MS sz e H wr lv k V) (news : List Value) (hn : news.length = sz) (h1 : ∀ u ∈ news, u.oneCell' = true) (hH : H ≤ wr.heap.size) (hlen : k < 100000000) :
    ∃ v' w', (∀ ty, (Builtin.append_ #[t, t] ty #[lv, .slice (some ⟨wr.heap.size, 0, none⟩) 1 1]).run Try.prog (wr.alloc (.cells news.toArray e)) = .ok v' w') ∧ MS sz e H w' v' (k + 1) (V ++ news) ∧ KX (fun b => ∃ n c, lv = .slice (some ⟨b, 0, none⟩) n c) wr w' := by
  obtain ⟨i, hi, hz2, hs, hb⟩ := info_parts hinf
  have hK : Kept wr (wr.alloc (.cells news.toArray e)) := (Kept.refl _).alloc _ _
  have hVl := hM.len
  obtain ⟨w, hw⟩ : ∃ w, w = wr.alloc (.cells news.toArray e) := ⟨_, rfl⟩
  have hws : w.heap.size = wr.heap.size + 1 := by rw [hw]; simp
  have hcell : ∀ j u, news[j]? = some u → w.cell? ((⟨wr.heap.size, 0, none⟩ : Addr).add j) = some u := fun j u hj => by
    rw [hw, Addr.add_lit, Nat.zero_add]
    rw [cell_of_row (wr.alloc (.cells news.toArray e)) wr.heap.size j news.toArray e (0, 0) (heap_alloc_new wr _)]
    simpa using hj
  have hS : Src Try.prog i.size t (.slice (some ⟨wr.heap.size, 0, none⟩) 1 1) 1 news w := Src.ofSlice w ht ⟨wr.heap.size, 0, none⟩ 1 1 news (by rw [hs, hn]; simp) hcell h1
  rw [← hw] at hK ⊢
  have hnl : (V ++ news).length = (k + 1) * sz := by rw [List.length_append, hVl, hn, Nat.succ_mul]
  rcases hM with ⟨rfl, rfl, rfl⟩ | ⟨g, cap, rfl, hg, -, hkc, hO⟩
  · obtain ⟨C, hC⟩ : ∃ C, grownCap w (0 + 1) 0 e = C := ⟨_, rfl⟩
    have hC1 : 0 + 1 ≤ C := by rw [← hC]; exact grownCap_ge _ _ _ _
    have hC2 : C ≤ maxLen := by rw [← hC]; exact grownCap_le_maxLen _ _ _ _ (by simp [maxLen])
    have hN := ownS_new w.drew e z sz hz news 1 C (by rw [hn]; simp) (by omega) hC2
    have hKN : Kept w (w.drew.alloc (.cells (news.toArray ++ Builtin.zeroCells z.cells (C - 1)) e)) := (Kept.refl w).drew.alloc _ _
    refine ⟨_, _, fun ty => ?_, .inr ⟨w.heap.size, C, rfl, by omega, by simpa using hnl, by omega, by simpa using hN⟩, (hK.trans hKN).kx _⟩
    have := run_append_grow_src w t t ty e i z ht hi hz2 none 0 0 [] (by simpa using run_firstCells_none (P := Try.prog) w.drew i.size 0 0 0) (.slice (some ⟨wr.heap.size, 0, none⟩) 1 1) 1 news hS (by omega) (by omega) (growslice_fits (by omega) (by rw [hb]; omega))
    rw [hC] at this
    rw [this]
    simp
  · have hO' := hO.kept hK
    by_cases hr : k + 1 ≤ cap
    · have hroom : V.length + news.length ≤ cap * sz := by
        rw [hVl, hn, ← Nat.succ_mul]
        exact Nat.mul_le_mul_right _ hr
      have hG := (Grw.refl g w).setCells news V.length
      refine ⟨_, w.setCells g V.length news, fun ty => ?_, .inr ⟨g, cap, rfl, hg, hnl, hr, hO'.pushes news hroom⟩, (hK.kx _).trans ((hG.kx).mono fun b hb => by subst hb; exact ⟨_, _, rfl⟩)⟩
      · have := run_append_room_src w t t ty e i ht hi g 0 k cap (.slice (some ⟨wr.heap.size, 0, none⟩) 1 1) 1 news hS hr (fun j hj => hO'.some _ (by rw [hs, ← hVl]; omega)) (fun j hj => hO'.free _)
        rw [this, hs, hVl]
        simp
    · obtain ⟨C, hC⟩ : ∃ C, grownCap w (k + 1) cap e = C := ⟨_, rfl⟩
      have hC1 : k + 1 ≤ C := by rw [← hC]; exact grownCap_ge _ _ _ _
      have hC2 : C ≤ maxLen := by rw [← hC]; exact grownCap_le_maxLen _ _ _ _ (by simp [maxLen]; omega)
      have hN := ownS_new w.drew e z sz hz (V ++ news) (k + 1) C hnl hC1 hC2
      have hKN : Kept w (w.drew.alloc (.cells ((V ++ news).toArray ++ Builtin.zeroCells z.cells (C - (k + 1))) e)) := (Kept.refl w).drew.alloc _ _
      refine ⟨_, _, fun ty => ?_, .inr ⟨w.heap.size, C, rfl, by omega, hnl, hC1, by simpa using hN⟩, (hK.trans hKN).kx _⟩
      have hcl : cap < k + 1 := by omega
      have := run_append_grow_src w t t ty e i z ht hi hz2 (some ⟨g, 0, none⟩) k cap V (run_firstCells_some (P := Try.prog) w.drew i.size k ⟨g, 0, none⟩ k cap V (by rw [hs]; exact hVl) (fun j u hu => by rw [Addr.add_lit, Nat.zero_add]; exact hO'.cell j u hu)) (.slice (some ⟨wr.heap.size, 0, none⟩) 1 1) 1 news hS hcl (by omega) (growslice_fits hcl (by rw [hb]; exact Nat.le_trans (Nat.mul_le_mul_left _ hby) (by omega)))
      rw [hC] at this
      rw [this]
/-- One byte more behind bytes that were copied. -/
theorem bapp_one (H : Nat) (w : World) (v : Value) (L : List Int) (h : BN H w v L) (hH : H ≤ w.heap.size) (hlen : L.length < 100000000) (x : Int) :
    ∃ v' w', (∀ ty, (Builtin.append_ #[26, 26] ty #[v, .slice (some ⟨w.heap.size, 0, none⟩) 1 1]).run Try.prog (w.alloc (.cells #[.int .u8 x] 5)) = .ok v' w') ∧ BN H w' v' (L ++ [x]) ∧ KX (fun b => H ≤ b) w w' := by
  have hM : MS 1 5 H w v L.length (L.map (Value.int .u8)) := by
    rcases h with ⟨rfl, rfl⟩ | ⟨g, C, rfl, hg, cur, h1, h2, h3, h4, h5⟩
    · exact .inl ⟨rfl, rfl, rfl⟩
    · have h2' : L.length ≤ C := by simpa using h2
      exact .inr ⟨g, C, rfl, hg, by simp, h2', cur, h1, by simpa using h2', h3, by simpa using h4, h5⟩
  obtain ⟨v', w', hr, hm, hk⟩ := app_elemy 26 5 lb_under (.int .u8 0) 1 1 lb_info rfl (by decide) H w v L.length _ hM [.int .u8 x] rfl (fun u hu => by rw [List.mem_singleton] at hu; rw [hu]; rfl) hH hlen
  refine ⟨v', w', hr, ?_, hk.mono ?_⟩
  · rcases hm with ⟨h0, -, -⟩ | ⟨g, C, rfl, hg, h3, h4, cur, h5, h6, h7, h8, h9⟩
    · omega
    · refine .inr ⟨g, C, by simp, hg, cur, h5, ?_, h7, by simpa using h8, ?_⟩
      · simp; omega
      · rw [List.map_append]; exact h9
  · rintro b ⟨n, c, e⟩
    rcases h with ⟨-, e2⟩ | ⟨g, C, e2, hg, -⟩
    · rw [e] at e2; cases e2
    · rw [e] at e2; cases e2; exact hg

set_option maxHeartbeats 1000000 in
theorem within_any (x : Int) (n : Nat) (hx1 : -9223372036854775808 ≤ x) (hx2 : x ≤ 9223372036854775807) (hn : 0 < n) (w : World) : Calls Try.prog 14 #[.int .i64 x, .int .i64 (n : Int)] w fun e w' => (∃ k : Nat, k < n ∧ e = .returned (.int .i64 (k : Int))) ∧ Kept w w' := by
  have h0 : ¬ (n : Int) = 0 := by omega
  by_cases h : x < 0
  · obtain ⟨y, hy⟩ : ∃ y : Int, -(x + 1) = y := ⟨_, rfl⟩
    have z1 : IntKind.i64.wrap (x + 1) = x + 1 := by rw [wrap_i64]; omega
    have z2 : IntKind.i64.wrap (-(x + 1)) = y := by rw [hy, wrap_i64]; omega
    have hm : Int.tmod y n = y % n := Int.tmod_eq_emod_of_nonneg (by omega)
    have h1 := Int.emod_nonneg y (show (n : Int) ≠ 0 by omega)
    have h2 := Int.emod_lt_of_pos y (show 0 < (n : Int) by omega)
    obtain ⟨k, hk⟩ := Int.eq_ofNat_of_zero_le h1
    rw [hk] at hm h2
    clear h1 hk hy
    go_enter Try.func14, Try.ntmps14
    go_wp2
    go_ret
    exact ⟨⟨k, by omega, rfl⟩, Kept.refl _⟩
  · have hm : Int.tmod x n = x % n := Int.tmod_eq_emod_of_nonneg (by omega)
    have h1 := Int.emod_nonneg x (show (n : Int) ≠ 0 by omega)
    have h2 := Int.emod_lt_of_pos x (show 0 < (n : Int) by omega)
    obtain ⟨k, hk⟩ := Int.eq_ofNat_of_zero_le h1
    rw [hk] at hm h2
    clear h1 hk
    go_enter Try.func14, Try.ntmps14
    go_wp2
    go_ret
    exact ⟨⟨k, by omega, rfl⟩, Kept.refl _⟩
end Go.Proofs.Ytfbcdbfalopkeaa
