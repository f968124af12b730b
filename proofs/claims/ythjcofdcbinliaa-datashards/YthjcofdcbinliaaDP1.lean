/- Lists of pairs: marks, sameness; the document's Shards. -/
import Derived.Test.YthjcofdcbinliaaTP
import Derived.Test.YthjcofdcbinliaaDS1
import Derived.Test.YthjcofdcbinliaaBK2
namespace Go.Proofs.Ythjcofdcbinliaa
open Go.ChangeShapes Go.WideShapes Go.ChangeAt Go.RowKit
set_option linter.unusedVariables false
set_option linter.unusedSimpArgs false

/-- how a list of pairs is read -/
def Rdp (w : World) (v : Value) (k : Nat) (L : List Int) : Prop := (k = 0 ∧ v = .slice none 0 0) ∨ ∃ g cap, v = .slice (some ⟨g, 0, none⟩) k cap ∧ g < w.heap.size ∧ ∀ j, j < k * 2 → w.cell? ⟨g, j, none⟩ = some (.int .i64 (L.getD j 0))
theorem Rdp.kept {w w' : World} {v : Value} {k : Nat} {L : List Int} (h : Rdp w v k L) (kk : Kept w w') : Rdp w' v k L := by
  rcases h with h | ⟨g, cap, h1, h2, h3⟩
  · exact .inl h
  · exact .inr ⟨g, cap, h1, Nat.lt_of_lt_of_le h2 kk.below.size, fun j hj => (kk.below.cell h2).trans (h3 j hj)⟩
theorem Rdp.form {w : World} {v : Value} {k : Nat} {L : List Int} (h : Rdp w v k L) : ∃ a c, v = .slice a k c := by
  rcases h with ⟨rfl, rfl⟩ | ⟨g, cap, rfl, -⟩
  · exact ⟨_, _, rfl⟩
  · exact ⟨_, _, rfl⟩
abbrev MP (H : Nat) (w : World) (v : Value) (k : Nat) (L : List Int) : Prop := MS 2 27 H w v k (L.map (Value.int .i64))
theorem owns_int {w : World} {g cap : Nat} {L : List Int} (h : OwnS w g cap 2 27 (L.map (Value.int .i64))) (i : Nat) (hi : i < L.length) : w.cell? ⟨g, i, none⟩ = some (.int .i64 (L.getD i 0)) := by
  refine h.cell i _ ?_
  rw [List.getElem?_map, List.getElem?_eq_getElem hi, List.getD_eq_getElem?_getD, List.getElem?_eq_getElem hi]
  rfl
theorem mp_rdp {H : Nat} {w : World} {v : Value} {k : Nat} {L : List Int} (h : MP H w v k L) : Rdp w v k L := by
  have hl : L.length = k * 2 := by have := h.len; simpa using this
  rcases h with ⟨rfl, -, rfl⟩ | ⟨g, cap, rfl, -, -, -, ho⟩
  · exact .inl ⟨rfl, rfl⟩
  · exact .inr ⟨g, cap, rfl, ho.lt, fun j hj => owns_int ho j (by omega)⟩
theorem mp_len {H : Nat} {w : World} {v : Value} {k : Nat} {L : List Int} (h : MP H w v k L) : L.length = k * 2 := by have := h.len; simpa using this
theorem ownv_s {w : World} {g p : Nat} {V : List Value} (hp : p ≤ 1000000) (h : OwnV w g (p * 2) 27 V) : OwnS w g p 2 27 V := by
  obtain ⟨cur, h1, h2, h3, h4, h5⟩ := h
  exact ⟨cur, h1, h2, by simp [maxLen]; omega, h4, h5⟩
/-- one more pair -/
theorem app_pr (H : Nat) (wr : World) (lv : Value) (k : Nat) (L : List Int) (hM : MP H wr lv k L) (p q : Int) (hH : H ≤ wr.heap.size) (hlen : k < 10000000) :
    ∃ v' w', (∀ ty, (Builtin.append_ #[23, 23] ty #[lv, .slice (some ⟨wr.heap.size, 0, none⟩) 1 1]).run Try.prog (wr.alloc (.cells #[.int .i64 p, .int .i64 q] 27)) = .ok v' w') ∧ MP H w' v' (k + 1) (L ++ [p, q]) ∧ Below H wr w' ∧ (∀ x, w'.frozen? x = wr.frozen? x) := by
  have := app_elem 23 27 l2i_under (.agg #[.int .i64 0, .int .i64 0]) 2 16 a2i_info rfl (by decide) H wr lv k _ hM [.int .i64 p, .int .i64 q] rfl (fun u hu => by
    rcases List.mem_cons.1 hu with rfl | hu
    · rfl
    · rw [List.mem_singleton.1 hu]; rfl) hH hlen
  unfold MP
  rw [List.map_append]
  exact this
/-- the marks of the first list, from a place on, so many -/
def mkp (a n : Nat) : List Int := (List.range n).flatMap fun k => [(-1 : Int), ((a + k : Nat) : Int)]
theorem mkp_succ (a n : Nat) : mkp a (n + 1) = mkp a n ++ [-1, ((a + n : Nat) : Int)] := by
  unfold mkp
  rw [List.range_succ, List.flatMap_append]
  simp
theorem mkp_len (a n : Nat) : (mkp a n).length = n * 2 := by
  induction n with
  | zero => rfl
  | succ n ih => rw [mkp_succ, List.length_append, ih]; simp; omega
theorem mkp_app (p q : Nat) : mkp 0 p ++ mkp p q = mkp 0 (p + q) := by
  induction q with
  | zero => simp [mkp]
  | succ q ih => rw [mkp_succ, ← List.append_assoc, ih, ← Nat.add_assoc, mkp_succ, Nat.zero_add]
theorem mkp_get (a n k : Nat) (hk : k < n) : (mkp a n).getD (k * 2) 0 = -1 ∧ (mkp a n).getD (k * 2 + 1) 0 = ((a + k : Nat) : Int) := by
  induction n with
  | zero => omega
  | succ n ih =>
    rw [mkp_succ, List.getD_eq_getElem?_getD, List.getD_eq_getElem?_getD]
    by_cases h : k < n
    · rw [List.getElem?_append_left (by rw [mkp_len]; omega), List.getElem?_append_left (by rw [mkp_len]; omega)]
      have := ih h
      rw [List.getD_eq_getElem?_getD, List.getD_eq_getElem?_getD] at this
      exact this
    · obtain rfl : k = n := by omega
      rw [List.getElem?_append_right (by rw [mkp_len]; omega), List.getElem?_append_right (by rw [mkp_len]; omega), mkp_len]
      simp

set_option maxHeartbeats 2000000 in
set_option maxRecDepth 100000 in
theorem markPairs_any (a n : Nat) (ha : a ≤ 1000000) (hn : n ≤ 1000000) (w : World) : Calls Try.prog 96 #[.int .i64 0, .int .i64 a, .int .i64 (n : Int)] w fun e w' => ∃ v, e = .returned v ∧ MP w.heap.size w' v n (mkp a n) ∧ Kept w w' := by
  have z1 : IntKind.i64.wrap ((a : Int) + (n : Int)) = (a : Int) + (n : Int) := by rw [wrap_i64]; omega
  go_enter Try.func96, Try.ntmps96
  go_wp2_with fail
  go_loopw [7, 8] (fun v kv wr => ∃ k : Nat, k ≤ n ∧ kv = .int .i64 ((a : Int) + (k : Int)) ∧ MP w.heap.size wr v k (mkp a k) ∧ Kept w wr) (fun _ kv _ => n - (intOf kv - a).toNat)
  case atStart => exact ⟨0, Nat.zero_le _, by simp, .inl ⟨rfl, rfl, rfl⟩, Kept.refl w⟩
  case round =>
    obtain ⟨k, hk, rfl, hM, kr⟩ := hrel
    by_cases hkn : k < n
    · obtain ⟨v', w', hr, hM', hB, hfz⟩ := app_pr w.heap.size wr u7 k (mkp a k) hM (-1) ((a + k : Nat) : Int) kr.below.size (by omega)
      rw [← mkp_succ] at hM'
      have kk : Kept w w' := ⟨kr.below.trans hB, fun x => (hfz x).trans (kr.frozen x)⟩
      rw [show ((a + k : Nat) : Int) = (a : Int) + (k : Int) by omega] at hr
      have d1 : (a : Int) + (k : Int) < (a : Int) + (n : Int) := by omega
      have z5 : IntKind.i64.wrap ((a : Int) + (k : Int) + 1) = (a : Int) + (k : Int) + 1 := by rw [wrap_i64]; omega
      have HR := (show Hid _ from hr)
      clear hM hB hfz hr
      go_wp2_with (first | (at_builtin; refine wpList_append_run rfl _ _ _ rfl _ _ rfl rfl _ _ (HR.out _) ?_))
      go_roundw
      case rel => exact ⟨k + 1, by omega, by (try simp only [Value.int.injEq, true_and]); omega, hM', kk⟩
      case measure => simp [intOf]; omega
    · obtain rfl : k = n := by omega
      have d1 : ¬ (a : Int) + (k : Int) < (a : Int) + (k : Int) := by omega
      go_wp2_with fail
      go_ret
      exact ⟨_, rfl, hM, kr⟩

set_option maxHeartbeats 2000000 in
set_option maxRecDepth 100000 in
theorem samePairs_any (k : Nat) (hk0 : k ≤ 1000000) (L : List Int) (v v' : Value) (w : World) (h : Rdp w v k L) (h' : Rdp w v' k L) : Calls Try.prog 88 #[v, v'] w fun e w' => e = .returned (.bool true) ∧ Kept w w' := by
  have hEQ := eql_pr
  rcases Nat.eq_zero_or_pos k with rfl | hpos
  · obtain ⟨a, c, rfl⟩ := h.form
    obtain ⟨a', c', rfl⟩ := h'.form
    go_enter Try.func88, Try.ntmps88
    go_wp2_with fail
    refine wp_loop_rounds 1 ?_
    rw [rounds_succ]
    go_wp2_with fail
    go_ret
    exact ⟨rfl, Kept.refl w⟩
  · rcases h with ⟨e, -⟩ | ⟨g, cap, rfl, b1, r1⟩
    · omega
    rcases h' with ⟨e, -⟩ | ⟨g', cap', rfl, b2, r2⟩
    · omega
    have hn : ((k : Int) != (k : Int)) = false := by simp
    go_enter Try.func88, Try.ntmps88
    go_wp2_with fail
    go_loopw [5] (fun kv wr => ∃ i : Nat, i ≤ k ∧ kv = .int .i64 (i : Int) ∧ Kept w wr) (fun kv _ => k - (intOf kv).toNat)
    case atStart => exact ⟨0, Nat.zero_le _, rfl, Kept.refl w⟩
    case round =>
      obtain ⟨i, hi, rfl, kr⟩ := hrel
      by_cases hkn : i < k
      · have q1 := (kr.below.cell (p := ⟨g, i * 2, none⟩) b1).trans (r1 (i * 2) (by omega))
        have q2 := (kr.below.cell (p := ⟨g', i * 2, none⟩) b2).trans (r2 (i * 2) (by omega))
        have q3 := (kr.below.cell (p := ⟨g, i * 2 + 1, none⟩) b1).trans (r1 (i * 2 + 1) (by omega))
        have q4 := (kr.below.cell (p := ⟨g', i * 2 + 1, none⟩) b2).trans (r2 (i * 2 + 1) (by omega))
        generalize L.getD (i * 2) 0 = x at *
        generalize L.getD (i * 2 + 1) 0 = y at *
        have e1 : (x == x) = true := by simp
        have e2 : (y == y) = true := by simp
        have b4 : (i : Int) < (k : Int) := by omega
        have z1 : IntKind.i64.wrap ((i : Int) + 1) = (i : Int) + 1 := by rw [wrap_i64]; omega
        go_upto_region 6 with fail
        go_quiet (fail)
        go_wp2_with fail
        go_roundw
        case rel => exact ⟨i + 1, by omega, by go_num, by first | exact kr | exact kr.drew | exact kr.drewN _⟩
        case measure => simp [intOf]; omega
      · obtain rfl : i = k := by omega
        go_wp2_with fail
        go_ret
        exact ⟨rfl, kr⟩

/-- the pairs, one behind the other -/
def shp (n p : Nat) : Nat → List Int
  | 0 => []
  | i + 1 => shp n p i ++ [(fr n p i : Int), (fr n p (i + 1) : Int)]
theorem shp_len (n p i : Nat) : (shp n p i).length = i * 2 := by
  induction i with
  | zero => rfl
  | succ i ih => rw [shp, List.length_append, ih]; simp; omega
theorem shp_get (n p i j : Nat) (hj : j < i) : (shp n p i).getD (j * 2) 0 = (fr n p j : Int) ∧ (shp n p i).getD (j * 2 + 1) 0 = (fr n p (j + 1) : Int) := by
  induction i with
  | zero => omega
  | succ i ih =>
    rw [shp, List.getD_eq_getElem?_getD, List.getD_eq_getElem?_getD]
    by_cases h : j < i
    · rw [List.getElem?_append_left (by rw [shp_len]; omega), List.getElem?_append_left (by rw [shp_len]; omega)]
      have := ih h
      rw [List.getD_eq_getElem?_getD, List.getD_eq_getElem?_getD] at this
      exact this
    · obtain rfl : j = i := by omega
      rw [List.getElem?_append_right (by rw [shp_len]; omega), List.getElem?_append_right (by rw [shp_len]; omega), shp_len]
      simp
theorem pt_shp {n p : Nat} {V : List Int} (h : Pt n p p V) : V = shp n p p := by
  refine List.ext_getElem (by rw [h.len, shp_len]) (fun k h1 h2 => ?_)
  have hk : k < p * 2 := by rw [h.len] at h1; exact h1
  have e1 : V[k] = V.getD k 0 := by rw [List.getD_eq_getElem?_getD, List.getElem?_eq_getElem h1]; rfl
  have e2 : (shp n p p)[k] = (shp n p p).getD k 0 := by rw [List.getD_eq_getElem?_getD, List.getElem?_eq_getElem h2]; rfl
  rw [e1, e2]
  obtain ⟨j, rfl | rfl⟩ : ∃ j, k = j * 2 ∨ k = j * 2 + 1 := ⟨k / 2, by omega⟩
  · rw [(h.at' j (by omega)).1, (shp_get n p p j (by omega)).1]
  · rw [(h.at' j (by omega)).2, (shp_get n p p j (by omega)).2]

set_option maxHeartbeats 4000000 in
set_option maxRecDepth 100000 in
theorem rshards_ok (n p : Nat) (hn : n ≤ 4096) (hp0 : 0 < p) (hp : p ≤ 16) (w : World) : Calls Try.prog 18 #[.int .i64 n, .int .i64 p] w fun e w' => ∃ v, e = .returned (.tuple #[v, .int .i64 0]) ∧ MP w.heap.size w' v p (shp n p p) ∧ Kept w w' := by
  have g0 : ¬ (n : Int) < 0 := by omega
  have g1 : ¬ (p : Int) < 1 := by omega
  have g2 : ¬ (4096 : Int) < (n : Int) := by omega
  have g3 : ¬ (16 : Int) < (p : Int) := by omega
  have v4 : decide (4096 < n) = false := decide_eq_false (by omega)
  have v5 : decide (16 < p) = false := decide_eq_false (by omega)
  have hp1 : ¬ (p : Int) = 0 := by omega
  obtain ⟨q, hq⟩ : ∃ q : Nat, n / p = q := ⟨_, rfl⟩
  obtain ⟨r, hr⟩ : ∃ r : Nat, n % p = r := ⟨_, rfl⟩
  have zq : (n : Int).tdiv (p : Int) = (q : Int) := by rw [Int.tdiv_eq_ediv_of_nonneg (Int.natCast_nonneg _), ← hq]; rfl
  have zr : (n : Int).tmod (p : Int) = (r : Int) := by rw [Int.tmod_eq_emod_of_nonneg (Int.natCast_nonneg _), ← hr]; rfl
  have hq4 : q ≤ 4096 := by have := Nat.div_le_self n p; omega
  have HS : Hid (∀ i, fr n p (i + 1) = fr n p i + q + (if i < r then 1 else 0)) := fun i => by rw [fr_succ, hq, hr]
  have HL : Hid (∀ i, i ≤ p → fr n p i ≤ n) := fun i hi => fr_le n p i hp0 hi
  clear hq hr
  go_enter Try.func18, Try.ntmps18
  go_wp2_with fail
  go_loopw [6, 7, 8] (fun sv fv iv wr => ∃ (i : Nat), i ≤ p ∧ fv = .int .i64 (fr n p i : Int) ∧ iv = .int .i64 i ∧ MP w.heap.size wr sv i (shp n p i) ∧ Kept w wr) (fun _ _ iv _ => p - (intOf iv).toNat)
  case atStart => exact ⟨0, Nat.zero_le _, by rw [fr_zero]; rfl, rfl, .inl ⟨rfl, rfl, rfl⟩, Kept.refl w⟩
  case round =>
    obtain ⟨i, hip, rfl, rfl, hM, hKw⟩ := hrel
    by_cases hi : i < p
    · have hs := HS.out i
      have hle := HL.out i (by omega)
      have hle2 := HL.out (i + 1) (by omega)
      obtain ⟨v', w', hr, hM', hB, hfz⟩ := app_pr w.heap.size wr u6 i (shp n p i) hM (fr n p i : Int) (fr n p (i + 1) : Int) hKw.below.size (by omega)
      have kk : Kept w w' := ⟨hKw.below.trans hB, fun x => (hfz x).trans (hKw.frozen x)⟩
      have HM' := (show Hid (MP w.heap.size w' v' (i + 1) (shp n p (i + 1))) from hM')
      obtain ⟨a, ha⟩ : ∃ a, fr n p i = a := ⟨_, rfl⟩
      obtain ⟨b, hb⟩ : ∃ b, fr n p (i + 1) = b := ⟨_, rfl⟩
      have HBE := (show Hid (fr n p (i + 1) = b) from hb)
      rw [ha, hb] at hs hr
      rw [ha] at hle ⊢
      rw [hb] at hle2
      have HR := (show Hid _ from hr)
      clear hM hB hfz hr hM' ha hb
      have z1 : IntKind.i64.wrap ((i : Int) + 1) = (i : Int) + 1 := by rw [wrap_i64]; omega
      have zz1 : IntKind.i64.wrap (q : Int) = (q : Int) := by rw [wrap_i64]; omega
      have zz2 : IntKind.i64.wrap ((q : Int) + 1) = (q : Int) + 1 := by rw [wrap_i64]; omega
      have b4 : (i : Int) < (p : Int) := by omega
      by_cases hrr : i < r
      · have b5 : (i : Int) < (r : Int) := by omega
        rw [if_pos hrr] at hs
        have z3 : IntKind.i64.wrap ((a : Int) + ((q : Int) + 1)) = (b : Int) := by rw [wrap_i64]; omega
        clear hs
        go_wp2_with (first | (at_builtin; refine wpList_append_run rfl _ _ _ rfl _ _ rfl rfl _ _ (HR.out _) ?_))
        go_roundw
        case rel => exact ⟨i + 1, by omega, by rw [HBE.out], by go_num, HM'.out, kk⟩
        case measure => simp [intOf]; omega
      · have b5 : ¬ (i : Int) < (r : Int) := by omega
        rw [if_neg hrr] at hs
        have z3 : IntKind.i64.wrap ((a : Int) + (q : Int)) = (b : Int) := by rw [wrap_i64]; omega
        clear hs
        go_wp2_with (first | (at_builtin; refine wpList_append_run rfl _ _ _ rfl _ _ rfl rfl _ _ (HR.out _) ?_))
        go_roundw
        case rel => exact ⟨i + 1, by omega, by rw [HBE.out], by go_num, HM'.out, kk⟩
        case measure => simp [intOf]; omega
    · obtain rfl : i = p := by omega
      obtain ⟨ao, co, rfl⟩ := hM.form
      go_wp2
      exact bodyPost_ret (v := .tuple #[.slice ao i co, .int .i64 0]) (by simp [results, Try.results18, go_sem, *]) rfl ⟨_, rfl, hM, hKw⟩

set_option maxHeartbeats 4000000 in
set_option maxRecDepth 100000 in
theorem rshards_e (n p q : Int) (hq : (n < 0 ∨ p < 1) ∧ q = 1 ∨ ¬ (n < 0 ∨ p < 1) ∧ (4096 < n ∨ 16 < p) ∧ q = 2) (w : World) : Calls Try.prog 18 #[.int .i64 n, .int .i64 p] w fun e w' => e = .returned (.tuple #[.slice none 0 0, .int .i64 q]) ∧ Kept w w' := by
  go_enter Try.func18, Try.ntmps18
  rcases hq with ⟨h, rfl⟩ | ⟨h, h2, rfl⟩
  · by_cases h0 : n < 0
    · go_wp2
      exact bodyPost_ret (v := .tuple #[.slice none 0 0, .int .i64 1]) (by simp [results, Try.results18, go_sem, *]) rfl ⟨rfl, Kept.refl _⟩
    · have h1 : p < 1 := by omega
      clear h
      go_wp2
      exact bodyPost_ret (v := .tuple #[.slice none 0 0, .int .i64 1]) (by simp [results, Try.results18, go_sem, *]) rfl ⟨rfl, Kept.refl _⟩
  · have h0 : ¬ n < 0 := by omega
    have h1 : ¬ p < 1 := by omega
    clear h
    by_cases h3 : 4096 < n
    · clear h2
      go_wp2
      exact bodyPost_ret (v := .tuple #[.slice none 0 0, .int .i64 2]) (by simp [results, Try.results18, go_sem, *]) rfl ⟨rfl, Kept.refl _⟩
    · have h4 : 16 < p := by omega
      clear h2
      go_wp2
      exact bodyPost_ret (v := .tuple #[.slice none 0 0, .int .i64 2]) (by simp [results, Try.results18, go_sem, *]) rfl ⟨rfl, Kept.refl _⟩
end Go.Proofs.Ythjcofdcbinliaa
