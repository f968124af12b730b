/- Shards of package data: pairs one behind the other; the laws' test of life of chapter 19. -/
import Derived.Test.YtedghjededicpaaD15
import Derived.Test.YtedghjededicpaaU1
import Derived.Laws.StructEq
namespace Go.Proofs.Ytedghjededicpaa
open Go.ChangeShapes Go.WideShapes Go.ChangeAt Go.RowKit
set_option linter.unusedVariables false
set_option linter.unusedSimpArgs false

theorem l2i_under : Try.prog.underlying 49 = some (.slice 52) := by kernel_rfl
theorem a2i_info : (Try.prog.info? 52).map (fun i => (i.zero, i.size, i.bytes)) = some (some (.agg #[.int .i64 0, .int .i64 0]), 2, 16) := by kernel_rfl
theorem a2i_u : Try.prog.underlying 52 = some (.array 2 3) := by kernel_rfl
theorem int_u : Try.prog.underlying 3 = some (.int .i64) := by kernel_rfl
theorem eql_pr (a b c d : Int) (w : World) : (Op.equalIn 10000 52 (.agg #[.int .i64 a, .int .i64 b]) (.agg #[.int .i64 c, .int .i64 d])).run Try.prog w = .ok (a == c && b == d) w := by
  show (Op.equalIn (9999 + 1) 52 _ _).run Try.prog w = _
  rw [Op.equalIn]
  have hE : ∀ (x y : Int) (u : World), (Op.equalIn 9999 3 (.int .i64 x) (.int .i64 y)).run Try.prog u = .ok (x == y) u := fun x y u => run_equalIn_int u 9998 3 .i64 .i64 x y int_u
  have hS : (sizeOf 3).run Try.prog w = .ok 1 w := by kernel_rfl
  have p0 : ∀ (x y : Int) (u : World), (part 3 #[.int .i64 x, .int .i64 y] 0).run Try.prog u = .ok (.int .i64 x) u := fun x y u => by kernel_rfl
  have p1 : ∀ (x y : Int) (u : World), (part 3 #[.int .i64 x, .int .i64 y] 1).run Try.prog u = .ok (.int .i64 y) u := fun x y u => by kernel_rfl
  simp only [Sem.run_bind, run_underlying a2i_u, Result.andThen_ok, hS, Std.Legacy.Range.forIn_eq_forIn_range']
  rw [show List.range' ([:2] : Std.Legacy.Range).start ([:2] : Std.Legacy.Range).size ([:2] : Std.Legacy.Range).step = [0, 1] from rfl]
  simp only [List.forIn_cons, List.forIn_nil, Sem.run_bind, Nat.zero_mul, Nat.one_mul, p0, p1, Result.andThen_ok, hE]
  cases h1 : (a == c) <;> cases h2 : (b == d) <;> simp [h2, p1, hE]

/-- where the shard i begins -/
def fr (n p i : Nat) : Nat := i * (n / p) + min i (n % p)
theorem fr_zero (n p : Nat) : fr n p 0 = 0 := by simp [fr]
theorem fr_succ (n p i : Nat) : fr n p (i + 1) = fr n p i + n / p + (if i < n % p then 1 else 0) := by
  unfold fr
  rw [Nat.succ_mul]
  generalize i * (n / p) = a
  generalize n / p = b
  generalize n % p = c
  split <;> omega
theorem fr_end (n p : Nat) (hp : 0 < p) : fr n p p = n := by
  unfold fr
  have h := Nat.mod_lt n hp
  have e := Nat.div_add_mod n p
  rw [Nat.min_eq_right (Nat.le_of_lt h)]
  exact e
theorem fr_le (n p i : Nat) (hp : 0 < p) (hi : i ≤ p) : fr n p i ≤ n := by
  have e := Nat.div_add_mod n p
  have h : i * (n / p) ≤ p * (n / p) := Nat.mul_le_mul_right _ hi
  unfold fr
  generalize i * (n / p) = a at *
  generalize p * (n / p) = b at *
  omega
/-- the pairs, as numbers -/
def shl (n p : Nat) : List Int := (List.range p).flatMap fun i => [(fr n p i : Int), (fr n p (i + 1) : Int)]
/-- a list whose first i pairs are those -/
structure Pt (n p i : Nat) (V : List Int) : Prop where
  len : V.length = p * 2
  at' : ∀ j, j < i → V.getD (j * 2) 0 = (fr n p j : Int) ∧ V.getD (j * 2 + 1) 0 = (fr n p (j + 1) : Int)
theorem pt_start (n p : Nat) : Pt n p 0 (List.replicate (p * 2) 0) := ⟨by simp, fun j hj => by omega⟩
theorem dsetD (l : List Int) (i x : Nat) (v : Int) (hi : i < l.length) : (l.set i v).getD x 0 = if x = i then v else l.getD x 0 := by
  rw [List.getD_eq_getElem?_getD, List.getD_eq_getElem?_getD, List.getElem?_set]
  by_cases h : x = i
  · subst h; simp [hi]
  · rw [if_neg (fun e => h e.symm), if_neg h]
theorem Pt.step {n p i : Nat} {V : List Int} (h : Pt n p i V) (hi : i < p) : Pt n p (i + 1) ((V.set (i * 2) (fr n p i : Int)).set (i * 2 + 1) (fr n p (i + 1) : Int)) := by
  have hl := h.len
  refine ⟨by simpa using hl, fun j hj => ?_⟩
  have A : ∀ x, ((V.set (i * 2) (fr n p i : Int)).set (i * 2 + 1) (fr n p (i + 1) : Int)).getD x 0 = if x = i * 2 + 1 then (fr n p (i + 1) : Int) else if x = i * 2 then (fr n p i : Int) else V.getD x 0 := fun x => by
    rw [dsetD _ _ _ _ (by simp only [List.length_set]; omega), dsetD _ _ _ _ (by omega)]
  rw [A, A]
  by_cases e : j = i
  · subst e
    rw [if_neg (by omega), if_pos rfl, if_pos rfl]
    exact ⟨rfl, rfl⟩
  · rw [if_neg (by omega), if_neg (by omega), if_neg (by omega), if_neg (by omega)]
    exact h.at' j (by omega)
theorem make_pairs (n : Nat) (hn : n < 1000000) (w : World) : (Instr.makeSlice 49 (.int .i64 (n : Int)) (.int .i64 (n : Int))).run Try.prog w = .ok (.slice (some ⟨w.heap.size, 0, none⟩) n n) (w.alloc (.cells (madeCells #[.int .i64 0, .int .i64 0] (n * 2)) 52)) := by
  obtain ⟨i, hi, hz, hs, hby⟩ := info_parts (a2i_info)
  have := run_make (P := Try.prog) w 49 52 i (.agg #[.int .i64 0, .int .i64 0]) l2i_under hi hz .i64 .i64 (n : Int) (n : Int) (by omega) (Int.le_refl _) (by rw [hby]; omega) (by omega)
  rw [hs, Int.toNat_natCast] at this
  exact this
theorem made_pairs (n : Nat) : (madeCells #[.int .i64 0, .int .i64 0] n).toList = (List.replicate n (0 : Int)).map (Value.int .i64) := by
  refine List.ext_getElem (by simp [size_madeCells]) (fun k h1 h2 => ?_)
  simp [madeCells]
  rcases Nat.mod_two_eq_zero_or_one k with e | e <;> rw [e] <;> rfl
theorem own_pairs (n : Nat) (hn : n < 1000000) (w : World) : OwnV (w.alloc (.cells (madeCells #[.int .i64 0, .int .i64 0] (n * 2)) 52)) w.heap.size (n * 2) 52 ((List.replicate (n * 2) (0 : Int)).map (Value.int .i64)) := by
  refine ⟨_, heap_alloc_new w _, by simp, by simp [maxLen]; omega, by simp [size_madeCells], ?_⟩
  rw [made_pairs]
  simp
theorem ownv_int {w : World} {g cap : Nat} {e : TypeId} {V : List Int} (h : OwnV w g cap e (V.map (Value.int .i64))) (i : Nat) (hi : i < V.length) : w.cell? ⟨g, i, none⟩ = some (.int .i64 (V.getD i 0)) := by
  refine h.cell i _ ?_
  rw [List.getElem?_map, List.getElem?_eq_getElem hi, List.getD_eq_getElem?_getD, List.getElem?_eq_getElem hi]
  rfl
theorem ownv_set {w : World} {g cap : Nat} {e : TypeId} {V : List Int} (h : OwnV w g cap e (V.map (Value.int .i64))) (i : Nat) (x : Int) : OwnV (w.setCell ⟨g, i, none⟩ (.int .i64 x)) g cap e ((V.set i x).map (Value.int .i64)) := by
  rw [List.map_set]
  exact h.set i _

set_option maxHeartbeats 4000000 in
set_option maxRecDepth 100000 in
theorem shards_ok (n p : Nat) (hn : n ≤ 4096) (hp0 : 0 < p) (hp : p ≤ 16) (w : World) : Calls Try.prog 14 #[.int .i64 n, .int .i64 p] w fun e w' => ∃ V, e = .returned (.tuple #[.slice (some ⟨w.heap.size, 0, none⟩) p p, .int .i64 0]) ∧ Pt n p p V ∧ OwnV w' w.heap.size (p * 2) 52 (V.map (Value.int .i64)) ∧ Kept w w' := by
  have g0 : ¬ (n : Int) < 0 := by omega
  have g1 : ¬ (p : Int) < 1 := by omega
  have g2 : ¬ (4096 : Int) < (n : Int) := by omega
  have g3 : ¬ (16 : Int) < (p : Int) := by omega
  have v0 : decide ((n : Int) < 0) = false := decide_eq_false g0
  have v1 : decide ((p : Int) < 1) = false := decide_eq_false g1
  have v2 : decide ((4096 : Int) < (n : Int)) = false := decide_eq_false g2
  have v3 : decide ((16 : Int) < (p : Int)) = false := decide_eq_false g3
  have v4 : decide (4096 < n) = false := decide_eq_false (by omega)
  have v5 : decide (16 < p) = false := decide_eq_false (by omega)
  have hp1 : ¬ (p : Int) = 0 := by omega
  have HM := make_pairs p (by omega) w
  have hO := own_pairs p (by omega) w
  have hK := (Kept.refl w).alloc (madeCells #[.int .i64 0, .int .i64 0] (p * 2)) 52
  obtain ⟨X, hX⟩ : ∃ X, X = w.alloc (.cells (madeCells #[.int .i64 0, .int .i64 0] (p * 2)) 52) := ⟨_, rfl⟩
  rw [← hX] at HM hO hK
  obtain ⟨g, hg⟩ : ∃ g, g = w.heap.size := ⟨_, rfl⟩
  have hgw : w.heap.size ≤ g := by omega
  rw [← hg] at HM hO ⊢
  have H0 : Hid (OwnV X g (p * 2) 52 ((List.replicate (p * 2) (0 : Int)).map (Value.int .i64)) ∧ Kept w X) := ⟨hO, hK⟩
  clear hX hg hO hK
  obtain ⟨q, hq⟩ : ∃ q : Nat, n / p = q := ⟨_, rfl⟩
  obtain ⟨r, hr⟩ : ∃ r : Nat, n % p = r := ⟨_, rfl⟩
  have zq : (n : Int).tdiv (p : Int) = (q : Int) := by rw [Int.tdiv_eq_ediv_of_nonneg (Int.natCast_nonneg _), ← hq]; rfl
  have zr : (n : Int).tmod (p : Int) = (r : Int) := by rw [Int.tmod_eq_emod_of_nonneg (Int.natCast_nonneg _), ← hr]; rfl
  have hq4 : q ≤ 4096 := by have := Nat.div_le_self n p; omega
  have HS : Hid (∀ i, fr n p (i + 1) = fr n p i + q + (if i < r then 1 else 0)) := fun i => by rw [fr_succ, hq, hr]
  have HL : Hid (∀ i, i ≤ p → fr n p i ≤ n) := fun i hi => fr_le n p i hp0 hi
  clear hq hr
  go_enter Try.func14, Try.ntmps14
  go_wp2_with fail
  go_loopw [7, 27] (fun fv iv wr => ∃ (i : Nat) (V : List Int), i ≤ p ∧ fv = .int .i64 (fr n p i : Int) ∧ iv = .int .i64 i ∧ Pt n p i V ∧ OwnV wr g (p * 2) 52 (V.map (Value.int .i64)) ∧ Kept w wr) (fun _ iv _ => p - (intOf iv).toNat)
  case atStart => exact ⟨0, _, Nat.zero_le _, by rw [fr_zero]; rfl, rfl, pt_start n p, H0.out⟩
  case round =>
    clear H0 HM
    obtain ⟨i, V, hip, rfl, rfl, hPt, hO, hKw⟩ := hrel
    by_cases hi : i < p
    · have hstep := hPt.step hi
      have hl := hPt.len
      have q1 := ownv_int hO (i * 2) (by omega)
      have q2 := ownv_int hO (i * 2 + 1) (by omega)
      have q3 := hO.free (i * 2)
      have q4 := hO.free (i * 2 + 1)
      have hs := HS.out i
      have hle := HL.out i (by omega)
      have hle2 := HL.out (i + 1) (by omega)
      obtain ⟨a, ha⟩ : ∃ a, fr n p i = a := ⟨_, rfl⟩
      obtain ⟨b, hb⟩ : ∃ b, fr n p (i + 1) = b := ⟨_, rfl⟩
      rw [ha, hb] at hs hstep
      rw [ha] at hle ⊢
      rw [hb] at hle2
      have HN : Hid (Pt n p (i + 1) ((V.set (i * 2) (a : Int)).set (i * 2 + 1) (b : Int)) ∧ OwnV wr g (p * 2) 52 (V.map (Value.int .i64)) ∧ Kept w wr ∧ fr n p (i + 1) = b) := ⟨hstep, hO, hKw, hb⟩
      clear hPt hO hKw hstep ha hb hl
      have z1 : IntKind.i64.wrap ((i : Int) + 1) = (i : Int) + 1 := by rw [wrap_i64]; omega
      have z2 : IntKind.i64.wrap ((a : Int) + (q : Int)) = (a : Int) + (q : Int) := by rw [wrap_i64]; omega
      have z3 : IntKind.i64.wrap ((a : Int) + (q : Int) + 1) = (a : Int) + (q : Int) + 1 := by rw [wrap_i64]; omega
      have zz1 : IntKind.i64.wrap (q : Int) = (q : Int) := by rw [wrap_i64]; omega
      have b4 : (i : Int) < (p : Int) := by omega
      by_cases hr : i < r
      · have b5 : (i : Int) < (r : Int) := by omega
        rw [if_pos hr] at hs
        have hs' : (a : Int) + (q : Int) + 1 = (b : Int) := by omega
        clear hs
        go_wp2_with fail
        go_roundw
        case rel =>
          obtain ⟨h1, h2, h3, h4⟩ := HN.out
          exact ⟨i + 1, _, by omega, by rw [h4], by go_num, h1, ownv_set (ownv_set h2 _ _) _ _, (h3.setCell (p := ⟨g, i * 2, none⟩) hgw _).setCell (p := ⟨g, i * 2 + 1, none⟩) hgw _⟩
        case measure => simp [intOf]; omega
      · have b5 : ¬ (i : Int) < (r : Int) := by omega
        rw [if_neg hr] at hs
        have hs' : (a : Int) + (q : Int) = (b : Int) := by omega
        clear hs
        go_wp2_with fail
        go_roundw
        case rel =>
          obtain ⟨h1, h2, h3, h4⟩ := HN.out
          exact ⟨i + 1, _, by omega, by rw [h4], by go_num, h1, ownv_set (ownv_set h2 _ _) _ _, (h3.setCell (p := ⟨g, i * 2, none⟩) hgw _).setCell (p := ⟨g, i * 2 + 1, none⟩) hgw _⟩
        case measure => simp [intOf]; omega
    · obtain rfl : i = p := by omega
      go_wp2
      exact bodyPost_ret (v := .tuple #[.slice (some ⟨g, 0, none⟩) i i, .int .i64 0]) (by simp [results, Try.results14, go_sem, *]) rfl ⟨V, rfl, hPt, hO, hKw⟩

set_option maxHeartbeats 4000000 in
set_option maxRecDepth 100000 in
theorem shards_e (n p q : Int) (hq : (n < 0 ∨ p < 1) ∧ q = 1 ∨ ¬ (n < 0 ∨ p < 1) ∧ (4096 < n ∨ 16 < p) ∧ q = 2) (w : World) : Calls Try.prog 14 #[.int .i64 n, .int .i64 p] w fun e w' => e = .returned (.tuple #[.slice none 0 0, .int .i64 q]) ∧ Kept w w' := by
  go_enter Try.func14, Try.ntmps14
  rcases hq with ⟨h, rfl⟩ | ⟨h, h2, rfl⟩
  · by_cases h0 : n < 0
    · go_wp2
      exact bodyPost_ret (v := .tuple #[.slice none 0 0, .int .i64 1]) (by simp [results, Try.results14, go_sem, *]) rfl ⟨rfl, Kept.refl _⟩
    · have h1 : p < 1 := by omega
      clear h
      go_wp2
      exact bodyPost_ret (v := .tuple #[.slice none 0 0, .int .i64 1]) (by simp [results, Try.results14, go_sem, *]) rfl ⟨rfl, Kept.refl _⟩
  · have h0 : ¬ n < 0 := by omega
    have h1 : ¬ p < 1 := by omega
    clear h
    by_cases h3 : 4096 < n
    · clear h2
      go_wp2
      exact bodyPost_ret (v := .tuple #[.slice none 0 0, .int .i64 2]) (by simp [results, Try.results14, go_sem, *]) rfl ⟨rfl, Kept.refl _⟩
    · have h4 : 16 < p := by omega
      clear h2
      go_wp2
      exact bodyPost_ret (v := .tuple #[.slice none 0 0, .int .i64 2]) (by simp [results, Try.results14, go_sem, *]) rfl ⟨rfl, Kept.refl _⟩

set_option maxHeartbeats 4000000 in
set_option maxRecDepth 100000 in
theorem dalive_true (w : World) : Calls Try.prog 4 #[] w fun e w' => e = .returned (.bool true) ∧ Kept w w' := by
  have HS := shards_ok 7 3 (by decide) (by decide) (by decide) w
  have hEQ := eql_pr
  go_enter Try.func4, Try.ntmps4
  go_wp2_with fail
  refine (HS).mono ?_
  rintro e w1 ⟨V, rfl, hPt, hO, hK⟩
  have hl := hPt.len
  obtain ⟨p0, p1⟩ := hPt.at' 0 (by decide)
  obtain ⟨p2, p3⟩ := hPt.at' 1 (by decide)
  obtain ⟨p4, p5⟩ := hPt.at' 2 (by decide)
  have q0 := ownv_int hO 0 (by omega)
  have q1 := ownv_int hO 1 (by omega)
  have q2 := ownv_int hO 2 (by omega)
  have q3 := ownv_int hO 3 (by omega)
  have q4 := ownv_int hO 4 (by omega)
  have q5 := ownv_int hO 5 (by omega)
  rw [show V.getD 0 0 = 0 from p0] at q0
  rw [show V.getD 1 0 = 3 from p1] at q1
  rw [show V.getD 2 0 = 3 from p2] at q2
  rw [show V.getD 3 0 = 5 from p3] at q3
  rw [show V.getD 4 0 = 5 from p4] at q4
  rw [show V.getD 5 0 = 7 from p5] at q5
  clear p0 p1 p2 p3 p4 p5 hl hPt hO
  go_wp2
  go_ret
  exact ⟨rfl, hK⟩

end Go.Proofs.Ytedghjededicpaa
