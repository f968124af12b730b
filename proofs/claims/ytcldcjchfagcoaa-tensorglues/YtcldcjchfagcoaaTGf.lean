/- What glueing answers: package tensor and the document alike. Lists of matrices and shapes that grow: what is appended lies in its own block. -/
import Derived.Test.YtcldcjchfagcoaaTGc
import Derived.Test.YtcldcjchfagcoaaT56
import Derived.Test.YtcldcjchfagcoaaT57
import Derived.Test.YtcldcjchfagcoaaT21
import Derived.Test.YtcldcjchfagcoaaT18
import Derived.Test.YtcldcjchfagcoaaT6
namespace Go.Proofs.Ytcldcjchfagcoaa
open Go.ChangeShapes Go.WideShapes Go.ChangeAt Go.RowKit
set_option linter.unusedVariables false
set_option linter.unusedSimpArgs false

theorem gl_ex (k : Nat) (r c n : Nat → Int) : ∃ ea eb ed e, GlE k r c n ea eb ed e := by
  by_cases h1 : ∃ i, i < k ∧ n i ≠ n 0
  · exact ⟨0, 0, 0, 3, .inl ⟨h1, rfl, rfl, rfl, rfl⟩⟩
  · have h1' : ∀ i, i < k → n i = n 0 := fun i hi => Classical.not_not.1 (fun h => h1 ⟨i, hi, h⟩)
    by_cases h2 : ∃ i, i < k ∧ r i ≠ r 0
    · exact ⟨0, 0, 0, 4, .inr (.inl ⟨h1', h2, rfl, rfl, rfl, rfl⟩)⟩
    · have h2' : ∀ i, i < k → r i = r 0 := fun i hi => Classical.not_not.1 (fun h => h2 ⟨i, hi, h⟩)
      by_cases h3 : ckR (r 0) (sm c k) = 0
      · exact ⟨r 0, sm c k, n 0, ckR (r 0) (sm c k), .inr (.inr ⟨h1', h2', rfl, fun _ => ⟨rfl, rfl, rfl⟩, fun h => absurd h3 h⟩)⟩
      · exact ⟨0, 0, 0, ckR (r 0) (sm c k), .inr (.inr ⟨h1', h2', rfl, fun h => absurd h h3, fun _ => ⟨rfl, rfl, rfl⟩⟩)⟩
theorem gl_zero {k : Nat} {r c n : Nat → Int} {ea eb ed e : Int} (h : GlE k r c n ea eb ed e) (he : e ≠ 0) : ea = 0 ∧ eb = 0 ∧ ed = 0 := by
  rcases h with ⟨-, h1, h2, h3, -⟩ | ⟨-, -, h1, h2, h3, -⟩ | ⟨-, -, -, -, h⟩
  · exact ⟨h1, h2, h3⟩
  · exact ⟨h1, h2, h3⟩
  · exact h he
theorem gl_good {k : Nat} {r c n : Nat → Int} {ea eb ed : Int} (h : GlE k r c n ea eb ed 0) : (∀ i, i < k → n i = n 0) ∧ (∀ i, i < k → r i = r 0) ∧ ckR (r 0) (sm c k) = 0 ∧ ea = r 0 ∧ eb = sm c k ∧ ed = n 0 := by
  rcases h with ⟨-, -, -, -, h⟩ | ⟨-, -, -, -, -, h⟩ | ⟨h1, h2, h3, h4, -⟩
  · cases h
  · cases h
  · exact ⟨h1, h2, h3.symm, h4 rfl⟩

/-- Sums of naturals. -/
def sn (c : Nat → Nat) : Nat → Nat
  | 0 => 0
  | k + 1 => sn c k + c k
theorem sm_sn (c : Nat → Nat) (k : Nat) : sm (fun i => (c i : Int)) k = (sn c k : Int) := by
  induction k with
  | zero => rfl
  | succ k ih => rw [sm, sn, ih, Int.natCast_add]
theorem catL_len (L : Nat → List Int) (c : Nat → Nat) (k : Nat) (h : ∀ i, i < k → (L i).length = c i) : (catL L k).length = sn c k := by
  induction k with
  | zero => rfl
  | succ k ih => rw [catL, sn, List.length_append, ih (fun i hi => h i (by omega)), h k (by omega)]
theorem sn_mul (c : Nat → Nat) (d k : Nat) : sn (fun i => c i * d) k = sn c k * d := by
  induction k with
  | zero => simp [sn]
  | succ k ih => rw [sn, sn, ih, Nat.add_mul]
theorem sn_const (d k : Nat) : sn (fun _ => d) k = k * d := by
  induction k with
  | zero => simp [sn]
  | succ k ih => rw [sn, ih, Nat.succ_mul]
theorem sn_congr (c d : Nat → Nat) (k : Nat) (h : ∀ i, i < k → c i = d i) : sn c k = sn d k := by
  induction k with
  | zero => rfl
  | succ k ih => rw [sn, sn, ih (fun i hi => h i (by omega)), h k (by omega)]
theorem rwA_len (C : Nat → Nat) (L : Nat → List Int) (k r : Nat) : (rwA C L k r).length = sn C k := catL_len _ _ _ (fun i _ => rwL_length C L r i)
theorem rw_len (C : Nat → Nat) (L : Nat → List Int) (k R : Nat) : (catL (rwA C L k) R).length = R * sn C k := by
  rw [catL_len _ (fun _ => sn C k) R (fun r _ => rwA_len C L k r), sn_const]

/-- What the pairs name. -/
def prF (L : Nat → List Int) (p : Nat × Nat) : Int := (L p.1).getD p.2 0
theorem catP_map (P : Nat → List (Nat × Nat)) (L : Nat → List Int) (k : Nat) : (catP P k).map (prF L) = catL (fun i => (P i).map (prF L)) k := by
  induction k with
  | zero => rfl
  | succ k ih => rw [catP, catL, List.map_append, ih]
theorem catL_congr (L M : Nat → List Int) (k : Nat) (h : ∀ i, i < k → L i = M i) : catL L k = catL M k := by
  induction k with
  | zero => rfl
  | succ k ih => rw [catL, catL, ih (fun i hi => h i (by omega)), h k (by omega)]
theorem prR_map (L : Nat → List Int) (i o x : Nat) : (prR i o x).map (prF L) = lst x (fun y => (L i).getD (o + y) 0) := by
  unfold prR lst
  rw [List.map_map]
  rfl
theorem glQ_map (C : Nat → Nat) (L : Nat → List Int) (k R : Nat) : (glQ C k R).map (prF L) = catL (rwA C L k) R := by
  unfold glQ
  rw [catP_map]
  refine catL_congr _ _ _ (fun r _ => ?_)
  unfold glR rwA
  rw [catP_map]
  refine catL_congr _ _ _ (fun i _ => ?_)
  rw [prR_map]
  rfl
theorem glP_map (R C : Nat → Nat) (L : Nat → List Int) (k : Nat) (h : ∀ i, i < k → (L i).length = R i * C i) : (glP R C k).map (prF L) = catL L k := by
  unfold glP
  rw [catP_map]
  refine catL_congr _ _ _ (fun i hi => ?_)
  rw [prR_map, ← h i hi]
  have := lst_self (L i)
  rw [show (fun y => (L i).getD (0 + y) 0) = (fun y => (L i).getD y 0) from funext fun y => by rw [Nat.zero_add]]
  exact this
theorem catP_mem (P : Nat → List (Nat × Nat)) (k : Nat) (p : Nat × Nat) (h : p ∈ catP P k) : ∃ i, i < k ∧ p ∈ P i := by
  induction k with
  | zero => cases h
  | succ k ih =>
    rw [catP] at h
    rcases List.mem_append.1 h with h | h
    · obtain ⟨i, hi, h⟩ := ih h
      exact ⟨i, by omega, h⟩
    · exact ⟨k, by omega, h⟩
theorem prR_mem {i o x : Nat} {p : Nat × Nat} (h : p ∈ prR i o x) : p.1 = i ∧ p.2 < o + x := by
  unfold prR at h
  obtain ⟨y, hy, rfl⟩ := List.mem_map.1 h
  have := List.mem_range.1 hy
  exact ⟨rfl, by show o + y < o + x; omega⟩
theorem glP_mem (R C : Nat → Nat) (k : Nat) (p : Nat × Nat) (h : p ∈ glP R C k) : p.1 < k ∧ p.2 < R p.1 * C p.1 := by
  obtain ⟨i, hi, h⟩ := catP_mem _ _ _ h
  obtain ⟨rfl, h2⟩ := prR_mem h
  exact ⟨hi, by omega⟩
theorem glQ_mem (C : Nat → Nat) (k R : Nat) (p : Nat × Nat) (h : p ∈ glQ C k R) : p.1 < k ∧ p.2 < R * C p.1 := by
  obtain ⟨r, hr, h⟩ := catP_mem _ _ _ h
  obtain ⟨i, hi, h⟩ := catP_mem _ _ _ h
  obtain ⟨rfl, h2⟩ := prR_mem h
  refine ⟨hi, Nat.lt_of_lt_of_le h2 ?_⟩
  rw [← Nat.succ_mul]
  exact Nat.mul_le_mul_right _ hr
theorem list_self (P : List (Nat × Nat)) : (List.range P.length).map (fun j => P.getD j (0, 0)) = P := by
  apply List.ext_getElem?
  intro i
  rcases Nat.lt_or_ge i P.length with h | h
  · simp [h, List.getD_eq_getElem?_getD]
  · simp [h]
theorem prp_prl (P : List (Nat × Nat)) : prp P = prl P.length (fun j => (P.getD j (0, 0)).1) (fun j => (P.getD j (0, 0)).2) := by
  have := congrArg prp (list_self P)
  rw [← this]
  unfold prp prl
  rw [List.flatMap_map]
theorem lst_pairs (P : List (Nat × Nat)) (L : Nat → List Int) : lst P.length (fun j => (L (P.getD j (0, 0)).1).getD (P.getD j (0, 0)).2 0) = P.map (prF L) := by
  have := congrArg (List.map (prF L)) (list_self P)
  rw [← this, List.map_map]
  rfl

/-- Moved of pairs, of a list of matrices. -/
theorem moved_list (P : List (Nat × Nat)) (hP0 : 0 < P.length) (hP4 : P.length ≤ 4096) (k : Nat) (hk : k ≤ 100000) (r c n : Nat → Int) (a : Nat → Option Addr) (cap : Nat → Nat) (L : Nat → List Int) (hp : ∀ p ∈ P, p.1 < k ∧ p.2 < (L p.1).length) (hRg : ∀ i, i < k → Rgl (L i)) (mr mc mn : Int) (hn : mn = 64 ∨ mn = 32) (v : Value) (Hv : Nat) (w : World) (hV : MS 2 89 Hv w v P.length (prp P)) (lb lo lc : Nat) (hL : Lm w lb lo k r c n a cap L) :
    Calls Try.prog 43 #[.agg #[.int .i64 mr, .int .i64 mc, .int .i64 mn, v], .slice (some ⟨lb, lo, none⟩) k lc] w fun e w' => ∃ v, e = .returned (.agg #[.int .i64 mr, .int .i64 mc, .int .i64 mn, v]) ∧ MR w.heap.size w' v ((P.map (prF L)).map (cln · mn)) ∧ Kept w w' := by
  rw [prp_prl] at hV
  have hmem : ∀ j, j < P.length → P.getD j (0, 0) ∈ P := fun j hj => by
    rw [List.getD_eq_getElem?_getD, List.getElem?_eq_getElem hj]
    exact List.getElem_mem hj
  have := rmoved_ok mr mc mn hn P.length hP0 (by omega) _ _ (fun j => (L (P.getD j (0, 0)).1).getD (P.getD j (0, 0)).2 0) (fun i hi => ?_) v Hv lb lo k lc hk w hV ⟨hL.lt, fun j hj => ?_⟩
  · rw [lst_pairs] at this
    exact this
  · rw [lst_length] at hi
    rw [lst_get _ _ _ hi]
    obtain ⟨h1, h2⟩ := hp _ (hmem i hi)
    exact hRg _ h1 _ h2
  · obtain ⟨h1, h2⟩ := hp _ (hmem j hj)
    obtain ⟨-, -, -, h6⟩ := hL.rd _ h1
    obtain ⟨ao, cp, e, hcp, -, hrd⟩ := hL.sl _ h1
    obtain ⟨bb, oo, rfl, hb, hrd⟩ := hrd (by intro h0; rw [h0] at h2; cases h2)
    injection e with e1 e2 e3
    rw [e1] at h6
    exact ⟨h1, bb, oo, _, _, h6, h2, hb, hrd _ h2⟩

theorem ckM_nat {r c n : Int} {L : List Int} (h : ckM r c n L = 0) : ∃ R C : Nat, r = (R : Int) ∧ c = (C : Int) ∧ 0 < R ∧ 0 < C ∧ R * C ≤ 4096 ∧ R ≤ 4096 ∧ C ≤ 4096 ∧ L.length = R * C ∧ (n = 64 ∨ n = 32) := by
  obtain ⟨hs, hl, -⟩ := ckM_ok h
  obtain ⟨hn, hr, hc, hrc⟩ := ckS_ok hs
  obtain ⟨R, rfl⟩ := Int.eq_ofNat_of_zero_le (show 0 ≤ r by omega)
  obtain ⟨C, rfl⟩ := Int.eq_ofNat_of_zero_le (show 0 ≤ c by omega)
  have hR : 0 < R := by omega
  have hC : 0 < C := by omega
  have hL : L.length = R * C := by
    have : (L.length : Int) = ((R * C : Nat) : Int) := by rw [hl]; simp
    omega
  have hRC : R * C ≤ 4096 := by
    have : ((R * C : Nat) : Int) ≤ 4096 := by simpa using hrc
    omega
  exact ⟨R, C, rfl, rfl, hR, hC, hRC, Nat.le_trans (Nat.le_mul_of_pos_right R hC) hRC, Nat.le_trans (Nat.le_mul_of_pos_left C hR) hRC, hL, hn⟩

/-- The document's answer, and what Moved makes of it later. -/
def GlK (A : An) (side : Bool) (k : Nat) (r c n : Nat → Int) (L : Nat → List Int) : Prop := ∀ (u : World) (B off lc : Nat), Ls u B off k r c n → Calls Try.prog 42 #[.slice (some ⟨B, off, none⟩) k lc, .bool side] u fun x w' => ∃ vr vc vn va vl vk, x = .returned (.tuple #[.agg #[.int .i64 vr, .int .i64 vc, .int .i64 vn, .slice va vl vk], .int .i64 A.q]) ∧ Kept u w' ∧
  (A.q = 0 → ∀ (W : World), Kept w' W → ∀ (lb lo lc' : Nat) (a : Nat → Option Addr) (cap : Nat → Nat), Lm W lb lo k r c n a cap L → Calls Try.prog 43 #[.agg #[.int .i64 vr, .int .i64 vc, .int .i64 vn, .slice va vl vk], .slice (some ⟨lb, lo, none⟩) k lc'] W fun e w2 => ∃ v, e = .returned (.agg #[.int .i64 A.r, .int .i64 A.c, .int .i64 A.n, v]) ∧ MR W.heap.size w2 v A.T ∧ Kept W w2)
def GlB (A : An) (f : Nat) (k : Nat) (r c n : Nat → Int) (L : Nat → List Int) : Prop := ∀ (u : World) (B off lc : Nat) (a : Nat → Option Addr) (cap : Nat → Nat), Lm u B off k r c n a cap L → GivesK A f #[.slice (some ⟨B, off, none⟩) k lc] u
def AnZ (A : An) : Prop := A.q ≠ 0 → A.r = 0 ∧ A.c = 0 ∧ A.n = 0 ∧ A.T = []

theorem nats (k : Nat) (r c n : Nat → Int) (L : Nat → List Int) (hck : ∀ i, i < k → ckM (r i) (c i) (n i) (L i) = 0) : ∃ R C : Nat → Nat, ∀ i, i < k → r i = (R i : Int) ∧ c i = (C i : Int) ∧ 0 < R i ∧ 0 < C i ∧ R i * C i ≤ 4096 ∧ R i ≤ 4096 ∧ C i ≤ 4096 ∧ (L i).length = R i * C i ∧ (n i = 64 ∨ n i = 32) := by
  refine ⟨fun i => (r i).toNat, fun i => (c i).toNat, fun i hi => ?_⟩
  obtain ⟨R, C, h1, h2, h⟩ := ckM_nat (hck i hi)
  have e1 : (r i).toNat = R := by omega
  have e2 : (c i).toNat = C := by omega
  show r i = ((r i).toNat : Int) ∧ c i = ((c i).toNat : Int) ∧ 0 < (r i).toNat ∧ 0 < (c i).toNat ∧ (r i).toNat * (c i).toNat ≤ 4096 ∧ (r i).toNat ≤ 4096 ∧ (c i).toNat ≤ 4096 ∧ (L i).length = (r i).toNat * (c i).toNat ∧ (n i = 64 ∨ n i = 32)
  rw [e1, e2]
  exact ⟨h1, h2, h⟩
theorem Ls.congr {u : World} {B off k : Nat} {r c n r' c' n' : Nat → Int} (h : Ls u B off k r c n) (hr : ∀ i, i < k → r i = r' i) (hc : ∀ i, i < k → c i = c' i) (hn : ∀ i, i < k → n i = n' i) : Ls u B off k r' c' n' := by
  refine ⟨h.lt, fun i hi => ?_⟩
  rw [← hr i hi, ← hc i hi, ← hn i hi]
  exact h.rd i hi
theorem gle_congr {k : Nat} {r c n r' c' : Nat → Int} {ea eb ed e : Int} (hk : 0 < k) (h : GlE k r c n ea eb ed e) (hr : ∀ i, i < k → r i = r' i) (hc : ∀ i, i < k → c i = c' i) : GlE k r' c' n ea eb ed e := by
  have hs : ∀ j, j ≤ k → sm c j = sm c' j := fun j hj => by
    induction j with
    | zero => rfl
    | succ j ih => rw [sm, sm, ih (by omega), hc j (by omega)]
  rcases h with h | ⟨h1, ⟨i, hi, h2⟩, h3⟩ | ⟨h1, h2, h3, h4, h5⟩
  · exact .inl h
  · refine .inr (.inl ⟨h1, ⟨i, hi, ?_⟩, h3⟩)
    rw [← hr i hi, ← hr 0 hk]
    exact h2
  · refine .inr (.inr ⟨h1, fun i hi => ?_, ?_, fun he => ?_, h5⟩)
    · rw [← hr i hi, ← hr 0 hk]; exact h2 i hi
    · rw [← hr 0 hk, ← hs k (Nat.le_refl _)]; exact h3
    · obtain ⟨a1, a2, a3⟩ := h4 he
      exact ⟨by rw [← hr 0 hk]; exact a1, by rw [← hs k (Nat.le_refl _)]; exact a2, a3⟩
theorem ckR_le {R C : Nat} (hC : 0 < C) (h : ckR (R : Int) (C : Int) = 0) : R * C ≤ 4096 := by
  unfold ckR at h
  split at h
  · cases h
  · rename_i h1
    have := (not_congr (ckR_iff (r := (R : Int)) (show (1 : Int) ≤ (C : Int) by omega))).1 h1
    have h2 : (R : Int) * (C : Int) = ((R * C : Nat) : Int) := by simp
    omega
theorem sn_pos (c : Nat → Nat) (k : Nat) (hk : 0 < k) (h : ∀ i, i < k → 0 < c i) : 0 < sn c k := by
  obtain ⟨m, rfl⟩ : ∃ m, k = m + 1 := ⟨k - 1, by omega⟩
  rw [sn]
  have := h m (by omega)
  omega

/-- Side by side. -/
theorem an_glueC (k : Nat) (hk0 : 0 < k) (hk : k ≤ 100000) (r c n : Nat → Int) (L : Nat → List Int) (hck : ∀ i, i < k → ckM (r i) (c i) (n i) (L i) = 0) (hRg : ∀ i, i < k → Rgl (L i)) :
    ∃ A : An, A.T.length ≤ 100000 ∧ AnZ A ∧ GlB A 40 k r c n L ∧ GlK A true k r c n L := by
  obtain ⟨R, C, hN⟩ := nats k r c n L hck
  obtain ⟨ea, eb, ed, e, hE⟩ := gl_ex k r c n
  have hE2 := gle_congr hk0 hE (fun i hi => (hN i hi).1) (fun i hi => (hN i hi).2.1)
  have hRC : ∀ i, i < k → 0 < R i ∧ 0 < C i ∧ R i ≤ 4096 ∧ C i ≤ 4096 ∧ R i * C i ≤ 4096 := fun i hi => by
    obtain ⟨-, -, h1, h2, h3, h4, h5, -⟩ := hN i hi
    exact ⟨h1, h2, h4, h5, h3⟩
  have hn0 : n 0 = 64 ∨ n 0 = 32 := (hN 0 hk0).2.2.2.2.2.2.2.2
  by_cases he : e = 0
  · subst he
    obtain ⟨g1, g2, g3, rfl, rfl, rfl⟩ := gl_good hE2
    have g2' : ∀ i, i < k → R i = R 0 := fun i hi => Int.ofNat.inj (g2 i hi)
    rw [sm_sn] at g3
    have hsp : 0 < sn C k := sn_pos C k hk0 (fun i hi => (hRC i hi).2.1)
    have h4 : R 0 * sn C k ≤ 4096 := ckR_le hsp g3
    have hlen := rw_len C L k (R 0)
    have hLl : ∀ i, i < k → (L i).length = R 0 * C i := fun i hi => by rw [← g2' i hi]; exact (hN i hi).2.2.2.2.2.2.2.1
    have hPl : (glQ C k (R 0)).length = R 0 * sn C k := by
      have := congrArg List.length (glQ_map C L k (R 0))
      rw [List.length_map, hlen] at this
      exact this
    have hpos : 0 < R 0 * sn C k := Nat.mul_pos (hRC 0 hk0).1 hsp
    refine ⟨⟨R 0, sm (fun i => (C i : Int)) k, n 0, 0, (catL (rwA C L k) (R 0)).map (cln · (n 0))⟩, ?_, fun h => absurd rfl h, fun u B off lc a cap hu => ?_, fun u B off lc hu => ?_⟩
    · show ((catL (rwA C L k) (R 0)).map (cln · (n 0))).length ≤ 100000
      rw [List.length_map, hlen]
      omega
    · have hu2 := hu.congr (r' := fun _ => (R 0 : Int)) (c' := fun i => (C i : Int)) (n' := fun _ => n 0) (fun i hi => (hN i hi).1.trans (by rw [g2' i hi])) (fun i hi => (hN i hi).2.1) g1
      have hE3 : GlE k (fun _ => (R 0 : Int)) (fun i => (C i : Int)) (fun _ => n 0) (R 0) (sm (fun i => (C i : Int)) k) (n 0) 0 := .inr (.inr ⟨fun _ _ => rfl, fun _ _ => rfl, by rw [sm_sn]; exact g3.symm, fun _ => ⟨rfl, rfl, rfl⟩, fun h => absurd rfl h⟩)
      have := glueCols_ok B off k lc (R 0) hk0 (by omega) (hRC 0 hk0).2.2.1 (n 0) C a cap L (fun i hi => ⟨(hRC i hi).2.1, (hRC i hi).2.2.2.1, by rw [← g2' i hi]; exact (hRC i hi).2.2.2.2⟩) u hu2 (fun i hi => by have h0 := hck i hi; rw [(hN i hi).1, (hN i hi).2.1, g2' i hi, g1 i hi] at h0; exact h0) hE3 hLl (hRC 0 hk0).1 hRg hn0 (by rw [hlen, sm_sn]; simp) (by rw [hlen]; exact h4)
      refine Calls.mono this ?_
      rintro x w' ⟨g, rfl, hg, ho, kk⟩
      exact ⟨_, rfl, mr_own ho (by rw [List.length_map]) hg, kk⟩
    · have hu2 := hu.congr (r' := fun i => (R i : Int)) (c' := fun i => (C i : Int)) (n' := n) (fun i hi => (hN i hi).1) (fun i hi => (hN i hi).2.1) (fun _ _ => rfl)
      have := rglueC B off k lc hk0 (by omega) R C n hRC hn0 u hu2 _ _ _ 0 hE2 (fun _ => by rw [hPl]; exact h4)
      refine this.mono ?_
      rintro x w' ⟨v, rfl, -, h2, kk⟩
      have hMS := h2 rfl
      obtain ⟨va, vk, rfl⟩ := hMS.form
      refine ⟨_, _, _, va, _, vk, rfl, kk, fun _ W kW lb lo lc' a cap hL => ?_⟩
      have := moved_list (glQ C k (R 0)) (by rw [hPl]; exact hpos) (by rw [hPl]; exact h4) k hk r c n a cap L (fun p hp => by obtain ⟨a1, a2⟩ := glQ_mem C k (R 0) p hp; exact ⟨a1, by rw [hLl _ a1]; exact a2⟩) hRg (R 0) (sm (fun i => (C i : Int)) k) (n 0) hn0 _ _ W (hMS.kept kW) lb lo lc' hL
      rw [glQ_map] at this
      exact this
  · obtain ⟨rfl, rfl, rfl⟩ := gl_zero hE he
    refine ⟨⟨0, 0, 0, e, []⟩, by simp, fun _ => ⟨rfl, rfl, rfl, rfl⟩, fun u B off lc a cap hu => ?_, fun u B off lc hu => ?_⟩
    · exact gives_zero (glueCols_bad B off k lc hk0 (by omega) r c n a cap L (fun i hi => by have h1 := (hN i hi).2.1; have h2 := hRC i hi; omega) u hu hck e he hE)
    · have hu2 := hu.congr (r' := fun i => (R i : Int)) (c' := fun i => (C i : Int)) (n' := n) (fun i hi => (hN i hi).1) (fun i hi => (hN i hi).2.1) (fun _ _ => rfl)
      have := rglueC B off k lc hk0 (by omega) R C n hRC hn0 u hu2 0 0 0 e hE2 (fun h => absurd h he)
      refine this.mono ?_
      rintro x w' ⟨v, rfl, h1, -, kk⟩
      obtain rfl := h1 he
      exact ⟨0, 0, 0, none, 0, 0, rfl, kk, fun h => absurd h he⟩

/-- One below the other. -/
theorem an_glueR (k : Nat) (hk0 : 0 < k) (hk : k ≤ 100000) (r c n : Nat → Int) (L : Nat → List Int) (hck : ∀ i, i < k → ckM (r i) (c i) (n i) (L i) = 0) (hRg : ∀ i, i < k → Rgl (L i)) :
    ∃ A : An, A.T.length ≤ 100000 ∧ AnZ A ∧ GlB A 41 k r c n L ∧ GlK A false k r c n L := by
  obtain ⟨R, C, hN⟩ := nats k r c n L hck
  obtain ⟨ea, eb, ed, e, hE⟩ := gl_ex k c r n
  have hE2 := gle_congr hk0 hE (fun i hi => (hN i hi).2.1) (fun i hi => (hN i hi).1)
  have hRC : ∀ i, i < k → 0 < R i ∧ 0 < C i ∧ R i ≤ 4096 ∧ C i ≤ 4096 ∧ R i * C i ≤ 4096 := fun i hi => by
    obtain ⟨-, -, h1, h2, h3, h4, h5, -⟩ := hN i hi
    exact ⟨h1, h2, h4, h5, h3⟩
  have hn0 : n 0 = 64 ∨ n 0 = 32 := (hN 0 hk0).2.2.2.2.2.2.2.2
  have hLl : ∀ i, i < k → (L i).length = R i * C i := fun i hi => (hN i hi).2.2.2.2.2.2.2.1
  by_cases he : e = 0
  · subst he
    obtain ⟨g1, g2, g3, rfl, rfl, rfl⟩ := gl_good hE2
    have g2' : ∀ i, i < k → C i = C 0 := fun i hi => Int.ofNat.inj (g2 i hi)
    rw [sm_sn] at g3
    have hsp : 0 < sn R k := sn_pos R k hk0 (fun i hi => (hRC i hi).1)
    have h4 : C 0 * sn R k ≤ 4096 := ckR_le hsp g3
    have hlen : (catL L k).length = C 0 * sn R k := by
      rw [catL_len L (fun i => R i * C 0) k (fun i hi => by rw [hLl i hi, g2' i hi]), sn_mul, Nat.mul_comm]
    have hPl : (glP R C k).length = C 0 * sn R k := by
      have := congrArg List.length (glP_map R C L k hLl)
      rw [List.length_map, hlen] at this
      exact this
    have hpos : 0 < C 0 * sn R k := Nat.mul_pos (hRC 0 hk0).2.1 hsp
    have hsm : ∀ j, j ≤ k → sm r j = sm (fun i => (R i : Int)) j := fun j hj => by
      induction j with
      | zero => rfl
      | succ j ih => rw [sm, sm, ih (by omega), (hN j (by omega)).1]
    refine ⟨⟨sm (fun i => (R i : Int)) k, C 0, n 0, 0, (catL L k).map (cln · (n 0))⟩, ?_, fun h => absurd rfl h, fun u B off lc a cap hu => ?_, fun u B off lc hu => ?_⟩
    · show ((catL L k).map (cln · (n 0))).length ≤ 100000
      rw [List.length_map, hlen]
      omega
    · have hu2 := hu.congr (r' := fun i => (R i : Int)) (c' := fun i => (C i : Int)) (n' := n) (fun i hi => (hN i hi).1) (fun i hi => (hN i hi).2.1) (fun _ _ => rfl)
      have := glueRows_ok B off k lc hk0 (by omega) (fun i => (R i : Int)) (fun i => (C i : Int)) n a cap L (fun i hi => by have h2 := hRC i hi; show 1 ≤ (R i : Int) ∧ (R i : Int) ≤ 1000000; omega) u hu2 (fun i hi => by have h0 := hck i hi; rw [(hN i hi).1, (hN i hi).2.1] at h0; exact h0) hE2 (fun i hi h0 => by have h1 := hLl i hi; rw [h0] at h1; have h2 := Nat.mul_pos (hRC i hi).1 (hRC i hi).2.1; simp at h1; omega) hRg hn0 (by rw [hlen, sm_sn, Nat.mul_comm]; simp) (by rw [hlen]; exact h4)
      refine Calls.mono this ?_
      rintro x w' ⟨g, rfl, hg, ho, kk⟩
      exact ⟨_, rfl, mr_own ho (by rw [List.length_map]) hg, kk⟩
    · have hu2 := hu.congr (r' := fun i => (R i : Int)) (c' := fun i => (C i : Int)) (n' := n) (fun i hi => (hN i hi).1) (fun i hi => (hN i hi).2.1) (fun _ _ => rfl)
      have := rglueR B off k lc hk0 (by omega) R C n hRC hn0 u hu2 _ _ _ 0 hE2 (fun _ => by rw [hPl]; exact h4)
      refine this.mono ?_
      rintro x w' ⟨v, rfl, -, h2, kk⟩
      have hMS := h2 rfl
      obtain ⟨va, vk, rfl⟩ := hMS.form
      refine ⟨_, _, _, va, _, vk, rfl, kk, fun _ W kW lb lo lc' a cap hL => ?_⟩
      have := moved_list (glP R C k) (by rw [hPl]; exact hpos) (by rw [hPl]; exact h4) k hk r c n a cap L (fun p hp => by obtain ⟨a1, a2⟩ := glP_mem R C k p hp; exact ⟨a1, by rw [hLl _ a1]; exact a2⟩) hRg (sm (fun i => (R i : Int)) k) (C 0) (n 0) hn0 _ _ W (hMS.kept kW) lb lo lc' hL
      rw [glP_map R C L k hLl] at this
      exact this
  · obtain ⟨rfl, rfl, rfl⟩ := gl_zero hE he
    refine ⟨⟨0, 0, 0, e, []⟩, by simp, fun _ => ⟨rfl, rfl, rfl, rfl⟩, fun u B off lc a cap hu => ?_, fun u B off lc hu => ?_⟩
    · exact gives_zero (glueRows_bad B off k lc hk0 (by omega) r c n a cap L (fun i hi => by have h1 := (hN i hi).1; have h2 := hRC i hi; omega) u hu hck e he hE)
    · have hu2 := hu.congr (r' := fun i => (R i : Int)) (c' := fun i => (C i : Int)) (n' := n) (fun i hi => (hN i hi).1) (fun i hi => (hN i hi).2.1) (fun _ _ => rfl)
      have := rglueR B off k lc hk0 (by omega) R C n hRC hn0 u hu2 0 0 0 e hE2 (fun h => absurd h he)
      refine this.mono ?_
      rintro x w' ⟨v, rfl, h1, -, kk⟩
      obtain rfl := h1 he
      exact ⟨0, 0, 0, none, 0, 0, rfl, kk, fun h => absurd h he⟩
end Go.Proofs.Ytcldcjchfagcoaa

namespace Go.Proofs.Ytcldcjchfagcoaa
open Go.ChangeShapes Go.WideShapes Go.ChangeAt Go.RowKit
set_option linter.unusedVariables false
set_option linter.unusedSimpArgs false

theorem blk_new {x g k c h : Nat} (hx : x ∈ blkS (.slice (some ⟨g, 0, none⟩) k c)) (hg : h ≤ g) : h ≤ x := by
  have h0 : x = g := by simpa [blkS] using hx
  omega

theorem app_elem2 (t e : TypeId) (ht : Try.prog.underlying t = some (.slice e)) (z : Value) (sz by8 : Nat) (hinf : (Try.prog.info? e).map (fun i => (i.zero, i.size, i.bytes)) = some (some z, sz, by8)) (hz : z.cells.size = sz) (hby : by8 ≤ 64)
    (H : Nat) (wr : World) (lv : Value) (k : Nat) (V : List Value) (hM : MS sz e H wr lv k V) (news : List Value) (hn : news.length = sz) (h1 : ∀ u ∈ news, u.oneCell' = true) (hH : H ≤ wr.heap.size) (hlen : k < 10000000) :
    ∃ ao c w', (∀ ty, (Builtin.append_ #[t, t] ty #[lv, .slice (some ⟨wr.heap.size, 0, none⟩) 1 1]).run Try.prog (wr.alloc (.cells news.toArray e)) = .ok (.slice ao (k + 1) c) w') ∧ MS sz e H w' (.slice ao (k + 1) c) (k + 1) (V ++ news) ∧ GrB (blkS lv) wr w' ∧ (∀ x, w'.frozen? x = wr.frozen? x) ∧ (∀ x ∈ blkS (.slice ao (k + 1) c), x ∈ blkS lv ∨ wr.heap.size ≤ x) := by
  obtain ⟨i, hi, hz2, hs, hb⟩ := info_parts hinf
  have hK : Kept wr (wr.alloc (.cells news.toArray e)) := (Kept.refl _).alloc _ _
  have hVl := hM.len
  obtain ⟨w, hw⟩ : ∃ w, w = wr.alloc (.cells news.toArray e) := ⟨_, rfl⟩
  have hws : w.heap.size = wr.heap.size + 1 := by rw [hw]; simp
  have hcell : ∀ j u, news[j]? = some u → w.cell? ((⟨wr.heap.size, 0, none⟩ : Addr).add j) = some u := fun j u hj => by
    rw [hw, Addr.add_lit, Nat.zero_add]
    rw [cell_of_row (wr.alloc (.cells news.toArray e)) wr.heap.size j news.toArray e (0, 0) (heap_alloc_new wr _)]
    simpa using hj
  have hS : Src Try.prog i.size t (.slice (some ⟨wr.heap.size, 0, none⟩) 1 1) 1 news w := Src.ofSlice w ht ⟨wr.heap.size, 0, none⟩ 1 1 news (by rw [hs, hn]; simp) hcell h1
  rw [← hw] at hK ⊢
  have hnl : (V ++ news).length = (k + 1) * sz := by rw [List.length_append, hVl, hn, Nat.succ_mul]
  rcases hM with ⟨rfl, rfl, rfl⟩ | ⟨g, cap, rfl, hg, -, hkc, hO⟩
  · obtain ⟨C, hC⟩ : ∃ C, grownCap w (0 + 1) 0 e = C := ⟨_, rfl⟩
    have hC1 : 0 + 1 ≤ C := by rw [← hC]; exact grownCap_ge _ _ _ _
    have hC2 : C ≤ maxLen := by rw [← hC]; exact grownCap_le_maxLen _ _ _ _ (by simp [maxLen])
    have hN := ownS_new w.drew e z sz hz news 1 C (by rw [hn]; simp) (by omega) hC2
    have hKN : Kept w (w.drew.alloc (.cells (news.toArray ++ Builtin.zeroCells z.cells (C - 1)) e)) := (Kept.refl w).drew.alloc _ _
    refine ⟨some ⟨w.heap.size, 0, none⟩, C, _, fun ty => ?_, .inr ⟨w.heap.size, C, rfl, by omega, by simpa using hnl, by omega, by simpa using hN⟩, (GrB.refl _ wr).bl (hK.trans hKN).bl, fun x => (hKN.frozen x).trans (hK.frozen x), fun x hx => .inr (blk_new hx (by omega))⟩
    have := run_append_grow_src w t t ty e i z ht hi hz2 none 0 0 [] (by simpa using run_firstCells_none (P := Try.prog) w.drew i.size 0 0 0) (.slice (some ⟨wr.heap.size, 0, none⟩) 1 1) 1 news hS (by omega) (by omega) (growslice_fits (by omega) (by rw [hb]; omega))
    rw [hC] at this
    rw [this]
    simp
  · have hO' := hO.kept hK
    by_cases hr : k + 1 ≤ cap
    · have hroom : V.length + news.length ≤ cap * sz := by
        rw [hVl, hn, ← Nat.succ_mul]
        exact Nat.mul_le_mul_right _ hr
      have hG := (Grw.refl g w).setCells news V.length
      refine ⟨some ⟨g, 0, none⟩, cap, w.setCells g V.length news, fun ty => ?_, .inr ⟨g, cap, rfl, hg, hnl, hr, hO'.pushes news hroom⟩, ?_, fun x => (hG.frozen x).trans (hK.frozen x), fun x hx => .inl (by simpa [blkS] using hx)⟩
      · have := run_append_room_src w t t ty e i ht hi g 0 k cap (.slice (some ⟨wr.heap.size, 0, none⟩) 1 1) 1 news hS hr (fun j hj => hO'.some _ (by rw [hs, ← hVl]; omega)) (fun j hj => hO'.free _)
        rw [this, hs, hVl]
        simp
      · exact ((GrB.refl _ wr).bl hK.bl).grw hG (.inl (by simp [blkS]))
    · obtain ⟨C, hC⟩ : ∃ C, grownCap w (k + 1) cap e = C := ⟨_, rfl⟩
      have hC1 : k + 1 ≤ C := by rw [← hC]; exact grownCap_ge _ _ _ _
      have hC2 : C ≤ maxLen := by rw [← hC]; exact grownCap_le_maxLen _ _ _ _ (by simp [maxLen]; omega)
      have hN := ownS_new w.drew e z sz hz (V ++ news) (k + 1) C hnl hC1 hC2
      have hKN : Kept w (w.drew.alloc (.cells ((V ++ news).toArray ++ Builtin.zeroCells z.cells (C - (k + 1))) e)) := (Kept.refl w).drew.alloc _ _
      refine ⟨some ⟨w.heap.size, 0, none⟩, C, _, fun ty => ?_, .inr ⟨w.heap.size, C, rfl, by omega, hnl, hC1, by simpa using hN⟩, (GrB.refl _ wr).bl (hK.trans hKN).bl, fun x => (hKN.frozen x).trans (hK.frozen x), fun x hx => .inr (blk_new hx (by omega))⟩
      have hcl : cap < k + 1 := by omega
      have := run_append_grow_src w t t ty e i z ht hi hz2 (some ⟨g, 0, none⟩) k cap V (run_firstCells_some (P := Try.prog) w.drew i.size k ⟨g, 0, none⟩ k cap V (by rw [hs]; exact hVl) (fun j u hu => by rw [Addr.add_lit, Nat.zero_add]; exact hO'.cell j u hu)) (.slice (some ⟨wr.heap.size, 0, none⟩) 1 1) 1 news hS hcl (by omega) (growslice_fits hcl (by rw [hb]; exact Nat.le_trans (Nat.mul_le_mul_left _ hby) (by omega)))
      rw [hC] at this
      rw [this]

/-- The cells of the first i matrices. -/
def ml (i : Nat) (r c n : Nat → Int) (g cap : Nat → Nat) (L : Nat → List Int) : List Value := (List.range i).flatMap fun j => [.int .i64 (r j), .int .i64 (c j), .int .i64 (n j), .slice (some ⟨g j, 0, none⟩) (L j).length (cap j)]
theorem ml_succ (i : Nat) (r c n : Nat → Int) (g cap : Nat → Nat) (L : Nat → List Int) : ml (i + 1) r c n g cap L = ml i r c n g cap L ++ [.int .i64 (r i), .int .i64 (c i), .int .i64 (n i), .slice (some ⟨g i, 0, none⟩) (L i).length (cap i)] := by
  unfold ml
  rw [List.range_succ, List.flatMap_append]
  simp
theorem ml_length (i : Nat) (r c n : Nat → Int) (g cap : Nat → Nat) (L : Nat → List Int) : (ml i r c n g cap L).length = i * 4 := by
  induction i with
  | zero => rfl
  | succ i ih => rw [ml_succ, List.length_append, ih, Nat.succ_mul]; rfl
theorem ml_congr (i : Nat) (r c n : Nat → Int) (g cap g' cap' : Nat → Nat) (L : Nat → List Int) (h : ∀ j, j < i → g j = g' j ∧ cap j = cap' j) : ml i r c n g cap L = ml i r c n g' cap' L := by
  induction i with
  | zero => rfl
  | succ i ih => rw [ml_succ, ml_succ, ih (fun j hj => h j (by omega)), (h i (by omega)).1, (h i (by omega)).2]
theorem ml_get (i : Nat) (r c n : Nat → Int) (g cap : Nat → Nat) (L : Nat → List Int) (j : Nat) (hj : j < i) : (ml i r c n g cap L)[j * 4]? = some (.int .i64 (r j)) ∧ (ml i r c n g cap L)[j * 4 + 1]? = some (.int .i64 (c j)) ∧ (ml i r c n g cap L)[j * 4 + 2]? = some (.int .i64 (n j)) ∧ (ml i r c n g cap L)[j * 4 + 3]? = some (.slice (some ⟨g j, 0, none⟩) (L j).length (cap j)) := by
  induction i with
  | zero => omega
  | succ i ih =>
    rw [ml_succ]
    have hl := ml_length i r c n g cap L
    rcases Nat.lt_or_ge j i with h | h
    · obtain ⟨h0, h1, h2, h3⟩ := ih h
      rw [List.getElem?_append_left (by omega), List.getElem?_append_left (by omega), List.getElem?_append_left (by omega), List.getElem?_append_left (by omega)]
      exact ⟨h0, h1, h2, h3⟩
    · obtain rfl : j = i := by omega
      rw [List.getElem?_append_right (by omega), List.getElem?_append_right (by omega), List.getElem?_append_right (by omega), List.getElem?_append_right (by omega), hl]
      refine ⟨?_, ?_, ?_, ?_⟩
      · rw [Nat.sub_self]; rfl
      · rw [show j * 4 + 1 - j * 4 = 1 by omega]; rfl
      · rw [show j * 4 + 2 - j * 4 = 2 by omega]; rfl
      · rw [show j * 4 + 3 - j * 4 = 3 by omega]; rfl

theorem mat_info : (Try.prog.info? 24).map (fun i => (i.zero, i.size, i.bytes)) = some (some (.agg #[.int .i64 0, .int .i64 0, .int .i64 0, .slice none 0 0]), 4, 48) := by kernel_rfl
theorem mat_under : Try.prog.underlying 70 = some (.slice 24) := by kernel_rfl

theorem own_sl7 {u : World} {L : List Int} {g cap : Nat} (ho : Own u g cap (L ++ [-71])) : Sl u (.slice (some ⟨g, 0, none⟩) L.length cap) L := by
  have h1 := ho.slTake L.length (by simp)
  rwa [List.take_left' rfl] at h1
theorem ms_blk {sz : Nat} {e : TypeId} {H : Nat} {w : World} {v : Value} {k : Nat} {V : List Value} (h : MS sz e H w v k V) : ∀ x ∈ blkS v, H ≤ x ∧ x < w.heap.size := by
  rcases h with ⟨-, -, rfl⟩ | ⟨g, cap, rfl, hg, -, -, ho⟩
  · intro x hx; cases hx
  · intro x hx
    obtain rfl : x = g := by simpa [blkS] using hx
    exact ⟨hg, ho.lt⟩
theorem MS.grN {S : List Nat} {sz : Nat} {e : TypeId} {H : Nat} {w w' : World} {v : Value} {k : Nat} {V : List Value} (h : MS sz e H w v k V) (kk : GrB S w w') (hS : ∀ x ∈ blkS v, x ∉ S) : MS sz e H w' v k V := by
  rcases h with h | ⟨g, cap, rfl, h2, h3, h4, h5⟩
  · exact .inl h
  · exact .inr ⟨g, cap, rfl, h2, h3, h4, h5.on (kk.block g h5.lt (hS g (by simp [blkS])))⟩
theorem Own.grN {S : List Nat} {w w' : World} {g cap : Nat} {L : List Int} (h : Own w g cap L) (k : GrB S w w') (hn : g ∉ S) : Own w' g cap L := by
  have hl := h.lt
  obtain ⟨cur, hg, r⟩ := h
  exact ⟨cur, (k.block g hl hn).trans hg, r⟩

/-- Where the law stands in its second loop: the lent matrices, the list of them, the list of shapes. -/
structure GI (w wr : World) (r c n : Nat → Int) (L : Nat → List Int) (i js : Nat) (fv sv : Value) : Prop where
  k : Kept w wr
  ex : ∃ g cap : Nat → Nat, MS 4 24 w.heap.size wr fv i (ml i r c n g cap L) ∧ ∀ x, x < i → w.heap.size ≤ g x ∧ g x ∉ blkS fv ∧ g x ∉ blkS sv ∧ Own wr (g x) (cap x) (L x ++ [-71])
  s : MS 3 44 w.heap.size wr sv js (shl js r c n)
  d : ∀ x ∈ blkS fv, x ∉ blkS sv
theorem GI.start (w : World) (r c n : Nat → Int) (L : Nat → List Int) (wr : World) (k : Kept w wr) : GI w wr r c n L 0 0 (.slice none 0 0) (.slice none 0 0) :=
  ⟨k, ⟨fun _ => 0, fun _ => 0, .inl ⟨rfl, rfl, rfl⟩, fun x hx => by omega⟩, .inl ⟨rfl, rfl, rfl⟩, fun x hx => by cases hx⟩
theorem GI.kept {w wr u : World} {r c n : Nat → Int} {L : Nat → List Int} {i js : Nat} {fv sv : Value} (h : GI w wr r c n L i js fv sv) (ku : Kept wr u) : GI w u r c n L i js fv sv := by
  obtain ⟨h1, ⟨g, cap, h2, h3⟩, h4, h5⟩ := h
  refine ⟨h1.trans ku, ⟨g, cap, h2.kept ku, fun x hx => ?_⟩, h4.kept ku, h5⟩
  obtain ⟨a, b, c, d⟩ := h3 x hx
  exact ⟨a, b, c, d.kept ku⟩
theorem kept_grB {w a b : World} {S : List Nat} (h : Kept w a) (k : GrB S a b) (hf : ∀ x, b.frozen? x = a.frozen? x) (hS : ∀ x ∈ S, w.heap.size ≤ x) : Kept w b :=
  ⟨⟨k.os.trans h.below.os, k.tape.trans h.below.tape, k.output.trans h.below.output, Nat.le_trans h.below.size k.size, fun i hi => (k.block i (Nat.lt_of_lt_of_le hi h.below.size) (fun hm => by have := hS i hm; omega)).trans (h.below.block i hi)⟩, fun x => (hf x).trans (h.frozen x)⟩

/-- One more lent matrix. -/
theorem GI.full {w wr w1 : World} {r c n : Nat → Int} {L : Nat → List Int} {i js : Nat} {fv sv : Value} (h : GI w wr r c n L i js fv sv) (k1 : Kept wr w1) (g0 cap0 : Nat) (hg : wr.heap.size ≤ g0) (ho : Own w1 g0 cap0 (L i ++ [-71])) (hi : i < 10000000) :
    ∃ ao cc w2, (∀ ty, (Builtin.append_ #[70, 70] ty #[fv, .slice (some ⟨w1.heap.size, 0, none⟩) 1 1]).run Try.prog (w1.alloc (.cells #[.int .i64 (r i), .int .i64 (c i), .int .i64 (n i), .slice (some ⟨g0, 0, none⟩) (L i).length cap0] 24)) = .ok (.slice ao (i + 1) cc) w2) ∧ GI w w2 r c n L (i + 1) js (.slice ao (i + 1) cc) sv := by
  have hb := h.kept k1
  have hw := h.k.below.size
  have hw1 := k1.below.size
  have hfb := ms_blk h.ex.choose_spec.choose_spec.1
  have hsb := ms_blk h.s
  obtain ⟨hk, ⟨g, cap, h2, h3⟩, h4, h5⟩ := hb
  obtain ⟨ao, cc, w2, hrun, hM, hG, hF, hB⟩ := app_elem2 70 24 mat_under (.agg #[.int .i64 0, .int .i64 0, .int .i64 0, .slice none 0 0]) 4 48 mat_info rfl (by decide) w.heap.size w1 fv i _ h2 [.int .i64 (r i), .int .i64 (c i), .int .i64 (n i), .slice (some ⟨g0, 0, none⟩) (L i).length cap0] rfl (fun u hu => by
    simp only [List.mem_cons, List.not_mem_nil, or_false] at hu
    rcases hu with rfl | rfl | rfl | rfl <;> rfl) (by omega) hi
  have hg0 := ho.lt
  refine ⟨ao, cc, w2, hrun, kept_grB hk hG hF (fun x hx => (hfb x hx).1), ⟨fun x => if x = i then g0 else g x, fun x => if x = i then cap0 else cap x, ?_, fun x hx => ?_⟩, h4.grN hG (fun x hx hm => h5 x hm hx), fun x hx => ?_⟩
  · rw [ml_succ, ml_congr i r c n _ _ g cap L (fun j hj => ⟨if_neg (by omega), if_neg (by omega)⟩), if_pos rfl, if_pos rfl]
    exact hM
  · dsimp only
    by_cases hxi : x = i
    · subst hxi
      rw [if_pos rfl, if_pos rfl]
      refine ⟨by omega, fun hm => ?_, fun hm => by have := hsb _ hm; omega, ho.grN hG (fun hm => by have := hfb _ hm; omega)⟩
      rcases hB _ hm with h | h
      · have := hfb _ h; omega
      · omega
    · rw [if_neg hxi, if_neg hxi]
      obtain ⟨a1, a2, a3, a4⟩ := h3 x (by omega)
      refine ⟨a1, fun hm => ?_, a3, a4.grN hG a2⟩
      rcases hB _ hm with h | h
      · exact a2 h
      · have := a4.lt; omega
  · rcases hB x hx with h | h
    · exact h5 x h
    · exact fun hm => by have := hsb x hm; omega
/-- One more shape. -/
theorem GI.shape {w wr : World} {r c n : Nat → Int} {L : Nat → List Int} {i js : Nat} {fv sv : Value} (h : GI w wr r c n L i js fv sv) (hi : js < 10000000) :
    ∃ ao cc w2, (∀ ty, (Builtin.append_ #[71, 71] ty #[sv, .slice (some ⟨wr.heap.size, 0, none⟩) 1 1]).run Try.prog (wr.alloc (.cells #[.int .i64 (r js), .int .i64 (c js), .int .i64 (n js)] 44)) = .ok (.slice ao (js + 1) cc) w2) ∧ GI w w2 r c n L i (js + 1) fv (.slice ao (js + 1) cc) := by
  have hw := h.k.below.size
  have hsb := ms_blk h.s
  obtain ⟨hk, ⟨g, cap, h2, h3⟩, h4, h5⟩ := h
  have hfb := ms_blk h2
  obtain ⟨ao, cc, w2, hrun, hM, hG, hF, hB⟩ := app_elem2 71 44 shp_under (.agg #[.int .i64 0, .int .i64 0, .int .i64 0]) 3 24 shp_info rfl (by decide) w.heap.size wr sv js _ h4 [.int .i64 (r js), .int .i64 (c js), .int .i64 (n js)] rfl (fun u hu => by
    simp only [List.mem_cons, List.not_mem_nil, or_false] at hu
    rcases hu with rfl | rfl | rfl <;> rfl) (by omega) hi
  refine ⟨ao, cc, w2, hrun, kept_grB hk hG hF (fun x hx => (hsb x hx).1), ⟨g, cap, h2.grN hG (fun x hx hm => h5 x hx hm), fun x hx => ?_⟩, by rw [shl_succ]; exact hM, fun x hx hm => ?_⟩
  · obtain ⟨a1, a2, a3, a4⟩ := h3 x hx
    refine ⟨a1, a2, fun hm => ?_, a4.grN hG a3⟩
    rcases hB _ hm with h | h
    · exact a3 h
    · have := a4.lt; omega
  · rcases hB x hm with h | h
    · exact h5 x hx h
    · have := hfb x hx; omega
/-- At the end: both lists as they lie. -/
theorem GI.lists {w wr : World} {r c n : Nat → Int} {L : Nat → List Int} {k : Nat} {fv sv : Value} (h : GI w wr r c n L k k fv sv) (hk : 0 < k) : ∃ gF cF gS cS, ∃ g cap : Nat → Nat, fv = .slice (some ⟨gF, 0, none⟩) k cF ∧ sv = .slice (some ⟨gS, 0, none⟩) k cS ∧ Lm wr gF 0 k r c n (fun i => some ⟨g i, 0, none⟩) cap L ∧ Ls wr gS 0 k r c n ∧ ∀ x, x < k → Own wr (g x) (cap x) (L x ++ [-71]) := by
  obtain ⟨hk1, ⟨g, cap, h2, h3⟩, h4, h5⟩ := h
  rcases h2 with ⟨h0, -⟩ | ⟨gF, cF, rfl, -, -, -, hO⟩
  · omega
  rcases h4 with ⟨h0, -⟩ | ⟨gS, cS, rfl, -, -, -, hP⟩
  · omega
  refine ⟨gF, cF, gS, cS, g, cap, rfl, rfl, ⟨hO.lt, fun i hi => ?_, fun i hi => own_sl7 (h3 i hi).2.2.2⟩, ⟨hP.lt, fun i hi => ?_⟩, fun x hx => (h3 x hx).2.2.2⟩
  · obtain ⟨a0, a1, a2, a3⟩ := ml_get k r c n g cap L i hi
    rw [Nat.zero_add]
    exact ⟨hO.cell _ _ a0, hO.cell _ _ a1, hO.cell _ _ a2, hO.cell _ _ a3⟩
  · obtain ⟨a0, a1, a2⟩ := shl_get k r c n i hi
    rw [Nat.zero_add]
    exact ⟨hP.cell _ _ a0, hP.cell _ _ a1, hP.cell _ _ a2⟩
end Go.Proofs.Ytcldcjchfagcoaa
