/- Turn of package tensor. -/
import Derived.Test.YtijmjnmimijfdabT4
namespace Go.Proofs.Ytijmjnmimijfdab
open Go.ChangeShapes Go.WideShapes Go.ChangeAt Go.RowKit Go.Shelf
set_option linter.unusedVariables false
set_option linter.unusedSimpArgs false
attribute [local go_sem] Oper.semAt_some

/-- A function that does not panic. -/
def npPost (Q : Exit → Act → World → Prop) : Exit → Act → World → Prop
  | .panic _, _, _ => False
  | e, a, w => Q e a w
theorem npPost_imp {Q : Exit → Act → World → Prop} : ∀ e a w, npPost Q e a w → Q e a w := by
  intro e a w h
  cases e <;> first | exact h | exact h.elim

/-- The element that comes to place j when rows and columns are exchanged. -/
def trf (M : List Int) (R C : Nat) (j : Nat) : Int := M.getD ((j % R) * C + j / R) 0
def trn (M : List Int) (R C : Nat) (pre : List (Fin R)) (j : Nat) : Int := if (pre.any fun y => y.1 == j % R) = true then trf M R C j else 0
def trp (M : List Int) (R C : Nat) (pre : List (Fin R)) (x k : Nat) (j : Nat) : Int := if j % R = x ∧ j / R < k then trf M R C j else trn M R C pre j
theorem trp_zero (M : List Int) (R C : Nat) (pre : List (Fin R)) (x : Nat) : trp M R C pre x 0 = trn M R C pre := by
  funext j
  simp [trp]
theorem place_div (R x k : Nat) (hx : x < R) : (k * R + x) % R = x ∧ (k * R + x) / R = k := by
  have hR : 0 < R := by omega
  constructor
  · rw [Nat.mul_comm, Nat.mul_add_mod, Nat.mod_eq_of_lt hx]
  · rw [Nat.mul_comm, Nat.mul_add_div hR, Nat.div_eq_of_lt hx]; omega
theorem trp_step (M : List Int) (R C : Nat) (pre : List (Fin R)) (x k rc : Nat) (hx : x < R) : (lst rc (trp M R C pre x k)).set (k * R + x) (M.getD (x * C + k) 0) = lst rc (trp M R C pre x (k + 1)) := by
  rw [lst_set]
  apply lst_ext
  intro j hj
  obtain ⟨p1, p2⟩ := place_div R x k hx
  by_cases h : j = k * R + x
  · rw [if_pos h]
    subst h
    unfold trp trf
    rw [p1, p2, if_pos ⟨rfl, by omega⟩]
  · rw [if_neg h]
    unfold trp
    have : (j % R = x ∧ j / R < k + 1) ↔ (j % R = x ∧ j / R < k) := by
      constructor
      · rintro ⟨h1, h2⟩
        refine ⟨h1, ?_⟩
        rcases Nat.lt_or_ge (j / R) k with h3 | h3
        · exact h3
        · have h4 : j / R = k := by omega
          exact absurd (by rw [← Nat.div_add_mod j R, h1, h4, Nat.mul_comm]) h
      · rintro ⟨h1, h2⟩
        exact ⟨h1, by omega⟩
    by_cases h5 : j % R = x ∧ j / R < k
    · rw [if_pos h5, if_pos (this.2 h5)]
    · rw [if_neg h5, if_neg (fun h6 => h5 (this.1 h6))]
theorem trp_all (M : List Int) (R C : Nat) (pre : List (Fin R)) (x : Nat) (hx : x < R) : lst (R * C) (trp M R C pre x C) = lst (R * C) (trn M R C (pre ++ [⟨x, hx⟩])) := by
  apply lst_ext
  intro j hj
  have hd : j / R < C := Nat.div_lt_of_lt_mul hj
  unfold trp trn
  rw [List.any_append]
  by_cases h : j % R = x
  · rw [if_pos ⟨h, hd⟩, if_pos]
    simp [h]
  · rw [if_neg (fun k => h k.1)]
    have : ([(⟨x, hx⟩ : Fin R)].any fun y => y.1 == j % R) = false := by
      simp
      omega
    rw [this, Bool.or_false]
theorem trn_all (M : List Int) (R C : Nat) (hR : 0 < R) : lst (R * C) (trn M R C (List.finRange R)) = lst (R * C) (trf M R C) := by
  apply lst_ext
  intro j hj
  unfold trn
  rw [if_pos]
  rw [List.any_eq_true]
  exact ⟨⟨j % R, Nat.mod_lt _ hR⟩, List.mem_finRange _, by simp⟩
theorem trn_nil (M : List Int) (R C rc : Nat) : lst rc (trn M R C []) = List.replicate rc 0 := by
  rw [← lst_zero]
  apply lst_ext
  intro j hj
  simp [trn]
theorem trf_rgl (M : List Int) (R C : Nat) (hC : 0 < C) (hRC : M.length = R * C) (h : Rgl M) : Rgl (lst (R * C) (trf M R C)) := by
  intro i hi
  rw [lst_length] at hi
  rw [lst_get _ _ _ hi]
  have hR : 0 < R := by
    rcases Nat.eq_zero_or_pos R with e | e
    · subst e; simp at hi
    · exact e
  refine h _ ?_
  rw [hRC]
  have h1 := Nat.mod_lt i hR
  have h2 : i / R < C := Nat.div_lt_of_lt_mul hi
  calc i % R * C + i / R < i % R * C + C := by omega
    _ = (i % R + 1) * C := by rw [Nat.succ_mul]
    _ ≤ R * C := Nat.mul_le_mul_right _ h1
theorem m4_put {w : World} {B : Nat} {r c n s : Value} (h : M4 w B r c n s) {D : Nat} (o : Obj) (hne : B ≠ D) : M4 (w.putObj D o) B r c n s := by
  have hb : (w.putObj D o).heap[B]? = w.heap[B]? := World.putObj_heap_other hne
  exact ⟨(World.cell?_of_block (w := w) (a := ⟨B, 0, none⟩) hb).trans h.c0, (World.cell?_of_block (w := w) (a := ⟨B, 1, none⟩) hb).trans h.c1, (World.cell?_of_block (w := w) (a := ⟨B, 2, none⟩) hb).trans h.c2, (World.cell?_of_block (w := w) (a := ⟨B, 3, none⟩) hb).trans h.c3⟩

set_option maxRecDepth 100000 in
set_option maxHeartbeats 4000000 in
theorem turn_ok (R C : Nat) (n : Int) (hn : n = 64 ∨ n = 32) (hR : 0 < R) (hC : 0 < C) (hRC : R * C ≤ 4096) (M : List Int) (hML : M.length = R * C) (hRg : Rgl M) (hck : ckM R C n M = 0) (b off cap : Nat) (hcap : R * C ≤ cap) (w : World) (hb : b < w.heap.size) (hrd : Reads w b off M) (hSl : Sl w (.slice (some ⟨b, off, none⟩) M.length cap) M) :
    Calls Try.prog 18 #[.agg #[.int .i64 R, .int .i64 C, .int .i64 n, .slice (some ⟨b, off, none⟩) (R * C) cap]] w fun e w' => ∃ g, e = .returned (.tuple #[.agg #[.int .i64 C, .int .i64 R, .int .i64 n, .slice (some ⟨g, 0, none⟩) (R * C) (R * C)], .int .i64 0]) ∧ w.heap.size ≤ g ∧ Own w' g (R * C) ((lst (R * C) (trf M R C)).map (cln · n)) ∧ Bl w w' := by
  have hm0 := M4.new w (.int .i64 R) (.int .i64 C) (.int .i64 n) (.slice (some ⟨b, off, none⟩) (R * C) cap) 24
  have hK0 := ((Kept.refl w).alloc #[.int .i64 R, .int .i64 C, .int .i64 n, .slice (some ⟨b, off, none⟩) (R * C) cap] 24)
  obtain ⟨X, hX⟩ : ∃ X, X = (w.alloc (.cells #[.int .i64 R, .int .i64 C, .int .i64 n, .slice (some ⟨b, off, none⟩) (R * C) cap] 24)).alloc (.cells #[.int .i64 0, .int .i64 0, .int .i64 0, .slice none 0 0] 24) := ⟨_, rfl⟩
  have hXs : X.heap.size = w.heap.size + 2 := by rw [hX]; simp
  have hKX : Kept w X := by rw [hX]; exact hK0.alloc _ _
  have hmX : M4 X w.heap.size (.int .i64 R) (.int .i64 C) (.int .i64 n) (.slice (some ⟨b, off, none⟩) (R * C) cap) := by rw [hX]; exact hm0.bl ((Bl.refl _).alloc _)
  have hrX : M4 X (w.heap.size + 1) (.int .i64 0) (.int .i64 0) (.int .i64 0) (.slice none 0 0) := by
    have := M4.new (w.alloc (.cells #[.int .i64 R, .int .i64 C, .int .i64 n, .slice (some ⟨b, off, none⟩) (R * C) cap] 24)) (.int .i64 0) (.int .i64 0) (.int .i64 0) (.slice none 0 0) 24
    rw [World.size_alloc] at this
    rw [hX]; exact this
  have hfX : ∀ o, X.frozen? ⟨w.heap.size + 1, o, none⟩ = false := fun o => by rw [hX]; simp [go_sem]
  have KC : Hid (Calls Try.prog 17 #[.agg #[.int .i64 R, .int .i64 C, .int .i64 n, .slice (some ⟨b, off, none⟩) (R * C) cap]] X fun e w' => e = .returned (.int .i64 0) ∧ Kept X w') := by
    have := check_any R C n (some ⟨b, off, none⟩) cap M X (hSl.kept hKX)
    rw [hck, hML] at this
    exact this
  have hmk : ∀ u : World, (Instr.makeSlice 22 (.int .i64 ((R * C : Nat) : Int)) (.int .i64 ((R * C : Nat) : Int))).run Try.prog u = .ok (.slice (some ⟨u.heap.size, 0, none⟩) (R * C) (R * C)) (u.alloc (.cells (madeCells #[.int .i64 0] (R * C)) 3)) := fun u => make_run _ _ (Nat.le_refl _) (by omega) u
  have HO : Hid (∀ u : World, Own (u.alloc (.cells (madeCells #[.int .i64 0] (R * C)) 3)) u.heap.size (R * C) (List.replicate (R * C) 0)) := fun u => own_made _ _ (Nat.le_refl _) (by omega) u
  have KR : Hid (∀ u, Calls Try.prog 32 #[.agg #[.int .i64 R, .int .i64 C, .int .i64 n, .slice (some ⟨b, off, none⟩) (R * C) cap]] u fun e w' => e = .returned (.func (.func 61) #[] #[.pointer (some ⟨u.heap.size, 0, none⟩)]) ∧ w' = u.alloc (.cells #[.int .i64 R, .int .i64 C, .int .i64 n, .slice (some ⟨b, off, none⟩) (R * C) cap] 24)) := fun u => rowsOf_any _ _ _ _ u
  obtain ⟨rc, hrc⟩ : ∃ rc, R * C = rc := ⟨_, rfl⟩
  have HRC : Hid (R * C = rc) := hrc
  rw [hrc] at hRC hML hcap hmX KC hmk HO KR hX ⊢
  clear hm0 hK0 hrc
  refine (callsIn_wide (n := 3)).1 ?_
  refine callsIn_of_wp_marks Try.func18 rfl trivial ?_ rfl
  rw [wpIn_wide]
  refine Code.wp_mono npPost_imp ?_
  simp only [Try.ntmps18, List.size_toArray, List.length_cons, List.length_nil, Nat.reduceAdd, Nat.reduceSub, Array.replicate_succ, Array.replicate_zero, List.push_toArray, List.append_toArray, List.nil_append, List.cons_append]
  go_upto_region 1 with fail
  rw [← hX]
  clear hX
  have hmX' := hmX
  obtain ⟨m0, m1, m2, m3⟩ := hmX'
  go_upto_region 4 with (first | (go_at_call 17; refine (KC.out).mono ?_; rintro e w1 ⟨rfl, k1⟩; obtain ⟨n0, n1, n2, n3⟩ := hmX.bl k1.bl))
  go_upto_region 5 with fail
  obtain ⟨Y, hY⟩ : ∃ Y, Y = (w1.alloc (.cells (madeCells #[.int .i64 0] rc) 3)).alloc (.cells #[.slice (some ⟨w1.heap.size, 0, none⟩) rc rc] 22) := ⟨_, rfl⟩
  rw [← hY]
  have hs1 : w.heap.size + 2 ≤ w1.heap.size := by rw [← hXs]; exact k1.below.size
  have hKY : Kept w1 Y := by rw [hY]; exact ((Kept.refl w1).alloc _ _).alloc _ _
  have hYs : Y.heap.size = w1.heap.size + 2 := by rw [hY]; simp
  have hoY : Own Y w1.heap.size rc (List.replicate rc 0) := by rw [hY]; exact (HO.out w1).kept ((Kept.refl _).alloc _ _)
  have hvY : Y.cell? ⟨w1.heap.size + 1, 0, none⟩ = some (.slice (some ⟨w1.heap.size, 0, none⟩) rc rc) := by rw [hY]; simp [go_sem]
  have hmY := hmX.bl (k1.trans hKY).bl
  have hrY := hrX.bl (k1.trans hKY).bl
  have hfY : ∀ o, Y.frozen? ⟨w.heap.size + 1, o, none⟩ = false := fun o => ((k1.trans hKY).frozen _).trans (hfX o)
  have hKwY : Kept w Y := hKX.trans (k1.trans hKY)
  clear hY n0 n1 n2 n3 m0 m1 m2 m3 hmk HO KC hmX hrX hfX hKX k1 hKY
  have hmY' := hmY
  obtain ⟨m0, m1, m2, m3⟩ := hmY'
  go_wp2_with (first | (go_at_call 32; refine (KR.out _).mono ?_; rintro e w2 ⟨rfl, rfl⟩))
  have hbY := M4.new Y (.int .i64 R) (.int .i64 C) (.int .i64 n) (.slice (some ⟨b, off, none⟩) rc cap) 24
  rw [hYs] at hbY
  obtain ⟨Z, hZ⟩ : ∃ Z, Z = Y.alloc (.cells #[.int .i64 R, .int .i64 C, .int .i64 n, .slice (some ⟨b, off, none⟩) rc cap] 24) := ⟨_, rfl⟩
  rw [← hZ] at hbY ⊢
  have hZs : Z.heap.size = w1.heap.size + 3 := by rw [hZ]; simp; omega
  have hKYZ : Kept Y Z := by rw [hZ]; exact (Kept.refl Y).alloc _ _
  have hoZ := hoY.kept hKYZ
  have hvZ := (hKYZ.bl.cell (w1.heap.size + 1) 0 (by omega)).trans hvY
  have hmZ := hmY.bl hKYZ.bl
  have hrZ := hrY.bl hKYZ.bl
  have hfZ : ∀ o, Z.frozen? ⟨w.heap.size + 1, o, none⟩ = false := fun o => (hKYZ.frozen _).trans (hfY o)
  have hKwZ := hKwY.trans hKYZ
  have hrdZ : Hid (∀ u, Z.grownBy u (some w1.heap.size) → ∀ i, i < M.length → u.cell? ⟨b, off + i, none⟩ = some (.int .i64 (M.getD i 0))) := fun u hu i hi => (grown_cell hu (by omega) (by omega)).trans ((hKwZ.bl.cell b (off + i) hb).trans (hrd i hi))
  clear hZ hoY hvY hmY hrY hfY hKwY hKYZ m0 m1 m2 m3 KR hYs
  have RS := rows_stops 2 (by decide) (w1.heap.size + 2) R C n b off cap hC (by rw [HRC.out]; omega) (by rw [HRC.out]; exact hcap) Z (by rw [HRC.out]; exact hbY)
  generalize hg : w1.heap.size = g at *
  clear hg
  rw [← wpIn_wide (n := 3)]
  refine wpIn_rangeFunc_ownF rfl (by decide) (gf := 61) (lb := #[.pointer (some ⟨g + 2, 0, none⟩)]) rfl trivial (enters_of Try.func61 (by kernel_rfl) rfl) RS (fun h k => k.trans h) (fun W l o o' hl _ _ _ => World.putObj_heap_other (by omega)) (Below.refl _ _) (fun _ => rfl)
    (fun pre W => Own W g rc (lst rc (trn M R C pre)) ∧ Z.grownBy W (some g)) (fun _ _ _ => False)
    (fun s A B row hs hg hr => ⟨hs.1.abid hg hr, grown_abid hs.2 hg hr⟩) (fun _ _ _ _ _ hs _ _ => hs)
    ⟨by rw [trn_nil]; exact hoZ, World.grownBy.refl _ _⟩
    (fun x => { tmps := #[.agg #[.int .i64 R, .int .i64 C, .int .i64 n, .slice (some ⟨b, off, none⟩) rc cap], .pointer (some ⟨w.heap.size, 0, none⟩), .pointer (some ⟨w.heap.size + 1, 0, none⟩), .int .i64 0, .int .i64 0, .pointer (some ⟨g + 1, 0, none⟩), .int .i64 (x.1 : Int), .slice (some ⟨b, off + x.1 * C, none⟩) C C, undef, undef, .agg #[.int .i64 R, .int .i64 C, .int .i64 n, .slice (some ⟨b, off, none⟩) rc cap], .int .i64 0, .int .i64 0, .bool false, undef, undef, .pointer (some ⟨w.heap.size, 3, none⟩), .slice (some ⟨b, off, none⟩) rc cap, .int .i64 rc, .slice (some ⟨g, 0, none⟩) rc rc, .agg #[.int .i64 R, .int .i64 C, .int .i64 n, .slice (some ⟨b, off, none⟩) rc cap], .func (.func 61) #[] #[.pointer (some ⟨g + 2, 0, none⟩)], .int .i64 (x.1 : Int), .slice (some ⟨b, off + x.1 * C, none⟩) C C, undef, undef, undef, undef, undef, undef, undef, undef, undef, undef, undef, undef, undef, undef, undef, undef, undef, undef, undef, undef, undef, undef], defers := [] }) ?assign ?body ?done ?stop
  case assign =>
    intro l x W K hK
    gi_wp2
    exact hK
  case body =>
    rintro l pre ⟨x, hx⟩ W ⟨hO, hG⟩ hlt
    dsimp only
    have HV : Hid (∀ u, W.grownBy u (some g) → u.cell? ⟨g + 1, 0, none⟩ = some (.slice (some ⟨g, 0, none⟩) rc rc) ∧ u.cell? ⟨w.heap.size, 0, none⟩ = some (.int .i64 R)) := fun u hu => ⟨(grown_cell (grown_trans hG hu) (by omega) (by omega)).trans hvZ, (grown_m4 (grown_trans hG hu) hmZ (by omega)).c0⟩
    have HRD : Hid (∀ u, W.grownBy u (some g) → ∀ k, k < C → u.cell? ⟨b, off + x * C + k, none⟩ = some (.int .i64 (M.getD (x * C + k) 0))) := fun u hu k hk => by
      have h1 : x * C + k < M.length := by
        rw [hML, ← HRC.out]
        calc x * C + k < x * C + C := by omega
          _ = (x + 1) * C := by rw [Nat.succ_mul]
          _ ≤ R * C := Nat.mul_le_mul_right _ hx
      have := hrdZ.out u (grown_trans hG hu) (x * C + k) h1
      rwa [← Nat.add_assoc] at this
    have hCs : C ≤ 4096 := by
      have := Nat.le_mul_of_pos_left C hR
      rw [HRC.out] at this
      omega
    have hRs : R ≤ 4096 := by
      have := Nat.le_mul_of_pos_right R hC
      rw [HRC.out] at this
      omega
    have HP : Hid (∀ k, k < C → k * R + x < rc ∧ k * R ≤ rc) := fun k hk => by
      have h1 : (k + 1) * R ≤ C * R := Nat.mul_le_mul_right _ hk
      have h2 : (k + 1) * R = k * R + R := by rw [Nat.succ_mul]
      have h3 : C * R = rc := by rw [Nat.mul_comm]; exact HRC.out
      omega
    have HALL : Hid (lst rc (trp M R C pre x C) = lst rc (trn M R C (pre ++ [⟨x, hx⟩]))) := by
      have := trp_all M R C pre x hx
      rw [HRC.out] at this
      exact this
    have hO' : Own W g rc (lst rc (trp M R C pre x 0)) := by rw [trp_zero]; exact hO
    clear hO hmZ hrZ hfZ hvZ hoZ RS hrdZ hrd hSl hbY
    gi_wp2
    gi_loopw [26] (fun iv wr => ∃ k : Nat, k ≤ C ∧ iv = .int .i64 k ∧ Own wr g rc (lst rc (trp M R C pre x k)) ∧ W.grownBy wr (some g) ∧ KeepsOthers W wr) (fun iv _ => C - (intOf iv).toNat)
    case atStart => exact ⟨0, Nat.zero_le _, rfl, hO', World.grownBy.refl _ _, KeepsOthers.refl _⟩
    case round =>
      obtain ⟨k, hk, rfl, hOk, hGk, hKk⟩ := hrel
      by_cases hkl : k < C
      · obtain ⟨v0, v1⟩ := HV.out _ hGk
        have q0 := HRD.out _ hGk k hkl
        obtain ⟨P1, P2⟩ := HP.out k hkl
        have q1 := hOk.cell (k * R + x) (by rw [lst_length]; exact P1)
        have q2 := hOk.free (k * R + x)
        have HN : Hid (Own (wr.setCell ⟨g, k * R + x, none⟩ (.int .i64 (M.getD (x * C + k) 0))) g rc (lst rc (trp M R C pre x (k + 1)))) := by
          have := hOk.set (k * R + x) (M.getD (x * C + k) 0)
          rwa [trp_step M R C pre x k rc hx] at this
        have z0 : IntKind.i64.wrap ((k : Int) + 1) = (k : Int) + 1 := by rw [wrap_i64]; omega
        obtain ⟨kr, hkr⟩ : ∃ kr, k * R = kr := ⟨_, rfl⟩
        have e1 : (k : Int) * (R : Int) = (kr : Int) := by rw [← hkr]; simp
        have z1 : IntKind.i64.wrap ((k : Int) * (R : Int)) = (kr : Int) := by rw [e1, wrap_i64]; omega
        have z2 : IntKind.i64.wrap ((kr : Int) + (x : Int)) = ((kr + x : Nat) : Int) := by rw [wrap_i64]; omega
        rw [hkr] at q1 q2 HN P1 P2
        generalize M.getD (x * C + k) 0 = d at *
        generalize (lst rc (trp M R C pre x k)).getD (kr + x) 0 = d2 at *
        generalize hP : kr + x = P at *
        clear hOk hkr e1
        gi_wp2
        go_roundw
        case rel => exact ⟨k + 1, by omega, by go_num, HN.out, grown_set hGk _ _, hKk.trans (KeepsOthers.setCell _ _ _)⟩
        case measure => simp [intOf]; omega
      · obtain rfl : k = C := by omega
        gi_wp2
        refine ⟨hKk, hGk.block (g + 2) (by have := hG.size; omega) (by simp), ?_, grown_trans hG hGk⟩
        rw [← HALL.out]
        exact hOk
  case done =>
    rintro D xs W hD rfl ⟨hO, hG⟩ hK
    have hL : lst rc (trn M R C (List.finRange R)) = lst rc (trf M R C) := by
      have := trn_all M R C hR
      rwa [HRC.out] at this
    rw [hL] at hO
    have hRgT : Rgl (lst rc (trf M R C)) := by
      have := trf_rgl M R C hC (by rw [hML, HRC.out]) hRg
      rwa [HRC.out] at this
    obtain ⟨T, hT⟩ : ∃ T, lst rc (trf M R C) = T := ⟨_, rfl⟩
    have hTl : T.length = rc := by rw [← hT, lst_length]
    have HT : Hid (lst rc (trf M R C) = T) := hT
    have HC : Hid (∀ u, Kept W u → M4 u w.heap.size (.int .i64 R) (.int .i64 C) (.int .i64 n) (.slice (some ⟨b, off, none⟩) rc cap) ∧ u.cell? ⟨g + 1, 0, none⟩ = some (.slice (some ⟨g, 0, none⟩) rc rc)) := fun u k => ⟨(grown_m4 hG hmZ (by omega)).bl k.bl, (k.bl.cell (g + 1) 0 (by have := hG.size; omega)).trans ((grown_cell hG (by omega) (by omega)).trans hvZ)⟩
    have A1 : Hid (∀ u, Kept W u → Calls Try.prog 31 #[.agg #[.int .i64 R, .int .i64 C, .int .i64 n, .slice (some ⟨b, off, none⟩) rc cap]] u fun e w' => e = .returned (.agg #[.int .i64 R, .int .i64 C, .int .i64 n]) ∧ Kept W w' ∧ w'.cell? ⟨g + 1, 0, none⟩ = some (.slice (some ⟨g, 0, none⟩) rc rc)) := fun u k => by
      refine (shapeOf_any _ _ _ _ u).mono ?_
      rintro e w' ⟨rfl, k'⟩
      exact ⟨rfl, k.trans k', (HC.out _ (k.trans k')).2⟩
    have A2 : Hid (∀ u, Kept W u → Calls Try.prog 41 #[.agg #[.int .i64 R, .int .i64 C, .int .i64 n]] u fun e w' => e = .returned (.agg #[.int .i64 C, .int .i64 R, .int .i64 n]) ∧ Kept W w' ∧ w'.cell? ⟨g + 1, 0, none⟩ = some (.slice (some ⟨g, 0, none⟩) rc rc)) := fun u k => by
      refine (turned_any _ _ _ u).mono ?_
      rintro e w' ⟨rfl, k'⟩
      exact ⟨rfl, k.trans k', (HC.out _ (k.trans k')).2⟩
    have A3 : Hid (∀ u, Kept W u → Calls Try.prog 30 #[.agg #[.int .i64 C, .int .i64 R, .int .i64 n], .slice (some ⟨g, 0, none⟩) rc rc] u fun e w' => e = .returned (.agg #[.int .i64 C, .int .i64 R, .int .i64 n, .slice (some ⟨g, 0, none⟩) rc rc]) ∧ (Hid (Own w' g rc (T.map (cln · n))) ∧ Hid (Z.grownBy w' (some g))) ∧ M4 w' (w.heap.size + 1) (.int .i64 0) (.int .i64 0) (.int .i64 0) (.slice none 0 0) ∧ (∀ o, w'.frozen? ⟨w.heap.size + 1, o, none⟩ = false) ∧ w'.heap[D]? = some (.deferred (some []))) := fun u k => by
      have hOu : Own u g rc T := by rw [← hT]; exact hO.kept k
      have := matrix_any C R n hn T (by rw [← hT]; exact hRgT) (by omega) g rc u hOu
      rw [hTl] at this
      refine this.mono ?_
      rintro e w' ⟨rfl, h1, h2⟩
      have hGu : Z.grownBy w' (some g) := grown_trans (grown_trans hG (k.toGrw g).grown) h2.grown
      have hDW := (Array.getElem?_eq_some_iff.1 hK).1
      refine ⟨rfl, ⟨h1, hGu⟩, grown_m4 hGu hrZ (by omega), fun o => (grown_frozen hGu (by omega) (by omega)).trans (hfZ o), ?_⟩
      exact (h2.grown.block D (Nat.lt_of_lt_of_le hDW k.below.size) (by simp; omega)).trans ((k.below.block D hDW).trans hK)
    obtain ⟨⟨m0, m1, m2, m3⟩, v0⟩ := HC.out W (Kept.refl W)
    have kW := (Kept.refl W).drew
    have HKZ : Hid (Below w.heap.size w Z) := hKwZ.below
    have HZ : Hid (Z.heap.size = g + 3 ∧ w.heap.size + 2 ≤ g ∧ Z.heap.size ≤ D) := ⟨hZs, by omega, hD⟩
    clear hL hRgT hO hG hT hTl hoZ hvZ hmZ hrZ hfZ hrdZ hrd hSl hbY RS hKwZ hZs hXs hs1 hD hRg hML hck
    clear HC
    go_wp2_with fail
    go_region_with (first | (go_at_call 31; refine (A1.out _ (by first | assumption | exact (Kept.refl _).drew)).mono ?_; rintro e w2 ⟨rfl, k2, v2⟩) | (go_at_call 41; refine (A2.out _ (by first | assumption | exact (Kept.refl _).drew)).mono ?_; rintro e w3 ⟨rfl, k3, v3⟩) | (go_at_call 30; refine (A3.out _ (by first | assumption | exact (Kept.refl _).drew)).mono ?_; rintro e w4 ⟨rfl, ⟨hO4, hG4⟩, r4, f4, hK4⟩; have hR' := res4 w4 _ _ _ _ _ r4 (.int .i64 C) (.int .i64 R) (.int .i64 n) (.slice (some ⟨g, 0, none⟩) rc rc); obtain ⟨r0, r1, r2, r3⟩ := r4))
    all_goals go_wp2_with fail
    all_goals
      have hK5 := (KeepsOthers.setCell ((((w4.setCell ⟨w.heap.size + 1, 0, none⟩ (.int .i64 C)).setCell ⟨w.heap.size + 1, 1, none⟩ (.int .i64 R)).setCell ⟨w.heap.size + 1, 2, none⟩ (.int .i64 n))) ⟨w.heap.size + 1, 3, none⟩ (.slice (some ⟨g, 0, none⟩) rc rc)).same D _ ((KeepsOthers.setCell ((w4.setCell ⟨w.heap.size + 1, 0, none⟩ (.int .i64 C)).setCell ⟨w.heap.size + 1, 1, none⟩ (.int .i64 R)) ⟨w.heap.size + 1, 2, none⟩ (.int .i64 n)).same D _ ((KeepsOthers.setCell (w4.setCell ⟨w.heap.size + 1, 0, none⟩ (.int .i64 C)) ⟨w.heap.size + 1, 1, none⟩ (.int .i64 R)).same D _ ((KeepsOthers.setCell w4 ⟨w.heap.size + 1, 0, none⟩ (.int .i64 C)).same D _ hK4 rfl) rfl) rfl) rfl
      obtain ⟨z1, z2, z3⟩ := HZ.out
      have hF := m4_put hR' (D := D) (.deferred none) (by omega)
      obtain ⟨p0, p1, p2, p3⟩ := hF
      have hO5 : Own (((((w4.setCell ⟨w.heap.size + 1, 0, none⟩ (.int .i64 C)).setCell ⟨w.heap.size + 1, 1, none⟩ (.int .i64 R)).setCell ⟨w.heap.size + 1, 2, none⟩ (.int .i64 n)).setCell ⟨w.heap.size + 1, 3, none⟩ (.slice (some ⟨g, 0, none⟩) rc rc)).putObj D (.deferred none)) g rc (T.map (cln · n)) := by
        have h1 : Own ((((w4.setCell ⟨w.heap.size + 1, 0, none⟩ (.int .i64 C)).setCell ⟨w.heap.size + 1, 1, none⟩ (.int .i64 R)).setCell ⟨w.heap.size + 1, 2, none⟩ (.int .i64 n)).setCell ⟨w.heap.size + 1, 3, none⟩ (.slice (some ⟨g, 0, none⟩) rc rc)) g rc (T.map (cln · n)) := by
          have hO4' := hO4.out
          rw [own_v] at hO4' ⊢
          exact (((hO4'.setOther (by simp; omega) _).setOther (by simp; omega) _).setOther (by simp; omega) _).setOther (by simp; omega) _
        obtain ⟨cur, hc, rest⟩ := h1
        exact ⟨cur, (World.putObj_heap_other (by omega)).trans hc, rest⟩
      have hB5 : Bl w (((((w4.setCell ⟨w.heap.size + 1, 0, none⟩ (.int .i64 C)).setCell ⟨w.heap.size + 1, 1, none⟩ (.int .i64 R)).setCell ⟨w.heap.size + 1, 2, none⟩ (.int .i64 n)).setCell ⟨w.heap.size + 1, 3, none⟩ (.slice (some ⟨g, 0, none⟩) rc rc)).putObj D (.deferred none)) := by
        have h1 : Bl w w4 := ⟨HKZ.out.grown hG4.out (by omega) (fun i e => by cases e; omega)⟩
        have h2 := (((h1.setCell (p := ⟨w.heap.size + 1, 0, none⟩) (by simp) (.int .i64 C)).setCell (p := ⟨w.heap.size + 1, 1, none⟩) (by simp) (.int .i64 R)).setCell (p := ⟨w.heap.size + 1, 2, none⟩) (by simp) (.int .i64 n)).setCell (p := ⟨w.heap.size + 1, 3, none⟩) (by simp) (.slice (some ⟨g, 0, none⟩) rc rc)
        exact ⟨h2.below.trans (belowK_b (w := w) (Nat.le_refl _) _ D _ _ (by omega) hK5 rfl rfl)⟩
      refine ⟨by simp, .inl ⟨_, _, rfl, run_takeDeferred hK5, ?_⟩⟩
      exact ⟨.tuple #[.agg #[.int .i64 C, .int .i64 R, .int .i64 n, .slice (some ⟨g, 0, none⟩) rc rc], .int .i64 0], by simp [results, Try.f18, go_sem, p0, p1, p2, p3], g, rfl, by omega, by rw [← HT.out] at hO5; exact hO5, hB5⟩
  case stop =>
    rintro D c pre W _ _ h _
    exact h.elim
end Go.Proofs.Ytijmjnmimijfdab
