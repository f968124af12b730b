/- Package disk: names given, taken, asked for; how many bytes there are. -/
import Derived.Test.YthaiejmajhmahabDLE
import Derived.LaidEqlPtr
namespace Go.Proofs.Ythaiejmajhmahab
open Go.ChangeShapes Go.WideShapes Go.ChangeAt Go.RowKit Go.Maps
set_option linter.unusedVariables false
set_option linter.unusedSimpArgs false

/-- A block of cells. -/
def Cb (w : World) (f : Nat) : Prop := ∃ c t, w.heap[f]? = some (.cells c t (0, 0))
theorem Arr.cb {w : World} {b : Nat} {t : TypeId} {vs : List Value} (h : Arr w b t vs) : Cb w b := ⟨_, _, h⟩
theorem Cb.lt {w : World} {f : Nat} (h : Cb w f) : f < w.heap.size := by obtain ⟨c, t, h⟩ := h; exact lt_of_block h
theorem Cb.ne {w : World} {f b n : Nat} {M : Nms} (h : Cb w f) (hM : Mp w b n M) : f ≠ b := by
  rintro rfl
  obtain ⟨c, t, h⟩ := h
  obtain ⟨es, cl, e⟩ := hM.isMap
  rw [h] at e
  cases e
theorem Cb.kx {X : Nat → Prop} {w w' : World} {f : Nat} (h : Cb w f) (k : KX X w w') (hn : ¬ X f) : Cb w' f := by
  have hl := h.lt
  obtain ⟨c, t, h⟩ := h
  exact ⟨c, t, (k.block f hl hn).trans h⟩
theorem ptr_u : Try.prog.underlying 52 = some (.pointer 64) := by kernel_rfl
theorem file_i : (Try.prog.info? 64).map (fun i => i.size) = some 2 := by kernel_rfl
theorem eqlp (w : World) (f g : Nat) (hf : Cb w f) (hg : Cb w g) : (binOp .eql 52 (.pointer (some ⟨f, 0, none⟩)) (.pointer (some ⟨g, 0, none⟩))).run Try.prog w = .ok (.bool (decide (f = g))) w := by
  obtain ⟨i, hi, hs⟩ := Option.map_eq_some_iff.1 file_i
  obtain ⟨cf, tf, hf⟩ := hf
  obtain ⟨cg, tg, hg⟩ := hg
  by_cases e : f = g
  · subst e
    rw [decide_eq_true rfl]
    exact run_eql_ptr_same w _ ptr_u hi
  · rw [decide_eq_false e]
    exact run_eql_ptr_other w ptr_u hi (by rw [hs]; decide) (by intro h; cases h; exact e rfl) hf hg
theorem eqln (w : World) (g : Nat) : (binOp .eql 52 (.pointer none) (.pointer (some ⟨g, 0, none⟩))).run Try.prog w = .ok (.bool false) w := by
  obtain ⟨i, hi, hs⟩ := Option.map_eq_some_iff.1 file_i
  have h : ∀ d : Nat, (Op.equalIn (d + 1) 52 (.pointer none) (.pointer (some ⟨g, 0, none⟩))).run Try.prog w = .ok false w := fun d => by
    simp [Op.equalIn, run_underlying ptr_u, sizeOf, typeInfo, hi]
  simp only [binOp]
  simp [Op.equal, Op.maxDepth, h 9999]

theorem KX.plus {X Y : Nat → Prop} {w u u' : World} (h : KX X w u) (k : KX Y u u') (hY : ∀ b, Y b → X b ∨ w.heap.size ≤ b) : KX X w u' := by
  have k' : KX (fun b => X b ∨ Y b) w u' := (h.mono fun _ h => .inl h).trans (k.mono fun _ h => .inr h)
  exact ⟨k'.os, k'.tape, k'.output, k'.size, fun i hi hn => k'.block i hi fun hx => by
    rcases hx with hx | hx
    · exact hn hx
    · rcases hY i hx with h1 | h1
      · exact hn h1
      · omega, k'.frozen⟩
def giveN (M : Nms) (f : Nat) (s : ByteArray) : Nms := fun t => if t = s then some f else if M t = some f then none else M t
def takeN (M : Nms) (f : Nat) (s : ByteArray) : Nms := if M s = some f then upd M s none else M
set_option maxHeartbeats 1000000 in
theorem give_any (b n f : Nat) (M : Nms) (s : ByteArray) (hs : s.size ≤ maxLen) (hn : n < 1000000000) (w : World) (hM : Mp w b n M) (hf : Cb w f) (hA : ∀ t g, M t = some g → Cb w g) :
    Calls Try.prog 41 #[.map (some b), .pointer (some ⟨f, 0, none⟩), .string s] w fun e w' => e = .returned (.tuple #[]) ∧ KX (fun i => i = b) w w' ∧ Mp w' b (n + 1) (giveN M f s) := by
  obtain ⟨r, hr⟩ : ∃ r, w.heap.size = r := ⟨_, rfl⟩
  have hb := hM.lt
  have fb := hf.ne hM
  have hgb : ∀ t g, M t = some g → g ≠ b := fun t g h => (hA t g h).ne hM
  have HA := hid hA
  have HGB := hid hgb
  have HF := hid hf
  have HFB := hid fb
  have HS := hid hs
  have HN := hid hn
  have HB := hid hb
  clear hA hgb hf fb hs hn hb
  go_enter Try.func41, Try.ntmps41
  go_wp2_with (first | (at_range; refine range_mp _ rfl _ rfl b n M hM rfl ?_; intro w0 cnt0 hR0 hc0 hk0 hsz0; rw [hr] at hR0; rw [hr]))
  go_frame
  go_loopw [6] (fun _ wr => ∃ M' left cnt, Rng wr b r n M' left cnt ∧ (∀ t, M' t = if M t = some f ∧ left t = false then none else M t) ∧ KX (fun i => i = b) w wr) (fun _ wr => wr.rangeLeft b r)
  case atStart =>
    refine ⟨M, _, cnt0, hR0, fun t => ?_, hk0.kx _⟩
    by_cases h : M t = some f
    · rw [h]; simp
    · rw [if_neg (fun x => h x.1)]
  case round =>
    obtain ⟨M', left, cnt, hR, hM0, hK⟩ := hrel
    have hM1 := hid hM0
    clear hM0
    go_wp2_with (first | (at_next; refine next_mp _ rfl _ rfl b r n M' left cnt rfl hR ?_ ?_))
    · intro hl
      have HL := hid hl
      clear hl
      go_wp2_with (first | (at_mapUpdate; refine put_mp _ rfl _ _ _ rfl b n M' hR.mp HN.out rfl s rfl HS.out f rfl ?_; intro w3 hm3 hk3))
      refine bodyPost_end (v := .tuple #[]) (by simp [results, Try.results41, go_sem]) rfl ⟨rfl, hK.trans hk3, ?_⟩
      have e : upd M' s (some f) = giveN M f s := by
        funext t
        unfold upd giveN
        by_cases h : t = s
        · rw [if_pos h, if_pos h]
        · rw [if_neg h, if_neg h, hM1.out, HL.out t]
          simp
      rw [← e]
      exact hm3
    · intro x g w2 cnt2 hxs hlx hMx hR2 hc2 hk2 hsz2 hen
      have hlb : r ≠ b := by have := HB.out; omega
      have hK2 : KX (fun i => i = b) w w2 := hK.plus hk2 fun i hi => .inr (by omega)
      have hMx2 : M x = some g := by
        have := hM1.out x
        rw [hlx, hMx] at this
        simpa using this.symm
      have heq := eqlp w2 g f ((HA.out x g hMx2).kx hK2 (HGB.out x g hMx2)) (HF.out.kx hK2 HFB.out)
      by_cases hgf : g = f
      · rw [decide_eq_true hgf] at heq
        subst hgf
        go_wp2_with (first | (at_delete; refine del_rng _ rfl _ _ rfl b r n M' _ cnt2 rfl hR2 x rfl hxs ?_; intro w3 cnt3 hR3 hc3 hk3))
        go_frame
        go_roundw
        case rel =>
          refine ⟨_, _, cnt3, hR3, fun t => ?_, hK2.trans hk3⟩
          unfold upd
          by_cases h : t = x
          · subst h
            rw [if_pos rfl, if_pos ⟨hMx2, by simp⟩]
          · rw [if_neg h, hM1.out t]
            simp [h]
        case measure => rw [hR3.left_eq, hR.left_eq]; omega
      · rw [decide_eq_false hgf] at heq
        go_wp2
        go_roundw
        case rel =>
          refine ⟨_, _, cnt2, hR2, fun t => ?_, hK2⟩
          rw [hM1.out t]
          by_cases h : t = x
          · subst h
            have : ¬ M t = some f := by rw [hMx2]; intro h; cases h; exact hgf rfl
            rw [if_neg (fun h => this h.1), if_neg (fun h => this h.1)]
          · simp [h]
        case measure => rw [hR2.left_eq, hR.left_eq]; omega
set_option maxHeartbeats 1000000 in
theorem take_any (b n f : Nat) (M : Nms) (s : ByteArray) (hs : s.size ≤ maxLen) (w : World) (hM : Mp w b n M) (hf : Cb w f) (hA : ∀ t g, M t = some g → Cb w g) :
    Calls Try.prog 42 #[.map (some b), .pointer (some ⟨f, 0, none⟩), .string s] w fun e w' => e = .returned (.tuple #[]) ∧ KX (fun i => i = b) w w' ∧ Mp w' b n (takeN M f s) := by
  have HS := hid hs
  obtain ⟨q, hq⟩ : ∃ q, M s = q := ⟨_, rfl⟩
  have heq : (binOp .eql 52 (pv q) (.pointer (some ⟨f, 0, none⟩))).run Try.prog w = .ok (.bool (decide (q = some f))) w := by
    cases q
    · exact eqln w f
    · rename_i g
      rw [show decide (some g = some f) = decide (g = f) by simp]
      exact eqlp w g f (hA s g hq) hf
  have ht : takeN M f s = if q = some f then upd M s none else M := by unfold takeN; rw [hq]
  rw [ht]
  have HQ := hid hq
  clear ht hq hs hA
  rcases q with _ | g
  · rw [if_neg (by simp)]
    have heq : (binOp .eql 52 (.pointer none) (.pointer (some ⟨f, 0, none⟩))).run Try.prog w = .ok (.bool false) w := heq
    go_enter Try.func42, Try.ntmps42
    go_wp2_with (first | (at_lookup; refine look_mp _ rfl _ _ rfl b n M hM rfl s rfl HS.out ?_; rw [HQ.out]; simp only [pv, Option.map_none]))
    exact bodyPost_end (v := .tuple #[]) (by simp [results, Try.results42, go_sem]) rfl ⟨rfl, KX.refl _ _, hM⟩
  · by_cases h : g = f
    · subst h
      rw [if_pos rfl]
      rw [decide_eq_true rfl] at heq
      have heq : (binOp .eql 52 (.pointer (some ⟨g, 0, none⟩)) (.pointer (some ⟨g, 0, none⟩))).run Try.prog w = .ok (.bool true) w := heq
      go_enter Try.func42, Try.ntmps42
      go_wp2_with (first | (at_lookup; refine look_mp _ rfl _ _ rfl b n M hM rfl s rfl HS.out ?_; rw [HQ.out]; simp only [pv, Option.map_some]) | (at_delete; refine del_mp _ rfl _ _ rfl b n M hM rfl s rfl HS.out ?_; intro w3 hm3 hk3))
      exact bodyPost_end (v := .tuple #[]) (by simp [results, Try.results42, go_sem]) rfl ⟨rfl, hk3, hm3⟩
    · have hne : ¬ some g = some f := fun e => h (Option.some.inj e)
      rw [if_neg hne]
      rw [decide_eq_false hne] at heq
      clear h hne
      have heq : (binOp .eql 52 (.pointer (some ⟨g, 0, none⟩)) (.pointer (some ⟨f, 0, none⟩))).run Try.prog w = .ok (.bool false) w := heq
      go_enter Try.func42, Try.ntmps42
      go_wp2_with (first | (at_lookup; refine look_mp _ rfl _ _ rfl b n M hM rfl s rfl HS.out ?_; rw [HQ.out]; simp only [pv, Option.map_some]))
      exact bodyPost_end (v := .tuple #[]) (by simp [results, Try.results42, go_sem]) rfl ⟨rfl, KX.refl _ _, hM⟩
/-- Whether some name is a file's. -/
def HasN (M : Nms) (f : Nat) : Prop := ∃ t, M t = some f
set_option maxHeartbeats 1000000 in
theorem has_any (b n f : Nat) (M : Nms) (w : World) (hM : Mp w b n M) (hf : Cb w f) (hA : ∀ t g, M t = some g → Cb w g) :
    Calls Try.prog 38 #[.map (some b), .pointer (some ⟨f, 0, none⟩)] w fun e w' => (∃ b, e = .returned (.bool b) ∧ (b = true ↔ HasN M f)) ∧ Kept w w' := by
  obtain ⟨r, hr⟩ : ∃ r, w.heap.size = r := ⟨_, rfl⟩
  have HA := hid hA
  have HF := hid hf
  clear hA hf
  go_enter Try.func38, Try.ntmps38
  go_wp2_with (first | (at_range; refine range_mp _ rfl _ rfl b n M hM rfl ?_; intro w0 cnt0 hR0 hc0 hk0 hsz0; rw [hr] at hR0; rw [hr]))
  go_frame
  go_loopw [6] (fun _ wr => ∃ left cnt, Rng wr b r n M left cnt ∧ Kept w wr ∧ Hid (∀ t, left t = false → M t ≠ some f)) (fun _ wr => wr.rangeLeft b r)
  case atStart =>
    refine ⟨_, cnt0, hR0, hk0, hid fun t h e => ?_⟩
    rw [e] at h
    cases h
  case round =>
    obtain ⟨left, cnt, hR, hK, hN⟩ := hrel
    go_wp2_with (first | (at_next; refine next_mp _ rfl _ rfl b r n M left cnt rfl hR ?_ ?_))
    · intro hl
      have e : ¬ HasN M f := fun ⟨t, ht⟩ => hN.out t (hl t) ht
      have HE := hid e
      clear hl e
      go_wp2
      go_ret
      exact ⟨⟨false, rfl, ⟨fun h => (by cases h), fun h => absurd h HE.out⟩⟩, hK⟩
    · intro x g w2 cnt2 hxs hlx hMx hR2 hc2 hk2 hsz2 hen
      have hK2 : Kept w w2 := kept_of_kx hK hk2 fun i hi => by omega
      have heq := eqlp w2 g f ((HA.out x g hMx).kx (hK2.kx fun _ => False) id) (HF.out.kx (hK2.kx fun _ => False) id)
      by_cases hgf : g = f
      · rw [decide_eq_true hgf] at heq
        subst hgf
        have HE := hid (show HasN M g from ⟨x, hMx⟩)
        go_wp2
        go_ret
        exact ⟨⟨true, rfl, ⟨fun _ => HE.out, fun _ => rfl⟩⟩, hK2⟩
      · rw [decide_eq_false hgf] at heq
        go_wp2
        go_roundw
        case rel =>
          refine ⟨_, cnt2, hR2, hK2, hid fun t ht => ?_⟩
          by_cases h : t = x
          · subst h
            rw [hMx]
            intro e
            cases e
            exact hgf rfl
          · exact hN.out t (by simpa [h] using ht)
        case measure => rw [hR2.left_eq, hR.left_eq]; omega
/-- How many bytes the files of a list of names have. -/
def sumN (c : Nat → List UInt8) (N : List (ByteArray × Nat)) : Nat := (N.map fun p => (c p.2).length).sum
theorem sumN_full {c : Nat → List UInt8} {m : Nms} {N N' : List (ByteArray × Nat)} (h : Full m N) (h' : Full m N') : sumN c N = sumN c N' := ((h.perm h').map _).sum_nat
theorem sumN_le {c : Nat → List UInt8} {q : Nat} : ∀ {N : List (ByteArray × Nat)}, (∀ p ∈ N, (c p.2).length ≤ q) → sumN c N ≤ N.length * q := by
  intro N
  induction N with
  | nil => intro _; simp [sumN]
  | cons p r ih =>
    intro h
    have h1 := ih fun p hp => h p (List.mem_cons_of_mem _ hp)
    have h2 := h p List.mem_cons_self
    unfold sumN at h1 ⊢
    simp only [List.map_cons, List.sum_cons, List.length_cons, Nat.add_mul]
    omega
theorem sumN_snoc (c : Nat → List UInt8) (N : List (ByteArray × Nat)) (p : ByteArray × Nat) : sumN c (N ++ [p]) = sumN c N + (c p.2).length := by simp [sumN]
theorem wrap_add (a : Int) (n : Nat) : wrap64 (wrap64 a + n) = wrap64 (a + n) := by unfold wrap64; omega
set_option maxHeartbeats 1000000 in
theorem bytes_any (b n : Nat) (M : Nms) (c : Nat → List UInt8) (w : World) (hM : Mp w b n M) (hn : n < 1000000000) (q : Nat) (hq : q < 1000000000)
    (hA : ∀ t g, M t = some g → (∃ ao cp v2, Arr w g 64 [.slice ao (c g).length cp, v2]) ∧ (c g).length ≤ q) :
    Calls Try.prog 32 #[.map (some b)] w fun e w' => (∃ N, Full M N ∧ N.length ≤ n ∧ (sumN c N : Int) < 1000000000000000000 ∧ e = .returned (.int .i64 (sumN c N))) ∧ Kept w w' := by
  obtain ⟨r, hr⟩ : ∃ r, w.heap.size = r := ⟨_, rfl⟩
  obtain ⟨N0, hN0, hl0⟩ : ∃ N0, Full M N0 ∧ N0.length ≤ n := by
    obtain ⟨D, h, v⟩ := hM
    obtain ⟨N, h1, h2, h3, -⟩ := Mp.full h v
    exact ⟨N, h1, h3⟩
  have HA := hid hA
  have H0 := hid hN0
  have HL0 := hid hl0
  have HN := hid hn
  have HQ := hid hq
  clear hA hN0 hl0 hn hq
  go_enter Try.func32, Try.ntmps32
  go_wp2_with (first | (at_range; refine range_mp _ rfl _ rfl b n M hM rfl ?_; intro w0 cnt0 hR0 hc0 hk0 hsz0; rw [hr] at hR0; rw [hr]))
  go_frame
  go_loopw [3, 5] (fun v3 _ wr => ∃ left cnt N, Rng wr b r n M left cnt ∧ Kept w wr ∧ Hid (Enum M left N) ∧ ∃ acc, v3 = .int .i64 acc ∧ Hid (acc = wrap64 (sumN c N))) (fun _ _ wr => wr.rangeLeft b r)
  case atStart =>
    exact ⟨_, cnt0, [], hR0, hk0, hid (Enum.start M), 0, rfl, hid (by simp [sumN, wrap64])⟩
  case round =>
    obtain ⟨left, cnt, N, hR, hK, hE, acc, rfl, hacc⟩ := hrel
    go_wp2_with (first | (at_next; refine next_mp _ rfl _ rfl b r n M left cnt rfl hR ?_ ?_))
    · intro hl
      have HL := hid hl
      clear hl
      go_wp2
      go_ret
      have hF : Full M N := by
        have := hE.out
        rw [show left = fun _ => false from funext HL.out] at this
        exact this
      have h1 : N.length ≤ n := by rw [hF.len H0.out]; exact HL0.out
      have h2 : sumN c N ≤ N.length * q := sumN_le fun p hp => (HA.out p.1 p.2 ((hF.mem p.1 p.2).1 hp).1).2
      have h3 : N.length * q ≤ n * q := Nat.mul_le_mul_right _ h1
      have h4 : n * q ≤ 999999999 * 999999999 := Nat.mul_le_mul (by have := HN.out; omega) (by have := HQ.out; omega)
      have h5 : (sumN c N : Int) < 1000000000000000000 := by omega
      refine ⟨⟨N, hF, h1, h5, ?_⟩, hK⟩
      rw [hacc.out, show wrap64 (sumN c N) = sumN c N by unfold wrap64; omega]; rfl
    · intro x g w2 cnt2 hxs hlx hMx hR2 hc2 hk2 hsz2 hen
      have hK2 : Kept w w2 := kept_of_kx hK hk2 fun i hi => by omega
      obtain ⟨⟨ao, cp, v2, hA⟩, hlen⟩ := HA.out x g hMx
      have c0 := (hA.kept hK2).cell 0 _ rfl
      have HE2 := hid (hE.out.step hlx hMx)
      clear hA hlen
      go_wp2
      go_roundw
      case rel =>
        refine ⟨_, cnt2, _, hR2, hK2, HE2, _, rfl, hid ?_⟩
        rw [sumN_snoc, hacc.out]
        have := wrap_add (sumN c N) (c g).length
        simpa using this
      case measure => rw [hR2.left_eq, hR.left_eq]; omega
end Go.Proofs.Ythaiejmajhmahab
