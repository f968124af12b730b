/- The laws' book of lists: putInts. -/
import Derived.Test.YtedghjededicpaaBK4
namespace Go.Proofs.Ytedghjededicpaa
open Go.ChangeShapes Go.WideShapes Go.ChangeAt Go.RowKit
set_option linter.unusedVariables false
set_option linter.unusedSimpArgs false

/-- a list that lies in a block: the whole of it, or a part of it that has no room behind -/
def Pw (u : World) (b off c : Nat) (L : List Int) : Prop := ∃ N M, Own u b N M ∧ off + L.length ≤ M.length ∧ (∀ j, j < L.length → M.getD (off + j) 0 = L.getD j 0) ∧ ((off = 0 ∧ N = c ∧ M = L) ∨ c = L.length)
theorem Pw.of {u : World} {b c : Nat} {L : List Int} (h : Own u b c L) : Pw u b 0 c L := ⟨c, L, h, by omega, fun j _ => by rw [Nat.zero_add], .inl ⟨rfl, rfl, rfl⟩⟩
theorem Pw.kept {u u' : World} {b off c : Nat} {L : List Int} (h : Pw u b off c L) (k : Kept u u') : Pw u' b off c L := by
  obtain ⟨N, M, h1, h2⟩ := h
  exact ⟨N, M, h1.kept k, h2⟩
theorem Pw.gs {S : List Nat} {u u' : World} {b off c : Nat} {L : List Int} (h : Pw u b off c L) (k : Gs S u u') (hn : b ∉ S) : Pw u' b off c L := by
  obtain ⟨N, M, h1, h2⟩ := h
  exact ⟨N, M, h1.gs k hn, h2⟩
theorem Pw.setOther {u : World} {b off c : Nat} {L : List Int} (h : Pw u b off c L) {p : Addr} (hp : b ≠ p.block) (x : Value) : Pw (u.setCell p x) b off c L := by
  obtain ⟨N, M, h1, h2⟩ := h
  exact ⟨N, M, h1.setOther hp x, h2⟩
theorem Pw.lt {u : World} {b off c : Nat} {L : List Int} (h : Pw u b off c L) : b < u.heap.size := by
  obtain ⟨N, M, h1, -⟩ := h
  exact h1.lt
theorem Pw.cell {u : World} {b off c : Nat} {L : List Int} (h : Pw u b off c L) (k : Nat) (hk : k < L.length) : u.cell? ⟨b, off + k, none⟩ = some (.int .i64 (L.getD k 0)) := by
  obtain ⟨N, M, h1, h2, h3, -⟩ := h
  rw [← h3 k hk]
  exact h1.cell _ (by omega)
theorem Pw.free {u : World} {b off c : Nat} {L : List Int} (h : Pw u b off c L) (k : Nat) : u.frozen? ⟨b, k, none⟩ = false := by
  obtain ⟨N, M, h1, -⟩ := h
  exact h1.free k
theorem getD_set_at (l : List Int) (i x : Nat) (v : Int) (hi : i < l.length) : (l.set i v).getD x 0 = if x = i then v else l.getD x 0 := by
  by_cases e : x = i
  · subst e
    rw [List.getD_eq_getElem?_getD, List.getElem?_set_self hi, if_pos rfl]; rfl
  · rw [List.getD_eq_getElem?_getD, List.getElem?_set_ne (Ne.symm e), ← List.getD_eq_getElem?_getD, if_neg e]
theorem Pw.set {u : World} {b off c : Nat} {L : List Int} (h : Pw u b off c L) (k : Nat) (hk : k < L.length) (d : Int) : Pw (u.setCell ⟨b, off + k, none⟩ (.int .i64 d)) b off c (L.set k d) := by
  obtain ⟨N, M, h1, h2, h3, h4⟩ := h
  refine ⟨N, M.set (off + k) d, h1.set _ d, by rw [List.length_set, List.length_set]; exact h2, fun j hj => ?_, ?_⟩
  · rw [List.length_set] at hj
    rw [getD_set_at _ _ _ _ (by omega), getD_set_at _ _ _ _ hk]
    by_cases e : j = k
    · rw [if_pos (by omega), if_pos e]
    · rw [if_neg (by omega), if_neg e]
      exact h3 j hj
  · rcases h4 with ⟨rfl, e1, rfl⟩ | e
    · exact .inl ⟨rfl, e1, by rw [Nat.zero_add]⟩
    · exact .inr (by rw [List.length_set]; exact e)
theorem Pw.sl {u : World} {b off c : Nat} {L : List Int} (h : Pw u b off c L) : Sl u (.slice (some ⟨b, off, none⟩) L.length c) L := by
  have hl := h.lt
  refine ⟨_, _, rfl, ?_, ?_, fun _ => ⟨b, off, rfl, hl, fun i hi => h.cell i hi⟩⟩
  · obtain ⟨N, M, h1, h2, h3, ⟨rfl, rfl, rfl⟩ | e⟩ := h
    · obtain ⟨cur, -, h5, -⟩ := h1; exact h5
    · omega
  · obtain ⟨N, M, ⟨cur, h0, h5, h6, -⟩, h2, h3, ⟨rfl, rfl, rfl⟩ | e⟩ := h
    · exact h6
    · omega
/-- one list in a block of its own, or none -/
def Ew (u : World) (a : Option Addr) (c : Nat) (L : List Int) : Prop := (a = none ∧ L = []) ∨ ∃ b off, a = some ⟨b, off, none⟩ ∧ Pw u b off c L
def eb (a : Option Addr) : List Nat := match a with
  | some x => [x.block]
  | none => []
def ebs (n : Nat) (a : Nat → Option Addr) : List Nat := (List.range n).flatMap fun j => eb (a j)
theorem eb_in {n : Nat} {a : Nat → Option Addr} {j : Nat} (hj : j < n) : ∀ b ∈ eb (a j), b ∈ ebs n a := fun b hb => List.mem_flatMap.2 ⟨j, by simpa using hj, hb⟩
structure Lls (u : World) (g n : Nat) (a : Nat → Option Addr) (c m : Nat → Nat) (L : Nat → List Int) : Prop where
  cell : ∀ j, j < n → u.cell? ⟨g, j, none⟩ = some (.slice (a j) (m j) (c j))
  own : ∀ j, j < n → Ew u (a j) (c j) (L j)
  len : ∀ j, j < n → (L j).length = m j
  ap : ∀ j k, j < n → k < n → j ≠ k → ∀ b ∈ eb (a j), b ∉ eb (a k)
  out : ∀ j, j < n → g ∉ eb (a j)
theorem Ew.gs {S : List Nat} {u u' : World} {a : Option Addr} {c : Nat} {L : List Int} (h : Ew u a c L) (k : Gs S u u') (hn : ∀ b ∈ eb a, b ∉ S) : Ew u' a c L := by
  rcases h with h | ⟨b, off, rfl, ho⟩
  · exact .inl h
  · exact .inr ⟨b, off, rfl, ho.gs k (hn b (by simp [eb]))⟩
theorem Lls.kept {u u' : World} {g n : Nat} {a : Nat → Option Addr} {c m : Nat → Nat} {L : Nat → List Int} (h : Lls u g n a c m L) (k : Kept u u') : Lls u' g n a c m L :=
  ⟨fun j hj => (k.below.cell (p := ⟨g, j, none⟩) (World.block_lt_of_cell? _ _ (h.cell j hj))).trans (h.cell j hj), fun j hj => (h.own j hj).gs (k.gs []) (fun _ _ h => by cases h), h.len, h.ap, h.out⟩
theorem Lls.put {u : World} {g n : Nat} {a : Nat → Option Addr} {c m : Nat → Nat} {L : Nat → List Int} (h : Lls u g n a c m L) {i b off : Nat} (hi : i < n) (ha : a i = some ⟨b, off, none⟩) (k : Nat) (hk : k < (L i).length) (d : Int) : Lls (u.setCell ⟨b, off + k, none⟩ (.int .i64 d)) g n a c m (fun j => if j = i then (L i).set k d else L j) := by
  have hgb : g ≠ b := fun e => h.out i hi (by rw [ha, e]; simp [eb])
  refine ⟨fun j hj => ?_, fun j hj => ?_, fun j hj => ?_, h.ap, h.out⟩
  · have e2 := Below.heap_setCell u ⟨b, off + k, none⟩ (.int .i64 d) g hgb
    have := h.cell j hj
    simp only [World.cell?, e2] at this ⊢
    exact this
  · by_cases e : j = i
    · subst e
      simp only [if_true]
      rcases h.own j hj with ⟨h1, -⟩ | ⟨b', off', h1, ho⟩
      · rw [ha] at h1; cases h1
      · rw [ha] at h1
        cases h1
        exact .inr ⟨b, off, ha, ho.set k hk d⟩
    · simp only [if_neg e]
      rcases h.own j hj with h1 | ⟨b', off', h1, ho⟩
      · exact .inl h1
      · refine .inr ⟨b', off', h1, ho.setOther (fun e3 => ?_) _⟩
        exact h.ap j i hj hi e b' (by rw [h1]; simp [eb]) (by rw [ha]; simp [eb]; exact e3)
  · by_cases e : j = i
    · subst e
      simp only [if_true, List.length_set]
      exact h.len j hj
    · simp only [if_neg e]
      exact h.len j hj
theorem mkl_get (i a : Int) (n k : Nat) (h : k < n) : (mkl i a n).getD k 0 = -1000000 * i - (a + (k : Int)) - 7 := by simp [mkl, List.getD_eq_getElem?_getD, h]
theorem mkl_all (i : Int) (n : Nat) (L : List Int) (hl : L.length = n) (h : ∀ t, t < n → L.getD t 0 = -1000000 * i - (0 + (t : Int)) - 7) : L = mkl i 0 n := by
  apply List.ext_getElem
  · rw [mkl_len]; exact hl
  · intro t h1 h2
    have e1 := h t (by omega)
    have e2 := mkl_get i 0 n t (by omega)
    rw [List.getD_eq_getElem?_getD, List.getElem?_eq_getElem h1] at e1
    rw [List.getD_eq_getElem?_getD, List.getElem?_eq_getElem h2] at e2
    simp only [Option.getD_some] at e1 e2
    rw [e1, e2]
set_option maxHeartbeats 4000000 in
set_option maxRecDepth 100000 in
theorem putInts_any (B g cap n : Nat) (hn : n ≤ 900) (a : Nat → Option Addr) (c m : Nat → Nat) (L : Nat → List Int) (w : World) (hB : w.cell? ⟨B, 0, none⟩ = some (.slice (some ⟨g, 0, none⟩) n cap)) (hBo : B ∉ ebs n a) (hgo : g ∉ ebs n a) (hlt : ∀ b ∈ ebs n a, b < w.heap.size) (hm : ∀ j, j < n → m j ≤ 1000000) (h : Lls w g n a c m L) :
    Calls Try.prog 26 #[.pointer (some ⟨B, 0, none⟩)] w fun e w' => e = .returned (.tuple #[]) ∧ Lls w' g n a c m (fun j => mkl (j : Int) 0 (m j)) ∧ Gs (ebs n a) w w' := by
  have bl := World.block_lt_of_cell? _ _ hB
  have HB : Hid (∀ u, Gs (ebs n a) w u → u.cell? ⟨B, 0, none⟩ = some (.slice (some ⟨g, 0, none⟩) n cap)) := fun u k => (k.cell B 0 bl hBo).trans hB
  have HM := (show Hid (∀ j, j < n → m j ≤ 1000000) from hm)
  have HLT := (show Hid (∀ b ∈ ebs n a, b < w.heap.size) from hlt)
  have H0 := (show Hid (Lls w g n a c m L) from h)
  clear hB hm hlt h bl
  go_enter Try.func26, Try.ntmps26
  go_wp2_with fail
  go_loopw [2] (fun iv wr => ∃ i : Nat, i ≤ n ∧ iv = .int .i64 (i : Int) ∧ Gs (ebs n a) w wr ∧ ∃ L' : Nat → List Int, Lls wr g n a c m L' ∧ ∀ j, j < i → L' j = mkl (j : Int) 0 (m j)) (fun iv _ => n - (intOf iv).toNat)
  case atStart => exact ⟨0, Nat.zero_le _, rfl, Gs.refl _ w, L, H0.out, fun j hj => by omega⟩
  case round =>
    clear H0
    obtain ⟨i, hi, rfl, hG, L', hl, hd⟩ := hrel
    have b0 := HB.out _ hG
    by_cases hin : i < n
    · have q0 := hl.cell i hin
      have hm1 := HM.out i hin
      have KM : Hid (∀ u, Calls Try.prog 62 #[.int .i64 (i : Int), .int .i64 0, .int .i64 (m i : Int)] u fun e w' => ∃ v, e = .returned v ∧ MR u.heap.size w' v (mkl (i : Int) 0 (m i)) ∧ Kept u w') := fun u => markInts_any (i : Int) 0 (m i) (by omega) (by omega) (by omega) u
      have HL' := (show Hid (Lls wr g n a c m L') from hl)
      have HD := (show Hid (∀ j, j < i → L' j = mkl (j : Int) 0 (m j)) from hd)
      clear hl hd
      generalize hmi : m i = mi at *
      generalize hci : c i = ci at *
      go_upto_region 4 with (first | (go_at_call 62; refine (KM.out _).mono ?_; rintro e u1 ⟨vm, rfl, hM, k1⟩))
      have G1 := hG.kept k1
      have l1 := HL'.out.kept k1
      have hmk : vm = .slice none 0 0 ∧ mi = 0 ∨ ∃ gm cm, vm = .slice (some ⟨gm, 0, none⟩) mi cm ∧ wr.heap.size ≤ gm ∧ Own u1 gm cm (mkl (i : Int) 0 mi) := by
        rcases hM with ⟨h1, h2⟩ | ⟨gm, cm, h1, h2, h3⟩
        · exact .inl ⟨h2, by rw [← mkl_len (i : Int) 0 mi, h1]; rfl⟩
        · rw [mkl_len] at h1
          exact .inr ⟨gm, cm, h1, h2, h3⟩
      have hGs := hG.size
      clear hM KM b0 q0 k1
      rcases hmk with ⟨rfl, rfl⟩ | ⟨gm, cm, rfl, hgm, hom⟩
      · go_wp2_with fail
        refine wp_loop_rounds 1 ?_
        rw [rounds_succ]
        go_wp2_with fail
        go_roundw
        case rel => exact ⟨i + 1, by omega, by go_num, G1, L', l1, fun j hj => by
          by_cases e : j = i
          · subst e
            have h1 := l1.len j hin
            rw [hmi] at h1
            rw [hmi, List.length_eq_zero_iff.1 h1]
            rfl
          · exact HD.out j (by omega)⟩
        case measure => simp [intOf]; omega
      · have ngm : gm ∉ ebs n a := fun h => by have := HLT.out gm h; omega
        have HOM : Hid (∀ u, Gs (ebs n a) u1 u → Own u gm cm (mkl (i : Int) 0 mi)) := fun u k => hom.gs k ngm
        have L1 := (show Hid (Lls u1 g n a c m L') from l1)
        have GG1 := (show Hid (Gs (ebs n a) w u1) from G1)
        clear hom l1 G1 hgm hGs
        go_wp2_with fail
        go_loopw [4] (fun kv wr => ∃ t : Nat, t ≤ mi ∧ kv = .int .i64 (t : Int) ∧ Gs (ebs n a) u1 wr ∧ ∃ M : Nat → List Int, Lls wr g n a c m M ∧ (∀ j, j < i → M j = mkl (j : Int) 0 (m j)) ∧ ∀ q, q < t → (M i).getD q 0 = -1000000 * (i : Int) - (0 + (q : Int)) - 7) (fun kv _ => mi - (intOf kv).toNat)
        case atStart => exact ⟨0, Nat.zero_le _, rfl, Gs.refl _ u1, L', L1.out, HD.out, fun q hq => by omega⟩
        case round =>
          obtain ⟨t, ht, rfl, hG2, M, hlm, hdm, hqm⟩ := hrel
          by_cases htm : t < mi
          · have hG3 := GG1.out.trans hG2
            have hlen := hlm.len i hin
            rw [hmi] at hlen
            obtain ⟨b, off, hab, hob⟩ : ∃ b off, a i = some ⟨b, off, none⟩ ∧ Pw wr b off ci (M i) := by
              rcases hlm.own i hin with ⟨-, h1⟩ | ⟨b, off, h1, h2⟩
              · rw [h1] at hlen; simp at hlen; omega
              · rw [hci] at h2
                exact ⟨b, off, h1, h2⟩
            have hbi : b ∈ ebs n a := eb_in hin b (by rw [hab]; simp [eb])
            have q0 := hlm.cell i hin
            rw [hmi, hci, hab] at q0
            have hgl := World.block_lt_of_cell? _ _ q0
            have om := (HOM.out _ hG2)
            have q1 := om.cell t (by rw [mkl_len]; exact htm)
            rw [mkl_get _ _ _ _ htm] at q1
            obtain ⟨dd, hdd⟩ : ∃ d, d = -1000000 * (i : Int) - (0 + (t : Int)) - 7 := ⟨_, rfl⟩
            rw [← hdd] at q1
            have HDD := (show Hid (dd = -1000000 * (i : Int) - (0 + (t : Int)) - 7) from hdd)
            clear hdd
            have oml := om.lt
            have HS : Hid (∀ u, Gs (ebs n a) wr u → Gs (ebs n a) wr u ∧ u.cell? ⟨B, 0, none⟩ = some (.slice (some ⟨g, 0, none⟩) n cap) ∧ u.cell? ⟨g, i, none⟩ = some (.slice (some ⟨b, off, none⟩) mi ci) ∧ u.cell? ⟨gm, t, none⟩ = some (.int .i64 dd)) := fun u k => ⟨k, HB.out u (hG3.trans k), (k.cell g i hgl hgo).trans q0, (k.cell gm t oml ngm).trans q1⟩
            have lm' := (hlm.kept (Kept.refl wr).drew).put hin hab t (by omega) dd
            have ob' := hob.kept (Kept.refl wr).drew
            have cg := ob'.cell t (by omega)
            have fg := ob'.free (off + t)
            have HLM := (show Hid _ from lm')
            have GD : Gs (ebs n a) wr wr.drew := (Kept.refl wr).drew.gs _
            clear om oml q0 q1 hgl hlm hob ob' lm' L1 hab
            go_upto_region 7 with fail
            refine wp_region_late [] (fun u => Gs (ebs n a) wr u ∧ u.cell? ⟨B, 0, none⟩ = some (.slice (some ⟨g, 0, none⟩) n cap) ∧ u.cell? ⟨g, i, none⟩ = some (.slice (some ⟨b, off, none⟩) mi ci) ∧ u.cell? ⟨gm, t, none⟩ = some (.int .i64 dd)) (by kernel_rfl) (HS.out _ GD) (fun hHeld => ?_)
            generalize wr.drew = vd at *
            refine wpAnyD_take (i := 0) (v := ?_) rfl (by kernel_rfl) (by kernel_rfl) (by kernel_rfl) (by kernel_rfl) (fun _ _ _ h => h) (Or.inl ⟨by rfl, ?hya0⟩) hHeld ?_
            case hya0 => (intro w hSw; (try dsimp only at hSw); go_simp; try (with_reducible rfl))
            (try simp only [Act.put, List.getElem_toArray, List.getElem_cons_succ, List.getElem_cons_zero, List.setIfInBounds_toArray, List.set_cons_zero, List.set_cons_succ])
            refine wpAnyD_take (i := 1) (v := ?_) rfl (by kernel_rfl) (by kernel_rfl) (by kernel_rfl) (by kernel_rfl) (fun _ _ _ h => h) (Or.inl ⟨by rfl, ?hya1⟩) hHeld ?_
            case hya1 => (intro w hSw; (try dsimp only at hSw); go_simp; try (with_reducible rfl))
            (try simp only [Act.put, List.getElem_toArray, List.getElem_cons_succ, List.getElem_cons_zero, List.setIfInBounds_toArray, List.set_cons_zero, List.set_cons_succ])
            refine wpAnyD_take (i := 2) (v := ?_) rfl (by kernel_rfl) (by kernel_rfl) (by kernel_rfl) (by kernel_rfl) (fun _ _ _ h => h) (Or.inl ⟨by rfl, ?hya2⟩) hHeld ?_
            case hya2 => (intro w hSw; (try dsimp only at hSw); go_simp; try (with_reducible rfl))
            (try simp only [Act.put, List.getElem_toArray, List.getElem_cons_succ, List.getElem_cons_zero, List.setIfInBounds_toArray, List.set_cons_zero, List.set_cons_succ])
            refine wpAnyD_take (i := 3) (v := ?_) rfl (by kernel_rfl) (by kernel_rfl) (by kernel_rfl) (by kernel_rfl) (fun _ _ _ h => h) (Or.inl ⟨by rfl, ?hya3⟩) hHeld ?_
            case hya3 => (intro w hSw; (try dsimp only at hSw); go_simp; try (with_reducible rfl))
            (try simp only [Act.put, List.getElem_toArray, List.getElem_cons_succ, List.getElem_cons_zero, List.setIfInBounds_toArray, List.set_cons_zero, List.set_cons_succ])
            refine wpAnyD_take (i := 4) (v := ?_) rfl (by kernel_rfl) (by kernel_rfl) (by kernel_rfl) (by kernel_rfl) (fun _ _ _ h => h) (Or.inl ⟨by rfl, ?hya4⟩) hHeld ?_
            case hya4 => (intro w hSw; (try dsimp only at hSw); go_simp; try (with_reducible rfl))
            (try simp only [Act.put, List.getElem_toArray, List.getElem_cons_succ, List.getElem_cons_zero, List.setIfInBounds_toArray, List.set_cons_zero, List.set_cons_succ])
            refine wpAnyD_take (i := 5) (v := ?_) rfl (by kernel_rfl) (by kernel_rfl) (by kernel_rfl) (by kernel_rfl) (fun _ _ _ h => h) (Or.inl ⟨by rfl, ?hya5⟩) hHeld ?_
            case hya5 => (intro w hSw; (try dsimp only at hSw); go_simp; try (with_reducible rfl))
            (try simp only [Act.put, List.getElem_toArray, List.getElem_cons_succ, List.getElem_cons_zero, List.setIfInBounds_toArray, List.set_cons_zero, List.set_cons_succ])
            refine wpAnyD_take (i := 6) (v := ?_) rfl (by kernel_rfl) (by kernel_rfl) (by kernel_rfl) (by kernel_rfl) (fun _ _ _ h => h) (Or.inl ⟨by rfl, ?hya6⟩) hHeld ?_
            case hya6 => (intro w hSw; (try dsimp only at hSw); go_simp; try (with_reducible rfl))
            (try simp only [Act.put, List.getElem_toArray, List.getElem_cons_succ, List.getElem_cons_zero, List.setIfInBounds_toArray, List.set_cons_zero, List.set_cons_succ])
            refine wpAnyD_take (i := 7) (v := ?_) rfl (by kernel_rfl) (by kernel_rfl) (by kernel_rfl) (by kernel_rfl) (fun _ _ _ h => h) (Or.inl ⟨by rfl, ?hya7⟩) hHeld ?_
            case hya7 => (intro w hSw; (try dsimp only at hSw); go_simp; try (with_reducible rfl))
            (try simp only [Act.put, List.getElem_toArray, List.getElem_cons_succ, List.getElem_cons_zero, List.setIfInBounds_toArray, List.set_cons_zero, List.set_cons_succ])
            refine wpAnyD_take (i := 8) (v := ?_) rfl (by kernel_rfl) (by kernel_rfl) (by kernel_rfl) (by kernel_rfl) (fun _ _ _ h => h) (Or.inl ⟨by rfl, ?hya8⟩) hHeld ?_
            case hya8 => (intro w hSw; (try dsimp only at hSw); go_simp; try (with_reducible rfl))
            (try simp only [Act.put, List.getElem_toArray, List.getElem_cons_succ, List.getElem_cons_zero, List.setIfInBounds_toArray, List.set_cons_zero, List.set_cons_succ])
            refine wpAnyD_take (i := 9) (v := ?_) rfl (by kernel_rfl) (by kernel_rfl) (by kernel_rfl) (by kernel_rfl) (fun _ _ _ h => h) (Or.inl ⟨by rfl, ?hya9⟩) hHeld ?_
            case hya9 => (intro w hSw; (try dsimp only at hSw); go_simp; try (with_reducible rfl))
            (try simp only [Act.put, List.getElem_toArray, List.getElem_cons_succ, List.getElem_cons_zero, List.setIfInBounds_toArray, List.set_cons_zero, List.set_cons_succ])
            refine wpAnyD_take (i := 10) (v := ?_) rfl (by kernel_rfl) (by kernel_rfl) (by kernel_rfl) (by kernel_rfl) (fun _ _ _ h => h) (Or.inl ⟨by rfl, ?hya10⟩) hHeld ?_
            case hya10 => (intro w hSw; (try dsimp only at hSw); go_simp; try (with_reducible rfl))
            (try simp only [Act.put, List.getElem_toArray, List.getElem_cons_succ, List.getElem_cons_zero, List.setIfInBounds_toArray, List.set_cons_zero, List.set_cons_succ])
            refine wpAnyD_take (i := 11) (v := ?_) rfl (by kernel_rfl) (by kernel_rfl) (by kernel_rfl) (by kernel_rfl) (fun _ _ _ h => h) (Or.inl ⟨by rfl, ?hya11⟩) hHeld ?_
            case hya11 => (intro w hSw; (try dsimp only at hSw); go_simp; try (with_reducible rfl))
            (try simp only [Act.put, List.getElem_toArray, List.getElem_cons_succ, List.getElem_cons_zero, List.setIfInBounds_toArray, List.set_cons_zero, List.set_cons_succ])
            refine wpAnyD_take (i := 12) (v := ?_) rfl (by kernel_rfl) (by kernel_rfl) (by kernel_rfl) (by kernel_rfl) (fun _ _ _ h => h) (Or.inl ⟨by rfl, ?hya12⟩) hHeld ?_
            case hya12 => (intro w hSw; (try dsimp only at hSw); go_simp; try (with_reducible rfl))
            (try simp only [Act.put, List.getElem_toArray, List.getElem_cons_succ, List.getElem_cons_zero, List.setIfInBounds_toArray, List.set_cons_zero, List.set_cons_succ])
            obtain ⟨Y, hY⟩ : ∃ Y, Y = vd.setCell ⟨b, off + t, none⟩ (.int .i64 dd) := ⟨_, rfl⟩
            have GY : Gs (ebs n a) wr Y := by rw [hY]; exact GD.setCell (.inl hbi) _
            rw [← hY] at HLM
            refine wpAnyD_step (i := 13) (by kernel_rfl) rfl (fun K hK9 => ?_)
            go_simp
            rw [← hY]
            refine hK9.out _ _ (HS.out _ GY) (fun hH2 => ?_)
            clear hK9 K
            (try simp only [Act.put, List.getElem_toArray, List.getElem_cons_succ, List.getElem_cons_zero, List.setIfInBounds_toArray, List.set_cons_zero, List.set_cons_succ])
            refine wpAnyD_done (by kernel_rfl) ?_ _
            (try simp only [Act.put, List.getElem_toArray, List.getElem_cons_succ, List.getElem_cons_zero, List.setIfInBounds_toArray, List.set_cons_zero, List.set_cons_succ])
            clear hHeld hH2 HS cg fg hY
            go_wp2_with fail
            go_roundw
            case rel => exact ⟨t + 1, by omega, by go_num, hG2.trans GY, _, HLM.out, fun j hj => by
              simp only [if_neg (show j ≠ i by omega)]
              exact hdm j hj, fun q hq => by
              simp only [if_true]
              by_cases e : q = t
              · subst e
                rw [List.getD_eq_getElem?_getD, List.getElem?_set_self (by omega), Option.getD_some, HDD.out]
              · rw [List.getD_eq_getElem?_getD, List.getElem?_set_ne (Ne.symm e), ← List.getD_eq_getElem?_getD]
                exact hqm q (by omega)⟩
            case measure => simp [intOf]; omega
          · obtain rfl : t = mi := by omega
            go_wp2_with fail
            go_roundw
            case rel => exact ⟨i + 1, by omega, by go_num, GG1.out.trans hG2, M, hlm, fun j hj => by
              by_cases e : j = i
              · subst e
                rw [hmi]
                exact mkl_all _ _ _ (by rw [hlm.len j hin, hmi]) hqm
              · exact hdm j (by omega)⟩
            case measure => simp [intOf]; omega
    · obtain rfl : i = n := by omega
      go_wp2_with fail
      exact bodyPost_end (v := .tuple #[]) (by simp [results, Try.results26, go_sem]) rfl ⟨rfl, ⟨hl.cell, fun j hj => by have := hl.own j hj; rw [hd j hj] at this; exact this, fun j hj => mkl_len _ _ _, hl.ap, hl.out⟩, hG⟩
end Go.Proofs.Ytedghjededicpaa
