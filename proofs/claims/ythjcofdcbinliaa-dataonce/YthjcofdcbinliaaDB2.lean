/- DataOnce. -/
import Derived.Test.YthjcofdcbinliaaDB1
import Derived.Deep.CutRange
namespace Go.Proofs.Ythjcofdcbinliaa
open Go.ChangeShapes Go.WideShapes Go.ChangeAt Go.RowKit
set_option linter.unusedVariables false
set_option linter.unusedSimpArgs false

set_option maxHeartbeats 4000000 in
set_option maxRecDepth 100000 in
theorem batch_i (n s k : Nat) (b : Int) (hn : 0 < n) (hn4 : n ≤ 4096) (hs : 0 < s) (hs4 : s ≤ 256) (hk : (n + s - 1) / s = k) (hb : b < 0 ∨ (k : Int) ≤ b) (sd ep : Int) (hep : 0 ≤ ep) (w : World) : Calls Try.prog 17 #[.int .i64 n, .int .i64 s, .int .i64 sd, .int .i64 ep, .int .i64 b] w fun e w' => e = .returned (.tuple #[.slice none 0 0, .int .i64 5]) ∧ Kept w w' := by
  have HB : Hid (∀ u : World, Calls Try.prog 16 #[.int .i64 n, .int .i64 s] u fun e w' => e = .returned (.tuple #[.int .i64 k, .int .i64 0]) ∧ Kept u w') := fun u => batches_ok n s k hn hn4 hs hs4 hk u
  have HO : Hid (∀ u : World, Calls Try.prog 29 #[.int .i64 n, .int .i64 sd, .int .i64 ep] u fun e w' => ∃ g, e = .returned (.tuple #[.slice (some ⟨g, 0, none⟩) n n, .int .i64 0]) ∧ u.heap.size ≤ g ∧ Own w' g n (ord sd ep n) ∧ Kept u w') := fun u => order_ok n hn hn4 sd ep hep u
  clear hk
  go_enter Try.func17, Try.ntmps17
  go_wp2_with fail
  refine (HB.out _).mono ?_
  rintro e w1 ⟨rfl, hk1⟩
  go_wp2_with fail
  refine (HO.out _).mono ?_
  rintro e w2 ⟨g, rfl, hg, ho, hk2⟩
  have hK := hk1.trans hk2
  clear hk1 hk2 hg ho
  by_cases h0 : b < 0
  · clear hb
    go_wp2
    exact bodyPost_ret (v := .tuple #[.slice none 0 0, .int .i64 5]) (by simp [results, Try.results17, go_sem, *]) rfl ⟨rfl, hK⟩
  · have h1 : (k : Int) ≤ b := by omega
    clear hb
    go_wp2
    exact bodyPost_ret (v := .tuple #[.slice none 0 0, .int .i64 5]) (by simp [results, Try.results17, go_sem, *]) rfl ⟨rfl, hK⟩

theorem divs (n s : Nat) (hn : 0 < n) (hs : 0 < s) (b : Nat) (hb : b < (n + s - 1) / s) : b * s < n := by
  have h1 : (b + 1) * s ≤ n + s - 1 := (Nat.le_div_iff_mul_le hs).1 hb
  rw [Nat.succ_mul] at h1
  omega
theorem divs_end (n s k : Nat) (hs : 0 < s) (hk : (n + s - 1) / s = k) : n ≤ k * s := by
  have h := Nat.lt_succ_self ((n + s - 1) / s)
  rw [Nat.div_lt_iff_lt_mul hs, hk, Nat.succ_mul] at h
  omega
theorem divs_full (n s k b : Nat) (hn : 0 < n) (hs : 0 < s) (hk : (n + s - 1) / s = k) (hb : b + 1 < k) : (b + 1) * s ≤ n := by
  have := divs n s hn hs (b + 1) (by omega)
  omega

theorem bord_at (L : List Int) (f m i : Nat) (hi : i < m) (hf : f + m ≤ L.length) : (bord L f m).getD (f + i) 0 = (srt (bpt L f m)).getD i 0 := by
  have h1 := bpt_len L f m hf
  have h2 : (L.take f).length = f := by rw [List.length_take]; omega
  unfold bord
  rw [List.getD_eq_getElem?_getD, List.getD_eq_getElem?_getD, List.append_assoc, List.getElem?_append_right (by omega), h2, Nat.add_sub_cancel_left, List.getElem?_append_left (by rw [srt_length, h1]; exact hi)]
theorem bord_len (L : List Int) (f m : Nat) (hf : f + m ≤ L.length) : (bord L f m).length = L.length := by
  have h1 := bpt_len L f m hf
  unfold bord
  rw [List.length_append, List.length_append, List.length_take, List.length_drop, srt_length, h1]
  omega

/-- the world of a round: the marks, what was counted -/
structure Rnd (w wr : World) (B n : Nat) (S : List Int) : Prop where
  A : ∃ A, Ct n S A ∧ Own wr B n A
  bl : Below w.heap.size w wr
  wB : w.heap.size ≤ B

set_option maxHeartbeats 8000000 in
set_option maxRecDepth 100000 in
theorem dataOnce_true (n0 s0 sd ep : Int) (w : World) : Calls Try.prog 5 #[.int .i64 n0, .int .i64 s0, .int .i64 sd, .int .i64 ep] w fun e w' => e = .returned (.bool true) ∧ Below w.heap.size w w' := by
  have HA : Hid (∀ u, Calls Try.prog 9 #[] u fun e w' => e = .returned (.bool true) ∧ Kept u w') := fun u => dalive_true u
  by_cases hall : 1 ≤ n0 ∧ n0 ≤ 600 ∧ 1 ≤ s0 ∧ s0 ≤ 256 ∧ 0 ≤ ep
  · obtain ⟨n, rfl⟩ : ∃ n : Nat, n0 = n := ⟨n0.toNat, by omega⟩
    obtain ⟨s, rfl⟩ : ∃ p : Nat, s0 = p := ⟨s0.toNat, by omega⟩
    have hn : 0 < n := by omega
    have hn6 : n ≤ 600 := by omega
    have hs : 0 < s := by omega
    have hs4 : s ≤ 256 := by omega
    have hep : 0 ≤ ep := by omega
    clear hall
    have g0 : ¬ (n : Int) < 1 := by omega
    have g1 : ¬ (600 : Int) < (n : Int) := by omega
    have g2 : ¬ (s : Int) < 1 := by omega
    have g3 : ¬ (256 : Int) < (s : Int) := by omega
    have g4 : ¬ ep < 0 := by omega
    have v4 : decide (600 < n) = false := decide_eq_false (by omega)
    have v5 : decide (256 < s) = false := decide_eq_false (by omega)
    obtain ⟨k, hk⟩ : ∃ k, (n + s - 1) / s = k := ⟨_, rfl⟩
    have hkn : k ≤ 1000 := by rw [← hk]; exact Nat.le_trans (Nat.div_le_self _ _) (by omega)
    have HB : Hid (∀ u : World, Calls Try.prog 16 #[.int .i64 n, .int .i64 s] u fun e w' => e = .returned (.tuple #[.int .i64 k, .int .i64 0]) ∧ Kept u w') := fun u => batches_ok n s k hn (by omega) hs hs4 hk u
    obtain ⟨L, hL⟩ : ∃ L, L = ord sd ep n := ⟨_, rfl⟩
    have hE : Ech n L := by rw [hL]; exact ech_ord sd ep n (by omega)
    have HP : Hid (∀ (u : World) (b f m : Nat), b < k → b * s = f → min n ((b + 1) * s) = f + m → 0 < m → Calls Try.prog 17 #[.int .i64 n, .int .i64 s, .int .i64 sd, .int .i64 ep, .int .i64 b] u fun e w' => ∃ g, e = .returned (.tuple #[.slice (some ⟨g, f, none⟩) m m, .int .i64 0]) ∧ u.heap.size ≤ g ∧ Own w' g n (bord L f m) ∧ Below u.heap.size u w') := fun u b f m h1 h2 h3 h4 => by
      rw [hL]
      exact batch_ok n s k b f m hn (by omega) hs hs4 hk h1 (by omega) h2 h3 h4 sd ep hep u
    have HI : Hid (∀ u : World, Calls Try.prog 17 #[.int .i64 n, .int .i64 s, .int .i64 sd, .int .i64 ep, .int .i64 k] u fun e w' => e = .returned (.tuple #[.slice none 0 0, .int .i64 5]) ∧ Kept u w') := fun u => batch_i n s k k hn (by omega) hs hs4 hk (.inr (Int.le_refl _)) sd ep hep u
    have HD : Hid ((∀ b, b < k → b * s < n) ∧ n ≤ k * s ∧ (∀ b, b + 1 < k → (b + 1) * s ≤ n)) := ⟨fun b hb => divs n s hn hs b (by rw [hk]; exact hb), divs_end n s k hs hk, fun b hb => divs_full n s k b hn hs hk hb⟩
    have HE : Hid (Ech n L) := hE
    clear hk hL hE
    go_enter Try.func5, Try.ntmps5
    go_wp2_with fail
    refine (HA.out _).mono ?_
    rintro e w1 ⟨rfl, hk1⟩
    go_wp2_with fail
    refine (HB.out _).mono ?_
    rintro e w2 ⟨rfl, hk2⟩
    have hK := hk1.trans hk2
    clear hk1 hk2
    have HM := make_run n (by omega) w2
    have kB := hK.alloc (madeCells #[.int .i64 0] n) 3
    have x3 := own_made n (by omega) w2
    obtain ⟨B, hB⟩ : ∃ B, B = w2.heap.size := ⟨_, rfl⟩
    obtain ⟨Z, hZ⟩ : ∃ Z, Z = w2.alloc (.cells (madeCells #[.int .i64 0] n) 3) := ⟨_, rfl⟩
    have hwB : w.heap.size ≤ B := by rw [hB]; exact hK.below.size
    rw [← hB] at HM x3
    rw [← hZ] at HM x3 kB
    have H0 : Hid (Rnd w Z B n []) := ⟨⟨_, ct_start n, x3⟩, kB.below, hwB⟩
    clear hB hZ kB x3 hK hwB
    go_wp2_with fail
    go_loopw [12] (fun bv wr => ∃ (b : Nat), b ≤ k ∧ bv = .int .i64 b ∧ Rnd w wr B n (L.take (b * s))) (fun bv _ => k - (intOf bv).toNat)
    case atStart => exact ⟨0, Nat.zero_le _, rfl, by simpa using H0.out⟩
    case round =>
      clear H0 HM
      obtain ⟨b, hbk, rfl, hR⟩ := hrel
      by_cases hb : b < k
      · have d1 := HD.out.1 b hb
        have d2 := HD.out.2.2 b
        obtain ⟨f, hf⟩ : ∃ f, b * s = f := ⟨_, rfl⟩
        obtain ⟨q, hq⟩ : ∃ q, (b + 1) * s = q := ⟨_, rfl⟩
        have hfq : f + s = q := by rw [← hf, ← hq, Nat.succ_mul]
        obtain ⟨m, hm⟩ : ∃ m, min n q = f + m := ⟨min n q - f, by omega⟩
        rw [hf] at d1 hR
        rw [hq] at d2
        have hm0 : 0 < m := by omega
        have hms : m ≤ s := by omega
        have hmn : f + m ≤ n := by omega
        have hfull : b + 1 < k → m = s := fun h => by have := d2 h; omega
        have hlast : b + 1 = k → f + m = n := fun h => by have := HD.out.2.1; rw [← h, hq] at this; omega
        have HN : Hid (L.take ((b + 1) * s) = L.take (f + m)) := by
          show _ = _
          rw [hq]
          by_cases h : b + 1 < k
          · rw [hfull h, hfq]
          · have h2 := hlast (by omega)
            rw [h2, List.take_of_length_le (by rw [HE.out.len]; omega), List.take_of_length_le (by rw [HE.out.len]; omega)]
        have KP : Hid (Calls Try.prog 17 #[.int .i64 n, .int .i64 s, .int .i64 sd, .int .i64 ep, .int .i64 b] wr fun e w' => ∃ g, e = .returned (.tuple #[.slice (some ⟨g, f, none⟩) m m, .int .i64 0]) ∧ wr.heap.size ≤ g ∧ Own w' g n (bord L f m) ∧ Below wr.heap.size wr w') := HP.out wr b f m hb hf (by rw [hq]; exact hm) hm0
        have b4 : (b : Int) < (k : Int) := by omega
        have zk : IntKind.i64.wrap ((k : Int) - 1) = (k : Int) - 1 := by rw [wrap_i64]; omega
        have zb : IntKind.i64.wrap ((b : Int) + 1) = (b : Int) + 1 := by rw [wrap_i64]; omega
        have c1 : ¬ (m : Int) < 1 := by omega
        have c2 : ¬ (s : Int) < (m : Int) := by omega
        have c3 : ¬ s < m := by omega
        obtain ⟨⟨A, hA, hO⟩, hbl, hwB⟩ := hR
        have HT : Hid ((b : Int) < (k : Int) - 1 → m = s) := fun h => hfull (by omega)
        clear hf hq hfq hm d1 d2 hfull hlast HP HB HA
        go_wp2_with fail
        refine KP.out.mono ?_
        rintro e w3 ⟨g, rfl, hg, ho, hb3⟩
        have hO3 := hO.below hb3
        have hbl3 : Below w.heap.size w w3 := hbl.trans (hb3.mono hbl.size)
        have hgB : g ≠ B := by have := hO.lt; omega
        have H1 : Hid (Ct n (L.take f) A ∧ Own w3 B n A ∧ Own w3 g n (bord L f m) ∧ Below w.heap.size w w3) := ⟨hA, hO3, ho, hbl3⟩
        have hwg : w.heap.size ≤ g := Nat.le_trans hbl.size hg
        clear hA hO hbl hg ho hb3 hO3 hbl3 KP
        go_upto_region 11 with fail
        go_cut [90] from 52 to 134 (fun t wx => t = .bool false ∧ wx = w3)
        case first =>
          by_cases h : (b : Int) < (k : Int) - 1
          · have hms2 := HT.out h
            subst hms2
            have c4 : ((m : Int) != (m : Int)) = false := by simp
            go_wp2_with fail
            go_meet
            exact ⟨by first | rfl | (simp; omega) | simp, rfl⟩
          · go_wp2_with fail
            go_meet
            exact ⟨by first | rfl | (simp; omega) | simp, rfl⟩
        obtain ⟨rfl, hwc⟩ := hcut
        obtain rfl : w3 = wc := hwc.symm
        clear HT
        go_wp2_with fail
        go_loopw [15] (fun iv wr => ∃ (i : Nat) (A : List Int), i ≤ m ∧ iv = .int .i64 i ∧ Ct n (L.take f ++ (srt (bpt L f m)).take i) A ∧ Own wr B n A ∧ Own wr g n (bord L f m) ∧ Below w.heap.size w wr) (fun iv _ => m - (intOf iv).toNat)
        case atStart => exact ⟨0, A, Nat.zero_le _, rfl, by simpa using H1.out.1, H1.out.2⟩
        case round =>
          rename_i wo
          obtain ⟨i, A, him, rfl, hA, hO, hg, hbl⟩ := hrel
          by_cases hi : i < m
          · obtain ⟨y, hy, hy1, hy2, hy3⟩ := batch_next HE.out f m hmn i hi
            obtain ⟨hA0, hA1⟩ := hA.step y hy hy2
            rw [List.append_assoc, ← hy3] at hA1
            have hLl := HE.out.len
            have hbl2 := bord_len L f m (by omega)
            have q1 := hg.cell (f + i) (by omega)
            rw [bord_at L f m i hi (by omega), hy1] at q1
            have q2 := hO.cell y (by rw [hA.len]; exact hy)
            rw [hA0] at q2
            have q3 := hO.free y
            have hprev : ∀ i', i = i' + 1 → ∃ xp : Int, wr.cell? ⟨g, f + i', none⟩ = some (.int .i64 xp) ∧ xp < (y : Int) := fun i' e => by
              subst e
              have a1 := hg.cell (f + i') (by omega)
              rw [bord_at L f m i' (by omega) (by omega)] at a1
              have a2 := srt_rise (bpt L f m) (bpt_nodup HE.out f m) i' (by rw [bpt_len L f m (by omega)]; omega)
              rw [hy1] at a2
              exact ⟨_, a1, a2⟩
            have HN2 : Hid (Ct n (L.take f ++ (srt (bpt L f m)).take (i + 1)) (A.set y 1) ∧ Own wr B n A ∧ Own wr g n (bord L f m) ∧ Below w.heap.size w wr) := ⟨hA1, hO, hg, hbl⟩
            clear hA hO hg hbl hA0 hA1 hy1 hy2 hy3 hLl hbl2
            have b1 : ¬ (y : Int) < 0 := by omega
            have b2 : ¬ (n : Int) ≤ (y : Int) := by omega
            have b3 : ¬ n ≤ y := by omega
            have b5 : (y : Int) < (n : Int) := by omega
            have b6 : y < n := hy
            have b7 : (i : Int) < (m : Int) := by omega
            have z1 : IntKind.i64.wrap ((i : Int) + 1) = (i : Int) + 1 := by rw [wrap_i64]; omega
            have u1 : decide ((y : Int) < 0) = false := decide_eq_false b1
            have u2 : decide ((n : Int) ≤ (y : Int)) = false := decide_eq_false b2
            have u3 : decide (n ≤ y) = false := decide_eq_false b3
            rcases i with _ | i'
            · clear hprev
              rw [show ((0 : Nat) : Int) = 0 from rfl] at *
              rw [Nat.add_zero] at q1
              go_upto_region 16 with fail
              go_quiet (fail)
              go_wp2_with fail
              go_roundw
              case rel =>
                obtain ⟨h1, h2, h3, h4⟩ := HN2.out
                exact ⟨1, _, by omega, by go_num, h1, (h2.set y _).kept ((Kept.refl _).drewN _), (h3.setOther (by show g ≠ B; omega) _).kept ((Kept.refl _).drewN _), below_drewN (h4.setCell (p := ⟨B, y, none⟩) hwB _) _⟩
              case measure => simp [intOf]; omega
            · obtain ⟨xp, q0, hlt⟩ := hprev i' rfl
              clear hprev
              rw [show ((i' + 1 : Nat) : Int) = (i' : Int) + 1 by omega] at *
              have z2 : IntKind.i64.wrap ((i' : Int) + 1 - 1) = (i' : Int) := by rw [wrap_i64]; omega
              have b8 : 0 < (i' : Int) + 1 := by omega
              have b9 : ¬ (y : Int) ≤ xp := by omega
              have b10 : (i' : Int) < (m : Int) := by omega
              have b11 : 0 ≤ (i' : Int) + 1 := by omega
              have u5 : decide (0 < (i' : Int) + 1) = true := decide_eq_true b8
              have u6 : decide ((y : Int) ≤ xp) = false := decide_eq_false b9
              go_upto_region 16 with fail
              go_quiet (fail)
              go_wp2_with fail
              go_roundw
              case rel =>
                obtain ⟨h1, h2, h3, h4⟩ := HN2.out
                exact ⟨i' + 1 + 1, _, by omega, by go_num, h1, (h2.set y _).kept ((Kept.refl _).drewN _), (h3.setOther (by show g ≠ B; omega) _).kept ((Kept.refl _).drewN _), below_drewN (h4.setCell (p := ⟨B, y, none⟩) hwB _) _⟩
              case measure => simp [intOf]; omega
          · obtain rfl : i = m := by omega
            have hd := batch_done f i hA (bpt_len L f i (by rw [HE.out.len]; exact hmn))
            rw [← HN.out] at hd
            have HX : Hid (Rnd w wr B n (L.take ((b + 1) * s))) := ⟨⟨A, hd, hO⟩, hbl, hwB⟩
            clear hA hO hg hbl hd H1
            go_wp2_with fail
            go_roundw
            case rel => exact ⟨b + 1, by omega, by go_num, HX.out⟩
            case measure => simp [intOf]; omega
      · obtain rfl : b = k := by omega
        have hall : L.take (b * s) = L := List.take_of_length_le (by rw [HE.out.len]; exact HD.out.2.1)
        rw [hall] at hR
        obtain ⟨⟨A, hA, hO⟩, hbl, hwB⟩ := hR
        have H2 : Hid (Ct n L A ∧ Own wr B n A ∧ Below w.heap.size w wr) := ⟨hA, hO, hbl⟩
        clear hA hO hbl hall HP HB HA HD
        go_wp2_with fail
        go_loopw [16] (fun iv wx => ∃ (i : Nat), i ≤ n ∧ iv = .int .i64 i ∧ Kept wr wx) (fun iv _ => n - (intOf iv).toNat)
        case atStart => exact ⟨0, Nat.zero_le _, rfl, Kept.refl _⟩
        case round =>
          rename_i wo
          obtain ⟨i, hin, rfl, hKr⟩ := hrel
          by_cases hi : i < n
          · have q1 := (H2.out.2.1.kept hKr).cell i (by rw [H2.out.1.len]; exact hi)
            rw [H2.out.1.one i hi (ech_mem HE.out i hi)] at q1
            have b4 : (i : Int) < (n : Int) := by omega
            have z1 : IntKind.i64.wrap ((i : Int) + 1) = (i : Int) + 1 := by rw [wrap_i64]; omega
            go_wp2_with fail
            go_roundw
            case rel => exact ⟨i + 1, by omega, by go_num, hKr⟩
            case measure => simp [intOf]; omega
          · obtain rfl : i = n := by omega
            go_wp2_with fail
            refine (HI.out _).mono ?_
            rintro e w5 ⟨rfl, hk5⟩
            have hk6 := hKr.trans hk5
            go_wp2
            go_ret
            exact ⟨rfl, H2.out.2.2.trans (hk6.below.mono H2.out.2.2.size)⟩
  · go_enter Try.func5, Try.ntmps5
    go_wp2_with fail
    refine (HA.out _).mono ?_
    rintro e w1 ⟨rfl, hk1⟩
    by_cases h1 : n0 < 1
    · clear hall
      go_wp2_with fail
      refine (HA.out _).mono ?_
      rintro e w2 ⟨rfl, hk2⟩
      go_wp2
      go_ret
      exact ⟨rfl, (hk1.trans hk2).below⟩
    · by_cases h2 : 600 < n0
      · clear hall
        go_wp2_with fail
        refine (HA.out _).mono ?_
        rintro e w2 ⟨rfl, hk2⟩
        go_wp2
        go_ret
        exact ⟨rfl, (hk1.trans hk2).below⟩
      · by_cases h3 : s0 < 1
        · clear hall
          go_wp2_with fail
          refine (HA.out _).mono ?_
          rintro e w2 ⟨rfl, hk2⟩
          go_wp2
          go_ret
          exact ⟨rfl, (hk1.trans hk2).below⟩
        · by_cases h4 : 256 < s0
          · clear hall
            go_wp2_with fail
            refine (HA.out _).mono ?_
            rintro e w2 ⟨rfl, hk2⟩
            go_wp2
            go_ret
            exact ⟨rfl, (hk1.trans hk2).below⟩
          · have h5 : ep < 0 := by omega
            clear hall
            go_wp2_with fail
            refine (HA.out _).mono ?_
            rintro e w2 ⟨rfl, hk2⟩
            go_wp2
            go_ret
            exact ⟨rfl, (hk1.trans hk2).below⟩

end Go.Proofs.Ythjcofdcbinliaa
