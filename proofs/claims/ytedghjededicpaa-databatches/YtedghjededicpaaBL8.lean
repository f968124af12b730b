/- The laws' book of lists: the walk of growInts. -/
import Derived.Test.YtedghjededicpaaBL7
namespace Go.Proofs.Ytedghjededicpaa
open Go.ChangeShapes Go.WideShapes Go.ChangeAt Go.RowKit
set_option linter.unusedVariables false
set_option linter.unusedSimpArgs false

theorem GL.form {g n : Nat} {a : Nat → Option Addr} {c m : Nat → Nat} {i H p : Nat} {lv : Value} {u : World} (h : GL g n a c m i H p lv u) : ∃ ao co, lv = .slice ao p co := by
  rcases h.st with ⟨h1, rfl⟩ | ⟨bl, off, cl, h1, -⟩
  · exact ⟨_, _, h1⟩
  · exact ⟨_, _, h1⟩
theorem MR.some {H : Nat} {w : World} {v : Value} {i a : Int} {q : Nat} (h : MR H w v (mkl i a q)) (hq : 0 < q) : ∃ gm cm, v = .slice (some ⟨gm, 0, none⟩) q cm ∧ Own w gm cm (mkl i a q) := by
  rcases h with ⟨h1, -⟩ | ⟨gm, cm, h1, -, h2⟩
  · have := congrArg List.length h1
    rw [mkl_len] at this
    simp at this
    omega
  · rw [mkl_len] at h1
    exact ⟨gm, cm, h1, h2⟩
set_option maxHeartbeats 4000000 in
set_option maxRecDepth 100000 in
theorem growInts_any (B g cap n : Nat) (hn : n ≤ 900) (a : Nat → Option Addr) (c m : Nat → Nat) (w : World) (hB : w.cell? ⟨B, 0, none⟩ = some (.slice (some ⟨g, 0, none⟩) n cap)) (hBo : B ∉ ebs n a) (hgo : g ∉ ebs n a) (hgw : g < w.heap.size) (hlt : ∀ b ∈ ebs n a, b < w.heap.size) (hm : ∀ j, j < n → m j ≤ 900000) (hc : ∀ j, j < n → a j = none → c j = 0) (h : Lls w g n a c m (fun j => mkl (j : Int) 0 (m j))) :
    Calls Try.prog 34 #[.pointer (some ⟨B, 0, none⟩)] w fun e w' => ∃ v, e = .returned v ∧ (∃ gb cb, Gout w.heap.size a m n v w' gb cb) ∧ Lls w' g n a c m (fun j => mkl (j : Int) 0 (m j)) ∧ Gs (ebs n a) w w' := by
  have bl := World.block_lt_of_cell? _ _ hB
  have HB : Hid (∀ u, Gs (ebs n a) w u → u.cell? ⟨B, 0, none⟩ = some (.slice (some ⟨g, 0, none⟩) n cap)) := fun u k => (k.cell B 0 bl hBo).trans hB
  have HM := (show Hid (∀ j, j < n → m j ≤ 900000) from hm)
  have HC := (show Hid (∀ j, j < n → a j = none → c j = 0) from hc)
  have HLT := (show Hid (∀ b ∈ ebs n a, b < w.heap.size) from hlt)
  have HGW := (show Hid (g < w.heap.size) from hgw)
  have H0 := (show Hid (Lls w g n a c m (fun j => mkl (j : Int) 0 (m j))) from h)
  clear hB hm hlt h bl hc hgw
  go_enter Try.func34, Try.ntmps34
  go_wp2_with fail
  go_loopw [3, 4] (fun ov iv wr => ∃ i : Nat, i ≤ n ∧ iv = .int .i64 (i : Int) ∧ Gs (ebs n a) w wr ∧ Lls wr g n a c m (fun j => mkl (j : Int) 0 (m j)) ∧ ∃ gb cb, Gout w.heap.size a m i ov wr gb cb) (fun _ iv _ => n - (intOf iv).toNat)
  case atStart => exact ⟨0, Nat.zero_le _, rfl, Gs.refl _ w, H0.out, fun _ => 0, fun _ => 0, .inl ⟨rfl, rfl⟩, fun j hj => by omega⟩
  case round =>
    clear H0
    rename_i ov0 _
    obtain ⟨i, hi, rfl, hG, hl, gb, cb, hO⟩ := hrel
    have b0 := HB.out _ hG
    by_cases hin : i < n
    · have q0 := hl.cell i hin
      have hm1 := HM.out i hin
      have hini : (i : Int) < (n : Int) := by omega
      have hG0 : GL g n a c m i wr.heap.size (m i) (.slice (a i) (m i) (c i)) wr := by
        refine ⟨?_, hl⟩
        have hlen := hl.len i hin
        rw [mkl_len] at hlen
        rcases hl.own i hin with ⟨h1, h2⟩ | ⟨b, off, h1, h2⟩
        · have h3 := congrArg List.length h2
          rw [mkl_len] at h3
          have h4 : m i = 0 := h3
          exact .inl ⟨by rw [h1, HC.out i hin h1, h4], h4⟩
        · exact .inr ⟨b, off, c i, by rw [h1], h2, .inl ⟨h1, rfl⟩⟩
      have HO := (show Hid (Gout w.heap.size a m i _ wr gb cb) from hO)
      have HG := (show Hid (Gs (ebs n a) w wr) from hG)
      have HG0 := (show Hid (GL g n a c m i wr.heap.size (m i) (.slice (a i) (m i) (c i)) wr) from hG0)
      have KM : Hid (∀ u (p q : Nat), p ≤ 1000000 → q ≤ 100 → Calls Try.prog 62 #[.int .i64 (i : Int), .int .i64 (p : Int), .int .i64 (q : Int)] u fun e w' => ∃ v, e = .returned v ∧ MR u.heap.size w' v (mkl (i : Int) (p : Int) q) ∧ Kept u w') := fun u p q hp hq => markInts_any (i : Int) (p : Int) q (by omega) (by omega) (by omega) u
      obtain ⟨mi, hmi⟩ : ∃ mi, m i = mi := ⟨_, rfl⟩
      obtain ⟨ai, hai⟩ : ∃ ai, a i = ai := ⟨_, rfl⟩
      obtain ⟨ci, hci⟩ : ∃ ci, c i = ci := ⟨_, rfl⟩
      rw [hmi, hai, hci] at q0
      have HMI := (show Hid (m i = mi) from hmi)
      have HAI := (show Hid (a i = ai) from hai)
      have HCI := (show Hid (c i = ci) from hci)
      rw [hmi] at hm1
      clear hl hO hG hG0 hmi hai hci
      obtain ⟨H, hH⟩ : ∃ H, H = wr.heap.size := ⟨_, rfl⟩
      have HH := (show Hid (H = wr.heap.size) from hH)
      clear hH
      go_wp2_with fail
      rename World => wo
      go_loopw [5, 6] (fun lv tv wr => ∃ t : Nat, t ≤ 16 ∧ tv = .int .i64 (t : Int) ∧ GL g n a c m i wo.heap.size (mi + t) lv wr ∧ Gs (eb (a i)) wo wr) (fun _ tv _ => 16 - (intOf tv).toNat)
      case atStart => exact ⟨0, Nat.zero_le _, rfl, by have := HG0.out; rw [HMI.out, HAI.out, HCI.out] at this; exact this, Gs.refl _ _⟩
      case round =>
        obtain ⟨t, ht, rfl, hGL, hG2⟩ := hrel
        obtain ⟨ao, co, rfl⟩ := hGL.form
        obtain ⟨p, hp⟩ : ∃ p, p = mi + t := ⟨_, rfl⟩
        have HP := (show Hid (p = mi + t) from hp)
        rw [← hp] at hGL ⊢
        have hpb : p ≤ 1000000 := by omega
        have HGL := (show Hid (GL g n a c m i wo.heap.size p (.slice ao p co) wr) from hGL)
        clear hp hGL
        by_cases h16 : t < 16
        · have hti : (t : Int) < 16 := by omega
          go_wp2_with fail
          refine (KM.out _ p 1 hpb (by omega)).mono ?_
          rintro e u1 ⟨vm, rfl, hM, k1⟩
          obtain ⟨gm, cm, rfl, hMo⟩ := hM.some (by decide)
          obtain ⟨bl, cl, w2, hr, hg2, hg3, hown⟩ := (HGL.out.kept k1).step hin (by rw [HMI.out, HP.out]; omega) (by omega) 1 (by decide) (by decide) gm cm hMo hgo (fun b hb => Nat.lt_of_lt_of_le (HLT.out b hb) HG.out.size) (Nat.lt_of_lt_of_le HGW.out HG.out.size) wo rfl (hG2.kept k1)
          have HR := (show Hid (∀ ty, (Builtin.append_ #[23, 23] ty #[.slice ao p co, .slice (some ⟨gm, 0, none⟩) 1 cm]).run Try.prog u1 = .ok (.slice (some ⟨bl, 0, none⟩) (p + 1) cl) w2) from hr)
          have HG2 := (show Hid (GL g n a c m i wo.heap.size (p + 1) (.slice (some ⟨bl, 0, none⟩) (p + 1) cl) w2 ∧ Gs (eb (a i)) wo w2) from ⟨hg2, hg3⟩)
          clear hM hMo k1 hr hg2 hg3 hown hG2
          go_wp2_with (first | (at_builtin; refine wpList_append_run rfl _ _ _ rfl _ _ rfl rfl _ _ (HR.out _) ?_))
          go_roundw
          case rel => exact ⟨t + 1, by omega, by go_num, by have := HG2.out.1; rw [HP.out] at this ⊢; rw [show mi + (t + 1) = mi + t + 1 by omega]; exact this, HG2.out.2⟩
          case measure => simp [intOf]; omega
        · obtain rfl : t = 16 := by omega
          go_wp2_with fail
          refine (KM.out _ p 80 hpb (by omega)).mono ?_
          rintro e u1 ⟨vm, rfl, hM, k1⟩
          obtain ⟨gm, cm, rfl, hMo⟩ := hM.some (by decide)
          obtain ⟨bl, cl, w2, hr, hg2, hg3, hown⟩ := (HGL.out.kept k1).step hin (by rw [HMI.out, HP.out]; omega) (by omega) 80 (by decide) (by decide) gm cm hMo hgo (fun b hb => Nat.lt_of_lt_of_le (HLT.out b hb) HG.out.size) (Nat.lt_of_lt_of_le HGW.out HG.out.size) wo rfl (hG2.kept k1)
          have HR := (show Hid (∀ ty, (Builtin.append_ #[23, 23] ty #[.slice ao p co, .slice (some ⟨gm, 0, none⟩) 80 cm]).run Try.prog u1 = .ok (.slice (some ⟨bl, 0, none⟩) (p + 80) cl) w2) from hr)
          have hp96 : p + 80 = m i + 96 := by rw [HP.out, HMI.out]
          rw [hp96] at hg2 hown
          obtain ⟨go, co2, w3, hr3, ho3, hl3, hg4⟩ := gout_step HO.out hin hn bl cl hg2 hg3 hown HG.out hgo HLT.out HGW.out
          obtain ⟨p2, hp2⟩ : ∃ p2, p2 = p + 80 := ⟨_, rfl⟩
          rw [← hp96, ← hp2] at hr3
          rw [← hp2] at HR
          have HR3 := (show Hid (∀ ty, (Builtin.append_ #[36, 36] ty #[_, .slice (some ⟨w2.heap.size, 0, none⟩) 1 1]).run Try.prog (w2.alloc (.cells #[.slice (some ⟨bl, 0, none⟩) p2 cl] 23)) = .ok (.slice (some ⟨go, 0, none⟩) (i + 1) co2) w3) from hr3)
          have HO3 := (show Hid ((∃ gb' cb', Gout w.heap.size a m (i + 1) (.slice (some ⟨go, 0, none⟩) (i + 1) co2) w3 gb' cb') ∧ Lls w3 g n a c m (fun j => mkl (j : Int) 0 (m j)) ∧ Gs (ebs n a) w w3) from ⟨ho3, hl3, hg4⟩)
          clear hM hMo k1 hr hg2 hg3 hown hG2 hp96 hr3 ho3 hl3 hg4 hp2
          go_wp2_with (first | (at_builtin; refine wpList_append_run rfl _ _ _ rfl _ _ rfl rfl _ _ (HR.out _) ?_) | (at_builtin; refine wpList_append_run rfl _ _ _ rfl _ _ rfl rfl _ _ (HR3.out _) ?_))
          go_roundw
          case rel => exact ⟨i + 1, by omega, by go_num, HO3.out.2.2, HO3.out.2.1, HO3.out.1⟩
          case measure => simp [intOf]; omega
    · obtain rfl : i = n := by omega
      go_wp2_with fail
      go_ret
      exact ⟨_, rfl, ⟨gb, cb, hO⟩, hl, hG⟩
end Go.Proofs.Ytedghjededicpaa
