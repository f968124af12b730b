/- Package state: states that are handed in; checkMatrices. -/
import Derived.Test.YtphkdkenopkbbaaVM
namespace Go.Proofs.Ytphkdkenopkbbaa
open Go.ChangeShapes Go.WideShapes Go.ChangeAt Go.RowKit
set_option linter.unusedVariables false
set_option linter.unusedSimpArgs false

/-- A matrix's cells, somewhere in a list of matrices. -/
structure MC (w : World) (B o : Nat) (a : Option Addr) (cp : Nat) (m : Mat) : Prop where
  c0 : w.cell? ⟨B, o, none⟩ = some (.int .i64 m.r)
  c1 : w.cell? ⟨B, o + 1, none⟩ = some (.int .i64 m.c)
  c2 : w.cell? ⟨B, o + 2, none⟩ = some (.int .i64 m.n)
  c3 : w.cell? ⟨B, o + 3, none⟩ = some (.slice a m.L.length cp)
  sl : Sl w (.slice a m.L.length cp) m.L
theorem MC.kept {w w' : World} {B o : Nat} {a : Option Addr} {cp : Nat} {m : Mat} (h : MC w B o a cp m) (k : Kept w w') : MC w' B o a cp m := by
  have hB := World.block_lt_of_cell? _ _ h.c0
  exact ⟨(k.below.cell (p := ⟨B, o, none⟩) hB).trans h.c0, (k.below.cell (p := ⟨B, o + 1, none⟩) hB).trans h.c1, (k.below.cell (p := ⟨B, o + 2, none⟩) hB).trans h.c2, (k.below.cell (p := ⟨B, o + 3, none⟩) hB).trans h.c3, h.sl.kept k⟩
/-- A list of matrices that can be read. -/
def MlI (w : World) (v : Value) (l : List Mat) : Prop := ∃ ao cap, v = .slice ao l.length cap ∧ l.length ≤ cap ∧ (l ≠ [] → ∃ B off, ao = some ⟨B, off, none⟩ ∧ ∀ i m, l[i]? = some m → ∃ a cp, MC w B (off + i * 4) a cp m)
theorem MlI.kept {w w' : World} {v : Value} {l : List Mat} (h : MlI w v l) (k : Kept w w') : MlI w' v l := by
  obtain ⟨ao, cap, e, hc, hr⟩ := h
  refine ⟨ao, cap, e, hc, fun hne => ?_⟩
  obtain ⟨B, off, e2, hr⟩ := hr hne
  refine ⟨B, off, e2, fun i m hi => ?_⟩
  obtain ⟨a, cp, h⟩ := hr i m hi
  exact ⟨a, cp, h.kept k⟩
/-- A list of lists. -/
def LlI (w : World) (v : Value) (Q : List (List Mat)) : Prop := ∃ ao cap, v = .slice ao Q.length cap ∧ Q.length ≤ cap ∧ (Q ≠ [] → ∃ B off, ao = some ⟨B, off, none⟩ ∧ ∀ i l, Q[i]? = some l → ∃ lv, w.cell? ⟨B, off + i, none⟩ = some lv ∧ MlI w lv l)
theorem LlI.kept {w w' : World} {v : Value} {Q : List (List Mat)} (h : LlI w v Q) (k : Kept w w') : LlI w' v Q := by
  obtain ⟨ao, cap, e, hc, hr⟩ := h
  refine ⟨ao, cap, e, hc, fun hne => ?_⟩
  obtain ⟨B, off, e2, hr⟩ := hr hne
  refine ⟨B, off, e2, fun i l hi => ?_⟩
  obtain ⟨lv, h1, h2⟩ := hr i l hi
  exact ⟨lv, (k.below.cell (p := ⟨B, off + i, none⟩) (World.block_lt_of_cell? _ _ h1)).trans h1, h2.kept k⟩
/-- A state that can be read. -/
def StI (w : World) (v : Value) (s : Sta) : Prop := ∃ pv qv, v = .agg #[.int .i64 s.a, .int .i64 s.b, .int .i64 s.d, pv, qv, .int .i64 s.lo, .int .i64 s.ra] ∧ MlI w pv s.P ∧ LlI w qv s.Q
theorem StI.kept {w w' : World} {v : Value} {s : Sta} (h : StI w v s) (k : Kept w w') : StI w' v s := by
  obtain ⟨pv, qv, e, h1, h2⟩ := h
  exact ⟨pv, qv, e, h1.kept k, h2.kept k⟩
/-- A matrix in form, all of it finite. -/
def matOk (m : Mat) : Prop := ckM m.r m.c m.n m.L = 0 ∧ ∀ i, i < m.L.length → fin (m.L.getD i 0) m.n = true
def Oks (l : List Mat) : Prop := ∀ (i : Nat) (m : Mat), l[i]? = some m → matOk m
/-- What a check tells. -/
def CkP (p : Prop) (e : Ending) : Prop := (e = .returned (.tuple #[]) ∧ p) ∨ (e = PN 43 0 ∧ ¬ p)

set_option maxHeartbeats 4000000 in
set_option maxRecDepth 100000 in
theorem checkMatrices_any (v : Value) (l : List Mat) (hlen : l.length ≤ 9223372036854775807) (w : World) (hL : MlI w v l) : Calls Try.prog 46 #[v] w fun e w' => Kept w w' ∧ CkP (Oks l) e := by
  obtain ⟨ao, cap, rfl, hlc, hr⟩ := hL
  have HR : Hid (∀ u, Kept w u → ∀ i m, l[i]? = some m → ∃ B off a cp, ao = some ⟨B, off, none⟩ ∧ MC u B (off + i * 4) a cp m) := fun u ku i m hi => by
    obtain ⟨B, off, e, h⟩ := hr (by intro e; rw [e] at hi; simp at hi)
    obtain ⟨a, cp, hm⟩ := h i m hi
    exact ⟨B, off, a, cp, e, hm.kept ku⟩
  obtain ⟨n, hn⟩ : ∃ n, l.length = n := ⟨_, rfl⟩
  rw [hn] at hlen hlc ⊢
  have HN := hid hn
  have HLC := hid (show n ≤ cap ∧ n ≤ 9223372036854775807 from ⟨hlc, hlen⟩)
  clear hn hr hlc hlen
  go_enter Try.func46, Try.ntmps46
  go_wp2_with fail
  go_loopw [8] (fun iv wr => ∃ i : Nat, i ≤ n ∧ iv = .int .i64 (i : Int) ∧ Kept w wr ∧ ∀ (x : Nat) (m : Mat), x < i → l[x]? = some m → matOk m) (fun iv _ => n - (intOf iv).toNat)
  case atStart => exact ⟨0, Nat.zero_le _, rfl, Kept.refl w, fun x m hx => by omega⟩
  case round =>
    obtain ⟨i, hi, rfl, kr, hall⟩ := hrel
    have HA := hid hall
    clear hall
    by_cases hin : i < n
    · obtain ⟨m, hm⟩ : ∃ m, l[i]? = some m := ⟨_, List.getElem?_eq_getElem (by rw [HN.out]; exact hin)⟩
      obtain ⟨B, off, a, cp, rfl, mc⟩ := HR.out wr kr i m hm
      have hbd : (0 : Int) ≤ (i : Int) ∧ (i : Int) < (n : Int) := by omega
      have hbd2 : (i : Int) < (n : Int) := by omega
      have z2 : IntKind.i64.wrap ((i : Int) + 1) = (i : Int) + 1 := by have := HLC.out; rw [wrap_i64]; omega
      obtain ⟨c0, c1, c2, c3, sl⟩ := mc
      obtain ⟨r, c, nn, L⟩ := m
      dsimp only at c0 c1 c2 c3 sl
      obtain ⟨D, hD⟩ : ∃ D, wr.heap.size = D := ⟨_, rfl⟩
      obtain ⟨W1, hW1⟩ : ∃ W1, wr.alloc (.cells #[.int .i64 r, .int .i64 c, .int .i64 nn, .slice a L.length cp] 52) = W1 := ⟨_, rfl⟩
      have k1 : Kept wr W1 := by rw [← hW1]; exact (Kept.refl wr).alloc _ _
      have b1 : Bk W1 D [.int .i64 r, .int .i64 c, .int .i64 nn, .slice a L.length cp] := by rw [← hW1, ← hD]; exact Bk.new wr _ _
      have d0 := b1.c 0 _ rfl
      have d1 := b1.c 1 _ rfl
      have d2 := b1.c 2 _ rfl
      have d3 := b1.c 3 _ rfl
      have HC := hid (check_any r c nn a cp L W1 (sl.kept k1))
      have HK1 := hid (kr.trans k1)
      have HM := hid hm
      clear hm k1 HR
      have HB := hid (show ∀ u, Kept W1 u → Bk u D [.int .i64 r, .int .i64 c, .int .i64 nn, .slice a L.length cp] from fun u ku => b1.kept ku)
      have HSl := hid (show ∀ u, Kept wr u → Sl u (.slice a L.length cp) L from fun u ku => sl.kept ku)
      have HWK := hid (show Kept wr W1 by rw [← hW1]; exact (Kept.refl wr).alloc _ _)
      have HII := hid (show i < n ∧ True from ⟨hin, trivial⟩)
      clear sl b1 kr
      by_cases hck : ckM r c nn L = 0
      · rw [hck] at HC
        obtain ⟨hk1, hk2, hk3⟩ := ckM_ok hck
        have HV := hid hk3
        have hL1 : L.length ≤ 4096 := by have := (ckS_ok hk1).2.2.2; omega
        have HL1 := hid hL1
        clear hk1 hk2 hk3 hL1
        obtain ⟨N, hN⟩ : ∃ N, L.length = N := ⟨_, rfl⟩
        obtain ⟨f, hf⟩ : ∃ f : Nat → Int, ∀ i, L.getD i 0 = f i := ⟨_, fun _ => rfl⟩
        have HRd : Hid (∀ u j, Kept wr u → j < N → ∃ b off, a = some ⟨b, off, none⟩ ∧ u.cell? ⟨b, off + j, none⟩ = some (.int .i64 (f j))) := fun u j ku hj => by
          obtain ⟨ao', cap', e, -, -, hr⟩ := HSl.out u ku
          cases e
          obtain ⟨b, off, e2, -, hrd⟩ := hr (by intro e; rw [e] at hN; simp at hN; omega)
          exact ⟨b, off, e2, by rw [← hf]; exact hrd j (by omega)⟩
        have HF : Hid (∀ j u, j < N → Calls Try.prog 63 #[.int .i64 (f j), .int .i64 nn] u fun e w' => e = .returned (.bool (fin (f j) nn)) ∧ Kept u w') := fun j u hj => by
          have := HV.out j (by omega)
          rw [hf] at this
          exact isFinite_any _ nn this u
        have HOk : Hid ((∀ x, x < N → fin (f x) nn = true) → matOk ⟨r, c, nn, L⟩) := fun h => ⟨hck, fun x hx => by
          show fin (L.getD x 0) nn = true
          rw [hf]; exact h x (by rw [← hN]; exact hx)⟩
        have HNo : Hid (∀ x, x < N → fin (f x) nn = false → ¬ matOk ⟨r, c, nn, L⟩) := fun x hx hf2 h => by
          have h3 : fin (L.getD x 0) nn = true := h.2 x (by show x < L.length; rw [hN]; exact hx)
          rw [hf, hf2] at h3
          cases h3
        rw [hN] at d3 HB HC
        have HN2 := hid hN
        clear hf hck hN HSl HV
        go_wp2_with (first | (go_at_call 62; refine HC.out.mono ?_; rintro e w5 ⟨rfl, k5⟩; obtain ⟨d0, d1, d2, d3⟩ : _ ∧ _ ∧ _ ∧ _ := ⟨(HB.out _ k5).c 0 _ rfl, (HB.out _ k5).c 1 _ rfl, (HB.out _ k5).c 2 _ rfl, (HB.out _ k5).c 3 _ rfl⟩) | (go_at_call 44; refine (wantForm_ok _).mono ?_; rintro e w6 ⟨rfl, k6⟩; obtain ⟨d0, d1, d2, d3⟩ : _ ∧ _ ∧ _ ∧ _ := ⟨(HB.out _ (k5.trans k6)).c 0 _ rfl, (HB.out _ (k5.trans k6)).c 1 _ rfl, (HB.out _ (k5.trans k6)).c 2 _ rfl, (HB.out _ (k5.trans k6)).c 3 _ rfl⟩))
        have k7 := hid (k5.trans k6)
        clear k5 k6 d0 d1 d2 d3 c0 c1 c2 c3
        go_loopw [19] (fun jv wr2 => ∃ j : Nat, j ≤ N ∧ jv = .int .i64 (j : Int) ∧ Kept W1 wr2 ∧ ∀ x, x < j → fin (f x) nn = true) (fun jv _ => N - (intOf jv).toNat)
        case atStart => exact ⟨0, Nat.zero_le _, rfl, k7.out, fun x hx => by omega⟩
        case round =>
          obtain ⟨j, hj, rfl, kr, hal2⟩ := hrel
          have HA2 := hid hal2
          clear hal2
          by_cases hjn : j < N
          · obtain ⟨b, off2, rfl, e0⟩ := HRd.out wr j (HWK.out.trans kr) hjn
            have d2 := (HB.out _ kr).c 2 _ rfl
            have hb1 : (0 : Int) ≤ (j : Int) ∧ (j : Int) < (N : Int) := by omega
            have hb2 : (j : Int) < (N : Int) := by omega
            have z3 : IntKind.i64.wrap ((j : Int) + 1) = (j : Int) + 1 := by have := HL1.out; have := HN2.out; rw [wrap_i64]; omega
            have HFj := hid (HF.out j wr hjn)
            have HKR := hid kr
            clear kr HRd hi
            cases hfb : fin (f j) nn with
            | true =>
              rw [hfb] at HFj
              have HA3 := hid (show ∀ x, x < j + 1 → fin (f x) nn = true from fun x hx => (Nat.lt_succ_iff_lt_or_eq.1 hx).elim (fun h => HA2.out x h) (fun h => by rw [h]; exact hfb))
              clear hfb
              generalize f j = fj at *
              go_wp2_with (first | (go_at_call 63; refine HFj.out.mono ?_; rintro e w5 ⟨rfl, k5⟩) | (go_at_call 44; refine (wantForm_ok _).mono ?_; rintro e w6 ⟨rfl, k6⟩))
              go_roundw
              case rel => exact ⟨j + 1, by omega, by go_num, (HKR.out.trans k5).trans k6, HA3.out⟩
              case measure => simp [intOf]; omega
            | false =>
              rw [hfb] at HFj
              have HNO := hid (HNo.out j hjn hfb)
              clear hfb
              generalize f j = fj at *
              go_wp2_with (first | (go_at_call 63; refine HFj.out.mono ?_; rintro e w5 ⟨rfl, k5⟩) | (go_at_call 44; refine (wantForm_no _).mono ?_; rintro e w6 ⟨rfl, k6⟩))
              refine ⟨rfl, ?_, .inr ⟨rfl, fun h => HNO.out (h i _ HM.out)⟩⟩
              exact HK1.out.trans ((HKR.out.trans k5).trans k6)
          · obtain rfl : j = N := by omega
            have hge : ¬ ((j : Int) < (j : Int)) := by omega
            have HKR := hid kr
            have HOK := hid (HOk.out HA2.out)
            clear kr
            go_wp2_with fail
            go_roundw
            case rel => exact ⟨i + 1, by have := HII.out.1; omega, by go_num, HK1.out.trans HKR.out, fun x m hx hm2 => (Nat.lt_succ_iff_lt_or_eq.1 hx).elim (fun h => HA.out x m h hm2) (fun h => by subst h; have e := HM.out; rw [e] at hm2; cases hm2; exact HOK.out)⟩
            case measure => simp [intOf]; omega
      · have hckb : (ckM r c nn L == 0) = false := by simpa using hck
        have HNO := hid (show ¬ matOk ⟨r, c, nn, L⟩ from fun h => hck h.1)
        clear hck
        generalize ckM r c nn L = ck at *
        go_wp2_with (first | (go_at_call 62; refine HC.out.mono ?_; rintro e w5 ⟨rfl, k5⟩) | (go_at_call 44; refine (wantForm_no _).mono ?_; rintro e w6 ⟨rfl, k6⟩))
        exact ⟨rfl, HK1.out.trans (k5.trans k6), .inr ⟨rfl, fun h => HNO.out (h i _ HM.out)⟩⟩
    · obtain rfl : i = n := by omega
      have hge : ¬ ((i : Int) < (i : Int)) := by omega
      go_wp2_with fail
      go_end0
      exact ⟨kr, .inl ⟨rfl, fun x m hx => HA.out x m (by have := (List.getElem?_eq_some_iff.1 hx).1; have := HN.out; omega) hx⟩⟩
end Go.Proofs.Ytphkdkenopkbbaa
