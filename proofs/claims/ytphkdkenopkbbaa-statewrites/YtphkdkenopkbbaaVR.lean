/- Package state: a writer puts a list of matrices. -/
import Derived.Test.YtphkdkenopkbbaaVQ
import Derived.Test.YtphkdkenopkbbaaVO
namespace Go.Proofs.Ytphkdkenopkbbaa
open Go.ChangeShapes Go.WideShapes Go.ChangeAt Go.RowKit
set_option linter.unusedVariables false
set_option linter.unusedSimpArgs false

def wbits (k : Nat) : List Int → List Int
  | [] => []
  | b :: L => le k b ++ wbits k L
def wm (m : Mat) : List Int := le 1 m.n ++ le 2 m.r ++ le 2 m.c ++ wbits (Int.tdiv m.n 8).toNat m.L
def wls : List Mat → List Int
  | [] => []
  | m :: l => wm m ++ wls l
theorem wbits_app (k : Nat) (L M : List Int) : wbits k (L ++ M) = wbits k L ++ wbits k M := by
  induction L with
  | nil => rfl
  | cons a L ih => show le k a ++ wbits k (L ++ M) = le k a ++ wbits k L ++ wbits k M; rw [ih, List.append_assoc]
theorem wbits_len (k : Nat) (L : List Int) : (wbits k L).length = k * L.length := by
  induction L with
  | nil => rfl
  | cons a L ih => show (le k a ++ wbits k L).length = k * (L.length + 1); rw [List.length_append, le_len, ih, Nat.mul_succ]; omega
theorem wbits_step (k : Nat) (L : List Int) (j : Nat) (hj : j < L.length) : wbits k (L.take (j + 1)) = wbits k (L.take j) ++ le k (L.getD j 0) := by
  have e : L.getD j 0 = L[j] := by simp [List.getD_eq_getElem?_getD, List.getElem?_eq_getElem hj]
  rw [List.take_succ_eq_append_getElem hj, wbits_app, e]
  simp [wbits]
theorem wls_app (l k : List Mat) : wls (l ++ k) = wls l ++ wls k := by
  induction l with
  | nil => rfl
  | cons a l ih => show wm a ++ wls (l ++ k) = wm a ++ wls l ++ wls k; rw [ih, List.append_assoc]
theorem wls_step {l : List Mat} (i : Nat) (m : Mat) (h : l[i]? = some m) : wls (l.take (i + 1)) = wls (l.take i) ++ wm m := by
  obtain ⟨hi, rfl⟩ := List.getElem?_eq_some_iff.1 h
  rw [List.take_succ_eq_append_getElem hi, wls_app]
  simp [wls]
theorem wm_len {m : Mat} (h : matOk m) : ((wm m).length : Int) = szM m := by
  obtain ⟨-, -, s3, -, -, -, -, -, -, s⟩ := szM_rng h
  rw [s]
  unfold wm
  rw [List.length_append, List.length_append, List.length_append, le_len, le_len, le_len, wbits_len]
  rcases s3 with e | e
  · rw [e, show (Int.tdiv 64 8).toNat = 8 from rfl, show Int.tdiv 64 8 = 8 from rfl]; omega
  · rw [e, show (Int.tdiv 32 8).toNat = 4 from rfl, show Int.tdiv 32 8 = 4 from rfl]; omega
theorem wls_len {l : List Mat} (h : Oks l) : ((wls l).length : Int) = szl l := by
  induction l with
  | nil => rfl
  | cons a l ih =>
    have h1 := wm_len (h 0 a rfl)
    have h2 := ih (fun i m hi => h (i + 1) m (by simpa using hi))
    show ((wm a ++ wls l).length : Int) = szM a + szl l
    rw [List.length_append]
    omega
theorem wls_room {l : List Mat} (i : Nat) (m : Mat) (h : l[i]? = some m) : (wls (l.take i)).length + (wm m).length ≤ (wls l).length := by
  have e : wls l = wls (l.take (i + 1)) ++ wls (l.drop (i + 1)) := by rw [← wls_app, List.take_append_drop]
  rw [e, wls_step i m h, List.length_append, List.length_append]
  omega

set_option maxHeartbeats 8000000 in
set_option maxRecDepth 100000 in
theorem wmatrices_any (k : Nat) (ki : Int) (hki : (k : Int) = ki) (hk : k ≤ 8) (v : Value) (l : List Mat) (hlen : l.length ≤ 100) (hok : Oks l) (w0 : World) (hL : MlI w0 v l) (Wb g C : Nat) (hC : C ≤ 100000000) (hWb : w0.heap.size ≤ Wb) (hg : w0.heap.size ≤ g) (V : List Int) (hr : V.length + k + (wls l).length ≤ C) (w : World) (hk0 : Kept w0 w) (hW : WV w Wb g C V) :
    Calls Try.prog 49 #[.pointer (some ⟨Wb, 0, none⟩), v, .int .i64 ki] w fun e w' => e = .returned (.tuple #[]) ∧ KX (fun b => b = Wb ∨ b = g) w w' ∧ WV w' Wb g C (V ++ le k l.length ++ wls l) := by
  obtain ⟨ao, cap, rfl, hlc, hr2⟩ := hL
  have HR : Hid (∀ (i : Nat) (m : Mat), l[i]? = some m → ∃ B off a cp, ao = some ⟨B, off, none⟩ ∧ ∀ u, Kept w0 u → MC u B (off + i * 4) a cp m) := fun i m hi => by
    obtain ⟨B, off, e, h⟩ := hr2 (by intro e; rw [e] at hi; simp at hi)
    obtain ⟨a, cp, hm⟩ := h i m hi
    exact ⟨B, off, a, cp, e, fun u ku => hm.kept ku⟩
  have HN : Hid (∀ (k : Nat) (ki n : Int) (u : World) (V : List Int), (k : Int) = ki → k ≤ 8 → V.length + k ≤ C → WV u Wb g C V → Calls Try.prog 48 #[.pointer (some ⟨Wb, 0, none⟩), .int .i64 n, .int .i64 ki] u fun e w' => e = .returned (.tuple #[]) ∧ KX (fun b => b = Wb ∨ b = g) u w' ∧ WV w' Wb g C (V ++ le k n)) := fun k ki n u V h1 h2 h3 h4 => wnumber_any k ki n h1 h2 Wb g C hC V h3 u h4
  have HKX : Hid (∀ u, KX (fun b => b = Wb ∨ b = g) w u → Kept w0 u) := fun u ku => kept_of_kx hk0 ku (fun b hb => by rcases hb with rfl | rfl <;> assumption)
  have HO := hid hok
  have HC := hid hC
  subst hki
  have HK1 := hid (HN.out k k l.length w V rfl hk (by omega) hW)
  have HRM := hid hr
  have HL := hid (show l.length ≤ 100 ∧ l.length ≤ cap from ⟨hlen, hlc⟩)
  clear hr2 hk0 hok hC hWb hg hr hlen hlc hW hk
  obtain ⟨n, hn⟩ : ∃ n, l.length = n := ⟨_, rfl⟩
  rw [hn] at HK1 HL ⊢
  have HLN := hid hn
  clear hn
  go_enter Try.func49, Try.ntmps49
  go_wp2_with (first | (go_at_call 48; refine HK1.out.mono ?_; rintro e w1 ⟨rfl, kx1, wv1⟩))
  have hkx1 := hid kx1
  have hwv1 := hid wv1
  clear kx1 wv1 HK1
  go_loopw [17] (fun iv wr => ∃ i : Nat, i ≤ n ∧ iv = .int .i64 (i : Int) ∧ KX (fun b => b = Wb ∨ b = g) w wr ∧ WV wr Wb g C (V ++ le k n ++ wls (l.take i))) (fun iv _ => n - (intOf iv).toNat)
  case atStart => exact ⟨0, Nat.zero_le _, rfl, hkx1.out, by simpa [wls] using hwv1.out⟩
  case round =>
    obtain ⟨i, hi, rfl, kx, wv⟩ := hrel
    by_cases hin : i < n
    · obtain ⟨m, hm⟩ : ∃ m, l[i]? = some m := ⟨_, List.getElem?_eq_getElem (by rw [HLN.out]; exact hin)⟩
      obtain ⟨B, off, a, cp, rfl, hmc⟩ := HR.out i m hm
      have mc := hmc wr (HKX.out wr kx)
      have HMC := hid hmc
      clear hmc
      have hbd : (0 : Int) ≤ (i : Int) ∧ (i : Int) < (n : Int) := by omega
      have hbd2 : (i : Int) < (n : Int) := by omega
      have z2 : IntKind.i64.wrap ((i : Int) + 1) = (i : Int) + 1 := by have := HL.out; rw [wrap_i64]; omega
      have hrm := wls_room i m hm
      have hst := hid (wls_step i m hm)
      have hmo := HO.out i m hm
      obtain ⟨-, -, s3, s4, s5, -⟩ := szM_rng hmo
      obtain ⟨c0, c1, c2, c3, sl⟩ := mc
      obtain ⟨kk, hkk⟩ : ∃ kk, (Int.tdiv m.n 8).toNat = kk := ⟨_, rfl⟩
      have hk8 : kk ≤ 8 ∧ Int.tdiv m.n 8 = (kk : Int) := by rcases s3 with e | e <;> rw [e] at hkk ⊢ <;> subst hkk <;> exact ⟨by decide, rfl⟩
      have hwm : wm m = le 1 m.n ++ le 2 m.r ++ le 2 m.c ++ wbits kk m.L := by rw [← hkk]; rfl
      have hwml : (wm m).length = 5 + kk * m.L.length := by
        rw [hwm, List.length_append, List.length_append, List.length_append, le_len, le_len, le_len, wbits_len]
      have hVl : (V ++ le k n ++ wls (l.take i)).length + (5 + kk * m.L.length) ≤ C := by
        have := HRM.out
        rw [List.length_append, List.length_append, le_len]
        omega
      obtain ⟨Vi, hVi⟩ : ∃ Vi, V ++ le k n ++ wls (l.take i) = Vi := ⟨_, rfl⟩
      rw [hVi] at wv hVl
      have HVi := hid (show V ++ le k n ++ wls (l.take (i + 1)) = Vi ++ (le 1 m.n ++ le 2 m.r ++ le 2 m.c ++ wbits kk m.L) by rw [hst.out, hwm, ← List.append_assoc, hVi])
      obtain ⟨r, c, nn, L⟩ := m
      dsimp only at c0 c1 c2 c3 sl HVi s3 s4 s5 hVl hk8
      obtain ⟨D, hD⟩ : ∃ D, wr.heap.size = D := ⟨_, rfl⟩
      obtain ⟨N, hN⟩ : ∃ N, L.length = N := ⟨_, rfl⟩
      rw [hN] at c3 hVl s4 s5
      obtain ⟨W1, hW1⟩ : ∃ W1, wr.alloc (.cells #[.int .i64 r, .int .i64 c, .int .i64 nn, .slice a N cp] 52) = W1 := ⟨_, rfl⟩
      have k1 : Kept wr W1 := by rw [← hW1]; exact (Kept.refl wr).alloc _ _
      have b1 : Bk W1 D [.int .i64 r, .int .i64 c, .int .i64 nn, .slice a N cp] := by rw [← hW1, ← hD]; exact Bk.new wr _ _
      have hDx : Wb < D ∧ g < D := by rw [← hD]; exact ⟨wv.lt, wv.o.lt⟩
      have HBB := hid (show ∀ u, KX (fun b => b = Wb ∨ b = g) W1 u → Bk u D [.int .i64 r, .int .i64 c, .int .i64 nn, .slice a N cp] from fun u ku => b1.kx ku (by omega))
      obtain ⟨f, hf⟩ : ∃ f : Nat → Int, ∀ i, L.getD i 0 = f i := ⟨_, fun _ => rfl⟩
      have HSl : Hid (∀ u j, Kept w0 u → j < N → ∃ b off2, a = some ⟨b, off2, none⟩ ∧ u.cell? ⟨b, off2 + j, none⟩ = some (.int .i64 (f j))) := fun u j ku hj => by
        obtain ⟨ao', cap', e, -, -, hr⟩ := (HMC.out u ku).sl
        cases e
        obtain ⟨b, off2, e2, -, hrd⟩ := hr (by intro e; rw [show L = [] from e] at hN; simp at hN; omega)
        exact ⟨b, off2, e2, by rw [← hf]; exact hrd j (by show j < L.length; omega)⟩
      have HW1 := hid (kx.trans (k1.kx _))
      have wv1 := hid (wv.kept k1)
      have HST := hid (show ∀ j, j < N → wbits kk (L.take (j + 1)) = wbits kk (L.take j) ++ le kk (f j) from fun j hj => by rw [wbits_step kk L j (by omega), hf])
      have HTK := hid (show L.take N = L from List.take_of_length_le (by omega))
      have hkt := hk8.2
      have hkw : wrap64 (kk : Int) = (kk : Int) := by have := hk8.1; unfold wrap64; omega
      have HKK := hid (show kk ≤ 8 ∧ N ≤ 4096 ∧ 1 ≤ N ∧ Vi.length + (5 + kk * N) ≤ C from ⟨hk8.1, s4, s5, hVl⟩)
      have d0 := b1.c 0 _ rfl
      have d1 := b1.c 1 _ rfl
      have d2 := b1.c 2 _ rfl
      have d3 := b1.c 3 _ rfl
      have HIN := hid hin
      have K1 := hid (HN.out 1 1 nn W1 Vi rfl (by decide) (by omega) wv1.out)
      clear hrm hst hmo s3 s4 s5 sl hkk hwm hwml hVl hVi hN hf hm hk8 b1 hDx kx k1 wv hi hin HR HMC
      go_wp2_with fail
      go_at_call 48
      refine K1.out.mono ?_
      rintro e w2 ⟨rfl, x2, v2⟩
      clear d0 d1 d2 d3 c0 c1 c2 c3 K1
      have B2 := hid (HBB.out w2 x2)
      have d0 := B2.out.c 0 _ rfl
      have X2 := hid x2
      have K2 := hid (HN.out 2 2 r w2 (Vi ++ le 1 nn) rfl (by decide) (by have := HKK.out; rw [List.length_append, le_len]; omega) v2)
      clear x2 v2
      go_wp2_with fail
      go_at_call 48
      refine K2.out.mono ?_
      rintro e w3 ⟨rfl, x3, v3⟩
      have X3 := hid (X2.out.trans x3)
      have B3 := hid (HBB.out w3 X3.out)
      clear d0
      have d1 := B3.out.c 1 _ rfl
      have K3 := hid (HN.out 2 2 c w3 (Vi ++ le 1 nn ++ le 2 r) rfl (by decide) (by have := HKK.out; rw [List.length_append, List.length_append, le_len, le_len]; omega) v3)
      clear x3 v3 K2
      go_wp2_with fail
      go_at_call 48
      refine K3.out.mono ?_
      rintro e w4 ⟨rfl, x4, v4⟩
      have X4 := hid (X3.out.trans x4)
      have B4 := hid (HBB.out w4 X4.out)
      clear d1
      have d3 := B4.out.c 3 _ rfl
      have V4 := hid v4
      clear x4 v4 K3
      go_wp2_with fail
      go_loopw [36] (fun jv wr => ∃ j : Nat, j ≤ N ∧ jv = .int .i64 (j : Int) ∧ KX (fun b => b = Wb ∨ b = g) W1 wr ∧ WV wr Wb g C (Vi ++ le 1 nn ++ le 2 r ++ le 2 c ++ wbits kk (L.take j))) (fun jv _ => N - (intOf jv).toNat)
      case atStart => exact ⟨0, Nat.zero_le _, rfl, X4.out, by simpa [wbits] using V4.out⟩
      case round =>
        clear X2 X3 X4 V4 B2 B3 B4 d3
        obtain ⟨j, hj, rfl, kx, wv⟩ := hrel
        by_cases hjn : j < N
        · obtain ⟨b, off2, rfl, e0⟩ := HSl.out wr j (HKX.out wr (HW1.out.trans kx)) hjn
          have d2 := (HBB.out wr kx).c 2 _ rfl
          have hb1 : (0 : Int) ≤ (j : Int) ∧ (j : Int) < (N : Int) := by omega
          have hb2 : (j : Int) < (N : Int) := by omega
          have z3 : IntKind.i64.wrap ((j : Int) + 1) = (j : Int) + 1 := by have := HKK.out; rw [wrap_i64]; omega
          have hroom : (Vi ++ le 1 nn ++ le 2 r ++ le 2 c ++ wbits kk (L.take j)).length + kk ≤ C := by
            have h1 := HKK.out
            have h2 : kk * (L.take j).length ≤ kk * j := Nat.mul_le_mul_left _ (by rw [List.length_take]; exact Nat.min_le_left _ _)
            have h3 : kk * j + kk ≤ kk * N := by rw [← Nat.mul_succ]; exact Nat.mul_le_mul_left _ hjn
            rw [List.length_append, List.length_append, List.length_append, List.length_append, le_len, le_len, le_len, wbits_len]
            omega
          have K := hid (HN.out kk (kk : Int) (f j) wr _ rfl HKK.out.1 hroom wv)
          have hkx := hid kx
          have hst := hid (HST.out j hjn)
          have hjn2 := hid hjn
          clear hroom kx wv HSl HST hj hjn
          go_wp2_with (first | (go_at_call 48; refine K.out.mono ?_; rintro e w5 ⟨rfl, x5, v5⟩))
          go_roundw
          case rel => exact ⟨j + 1, by have := hjn2.out; omega, by go_num, hkx.out.trans x5, by rw [hst.out, ← List.append_assoc]; exact v5⟩
          case measure => have := hjn2.out; simp [intOf]; omega
        · obtain rfl : j = N := by omega
          have hge : ¬ ((j : Int) < (j : Int)) := by omega
          have hkx := hid (HW1.out.trans kx)
          have hwv := hid (show WV wr Wb g C (V ++ le k n ++ wls (l.take (i + 1))) by rw [HVi.out]; rw [HTK.out] at wv; simpa only [List.append_assoc] using wv)
          clear kx wv
          go_wp2_with fail
          go_roundw
          case rel => exact ⟨i + 1, by have := HIN.out; omega, by go_num, hkx.out, hwv.out⟩
          case measure => have := HIN.out; simp [intOf]; omega
    · obtain rfl : i = n := by omega
      have hge : ¬ ((i : Int) < (i : Int)) := by omega
      have hkx := hid kx
      have hwv := hid (show WV wr Wb g C (V ++ le k i ++ wls l) by rw [List.take_of_length_le (by rw [HLN.out]; omega)] at wv; exact wv)
      clear kx wv
      go_wp2_with fail
      go_end0
      exact ⟨rfl, hkx.out, by first | exact hwv.out | (rw [← List.append_assoc]; exact hwv.out)⟩
end Go.Proofs.Ytphkdkenopkbbaa
