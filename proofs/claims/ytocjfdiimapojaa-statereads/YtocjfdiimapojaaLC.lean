/- What is kept of states that were read: all is what it was, marked, grown, looked at. -/
import Derived.Test.YtocjfdiimapojaaLA
import Derived.Test.YtocjfdiimapojaaLB
import Derived.Test.YtocjfdiimapojaaMG
import Derived.Test.YtocjfdiimapojaaMH
namespace Go.Proofs.Ytocjfdiimapojaa
open Go.ChangeShapes Go.WideShapes Go.ChangeAt Go.RowKit
set_option linter.unusedVariables false
set_option linter.unusedSimpArgs false

set_option maxHeartbeats 16000000 in
set_option maxRecDepth 100000 in
theorem apartS (kb S1 C1 S2 C2 : Nat) (xs ys : List KE) (bs : List Value) (Hm : Nat) (hE : Env.st ⟨kb, S1, C1, S2, C2, .slice none 0 0, .slice none 0 0, xs, ys, .slice none 0 0, bs, Hm⟩) (hbs : bs = xs.flatMap (fun x => bslM x.V)) (hln : xs.length = ys.length) (hsm : ∀ (i : Nat) (x y : KE), xs[i]? = some x → ys[i]? = some y → x.ms.length = y.ms.length ∧ ∀ j c, j < x.ms.length → c < 3 → ∃ z : Int, x.V[j * 4 + c]? = some (.int .i64 z) ∧ y.V[j * 4 + c]? = some (.int .i64 z)) (u : World)
    (hk : Bk u kb [.slice none 0 0, .slice none 0 0, .slice (some ⟨S1, 0, none⟩) xs.length C1, .slice (some ⟨S2, 0, none⟩) ys.length C2]) (hs1 : OwnS u S1 C1 7 35 (xs.flatMap row7)) (hs2 : OwnS u S2 C2 7 35 (ys.flatMap row7)) (hx : ∀ z ∈ xs ++ ys, z.ok u)
    (hb : ∀ (i : Nat) (v : Value), bs[i]? = some v → ∃ g n L, v = .slice (some ⟨g, 0, none⟩) n n ∧ L.length = n ∧ n ≤ 4096 ∧ Own u g n L) (hHm : Hm ≤ u.heap.size)
    (hsame : ∀ (i : Nat) (x y : KE), xs[i]? = some x → ys[i]? = some y → ∀ w, Kept u w → Calls Try.prog 13 #[x.val, y.val] w fun e w' => e = .returned (.bool true) ∧ Kept w w') :
    Calls Try.prog 7 #[.pointer (some ⟨kb, 0, none⟩)] u fun e w' => e = .returned (.bool true) ∧ KX (fun b => Hm ≤ b) u w' := by
  have HLs : Hid (∀ w, Kept u w → Calls Try.prog 19 #[.pointer (some ⟨kb, 0, none⟩)] w fun e w' => e = .returned (.bool true) ∧ KX (fun b => Hm ≤ b) w w') := fun w k => lists_any kb S1 C1 S2 C2 _ _ xs ys bs Hm hE hbs w (hk.kept k) (hs1.kept k) (hs2.kept k) (fun z hz => (hx z hz).kept k) (fun i v hv => by
    obtain ⟨g, n, L, a1, a2, a3, a4⟩ := hb i v hv
    exact ⟨g, n, L, a1, a2, a3, ownS1.1 ((ownS1.2 a4).kept k)⟩) (Nat.le_trans hHm k.below.size) (fun w' q1 q2 q3 q4 => shapes_any kb S1 C1 S2 C2 _ _ xs ys hln hE.n.1 hsm w' q1 q2 q3 q4)
  have HBy := hid (fun w (k : Kept u w) => bytes0 kb _ _ _ w (hk.kept k))
  have hn9 := hE.n.1
  rw [← hln] at hk
  obtain ⟨n, hn⟩ : ∃ n, xs.length = n := ⟨_, rfl⟩
  rw [hn] at hk hn9
  have HNN := hid (show xs.length = n ∧ ys.length = n ∧ n ≤ 1000 by omega)
  have HC : Hid (∀ w, Kept u w → Bk w kb [.slice none 0 0, .slice none 0 0, .slice (some ⟨S1, 0, none⟩) n C1, .slice (some ⟨S2, 0, none⟩) n C2] ∧ OwnS w S1 C1 7 35 (xs.flatMap row7) ∧ OwnS w S2 C2 7 35 (ys.flatMap row7)) := fun w k => ⟨hk.kept k, hs1.kept k, hs2.kept k⟩
  have HSm := hid hsame
  have c0 := hk.c 0 _ rfl
  clear hk hs1 hs2 hx hb hHm hsame hsm hbs hE hln hn hn9
  go_enter Try.func7, Try.ntmps7
  go_wp2_with fail
  go_loopw [3] (fun iv wr => iv = .int .i64 0 ∧ Kept u wr) (fun iv _ => 0)
  case atStart => exact ⟨rfl, Kept.refl _⟩
  case round =>
    clear c0
    obtain ⟨rfl, kr⟩ := hrel
    have c0 := (HC.out _ kr).1.c 0 _ rfl
    have KR := hid kr
    clear kr
    go_wp2_with fail
    go_loopw [4] (fun iv wr => ∃ i : Nat, i ≤ n ∧ iv = .int .i64 (i : Int) ∧ Kept u wr) (fun iv _ => n - (intOf iv).toNat)
    case atStart => exact ⟨0, Nat.zero_le _, rfl, KR.out⟩
    case round =>
      clear KR c0
      obtain ⟨i, hi, rfl, kr⟩ := hrel
      have c2 := (HC.out _ kr).1.c 2 _ rfl
      have KR := hid kr
      by_cases hin : i < n
      · obtain ⟨x, hxi⟩ : ∃ x, xs[i]? = some x := ⟨_, List.getElem?_eq_getElem (by have := HNN.out; omega)⟩
        obtain ⟨y, hyi⟩ : ∃ y, ys[i]? = some y := ⟨_, List.getElem?_eq_getElem (by have := HNN.out; omega)⟩
        have HF : Hid (∀ w, Kept u w → w.cell? ⟨kb, 2, none⟩ = some (.slice (some ⟨S1, 0, none⟩) n C1) ∧ w.cell? ⟨kb, 3, none⟩ = some (.slice (some ⟨S2, 0, none⟩) n C2) ∧ w.cell? ⟨S1, i * 7, none⟩ = some (.int .i64 x.s.a) ∧ w.cell? ⟨S1, i * 7 + 1, none⟩ = some (.int .i64 x.s.b) ∧ w.cell? ⟨S1, i * 7 + 2, none⟩ = some (.int .i64 x.s.d) ∧ w.cell? ⟨S1, i * 7 + 3, none⟩ = some (x.pv) ∧ w.cell? ⟨S1, i * 7 + 4, none⟩ = some (x.qv) ∧ w.cell? ⟨S1, i * 7 + 5, none⟩ = some (.int .i64 x.s.lo) ∧ w.cell? ⟨S1, i * 7 + 6, none⟩ = some (.int .i64 x.s.ra) ∧ w.cell? ⟨S2, i * 7, none⟩ = some (.int .i64 y.s.a) ∧ w.cell? ⟨S2, i * 7 + 1, none⟩ = some (.int .i64 y.s.b) ∧ w.cell? ⟨S2, i * 7 + 2, none⟩ = some (.int .i64 y.s.d) ∧ w.cell? ⟨S2, i * 7 + 3, none⟩ = some (y.pv) ∧ w.cell? ⟨S2, i * 7 + 4, none⟩ = some (y.qv) ∧ w.cell? ⟨S2, i * 7 + 5, none⟩ = some (.int .i64 y.s.lo) ∧ w.cell? ⟨S2, i * 7 + 6, none⟩ = some (.int .i64 y.s.ra)) := fun w k => by
          obtain ⟨q1, q2, q3⟩ := HC.out w k
          exact ⟨q1.c 2 _ rfl, q1.c 3 _ rfl, q2.cell (i * 7 + 0) _ (rows7_get xs i x 0 hxi (by decide)), q2.cell (i * 7 + 1) _ (rows7_get xs i x 1 hxi (by decide)), q2.cell (i * 7 + 2) _ (rows7_get xs i x 2 hxi (by decide)), q2.cell (i * 7 + 3) _ (rows7_get xs i x 3 hxi (by decide)), q2.cell (i * 7 + 4) _ (rows7_get xs i x 4 hxi (by decide)), q2.cell (i * 7 + 5) _ (rows7_get xs i x 5 hxi (by decide)), q2.cell (i * 7 + 6) _ (rows7_get xs i x 6 hxi (by decide)), q3.cell (i * 7 + 0) _ (rows7_get ys i y 0 hyi (by decide)), q3.cell (i * 7 + 1) _ (rows7_get ys i y 1 hyi (by decide)), q3.cell (i * 7 + 2) _ (rows7_get ys i y 2 hyi (by decide)), q3.cell (i * 7 + 3) _ (rows7_get ys i y 3 hyi (by decide)), q3.cell (i * 7 + 4) _ (rows7_get ys i y 4 hyi (by decide)), q3.cell (i * 7 + 5) _ (rows7_get ys i y 5 hyi (by decide)), q3.cell (i * 7 + 6) _ (rows7_get ys i y 6 hyi (by decide))⟩
        have HSi := hid (HSm.out i x y hxi hyi)
        have d1 : decide ((i : Int) < (n : Int)) = true := decide_eq_true (by omega)
        have d2 : decide (i < n) = true := decide_eq_true hin
        have hbd : (0 : Int) ≤ (i : Int) ∧ (i : Int) < (n : Int) := by omega
        have z9 : IntKind.i64.wrap ((i : Int) + 1) = (i : Int) + 1 := by have := HNN.out; rw [wrap_i64]; omega
        have HII := hid hin
        clear hin hi hxi hyi
        go_wp2_with fail
        clear c2
        refine wp_region_late [] (fun u => u.cell? ⟨kb, 2, none⟩ = some (.slice (some ⟨S1, 0, none⟩) n C1) ∧ u.cell? ⟨kb, 3, none⟩ = some (.slice (some ⟨S2, 0, none⟩) n C2) ∧ u.cell? ⟨S1, i * 7, none⟩ = some (.int .i64 x.s.a) ∧ u.cell? ⟨S1, i * 7 + 1, none⟩ = some (.int .i64 x.s.b) ∧ u.cell? ⟨S1, i * 7 + 2, none⟩ = some (.int .i64 x.s.d) ∧ u.cell? ⟨S1, i * 7 + 3, none⟩ = some (x.pv) ∧ u.cell? ⟨S1, i * 7 + 4, none⟩ = some (x.qv) ∧ u.cell? ⟨S1, i * 7 + 5, none⟩ = some (.int .i64 x.s.lo) ∧ u.cell? ⟨S1, i * 7 + 6, none⟩ = some (.int .i64 x.s.ra) ∧ u.cell? ⟨S2, i * 7, none⟩ = some (.int .i64 y.s.a) ∧ u.cell? ⟨S2, i * 7 + 1, none⟩ = some (.int .i64 y.s.b) ∧ u.cell? ⟨S2, i * 7 + 2, none⟩ = some (.int .i64 y.s.d) ∧ u.cell? ⟨S2, i * 7 + 3, none⟩ = some (y.pv) ∧ u.cell? ⟨S2, i * 7 + 4, none⟩ = some (y.qv) ∧ u.cell? ⟨S2, i * 7 + 5, none⟩ = some (.int .i64 y.s.lo) ∧ u.cell? ⟨S2, i * 7 + 6, none⟩ = some (.int .i64 y.s.ra)) (by kernel_rfl) (show wr.drew.cell? ⟨kb, 2, none⟩ = some (.slice (some ⟨S1, 0, none⟩) n C1) ∧ wr.drew.cell? ⟨kb, 3, none⟩ = some (.slice (some ⟨S2, 0, none⟩) n C2) ∧ wr.drew.cell? ⟨S1, i * 7, none⟩ = some (.int .i64 x.s.a) ∧ wr.drew.cell? ⟨S1, i * 7 + 1, none⟩ = some (.int .i64 x.s.b) ∧ wr.drew.cell? ⟨S1, i * 7 + 2, none⟩ = some (.int .i64 x.s.d) ∧ wr.drew.cell? ⟨S1, i * 7 + 3, none⟩ = some (x.pv) ∧ wr.drew.cell? ⟨S1, i * 7 + 4, none⟩ = some (x.qv) ∧ wr.drew.cell? ⟨S1, i * 7 + 5, none⟩ = some (.int .i64 x.s.lo) ∧ wr.drew.cell? ⟨S1, i * 7 + 6, none⟩ = some (.int .i64 x.s.ra) ∧ wr.drew.cell? ⟨S2, i * 7, none⟩ = some (.int .i64 y.s.a) ∧ wr.drew.cell? ⟨S2, i * 7 + 1, none⟩ = some (.int .i64 y.s.b) ∧ wr.drew.cell? ⟨S2, i * 7 + 2, none⟩ = some (.int .i64 y.s.d) ∧ wr.drew.cell? ⟨S2, i * 7 + 3, none⟩ = some (y.pv) ∧ wr.drew.cell? ⟨S2, i * 7 + 4, none⟩ = some (y.qv) ∧ wr.drew.cell? ⟨S2, i * 7 + 5, none⟩ = some (.int .i64 y.s.lo) ∧ wr.drew.cell? ⟨S2, i * 7 + 6, none⟩ = some (.int .i64 y.s.ra) from HF.out _ (kr.trans (Kept.refl wr).drew)) (fun hHeld => ?_)
        refine wpAnyD_take (i := 0) (v := ?_) rfl (by kernel_rfl) (by kernel_rfl) (by kernel_rfl) (by kernel_rfl) (fun _ _ _ h => h) (Or.inl ⟨by rfl, ?hys0⟩) hHeld ?_
        case hys0 => (intro w hSw; (try dsimp only at hSw); go_simp; try (with_reducible rfl))
        (try simp only [Act.put, List.getElem_toArray, List.getElem_cons_succ, List.getElem_cons_zero, List.setIfInBounds_toArray, List.set_cons_zero, List.set_cons_succ])
        refine wpAnyD_take (i := 1) (v := ?_) rfl (by kernel_rfl) (by kernel_rfl) (by kernel_rfl) (by kernel_rfl) (fun _ _ _ h => h) (Or.inl ⟨by rfl, ?hys1⟩) hHeld ?_
        case hys1 => (intro w hSw; (try dsimp only at hSw); go_simp; try (with_reducible rfl))
        (try simp only [Act.put, List.getElem_toArray, List.getElem_cons_succ, List.getElem_cons_zero, List.setIfInBounds_toArray, List.set_cons_zero, List.set_cons_succ])
        refine wpAnyD_take (i := 2) (v := ?_) rfl (by kernel_rfl) (by kernel_rfl) (by kernel_rfl) (by kernel_rfl) (fun _ _ _ h => h) (Or.inl ⟨by rfl, ?hys2⟩) hHeld ?_
        case hys2 => (intro w hSw; (try dsimp only at hSw); go_simp; try (with_reducible rfl))
        (try simp only [Act.put, List.getElem_toArray, List.getElem_cons_succ, List.getElem_cons_zero, List.setIfInBounds_toArray, List.set_cons_zero, List.set_cons_succ])
        refine wpAnyD_take (i := 3) (v := ?_) rfl (by kernel_rfl) (by kernel_rfl) (by kernel_rfl) (by kernel_rfl) (fun _ _ _ h => h) (Or.inl ⟨by rfl, ?hys3⟩) hHeld ?_
        case hys3 => (intro w hSw; (try dsimp only at hSw); go_simp; try (with_reducible rfl))
        (try simp only [Act.put, List.getElem_toArray, List.getElem_cons_succ, List.getElem_cons_zero, List.setIfInBounds_toArray, List.set_cons_zero, List.set_cons_succ])
        refine wpAnyD_take (i := 4) (v := ?_) rfl (by kernel_rfl) (by kernel_rfl) (by kernel_rfl) (by kernel_rfl) (fun _ _ _ h => h) (Or.inl ⟨by rfl, ?hys4⟩) hHeld ?_
        case hys4 => (intro w hSw; (try dsimp only at hSw); go_simp; try (with_reducible rfl))
        (try simp only [Act.put, List.getElem_toArray, List.getElem_cons_succ, List.getElem_cons_zero, List.setIfInBounds_toArray, List.set_cons_zero, List.set_cons_succ])
        refine wpAnyD_take (i := 5) (v := ?_) rfl (by kernel_rfl) (by kernel_rfl) (by kernel_rfl) (by kernel_rfl) (fun _ _ _ h => h) (Or.inl ⟨by rfl, ?hys5⟩) hHeld ?_
        case hys5 => (intro w hSw; (try dsimp only at hSw); go_simp; try (with_reducible rfl))
        (try simp only [Act.put, List.getElem_toArray, List.getElem_cons_succ, List.getElem_cons_zero, List.setIfInBounds_toArray, List.set_cons_zero, List.set_cons_succ])
        refine wpAnyD_take (i := 6) (v := ?_) rfl (by kernel_rfl) (by kernel_rfl) (by kernel_rfl) (by kernel_rfl) (fun _ _ _ h => h) (Or.inl ⟨by rfl, ?hys6⟩) hHeld ?_
        case hys6 => (intro w hSw; (try dsimp only at hSw); go_simp; try (with_reducible rfl))
        (try simp only [Act.put, List.getElem_toArray, List.getElem_cons_succ, List.getElem_cons_zero, List.setIfInBounds_toArray, List.set_cons_zero, List.set_cons_succ])
        refine wpAnyD_take (i := 7) (v := ?_) rfl (by kernel_rfl) (by kernel_rfl) (by kernel_rfl) (by kernel_rfl) (fun _ _ _ h => h) (Or.inl ⟨by rfl, ?hys7⟩) hHeld ?_
        case hys7 => (intro w hSw; (try dsimp only at hSw); go_simp; try (with_reducible rfl))
        (try simp only [Act.put, List.getElem_toArray, List.getElem_cons_succ, List.getElem_cons_zero, List.setIfInBounds_toArray, List.set_cons_zero, List.set_cons_succ])
        refine wpAnyD_take (i := 8) (v := ?_) rfl (by kernel_rfl) (by kernel_rfl) (by kernel_rfl) (by kernel_rfl) (fun _ _ _ h => h) (Or.inl ⟨by rfl, ?hys8⟩) hHeld ?_
        case hys8 => (intro w hSw; (try dsimp only at hSw); go_simp; try (with_reducible rfl))
        (try simp only [Act.put, List.getElem_toArray, List.getElem_cons_succ, List.getElem_cons_zero, List.setIfInBounds_toArray, List.set_cons_zero, List.set_cons_succ])
        refine wpAnyD_take (i := 9) (v := ?_) rfl (by kernel_rfl) (by kernel_rfl) (by kernel_rfl) (by kernel_rfl) (fun _ _ _ h => h) (Or.inl ⟨by rfl, ?hys9⟩) hHeld ?_
        case hys9 => (intro w hSw; (try dsimp only at hSw); go_simp; try (with_reducible rfl))
        (try simp only [Act.put, List.getElem_toArray, List.getElem_cons_succ, List.getElem_cons_zero, List.setIfInBounds_toArray, List.set_cons_zero, List.set_cons_succ])
        refine wpAnyD_take (i := 10) (v := ?_) rfl (by kernel_rfl) (by kernel_rfl) (by kernel_rfl) (by kernel_rfl) (fun _ _ _ h => h) (Or.inl ⟨by rfl, ?hys10⟩) hHeld ?_
        case hys10 => (intro w hSw; (try dsimp only at hSw); go_simp; try (with_reducible rfl))
        (try simp only [Act.put, List.getElem_toArray, List.getElem_cons_succ, List.getElem_cons_zero, List.setIfInBounds_toArray, List.set_cons_zero, List.set_cons_succ])
        refine wpAnyD_take (i := 11) (v := ?_) rfl (by kernel_rfl) (by kernel_rfl) (by kernel_rfl) (by kernel_rfl) (fun _ _ _ h => h) (Or.inl ⟨by rfl, ?hys11⟩) hHeld ?_
        case hys11 => (intro w hSw; (try dsimp only at hSw); go_simp; try (with_reducible rfl))
        (try simp only [Act.put, List.getElem_toArray, List.getElem_cons_succ, List.getElem_cons_zero, List.setIfInBounds_toArray, List.set_cons_zero, List.set_cons_succ])
        refine wpAnyD_take (i := 12) (v := ?_) rfl (by kernel_rfl) (by kernel_rfl) (by kernel_rfl) (by kernel_rfl) (fun _ _ _ h => h) (Or.inl ⟨by rfl, ?hys12⟩) hHeld ?_
        case hys12 => (intro w hSw; (try dsimp only at hSw); go_simp; try (with_reducible rfl))
        (try simp only [Act.put, List.getElem_toArray, List.getElem_cons_succ, List.getElem_cons_zero, List.setIfInBounds_toArray, List.set_cons_zero, List.set_cons_succ])
        refine wpAnyD_take (i := 13) (v := ?_) rfl (by kernel_rfl) (by kernel_rfl) (by kernel_rfl) (by kernel_rfl) (fun _ _ _ h => h) (Or.inl ⟨by rfl, ?hys13⟩) hHeld ?_
        case hys13 => (intro w hSw; (try dsimp only at hSw); go_simp; try (with_reducible rfl))
        (try simp only [Act.put, List.getElem_toArray, List.getElem_cons_succ, List.getElem_cons_zero, List.setIfInBounds_toArray, List.set_cons_zero, List.set_cons_succ])
        refine wpAnyD_step (i := 14) (by kernel_rfl) rfl (fun K hK9 => ?_)
        go_simp
        go_wp2_with fail
        refine (HSi.out _ (kr.trans (Kept.refl wr).drew)).mono ?_
        rintro e u5 ⟨rfl, k5⟩
        refine hK9.out _ _ (HF.out _ ((kr.trans (Kept.refl wr).drew).trans k5)) (fun hHeld2 => ?_)
        clear hK9 K
        (try simp only [Act.put, List.getElem_toArray, List.getElem_cons_succ, List.getElem_cons_zero, List.setIfInBounds_toArray, List.set_cons_zero, List.set_cons_succ])
        refine wpAnyD_take (i := 15) (v := ?_) rfl (by kernel_rfl) (by kernel_rfl) (by kernel_rfl) (by kernel_rfl) (fun _ _ _ h => h) (Or.inl ⟨by rfl, ?hyt15⟩) hHeld2 ?_
        case hyt15 => (intro w hSw; (try dsimp only at hSw); go_simp; try (with_reducible rfl))
        (try simp only [Act.put, List.getElem_toArray, List.getElem_cons_succ, List.getElem_cons_zero, List.setIfInBounds_toArray, List.set_cons_zero, List.set_cons_succ])
        refine wpAnyD_done (by kernel_rfl) ?_ _
        (try simp only [Act.put, List.getElem_toArray, List.getElem_cons_succ, List.getElem_cons_zero, List.setIfInBounds_toArray, List.set_cons_zero, List.set_cons_succ])
        have KR5 := hid ((kr.trans (Kept.refl wr).drew).trans k5)
        clear hHeld hHeld2 kr k5
        go_wp2_with fail
        go_roundw
        case rel => exact ⟨i + 1, by have := HII.out; omega, by go_num, KR5.out⟩
        case measure => have := HII.out; simp [intOf]; omega
      · obtain rfl : n = i := by omega
        have d1 : decide ((n : Int) < (n : Int)) = false := decide_eq_false (by omega)
        have d2 : decide (n < n) = false := decide_eq_false (by omega)
        clear hin hi kr
        go_wp2_with fail
        go_at_call 18
        refine (HBy.out _ KR.out).mono ?_
        rintro e w5 ⟨rfl, k5⟩
        have K5 := hid (KR.out.trans k5)
        clear k5 c2
        go_wp2_with fail
        go_at_call 19
        refine (HLs.out _ K5.out).mono ?_
        rintro e w6 ⟨rfl, k6⟩
        have K6 := hid ((K5.out.kx _).trans k6)
        clear k6
        go_wp2_with fail
        go_ret
        exact ⟨rfl, K6.out⟩
end Go.Proofs.Ytocjfdiimapojaa
