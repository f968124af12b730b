/- Package state: Check. Two states that are one. -/
import Derived.Test.YtphkdkenopkbbaaVW
namespace Go.Proofs.Ytphkdkenopkbbaa
open Go.ChangeShapes Go.WideShapes Go.ChangeAt Go.RowKit
set_option linter.unusedVariables false
set_option linter.unusedSimpArgs false

set_option maxHeartbeats 4000000 in
set_option maxRecDepth 100000 in
theorem checkf_any (v : Value) (s : Sta) (hpn : s.P.length ≤ 9223372036854775807) (hqn : s.Q.length ≤ 9223372036854775807) (w : World) (hS : StI w v s) : Calls Try.prog 15 #[v] w fun e w' => Kept w w' ∧ ((Frm s ∧ e = .returned (.int .i64 0)) ∨ (¬ Frm s ∧ e = .returned (.int .i64 43))) := by
  have hmf : ∀ (fn : Fn) (first cap : Array Value) (w : World), (Instr.makeFunc fn first cap).run Try.prog w = .ok (.func fn first cap) w := fun _ _ _ _ => rfl
  have HC : Hid (∀ u, Kept w u → Calls Try.prog 26 #[v, .int .i64 16777216] u fun e w' => Kept u w' ∧ CkP (Frm s) e) := fun u ku => check_any5 v s hpn hqn u (hS.kept ku)
  obtain ⟨pv, qv, rfl, ⟨pa, pc, rfl, -, -⟩, ⟨qa, qc, rfl, -, -⟩⟩ := hS
  generalize s.P.length = pl at *
  generalize s.Q.length = ql at *
  generalize s.a = sa at *
  generalize s.b = sb at *
  generalize s.d = sd at *
  generalize s.lo = lo at *
  generalize s.ra = ra at *
  obtain ⟨M, hM⟩ : ∃ M, w.heap.size = M := ⟨_, rfl⟩
  obtain ⟨W0, hW0⟩ : ∃ W0, (w.alloc (.cells #[.int .i64 sa, .int .i64 sb, .int .i64 sd, .slice pa pl pc, .slice qa ql qc, .int .i64 lo, .int .i64 ra] 25)).alloc (.cells #[.int .i64 0] 42) = W0 := ⟨_, rfl⟩
  have k0 : Kept w W0 := by rw [← hW0]; exact ((Kept.refl w).alloc _ _).alloc _ _
  have b0 : Bk W0 M [.int .i64 sa, .int .i64 sb, .int .i64 sd, .slice pa pl pc, .slice qa ql qc, .int .i64 lo, .int .i64 ra] := by rw [← hW0, ← hM]; exact (Bk.new w [.int .i64 sa, .int .i64 sb, .int .i64 sd, .slice pa pl pc, .slice qa ql qc, .int .i64 lo, .int .i64 ra] 25).kept ((Kept.refl _).alloc _ _)
  have be : Bk W0 (M + 1) [.int .i64 0] := by
    have := Bk.new (w.alloc (.cells #[.int .i64 sa, .int .i64 sb, .int .i64 sd, .slice pa pl pc, .slice qa ql qc, .int .i64 lo, .int .i64 ra] 25)) [.int .i64 0] 42
    rw [show (w.alloc (.cells #[.int .i64 sa, .int .i64 sb, .int .i64 sd, .slice pa pl pc, .slice qa ql qc, .int .i64 lo, .int .i64 ra] 25)).heap.size = M + 1 by rw [← hM]; simp] at this
    rw [← hW0]
    exact this
  have e0 := b0.c 0 _ rfl
  have e1 := b0.c 1 _ rfl
  have e2 := b0.c 2 _ rfl
  have e3 := b0.c 3 _ rfl
  have e4 := b0.c 4 _ rfl
  have e5 := b0.c 5 _ rfl
  have e6 := b0.c 6 _ rfl
  have HK0 := hid k0
  have HB := hid b0
  have HE := hid be
  have HM := hid hM
  have HC0 := hid (HC.out W0 k0)
  clear k0 b0 be hpn hqn
  go_enter_defers Try.func15, Try.ntmps15
  go_wp2_with fail
  go_at_call 26
  refine HC0.out.mono ?_
  rintro e w1 ⟨k1, hck⟩
  have bE := HE.out.kept k1
  have hMl := HE.out.lt
  rcases hck with ⟨rfl, hFr⟩ | ⟨rfl, hno⟩
  · have z0 := bE.c 0 _ rfl
    have zf := bE.fz 0
    have HF := hid hFr
    have HK1 := hid (HK0.out.trans k1)
    have HE2 := hid bE
    clear e0 e1 e2 e3 e4 e5 e6 hW0 hM k1 hFr bE
    go_wp2_with fail
    have y0 := HE2.out.set 0 (.int .i64 0)
    have kx0 : KX (fun b => b = M + 1) w1 (w1.setCell ⟨M + 1, 0, none⟩ (.int .i64 0)) := ((Grw.refl (M + 1) w1).setCell 0 _).kx
    refine leaves_cons (f := 32) (args := #[.pointer (some ⟨M + 1, 0, none⟩)]) (by simp) (by simp [go_sem]) ?_
    refine (wcatch_idleC (M + 1) 0 _ (y0.c 0 _ rfl) (y0.fz 0)).mono ?_
    rintro e u' w'' ⟨rfl, rfl, kx, cE⟩
    simp only [settle, Leaves]
    refine ⟨.int .i64 0, (by simp [results, Try.results15, go_sem, cE]), ?_, .inl ⟨HF.out, rfl⟩⟩
    exact kept_of_kx (kept_of_kx HK1.out kx0 (fun b hb => by have := HM.out; omega)) kx (fun b hb => by have := HM.out; omega)
  · clear e0 e1 e2 e3 e4 e5 e6 hW0 hM
    have HK1 := hid (HK0.out.trans k1)
    have HNO := hid hno
    have HE1 := hid bE
    clear k1 hno bE
    go_wp2_with fail
    refine leaves_cons (f := 32) (args := #[.pointer (some ⟨M + 1, 0, none⟩)]) (by simp) (by simp [go_sem]) ?_
    refine (wcatch_upC 43 0 [] (M + 1) 0 w1 (HE1.out.c 0 _ rfl) (HE1.out.fz 0)).mono ?_
    rintro e u' w'' ⟨rfl, rfl, kx, cE⟩
    simp only [settle, List.dropWhile_nil, Leaves]
    refine ⟨.int .i64 43, (by simp [results, Try.results15, go_sem, cE]), ?_, .inr ⟨HNO.out, rfl⟩⟩
    exact kept_of_kx HK1.out kx (fun b hb => by have := HM.out; omega)
end Go.Proofs.Ytphkdkenopkbbaa
