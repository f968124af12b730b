/- Package state: the bytes of a state. -/
import Derived.Test.YtphkdkenopkbbaaVR
import Derived.Test.YtphkdkenopkbbaaVT
import Derived.Lib.AppendStr
namespace Go.Proofs.Ytphkdkenopkbbaa
open Go.ChangeShapes Go.WideShapes Go.ChangeAt Go.RowKit
set_option linter.unusedVariables false
set_option linter.unusedSimpArgs false

def wqs : List (List Mat) → List Int
  | [] => []
  | l :: Q => le 1 l.length ++ wls l ++ wqs Q
def wbody (s : Sta) : List Int := mkL ++ wbits 8 [s.a, s.b, s.d, s.lo, s.ra] ++ (le 2 s.P.length ++ wls s.P) ++ le 2 s.Q.length ++ wqs s.Q
/-- The bytes of a state. -/
def enc (s : Sta) : List Int := wbody s ++ le 4 (sumB (wbody s))
theorem wqs_app (Q K : List (List Mat)) : wqs (Q ++ K) = wqs Q ++ wqs K := by
  induction Q with
  | nil => rfl
  | cons a l ih => show le 1 a.length ++ wls a ++ wqs (l ++ K) = le 1 a.length ++ wls a ++ wqs l ++ wqs K; rw [ih, List.append_assoc (le 1 _ ++ _)]
theorem wqs_step {Q : List (List Mat)} (i : Nat) (l : List Mat) (h : Q[i]? = some l) : wqs (Q.take (i + 1)) = wqs (Q.take i) ++ (le 1 l.length ++ wls l) := by
  obtain ⟨hi, rfl⟩ := List.getElem?_eq_some_iff.1 h
  rw [List.take_succ_eq_append_getElem hi, wqs_app]
  simp [wqs]
theorem wqs_len {Q : List (List Mat)} (h : Qks Q) : ((wqs Q).length : Int) = szq Q := by
  induction Q with
  | nil => rfl
  | cons a l ih =>
    have h1 := wls_len (h 0 a rfl).2
    have h2 := ih (fun i m hi => h (i + 1) m (by simpa using hi))
    show ((le 1 a.length ++ wls a ++ wqs l).length : Int) = 1 + szl a + szq l
    rw [List.length_append, List.length_append, le_len]
    omega
theorem enc_len {s : Sta} (h : Frm s) : ((enc s).length : Int) = szS s := by
  have h1 := wls_len h.p
  have h2 := wqs_len h.q
  unfold enc wbody szS
  simp only [List.length_append, le_len, wbits_len, mkL, List.length_cons, List.length_nil]
  omega
theorem Byt.app {A C : List Int} (h : Byt A) (k : Byt C) : Byt (A ++ C) := fun i hi => by
  rw [List.getD_eq_getElem?_getD, List.getElem?_append]
  split
  · have := h.at i; rwa [List.getD_eq_getElem?_getD] at this
  · have := k.at (i - A.length); rwa [List.getD_eq_getElem?_getD] at this
theorem byt_nil : Byt [] := fun i hi => by simp at hi
theorem byt_one (x : Int) (h : 0 ≤ x ∧ x < 256) : Byt [x] := fun i hi => by
  have : i = 0 := by simpa using hi
  subst this
  exact h
theorem byt_le (k : Nat) (n : Int) : Byt (le k n) := by
  induction k with
  | zero => exact byt_nil
  | succ k ih => exact ih.app (byt_one _ (by omega))
theorem byt_wbits (k : Nat) (L : List Int) : Byt (wbits k L) := by
  induction L with
  | nil => exact byt_nil
  | cons a L ih => exact (byt_le k a).app ih
theorem byt_wls (l : List Mat) : Byt (wls l) := by
  induction l with
  | nil => exact byt_nil
  | cons a L ih => exact ((((byt_le 1 a.n).app (byt_le 2 a.r)).app (byt_le 2 a.c)).app (byt_wbits _ a.L)).app ih
theorem byt_wqs (Q : List (List Mat)) : Byt (wqs Q) := by
  induction Q with
  | nil => exact byt_nil
  | cons a L ih => exact ((byt_le 1 a.length).app (byt_wls a)).app ih
theorem byt_mk : Byt mkL := by
  intro i hi
  have h4 : i < 4 := hi
  obtain rfl | rfl | rfl | rfl : i = 0 ∨ i = 1 ∨ i = 2 ∨ i = 3 := by omega
  all_goals decide
theorem byt_body (s : Sta) : Byt (wbody s) := (((byt_mk.app (byt_wbits 8 _)).app ((byt_le 2 _).app (byt_wls _))).app (byt_le 2 _)).app (byt_wqs _)
theorem byt_enc (s : Sta) : Byt (enc s) := (byt_body s).app (byt_le 4 _)
theorem bmake_run (n : Nat) (hn : n < 100000000) (w : World) : (Instr.makeSlice 35 (.int .i64 0) (.int .i64 (n : Int))).run Try.prog w = .ok (.slice (some ⟨w.heap.size, 0, none⟩) 0 n) (w.alloc (.cells (madeCells #[.int .u8 0] n) 5)) := by
  obtain ⟨i, hi, hz, hs, hby⟩ := info_parts (lb_info)
  have := run_make (P := Try.prog) w 35 5 i (.int .u8 0) lb_under hi hz .i64 .i64 (0 : Int) (n : Int) (by omega) (by omega) (by rw [hby]; omega) (by omega)
  rw [hs, Int.toNat_natCast, Nat.mul_one] at this
  exact this
theorem bown_made (n : Nat) (hn : n < 100000000) (w : World) : OwnV (w.alloc (.cells (madeCells #[.int .u8 0] n) 5)) w.heap.size n 5 [] := by
  refine ⟨_, heap_alloc_new w _, Nat.zero_le _, by simp [maxLen]; omega, ?_, by simp⟩
  simp [madeCells]
theorem wpList_append_run2 {P : Program} {w : World} {ops : Array Oper} {rest : List Oper} {o : Oper} {a : Act} {Q : Exit → Act → World → Prop} (hgd : o.guard = none) (s x : Operand) (t u : TypeId)
    (ho : o.op = .call { callee := .builtin .append, args := #[s, x], argTypes := #[t, u] }) (v xv : Value) (hs : a.eval s = v) (hx : a.eval x = xv) (v' : Value) (w' : World)
    (hr : (Builtin.append_ #[t, u] o.type #[v, xv]).run P w = .ok v' w') (h : wpList P ops Q rest (a.put o.dst v') w') : wpList P ops Q (o :: rest) a w := by
  refine wpList_plain hgd fun K hK => ?_
  unfold Oper.wp execOp
  simp only [ho, resolve, invoke, builtin, Sem.run_bind, Sem.run_pure, Result.andThen_ok, List.map_toArray, List.map_cons, List.map_nil, hs, hx, hr]
  exact hK _ _ h
theorem str_under : Try.prog.underlying 9 = some .string := by kernel_rfl
/-- The mark is put. -/
theorem w_mark {u : World} {Wb g C : Nat} (h : WV u Wb g C []) (hr : 4 ≤ C) (hC : C ≤ 100000000) :
    ∃ w', (∀ ty, (Builtin.append_ #[35, 9] ty #[.slice (some ⟨g, 0, none⟩) 0 C, .string ⟨#[112, 115, 116, 1]⟩]).run Try.prog u = .ok (.slice (some ⟨g, 0, none⟩) 4 C) w') ∧ KX (fun b => b = g) u w' ∧ WV (w'.setCell ⟨Wb, 0, none⟩ (.slice (some ⟨g, 0, none⟩) 4 C)) Wb g C mkL ∧ w'.cell? ⟨Wb, 0, none⟩ = some (.slice (some ⟨g, 0, none⟩) 0 C) ∧ w'.frozen? ⟨Wb, 0, none⟩ = false := by
  obtain ⟨i, hi, hz2, hs, hb⟩ := info_parts lb_info
  have hS := Src.ofString (P := Try.prog) u (tx := 9) str_under ⟨#[112, 115, 116, 1]⟩
  have hbc : byteCells ⟨#[112, 115, 116, 1]⟩ = mkL.map (Value.int .u8) := rfl
  rw [hbc, show (⟨#[112, 115, 116, 1]⟩ : ByteArray).size = 4 from rfl] at hS
  obtain ⟨NV, hNV⟩ : ∃ NV, mkL.map (Value.int .u8) = NV := ⟨_, rfl⟩
  have hl : NV.length = 4 := by rw [← hNV]; rfl
  have hm4 : mkL.length = 4 := rfl
  rw [hNV] at hS
  have hO : OwnV u g C 5 [] := h.o
  have hG := (Grw.refl g u).setCells NV 0
  have hO2 : OwnV (u.setCells g 0 NV) g C 5 NV := hO.pushes NV (by simpa [hl] using hr)
  have hc : (u.setCells g 0 NV).cell? ⟨Wb, 0, none⟩ = some (.slice (some ⟨g, 0, none⟩) 0 C) := by
    have hb := hG.kx.block Wb h.lt h.ne
    exact (World.cell?_of_block hb).trans h.c
  have hf : (u.setCells g 0 NV).frozen? ⟨Wb, 0, none⟩ = false := (hG.frozen _).trans h.fz
  have hrun : ∀ ty, (Builtin.append_ #[35, 9] ty #[.slice (some ⟨g, 0, none⟩) 0 C, .string ⟨#[112, 115, 116, 1]⟩]).run Try.prog u = .ok (.slice (some ⟨g, 0, none⟩) 4 C) (u.setCells g 0 NV) := fun ty => by
    generalize (Value.string ⟨#[112, 115, 116, 1]⟩) = sv at *
    have := run_append_room_src u 35 9 ty 5 i lb_under hi g 0 0 C sv 4 NV (by rw [hs]; exact hS) (by omega) (fun j hj => hO.some _ (by rw [hl] at hj; rw [hs]; omega)) (fun j hj => hO.free _)
    rw [this, hs]
  have hw : WV ((u.setCells g 0 NV).setCell ⟨Wb, 0, none⟩ (.slice (some ⟨g, 0, none⟩) 4 C)) Wb g C mkL := by
    refine ⟨?_, (World.frozen?_setCell _ _ _ _).trans hf, ?_, h.ne⟩
    · rw [World.cell?_setCell_same _ _ _ (by rw [hc]), hm4]
    · rw [hNV]
      exact hO2.setOther (by show g ≠ Wb; exact fun e => h.ne e.symm) _
  exact ⟨u.setCells g 0 NV, hrun, hG.kx, hw, hc, hf⟩
end Go.Proofs.Ytphkdkenopkbbaa
