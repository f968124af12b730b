/- A list put behind a list; all matrices of a state, one behind the other. -/
import Derived.Test.YtocjfdiimapojaaZY
import Derived.Test.YtocjfdiimapojaaVM
namespace Go.Proofs.Ytocjfdiimapojaa
open Go.ChangeShapes Go.WideShapes Go.ChangeAt Go.RowKit
set_option linter.unusedVariables false
set_option linter.unusedSimpArgs false

theorem app_list (t e : TypeId) (ht : Try.prog.underlying t = some (.slice e)) (z : Value) (sz by8 : Nat) (hinf : (Try.prog.info? e).map (fun i => (i.zero, i.size, i.bytes)) = some (some z, sz, by8)) (hz : z.cells.size = sz) (hby : by8 ≤ 64)
    (H : Nat) (w : World) (lv : Value) (k : Nat) (V : List Value) (hM : MS sz e H w lv k V) (xv : Value) (k2 : Nat) (V2 : List Value) (hX : MS sz e 0 w xv k2 V2) (h1 : ∀ u ∈ V2, u.oneCell' = true) (hH : H ≤ w.heap.size) (hlen : k + k2 < 1000000) :
    ∃ v' w', (∀ ty, (Builtin.append_ #[t, t] ty #[lv, xv]).run Try.prog w = .ok v' w') ∧ MS sz e H w' v' (k + k2) (V ++ V2) ∧ KX (fun b => ∃ n c, lv = .slice (some ⟨b, 0, none⟩) n c) w w' := by
  obtain ⟨i, hi, hz2, hs, hb⟩ := info_parts hinf
  have hVl := hM.len
  have hXl := hX.len
  have hS : Src Try.prog i.size t xv k2 V2 w := by
    rcases hX with ⟨rfl, rfl, rfl⟩ | ⟨g, cap, rfl, -, -, hkc, hO⟩
    · exact Src.ofNil w ht 0
    · exact Src.ofSlice w ht ⟨g, 0, none⟩ k2 cap V2 (by rw [hs]; exact hXl) (fun j u hj => by rw [Addr.add_lit, Nat.zero_add]; exact hO.cell j u hj) h1
  have hnl : (V ++ V2).length = (k + k2) * sz := by rw [List.length_append, hVl, hXl, Nat.add_mul]
  have grow : ∀ (base : Option Addr) (cap : Nat), lv = .slice base k cap → cap < k + k2 → (Builtin.firstCells i.size k (.slice base k cap)).run Try.prog w.drew = .ok V.toArray w.drew → ∃ v' w', (∀ ty, (Builtin.append_ #[t, t] ty #[lv, xv]).run Try.prog w = .ok v' w') ∧ MS sz e H w' v' (k + k2) (V ++ V2) ∧ KX (fun b => ∃ n c, lv = .slice (some ⟨b, 0, none⟩) n c) w w' := fun base cap e1 hc hf => by
    subst e1
    obtain ⟨C, hC⟩ : ∃ C, grownCap w (k + k2) cap e = C := ⟨_, rfl⟩
    have hC1 : k + k2 ≤ C := by rw [← hC]; exact grownCap_ge _ _ _ _
    have hC2 : C ≤ maxLen := by rw [← hC]; exact grownCap_le_maxLen _ _ _ _ (by simp [maxLen]; omega)
    have hN := ownS_new w.drew e z sz hz (V ++ V2) (k + k2) C hnl hC1 hC2
    have hKN : Kept w (w.drew.alloc (.cells ((V ++ V2).toArray ++ Builtin.zeroCells z.cells (C - (k + k2))) e)) := (Kept.refl w).drew.alloc _ _
    refine ⟨_, _, fun ty => ?_, .inr ⟨w.heap.size, C, rfl, by omega, hnl, hC1, by simpa using hN⟩, hKN.kx _⟩
    have := run_append_grow_src w t t ty e i z ht hi hz2 base k cap V hf xv k2 V2 hS hc (by omega) (growslice_fits hc (by rw [hb]; exact Nat.le_trans (Nat.mul_le_mul_left _ hby) (by omega)))
    rw [hC] at this
    rw [this]
  rcases hM with ⟨rfl, rfl, rfl⟩ | ⟨g, cap, rfl, hg, -, hkc, hO⟩
  · by_cases h0 : k2 = 0
    · subst h0
      have hV2 : V2 = [] := List.length_eq_zero_iff.1 (by omega)
      subst hV2
      refine ⟨.slice none 0 0, w, fun ty => ?_, .inl ⟨rfl, rfl, rfl⟩, (Kept.refl w).kx _⟩
      rcases hS.kind with ⟨e', hk⟩ | hk <;> simp [Builtin.append_, run_underlying ht, run_underlying hk, sizeOf, typeInfo, hi, hS.len, hS.cells]
    · exact grow none 0 rfl (by omega) (by simpa using run_firstCells_none (P := Try.prog) w.drew i.size 0 0 0)
  · by_cases hr : k + k2 ≤ cap
    · have hroom : V.length + V2.length ≤ cap * sz := by
        rw [hVl, hXl, ← Nat.add_mul]
        exact Nat.mul_le_mul_right _ hr
      have hG := (Grw.refl g w).setCells V2 V.length
      refine ⟨_, w.setCells g V.length V2, fun ty => ?_, .inr ⟨g, cap, rfl, hg, hnl, hr, hO.pushes V2 hroom⟩, (hG.kx).mono fun b hb => by subst hb; exact ⟨_, _, rfl⟩⟩
      have := run_append_room_src w t t ty e i ht hi g 0 k cap xv k2 V2 hS hr (fun j hj => hO.some _ (by rw [hs, ← hVl]; omega)) (fun j hj => hO.free _)
      rw [this, hs, hVl]
      simp
    · exact grow (some ⟨g, 0, none⟩) cap rfl (by omega) (run_firstCells_some (P := Try.prog) w.drew i.size k ⟨g, 0, none⟩ k cap V (by rw [hs]; exact hVl) (fun j u hu => by rw [Addr.add_lit, Nat.zero_add]; exact hO.cell j u hu))
/-- A state, and the cells of its lists. -/
structure KE where
  s : Sta
  pv : Value
  VP : List Value
  qv : Value
  vs : List Value
  VQ : List (List Value)
/-- Its lists, where they lie. -/
structure KE.ok (x : KE) (w : World) : Prop where
  p : MS 4 54 0 w x.pv x.s.P.length x.VP
  q : MS 1 32 0 w x.qv x.s.Q.length x.vs
  ql : x.VQ.length = x.s.Q.length
  l : ∀ (j : Nat) (l : List Mat) (V : List Value), x.s.Q[j]? = some l → x.VQ[j]? = some V → ∃ lv, x.vs[j]? = some lv ∧ MS 4 54 0 w lv l.length V
  o : ∀ u ∈ x.VP ++ x.VQ.flatten, u.oneCell' = true
  n : x.s.P.length ≤ 64 ∧ x.s.Q.length ≤ 64 ∧ ∀ l ∈ x.s.Q, l.length ≤ 4
  sl : ∀ (j : Nat) (d : Value), (x.VP ++ x.VQ.flatten)[j * 4 + 3]? = some d → ∃ a n c, d = .slice a n c
def KE.val (x : KE) : Value := .agg #[.int .i64 x.s.a, .int .i64 x.s.b, .int .i64 x.s.d, x.pv, x.qv, .int .i64 x.s.lo, .int .i64 x.s.ra]
def KE.V (x : KE) : List Value := x.VP ++ x.VQ.flatten
def KE.ms (x : KE) : List Mat := x.s.P ++ x.s.Q.flatten
theorem flat_take_succ {α : Type} (Q : List (List α)) (i : Nat) (l : List α) (h : Q[i]? = some l) : (Q.take (i + 1)).flatten = (Q.take i).flatten ++ l := by
  rw [List.take_add_one, h]
  simp
theorem flat_take_le (Q : List (List Mat)) (hq : ∀ l ∈ Q, l.length ≤ 4) : ∀ i, (Q.take i).flatten.length ≤ i * 4
  | 0 => by simp
  | i + 1 => by
    rcases h : Q[i]? with _ | l
    · have hl : Q.length ≤ i := List.getElem?_eq_none_iff.1 h
      rw [List.take_of_length_le (by omega)]
      have := flat_take_le Q hq i
      rw [List.take_of_length_le (by omega)] at this
      omega
    · rw [flat_take_succ Q i l h, List.length_append]
      have := flat_take_le Q hq i
      have := hq l (List.mem_of_getElem? h)
      omega
theorem KE.ok.kept {x : KE} {w w' : World} (h : x.ok w) (k : Kept w w') : x.ok w' :=
  ⟨h.p.kept k, h.q.kept k, h.ql, fun j l V h1 h2 => by
    obtain ⟨lv, h3, h4⟩ := h.l j l V h1 h2
    exact ⟨lv, h3, h4.kept k⟩, h.o, h.n, h.sl⟩

set_option maxHeartbeats 4000000 in
set_option maxRecDepth 100000 in
theorem matrices_any (x : KE) (w : World) (hx : x.ok w) : Calls Try.prog 36 #[x.val] w fun e w' => Kept w w' ∧ ∃ v, e = .returned v ∧ MS 4 54 w.heap.size w' v x.ms.length x.V := by
  obtain ⟨s, pv, VP, qv, vs, VQ⟩ := x
  have HX := hid hx
  have hxp := hx.p
  have hxq := hx.q
  have hxl := hx.l
  have hxo := hx.o
  have hxn := hx.n
  have hxql := hx.ql
  dsimp only at hxp hxq hxl hxo hxn hxql
  show Calls _ _ #[.agg #[.int .i64 s.a, .int .i64 s.b, .int .i64 s.d, pv, qv, .int .i64 s.lo, .int .i64 s.ra]] w _
  obtain ⟨pa, pc, rfl⟩ := hxp.form
  obtain ⟨qa, qc, rfl⟩ := hxq.form
  obtain ⟨a, ha⟩ : ∃ a, s.a = a := ⟨_, rfl⟩
  obtain ⟨b, hb⟩ : ∃ b, s.b = b := ⟨_, rfl⟩
  obtain ⟨d, hd⟩ : ∃ d, s.d = d := ⟨_, rfl⟩
  obtain ⟨lo, hlo⟩ : ∃ lo, s.lo = lo := ⟨_, rfl⟩
  obtain ⟨ra, hra⟩ : ∃ ra, s.ra = ra := ⟨_, rfl⟩
  obtain ⟨np, hnp⟩ : ∃ np, s.P.length = np := ⟨_, rfl⟩
  obtain ⟨nq, hnq⟩ : ∃ nq, s.Q.length = nq := ⟨_, rfl⟩
  obtain ⟨M, hM⟩ : ∃ M, w.heap.size = M := ⟨_, rfl⟩
  have hml : (KE.mk s (.slice pa s.P.length pc) VP (.slice qa s.Q.length qc) vs VQ).ms.length = np + s.Q.flatten.length := by rw [← hnp]; exact List.length_append
  rw [hml]
  obtain ⟨fl, hfl⟩ : ∃ fl, s.Q.flatten.length = fl := ⟨_, rfl⟩
  rw [hfl]
  have HFl := hid hfl
  clear hfl
  rw [ha, hb, hd, hlo, hra, hnp, hnq, hM]
  rw [hnp] at hxp hxn
  rw [hnq] at hxq hxql hxn
  obtain ⟨W1, hW1⟩ : ∃ W1, w.alloc (.cells #[.int .i64 a, .int .i64 b, .int .i64 d, .slice pa np pc, .slice qa nq qc, .int .i64 lo, .int .i64 ra] 35) = W1 := ⟨_, rfl⟩
  have k0 : Kept w W1 := by rw [← hW1]; exact (Kept.refl w).alloc _ _
  have bk : Bk W1 M [.int .i64 a, .int .i64 b, .int .i64 d, .slice pa np pc, .slice qa nq qc, .int .i64 lo, .int .i64 ra] := by rw [← hW1, ← hM]; exact Bk.new w _ _
  have hs1 : W1.heap.size = M + 1 := by rw [← hW1, World.size_alloc, hM]
  obtain ⟨v1, w1, hr1, hm1, kx1⟩ := app_list 32 54 mat_under (.agg #[.int .i64 0, .int .i64 0, .int .i64 0, .slice none 0 0]) 4 48 mat_info rfl (by decide) (M + 1) W1 (.slice none 0 0) 0 [] (.inl ⟨rfl, rfl, rfl⟩) (.slice pa np pc) np VP (hxp.kept k0) (fun u hu => hxo u (List.mem_append_left _ hu)) (by omega) (by omega)
  have kp1 : Kept W1 w1 := kept_of_kx (Kept.refl W1) kx1 (fun b ⟨n, c, e⟩ => by cases e)
  obtain ⟨va, vc, rfl⟩ := hm1.form
  rw [Nat.zero_add] at hr1 hm1
  rw [List.nil_append] at hm1
  have HR1 := hid hr1
  have HM1 := hid hm1
  have KP1 := hid (k0.trans kp1)
  have HB1 := hid (bk.kept kp1)
  have HS1 := hid (show M + 1 ≤ w1.heap.size by have := kp1.below.size; omega)
  have HQ := hid hxq
  have HL := hid hxl
  have HO := hid hxo
  have HN := hid hxn
  have HNQ := hid hnq
  have HVQ := hid hxql
  have HMM := hid hM
  have e3 := bk.c 3 _ rfl
  obtain ⟨cn, hcn⟩ : ∃ cn : Nat → Nat, ∀ i, (s.Q.take i).flatten.length = cn i := ⟨_, fun _ => rfl⟩
  have HCn := hid hcn
  have hc0 : cn 0 = 0 := by rw [← hcn 0]; simp
  have HC0 := hid hc0
  clear hcn hc0
  clear hx hr1 hm1 kx1 k0 bk hxp hxq hxl hxo hxn hs1 kp1 ha hb hd hlo hra hnp hnq hml hxql
  go_enter Try.func36, Try.ntmps36
  go_wp2_with (first | (at_builtin; (try rw [hW1]); refine wpList_append_run rfl _ _ _ rfl _ _ rfl rfl _ _ (HR1.out _) ?_; clear HR1))
  clear e3 hM
  (try rw [HMM.out])
  go_loopw [3, 4] (fun lv iv wr => ∃ (i : Nat) (va : Option Addr) (vc : Nat), i ≤ nq ∧ lv = .slice va (np + cn i) vc ∧ iv = .int .i64 (i : Int) ∧ KX (fun b => M + 1 ≤ b) w1 wr ∧ MS 4 54 (M + 1) wr (.slice va (np + cn i) vc) (np + cn i) (VP ++ (VQ.take i).flatten)) (fun _ iv _ => nq - (intOf iv).toNat)
  case atStart => exact ⟨0, va, vc, Nat.zero_le _, by rw [HC0.out]; rfl, rfl, (Kept.refl _).kx _, by rw [HC0.out]; simpa using HM1.out⟩
  case round =>
    clear HM1
    obtain ⟨i, va, vc, hi, rfl, rfl, kxr, hm⟩ := hrel
    have hb := HB1.out
    have KXr := hid kxr
    have hbr : ∀ j v, [Value.int .i64 a, .int .i64 b, .int .i64 d, .slice pa np pc, .slice qa nq qc, .int .i64 lo, .int .i64 ra][j]? = some v → wr.cell? ⟨M, j, none⟩ = some v := fun j v hj => (World.cell?_of_block (kxr.block M hb.lt (by omega))).trans (hb.c j v hj)
    have e4 := hbr 4 _ rfl
    have HMr := hid hm
    clear hb hbr kxr hm
    by_cases hin : i < nq
    · have d1 : decide ((i : Int) < (nq : Int)) = true := decide_eq_true (by omega)
      have d2 : decide (i < nq) = true := decide_eq_true hin
      have hbd : (0 : Int) ≤ (i : Int) ∧ (i : Int) < (nq : Int) := by omega
      have z9 : IntKind.i64.wrap ((i : Int) + 1) = (i : Int) + 1 := by have := HN.out; rw [wrap_i64]; omega
      obtain ⟨l, hl⟩ : ∃ l, s.Q[i]? = some l := ⟨_, List.getElem?_eq_getElem (by have := HNQ.out; omega)⟩
      obtain ⟨V, hV⟩ : ∃ V, VQ[i]? = some V := ⟨_, List.getElem?_eq_getElem (by have := HVQ.out; omega)⟩
      obtain ⟨lv, hlv, hlm⟩ := HL.out i l V hl hV
      have hwr : Kept w wr := kept_of_kx KP1.out KXr.out (fun b hb => by have := HMM.out; omega)
      have hq9 : ∃ qb, qa = some ⟨qb, 0, none⟩ ∧ wr.cell? ⟨qb, i, none⟩ = some lv := by
        rcases HQ.out.kept hwr with ⟨h0, -, -⟩ | ⟨g, cap, e1, -, -, -, ho⟩
        · omega
        · cases e1
          exact ⟨g, rfl, ho.cell i _ hlv⟩
      obtain ⟨qb, rfl, eq9⟩ := hq9
      obtain ⟨v', w', hr, hm', kx'⟩ := app_list 32 54 mat_under (.agg #[.int .i64 0, .int .i64 0, .int .i64 0, .slice none 0 0]) 4 48 mat_info rfl (by decide) (M + 1) wr _ _ _ HMr.out lv l.length V (hlm.kept hwr) (fun u hu => HO.out u (List.mem_append_right _ (List.mem_flatten.2 ⟨V, List.mem_of_getElem? hV, hu⟩))) (by have := KXr.out.size; have := HS1.out; omega) (by
        have := flat_take_le s.Q HN.out.2.2 i
        rw [HCn.out] at this
        have := HN.out.2.2 l (List.mem_of_getElem? hl)
        have := HN.out
        omega)
      have hll : np + cn i + l.length = np + cn (i + 1) := by rw [← HCn.out i, ← HCn.out (i + 1), flat_take_succ s.Q i l hl, List.length_append]; omega
      have hVV : VP ++ (VQ.take i).flatten ++ V = VP ++ (VQ.take (i + 1)).flatten := by rw [flat_take_succ VQ i V hV, List.append_assoc]
      rw [hll, hVV] at hm'
      obtain ⟨va', vc', rfl⟩ := hm'.form
      have HR := hid hr
      have HM2 := hid hm'
      have HK2 := hid (KXr.out.trans (kx'.mono (Y := fun b => M + 1 ≤ b) fun b ⟨n, c, e⟩ => by
        rcases HMr.out with ⟨-, -, e2⟩ | ⟨g, cap, e2, hg, -⟩
        · rw [e] at e2; cases e2
        · rw [e] at e2; cases e2; exact hg))
      have HII := hid hin
      clear hr hm' kx' hll hVV hlm hlv hl hV hwr hin hi HMr
      go_wp2_with (first | (at_builtin; refine wpList_append_run rfl _ _ _ rfl _ _ rfl rfl _ _ (HR.out _) ?_; clear HR))
      go_roundw
      case rel => exact ⟨i + 1, va', vc', by have := HII.out; omega, rfl, by go_num, HK2.out, HM2.out⟩
      case measure => have := HII.out; simp [intOf]; omega
    · obtain rfl : i = nq := by omega
      have d1 : decide ((i : Int) < (i : Int)) = false := decide_eq_false (by omega)
      have d2 : decide (i < i) = false := decide_eq_false (by omega)
      clear hin hi
      go_wp2_with fail
      go_ret
      refine ⟨kept_of_kx KP1.out KXr.out (fun b hb => by have := HMM.out; omega), _, rfl, ?_⟩
      have h := HMr.out
      have h1 : cn i = fl := by rw [← HCn.out i, ← HFl.out, List.take_of_length_le (by have := HNQ.out; omega)]
      have h2 : VQ.take i = VQ := List.take_of_length_le (by have := HVQ.out; omega)
      rw [h2] at h
      rw [← h1]
      first | exact h.mono (H' := M) (by omega) | exact h.mono (H' := w.heap.size) (by have := HMM.out; omega)
end Go.Proofs.Ytocjfdiimapojaa
