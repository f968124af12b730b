/- StateReads. -/
import Derived.Test.YtocjfdiimapojaaLE
namespace Go.Proofs.Ytocjfdiimapojaa
open Go.ChangeShapes Go.WideShapes Go.ChangeAt Go.RowKit
set_option linter.unusedVariables false
set_option linter.unusedSimpArgs false

theorem ms_one {w : World} {v : Value} {V : List Value} (h : MS 7 35 0 w v 1 V) : ∃ g C, v = .slice (some ⟨g, 0, none⟩) 1 C ∧ OwnS w g C 7 35 V := by
  rcases h with ⟨h0, -, -⟩ | ⟨g, C, e, -, -, -, ho⟩
  · omega
  · exact ⟨g, C, e, ho⟩
/-- One state that was read, kept: apart. -/
theorem apart_one (kb H HB : Nat) (kv sv : Value) (x y : KE) (w : World) (hk : Bk w kb [.slice none 0 0, .slice none 0 0, kv, sv]) (h1 : MS 7 35 0 w kv 1 (row7 x)) (h2 : MS 7 35 0 w sv 1 (row7 y)) (hkH : kb < H) (hx : KRd H HB w x) (hb : KBt H HB w x) (hy : KRd HB w.heap.size w y) (hHB : H ≤ HB) (hHw : H ≤ w.heap.size) (hs : x.s = y.s) (hsx : StI w x.val x.s) (hsy : StI w y.val y.s) :
    Calls Try.prog 7 #[.pointer (some ⟨kb, 0, none⟩)] w fun e w' => e = .returned (.bool true) ∧ KX (fun b => H ≤ b) w w' := by
  obtain ⟨S1, C1, rfl, ho1⟩ := ms_one h1
  obtain ⟨S2, C2, rfl, ho2⟩ := ms_one h2
  have hVl : x.V.length = x.ms.length * 4 := by
    have h1 := hx.ok
    have h2 := h1.p.len
    have h3 : ∀ (Q : List (List Mat)) (VQ : List (List Value)), VQ.length = Q.length → (∀ (j : Nat) (l : List Mat) (V : List Value), Q[j]? = some l → VQ[j]? = some V → V.length = l.length * 4) → VQ.flatten.length = Q.flatten.length * 4 := by
      intro Q
      induction Q with
      | nil =>
        intro VQ h _
        have : VQ = [] := List.length_eq_zero_iff.1 h
        subst this
        rfl
      | cons l Q ih =>
        intro VQ h hh
        match VQ, h with
        | V :: VQ, h =>
          have a1 := hh 0 l V rfl rfl
          have a2 := ih VQ (by simpa using h) (fun j l V h1 h2 => hh (j + 1) l V (by simpa using h1) (by simpa using h2))
          rw [List.flatten_cons, List.flatten_cons, List.length_append, List.length_append, a1, a2]
          omega
    have h4 := h3 x.s.Q x.VQ h1.ql (fun j l V hl hV => by
      obtain ⟨lv, -, h5⟩ := h1.l j l V hl hV
      exact h5.len)
    show (x.VP ++ x.VQ.flatten).length = (x.s.P ++ x.s.Q.flatten).length * 4
    rw [List.length_append, List.length_append, h2, h4]
    omega
  have hms : x.ms.length ≤ 320 := by
    have h1 := hx.ok.n
    have h2 := flat_take_le x.s.Q h1.2.2 x.s.Q.length
    rw [List.take_length] at h2
    have h3 : x.ms.length = x.s.P.length + x.s.Q.flatten.length := List.length_append
    omega
  have hmm : y.ms = x.ms := by unfold KE.ms; rw [hs]
  refine apartS kb S1 C1 S2 C2 [x] [y] (bslM x.V) H ⟨⟨(by show 1 ≤ 1000; decide), (by show 1 ≤ 1000; decide), ?_⟩, ?_, ?_, hb.ab, hkH, ?_, ?_, ?_⟩ (by simp) rfl ?_ w hk (by simpa using ho1) (by simpa using ho2) ?_ ?_ hHw ?_
  · show (bslM x.V).length ≤ 1000000
    rw [bslM_len _ _ hVl]
    omega
  · intro a ha z hz u hu v hv
    obtain rfl := List.mem_singleton.1 ha
    rcases List.mem_append.1 hz with h | h
    · obtain rfl := List.mem_singleton.1 h
      exact hb.al u hu v hv
    · obtain rfl := List.mem_singleton.1 h
      exact .inr fun b h3 h4 => by have := hx.hl u hu b h3; have := hy.hl v hv b h4; omega
  · intro a ha z hz
    obtain rfl := List.mem_singleton.1 ha
    rcases List.mem_append.1 hz with h | h
    · obtain rfl := List.mem_singleton.1 h
      exact .inl rfl
    · obtain rfl := List.mem_singleton.1 h
      exact .inr fun b h3 h4 => by have := hx.hq b h3; have := hy.hq b h4; omega
  · intro v hv b hbb
    obtain ⟨i, hi, rfl⟩ := List.getElem_of_mem hv
    obtain ⟨g, n, L, e, -, -, -, hg, -⟩ := hb.hb i _ (List.getElem?_eq_getElem hi)
    obtain ⟨n2, c2, e2⟩ := hbb
    have e3 := e.symm.trans e2
    cases e3
    exact hg
  · intro a ha u hu b hbb
    obtain rfl := List.mem_singleton.1 ha
    exact (hx.hl u hu b hbb).1
  · intro a ha b hbb
    obtain rfl := List.mem_singleton.1 ha
    exact (hx.hq b hbb).1
  · intro i a c ha hc
    match i with
    | 0 =>
      simp only [List.getElem?_cons_zero, Option.some.injEq] at ha hc
      subst ha hc
      refine ⟨by rw [hmm], fun j c hj hc => ?_⟩
      have hm := List.getElem?_eq_getElem hj
      obtain ⟨q1, q2, q3⟩ := hx.ce j _ hm
      obtain ⟨p1, p2, p3⟩ := hy.ce j _ (by rw [hmm]; exact hm)
      match c, hc with
      | 0, _ => exact ⟨_, q1, p1⟩
      | 1, _ => exact ⟨_, q2, p2⟩
      | 2, _ => exact ⟨_, q3, p3⟩
    | i + 1 => simp at ha
  · intro z hz
    rcases List.mem_append.1 hz with h | h
    · obtain rfl := List.mem_singleton.1 h
      exact hx.ok
    · obtain rfl := List.mem_singleton.1 h
      exact hy.ok
  · intro i v hv
    obtain ⟨g, n, L, a1, a2, a3, a4, -⟩ := hb.hb i v hv
    exact ⟨g, n, L, a1, a2, a3, a4⟩
  · intro i a c ha hc w' k
    match i with
    | 0 =>
      simp only [List.getElem?_cons_zero, Option.some.injEq] at ha hc
      subst ha hc
      have h1 := hx.ok.n
      exact same_true x.s x.val y.val (by omega) (by omega) (fun l hl => by have := h1.2.2 l hl; omega) w' (hsx.kept k) (by rw [hs]; exact hsy.kept k)
    | i + 1 => simp at ha

set_option maxHeartbeats 4000000 in
set_option maxRecDepth 100000 in
theorem stateReads_true (ao : Option Addr) (cap : Nat) (B : List Int) (hB : Byt B) (hlc : B.length ≤ cap) (hcm : cap ≤ maxLen) (w : World) (hS : B ≠ [] → ∃ b off, ao = some ⟨b, off, none⟩ ∧ b < w.heap.size ∧ BR w b off B) :
    Calls Try.prog 3 #[.slice ao B.length cap] w fun e w' => e = .returned (.bool true) ∧ Kept w w' := by
  have HA := hid alive23
  obtain ⟨M, hM⟩ : ∃ M, w.heap.size = M := ⟨_, rfl⟩
  have HRd : Hid (∀ u, Kept w u → B.length ≤ 400000 → Bk u M [.slice none 0 0, .slice none 0 0, .slice none 0 0, .slice none 0 0] → _) := fun u k hl hk => reads_any M (.slice none 0 0) (.slice none 0 0) (.slice none 0 0) (.slice none 0 0) 0 [] [] ao cap B hB hl hlc u (fun hne => by
    obtain ⟨b, off, e, h, r⟩ := hS hne
    exact ⟨b, off, e, Nat.lt_of_lt_of_le h k.below.size, fun i hi => (k.below.cell (p := ⟨b, off + i, none⟩) h).trans (r i hi)⟩) hk (.inl ⟨rfl, rfl, rfl⟩) (.inl ⟨rfl, rfl, rfl⟩) (by decide) (bk_nil M) (bk_nil M) (fun b hb => absurd hb (bk_nil b))
  obtain ⟨m, hm⟩ : ∃ m, B.length = m := ⟨_, rfl⟩
  rw [hm] at HRd hlc ⊢
  obtain ⟨W0, hW0⟩ : ∃ W0, w.alloc (.cells #[.slice none 0 0, .slice none 0 0, .slice none 0 0, .slice none 0 0] 27) = W0 := ⟨_, rfl⟩
  have k0 : Kept w W0 := by rw [← hW0]; exact (Kept.refl w).alloc _ _
  have bk : Bk W0 M [.slice none 0 0, .slice none 0 0, .slice none 0 0, .slice none 0 0] := by rw [← hW0, ← hM]; exact Bk.new w [.slice none 0 0, .slice none 0 0, .slice none 0 0, .slice none 0 0] 27
  have HKb := hid bk
  have HK0 := hid k0
  have HM := hid hM
  clear k0 bk hS hB hlc hcm hm
  go_enter Try.func3, Try.ntmps3
  go_wp2_with fail
  (try rw [hW0])
  go_at_call 5
  refine (HA.out _).mono ?_
  rintro e w1 ⟨rfl, k1⟩
  have K1 := hid (HK0.out.trans k1)
  have HB1 := hid (HKb.out.kept k1)
  clear k1 hW0 hM HKb
  by_cases hx : 400000 < m
  · have hxd : decide (400000 < (m : Int)) = true := decide_eq_true (by omega)
    have hxe : decide (400000 < m) = true := decide_eq_true hx
    have HAp := hid (apart0 M w1 HB1.out)
    go_wp2_with fail
    go_at_call 7
    refine HAp.out.mono ?_
    rintro e w3 ⟨rfl, k3⟩
    go_wp2_with fail
    go_ret
    exact ⟨rfl, K1.out.trans k3⟩
  · have hxd : decide (400000 < (m : Int)) = false := decide_eq_false (by omega)
    have hxe : decide (400000 < m) = false := decide_eq_false hx
    have HR := hid (HRd.out w1 K1.out (by omega) HB1.out)
    clear HRd hx
    go_wp2_with fail
    go_at_call 6
    refine HR.out.mono ?_
    rintro e w2 ⟨rfl, kx2, kv, sv, x, y, HB, q1, q2, q3, q4, q5, q6, q7, q8, q9, q10, -, -⟩
    have hl1 := HB1.out.lt
    have K2 := hid (kept_of_kx K1.out kx2 (fun b hb => by
      have := HM.out
      rcases hb with rfl | h | h
      · omega
      · exact absurd h (bk_nil b)
      · exact absurd h (bk_nil b)))
    have HAp := hid (apart_one M w1.heap.size HB kv sv x y w2 q1 (by simpa using q2) (by simpa using q3) hl1 q5 q6 q7 q4 kx2.size q8 q9 q10)
    have HS1 := hid (show w.heap.size ≤ w1.heap.size from K1.out.below.size)
    clear kx2 q1 q2 q3 q4 q5 q6 q7 q8 q9 q10 hl1 HR
    go_wp2_with fail
    go_at_call 7
    refine HAp.out.mono ?_
    rintro e w3 ⟨rfl, kx3⟩
    have K3 := hid (kept_of_kx K2.out kx3 (fun b hb => by have := HS1.out; omega))
    clear kx3
    go_wp2_with fail
    go_ret
    exact ⟨rfl, K3.out⟩
end Go.Proofs.Ytocjfdiimapojaa
