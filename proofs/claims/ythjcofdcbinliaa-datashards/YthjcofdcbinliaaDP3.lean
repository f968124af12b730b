/- The laws' book, one list of pairs: grow. -/
import Derived.Test.YthjcofdcbinliaaDP2
import Derived.Test.YthjcofdcbinliaaDC1
namespace Go.Proofs.Ythjcofdcbinliaa
open Go.ChangeShapes Go.WideShapes Go.ChangeAt Go.RowKit
set_option linter.unusedVariables false
set_option linter.unusedSimpArgs false

theorem G1w.trans {g gl : Nat} {Z W W' : World} (h : G1w g Z W) (k : G1w gl W W') (hg : gl = g ∨ Z.heap.size ≤ gl) : G1w g Z W' :=
  ⟨⟨k.gr.os.trans h.gr.os, k.gr.tape.trans h.gr.tape, k.gr.output.trans h.gr.output, Nat.le_trans h.gr.size k.gr.size, fun i hi hne => (k.gr.block i (Nat.lt_of_lt_of_le hi h.gr.size) (by
    have hn : i ≠ g := fun e => hne (by rw [e])
    intro e
    have : i = gl := by simpa using e
    omega)).trans (h.gr.block i hi hne)⟩, fun x => (k.fz x).trans (h.fz x)⟩
theorem grw_g1 {g : Nat} {Z W : World} (h : Grw g Z W) : G1w g Z W := ⟨h.grown, h.frozen⟩
theorem kept_g1 {Z W : World} (g : Nat) (h : Kept Z W) : G1w g Z W := ⟨⟨h.below.os, h.below.tape, h.below.output, h.below.size, fun i hi _ => h.below.block i hi⟩, h.frozen⟩
/-- the list that grows: still where it was, or anew -/
structure Gp (w : World) (g cap k : Nat) (v : Value) (u : World) (p : Nat) (lv : Value) : Prop where
  mp : MP 0 u lv p (mkp 0 p)
  at' : (p = 0 ∧ lv = .slice none 0 0) ∨ lv = .slice (some ⟨g, 0, none⟩) p cap ∨ ∃ gl cl, lv = .slice (some ⟨gl, 0, none⟩) p cl ∧ w.heap.size ≤ gl
  rd : Rdp u v k (mkp 0 k)
  gw : G1w g w u
theorem mkp_pre (k p j : Nat) (hk : k ≤ p) (hj : j < k * 2) : (mkp 0 p).getD j 0 = (mkp 0 k).getD j 0 := by
  obtain ⟨i, rfl | rfl⟩ : ∃ i, j = i * 2 ∨ j = i * 2 + 1 := ⟨j / 2, by omega⟩
  · rw [(mkp_get 0 p i (by omega)).1, (mkp_get 0 k i (by omega)).1]
  · rw [(mkp_get 0 p i (by omega)).2, (mkp_get 0 k i (by omega)).2]
theorem Gp.kept {w : World} {g cap k : Nat} {v : Value} {u u' : World} {p : Nat} {lv : Value} (h : Gp w g cap k v u p lv) (kk : Kept u u') : Gp w g cap k v u' p lv :=
  ⟨h.mp.kept kk, h.at', h.rd.kept kk, h.gw.kept kk⟩
theorem Gp.form {w : World} {g cap k : Nat} {v : Value} {u : World} {p : Nat} {lv : Value} (h : Gp w g cap k v u p lv) : ∃ a c, lv = .slice a p c := (mp_rdp h.mp).form
/-- some marks more -/
theorem Gp.step {w : World} {g cap k : Nat} {v : Value} {u : World} {p : Nat} {lv : Value} (h : Gp w g cap k v u p lv) (hv : (v = .slice none 0 0 ∧ k = 0) ∨ v = .slice (some ⟨g, 0, none⟩) k cap) (hkp : k ≤ p) (v2 : Value) (m : Nat) (hm : 0 < m) (h2 : Rdp u v2 m (mkp p m)) (hlen : p + m < 1000000) :
    ∃ v' w', (∀ ty, (Builtin.append_ #[23, 23] ty #[lv, v2]).run Try.prog u = .ok v' w') ∧ Gp w g cap k v w' (p + m) v' := by
  obtain ⟨v', w', h3, h4, h5⟩ := app_prs 0 u lv p (mkp 0 p) h.mp v2 m hm (mkp p m) h2 (mkp_len _ _) (Nat.zero_le _) (by omega)
  rw [mkp_app] at h4
  refine ⟨v', w', h3, ?_⟩
  rcases h5 with ⟨kk, c', e⟩ | ⟨gl, cl, e1, e2, kg⟩
  · exact ⟨h4, .inr (.inr ⟨_, _, e, h.gw.gr.size⟩), h.rd.kept kk, h.gw.kept kk⟩
  · have hcase : gl = g ∧ cl = cap ∨ w.heap.size ≤ gl := by
      rcases h.at' with ⟨-, e⟩ | e | ⟨gl', cl', e, hge⟩
      · rw [e] at e1; cases e1
      · rw [e] at e1; cases e1; exact .inl ⟨rfl, rfl⟩
      · rw [e] at e1; cases e1; exact .inr hge
    refine ⟨h4, ?_, ?_, h.gw.trans (grw_g1 kg) (by rcases hcase with h | h; exact .inl h.1; exact .inr h)⟩
    · rcases hcase with ⟨rfl, rfl⟩ | hge
      · exact .inr (.inl e2)
      · exact .inr (.inr ⟨_, _, e2, hge⟩)
    · rcases hv with ⟨rfl, rfl⟩ | rfl
      · exact .inl ⟨rfl, rfl⟩
      · by_cases hgg : gl = g
        · subst hgg
          have hr4 := mp_rdp h4
          rcases hr4 with ⟨e, -⟩ | ⟨g4, c4, e4, b4, r4⟩
          · omega
          · rw [e2] at e4
            cases e4
            exact .inr ⟨_, _, rfl, b4, fun j hj => by rw [r4 j (by omega), mkp_pre k (p + m) j (by omega) hj]⟩
        · rcases h.rd with hq | ⟨g4, c4, e4, b4, r4⟩
          · exact .inl hq
          · have e4' := e4
            cases e4'
            exact .inr ⟨_, _, rfl, Nat.lt_of_lt_of_le b4 kg.grown.size, fun j hj => (grown_cell kg.grown b4 (fun e => hgg e.symm)).trans (r4 j hj)⟩

theorem l3_under : Try.prog.underlying 49 = some (.slice 23) := by kernel_rfl
theorem l2i_info : (Try.prog.info? 23).map (fun i => (i.zero, i.size, i.bytes)) = some (some (.slice none 0 0), 1, 24) := by kernel_rfl
/-- a list put into an empty row of lists -/
theorem app_lst (v : Value) (hv : v.oneCell' = true) (w : World) : ∃ cp w', (∀ ty, (Builtin.append_ #[49, 49] ty #[.slice none 0 0, .slice (some ⟨w.heap.size, 0, none⟩) 1 1]).run Try.prog (w.alloc (.cells #[v] 23)) = .ok (.slice (some ⟨w.heap.size + 1, 0, none⟩) 1 cp) w') ∧ w'.cell? ⟨w.heap.size + 1, 0, none⟩ = some v ∧ (∀ o, w'.frozen? ⟨w.heap.size + 1, o, none⟩ = false) ∧ Kept w w' := by
  have hq := Bq.new w [v] 23
  obtain ⟨g, cp, w', h1, h2, h3⟩ := app_gen 49 23 l3_under (.slice none 0 0) 24 l2i_info rfl (by decide) (w.alloc (.cells #[v] 23)) (.slice none 0 0) [] [v] (.inl ⟨rfl, rfl⟩) ⟨w.heap.size, 0, none⟩ 1 1 rfl (fun j u hj => by
    rcases j with _ | j
    · simp at hj; subst hj; exact hq.c 0 _ rfl
    · simp at hj) (fun u hu => by rw [List.mem_singleton.1 hu]; exact hv) (by decide) (by simp)
  rcases h3 with ⟨rfl, k⟩ | ⟨e, -⟩
  · have hs : (w.alloc (.cells #[v] 23)).heap.size = w.heap.size + 1 := by simp
    rw [hs] at h1 h2
    exact ⟨cp, w', fun ty => by simpa using h1 ty, h2.cell 0 _ rfl, fun o => h2.free o, ((Kept.refl w).alloc _ _).trans k⟩
  · cases e
end Go.Proofs.Ythjcofdcbinliaa
