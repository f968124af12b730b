/- Same of package tensor where all elements are the same. -/
import Derived.Test.YtijmjnmimijfdabT5
import Derived.Test.YtijmjnmimijfdabTE
import Derived.Test.YtijmjnmimijfdabTF
import Derived.Deep.CutRange
import Derived.Deep.RegionHeld
namespace Go.Proofs.Ytijmjnmimijfdab
open Go.ChangeShapes Go.WideShapes Go.ChangeAt Go.RowKit Go.Shelf
set_option linter.unusedVariables false
set_option linter.unusedSimpArgs false
attribute [local go_sem] Oper.semAt_some

theorem Kept.others {W u : World} (h : Kept W u) : KeepsOthers W u := ⟨h.below.size, fun k o hk ho => by
  have hl : k < W.heap.size := by
    rcases Nat.lt_or_ge k W.heap.size with h1 | h1
    · exact h1
    · rw [Array.getElem?_eq_none h1] at hk; cases hk
  exact (h.below.block k hl).trans hk⟩

section
variable {F : Fence} {n : Nat} {P : Program} {ops : Array Oper} {Q : Exit → Act → World → Prop} {md : Region.Mode} {S : World → Prop} {D : List Nat}
/-- One operation alone may come up; it keeps S. -/
theorem wpAnyF_one {i : Nat} {o : Oper} {fuel : Nat} {listed : Array Bool} {a : Act} {w : World} (hr : Region.ready md ops listed = [i]) (ho : ops[i]? = some o)
    (h : ∀ K' : Act → World → Prop, Shut (∀ a w, S w → wpAnyF F n P md ops Q S D fuel (listed.setIfInBounds i true) a w → K' a w) → if Region.wanted o (yielded ops a.tmps) = true then Oper.wpIn F n P o a w K' Q else (∀ f, o.about P w a.eval = some f → F.fn f) ∧ K' (a.put o.dst undef) w) :
    wpAnyF F n P md ops Q S D (fuel + 1) listed a w := by
  refine ⟨fun h0 => (by rw [hr] at h0; cases h0), fun j hj => ?_⟩
  rw [hr] at hj
  obtain rfl := List.mem_singleton.1 hj
  exact wpOpIn_step ho (fun K' hK => h K' (fun a w hs hW => hK a w ⟨fun _ => hs, hW⟩))
/-- Two operations may come up; each keeps S. -/
theorem wpAnyF_two {i j : Nat} {o o' : Oper} {fuel : Nat} {listed : Array Bool} {a : Act} {w : World} (hr : Region.ready md ops listed = [i, j]) (ho : ops[i]? = some o) (ho' : ops[j]? = some o')
    (h : ∀ K' : Act → World → Prop, Shut (∀ a w, S w → wpAnyF F n P md ops Q S D fuel (listed.setIfInBounds i true) a w → K' a w) → if Region.wanted o (yielded ops a.tmps) = true then Oper.wpIn F n P o a w K' Q else (∀ f, o.about P w a.eval = some f → F.fn f) ∧ K' (a.put o.dst undef) w)
    (h' : ∀ K' : Act → World → Prop, Shut (∀ a w, S w → wpAnyF F n P md ops Q S D fuel (listed.setIfInBounds j true) a w → K' a w) → if Region.wanted o' (yielded ops a.tmps) = true then Oper.wpIn F n P o' a w K' Q else (∀ f, o'.about P w a.eval = some f → F.fn f) ∧ K' (a.put o'.dst undef) w) :
    wpAnyF F n P md ops Q S D (fuel + 1) listed a w := by
  refine ⟨fun h0 => (by rw [hr] at h0; cases h0), fun m hm => ?_⟩
  rw [hr] at hm
  rcases List.mem_cons.1 hm with rfl | hm
  · exact wpOpIn_step ho (fun K' hK => h K' (fun a w hs hW => hK a w ⟨fun _ => hs, hW⟩))
  · obtain rfl := List.mem_singleton.1 hm
    exact wpOpIn_step ho' (fun K' hK => h' K' (fun a w hs hW => hK a w ⟨fun _ => hs, hW⟩))
end

set_option maxRecDepth 100000 in
set_option maxHeartbeats 4000000 in
theorem same_ok (R C : Nat) (n : Int) (hn : n = 64 ∨ n = 32) (hR : 0 < R) (hC : 0 < C) (hRC : R * C ≤ 4096) (M N : List Int) (hML : M.length = R * C) (hNL : N.length = R * C) (hRgM : Rgl M) (hRgN : Rgl N) (hE : ∀ i, i < R * C → cln (M.getD i 0) n = cln (N.getD i 0) n) (hck : ckM R C n M = 0) (hck2 : ckM R C n N = 0) (b off cap b2 off2 cap2 : Nat) (hcap : R * C ≤ cap) (hcap2 : R * C ≤ cap2) (w : World) (hb : b < w.heap.size) (hb2 : b2 < w.heap.size) (hrd : Reads w b off M) (hrd2 : Reads w b2 off2 N) (hSl : Sl w (.slice (some ⟨b, off, none⟩) M.length cap) M) (hSl2 : Sl w (.slice (some ⟨b2, off2, none⟩) N.length cap2) N) :
    Calls Try.prog 9 #[.agg #[.int .i64 R, .int .i64 C, .int .i64 n, .slice (some ⟨b, off, none⟩) (R * C) cap], .agg #[.int .i64 R, .int .i64 C, .int .i64 n, .slice (some ⟨b2, off2, none⟩) (R * C) cap2]] w fun e w' => e = .returned (.bool true) ∧ Bl w w' := by
  obtain ⟨X, hX⟩ : ∃ X, X = ((w.alloc (.cells #[.int .i64 R, .int .i64 C, .int .i64 n, .slice (some ⟨b, off, none⟩) (R * C) cap] 24)).alloc (.cells #[.int .i64 R, .int .i64 C, .int .i64 n, .slice (some ⟨b2, off2, none⟩) (R * C) cap2] 24)).alloc (.cells #[.bool false] 4) := ⟨_, rfl⟩
  have hXs : X.heap.size = w.heap.size + 3 := by rw [hX]; simp
  have hKX : Kept w X := by rw [hX]; exact (((Kept.refl w).alloc _ _).alloc _ _).alloc _ _
  have hmX : M4 X w.heap.size (.int .i64 R) (.int .i64 C) (.int .i64 n) (.slice (some ⟨b, off, none⟩) (R * C) cap) := by rw [hX]; exact ⟨by simp [go_sem], by simp [go_sem], by simp [go_sem], by simp [go_sem]⟩
  have hmY : M4 X (w.heap.size + 1) (.int .i64 R) (.int .i64 C) (.int .i64 n) (.slice (some ⟨b2, off2, none⟩) (R * C) cap2) := by rw [hX]; exact ⟨by simp [go_sem], by simp [go_sem], by simp [go_sem], by simp [go_sem]⟩
  have hrX : X.cell? ⟨w.heap.size + 2, 0, none⟩ = some (.bool false) := by rw [hX]; simp [go_sem]
  have hfX : Hid (∀ o, X.frozen? ⟨w.heap.size + 2, o, none⟩ = false) := fun o => by rw [hX]; simp [go_sem]
  have KC : Hid (∀ u, Kept X u → Calls Try.prog 17 #[.agg #[.int .i64 R, .int .i64 C, .int .i64 n, .slice (some ⟨b, off, none⟩) (R * C) cap]] u fun e w' => e = .returned (.int .i64 0) ∧ Kept X w') := fun u ku => by
    have := check_any R C n (some ⟨b, off, none⟩) cap M u (hSl.kept (hKX.trans ku))
    rw [hck, hML] at this
    refine this.mono ?_
    rintro e w' ⟨rfl, k⟩
    exact ⟨rfl, ku.trans k⟩
  have KD : Hid (∀ u, Kept X u → Calls Try.prog 17 #[.agg #[.int .i64 R, .int .i64 C, .int .i64 n, .slice (some ⟨b2, off2, none⟩) (R * C) cap2]] u fun e w' => e = .returned (.int .i64 0) ∧ Kept X w') := fun u ku => by
    have := check_any R C n (some ⟨b2, off2, none⟩) cap2 N u (hSl2.kept (hKX.trans ku))
    rw [hck2, hNL] at this
    refine this.mono ?_
    rintro e w' ⟨rfl, k⟩
    exact ⟨rfl, ku.trans k⟩
  have KCC : Hid (∀ u bb oo cc, Kept X u → ((bb = b ∧ oo = off ∧ cc = cap) ∨ (bb = b2 ∧ oo = off2 ∧ cc = cap2)) → Calls Try.prog 17 #[.agg #[.int .i64 R, .int .i64 C, .int .i64 n, .slice (some ⟨bb, oo, none⟩) (R * C) cc]] u fun e w' => e = .returned (.int .i64 0) ∧ Kept X w') := fun u bb oo cc ku hor => by
    rcases hor with ⟨rfl, rfl, rfl⟩ | ⟨rfl, rfl, rfl⟩
    · exact KC.out u ku
    · exact KD.out u ku
  have KA : Hid (∀ u s, Kept X u → Calls Try.prog 31 #[.agg #[.int .i64 R, .int .i64 C, .int .i64 n, s]] u fun e w' => e = .returned (.agg #[.int .i64 R, .int .i64 C, .int .i64 n]) ∧ Kept X w') := fun u s ku => by
    refine (shapeOf_any _ _ _ s u).mono ?_
    rintro e w' ⟨rfl, k⟩
    exact ⟨rfl, ku.trans k⟩
  have HS : Hid (∀ u, Kept X u → Kept X u ∧ (u.cell? ⟨w.heap.size, 0, none⟩ = some (.int .i64 R) ∧ u.cell? ⟨w.heap.size, 1, none⟩ = some (.int .i64 C) ∧ u.cell? ⟨w.heap.size, 2, none⟩ = some (.int .i64 n) ∧ u.cell? ⟨w.heap.size, 3, none⟩ = some (.slice (some ⟨b, off, none⟩) (R * C) cap)) ∧ (u.cell? ⟨w.heap.size + 1, 0, none⟩ = some (.int .i64 R) ∧ u.cell? ⟨w.heap.size + 1, 1, none⟩ = some (.int .i64 C) ∧ u.cell? ⟨w.heap.size + 1, 2, none⟩ = some (.int .i64 n) ∧ u.cell? ⟨w.heap.size + 1, 3, none⟩ = some (.slice (some ⟨b2, off2, none⟩) (R * C) cap2))) := fun u ku => by
    obtain ⟨x0, x1, x2, x3⟩ := hmX.bl ku.bl
    obtain ⟨y0, y1, y2, y3⟩ := hmY.bl ku.bl
    exact ⟨ku, ⟨x0, x1, x2, x3⟩, ⟨y0, y1, y2, y3⟩⟩
  obtain ⟨rc, hrc⟩ : ∃ rc, R * C = rc := ⟨_, rfl⟩
  have HRC : Hid (R * C = rc) := hrc
  rw [hrc] at hRC hML hNL hcap hcap2 hmX hmY KCC HS hX hE ⊢
  clear hrc KC KD
  refine (callsIn_wide (n := 3)).1 ?_
  refine callsIn_of_wp_marks Try.func9 rfl trivial ?_ rfl
  rw [wpIn_wide]
  refine Code.wp_mono npPost_imp ?_
  simp only [Try.ntmps9, List.size_toArray, List.length_cons, List.length_nil, Nat.reduceAdd, Nat.reduceSub, Array.replicate_succ, Array.replicate_zero, List.push_toArray, List.append_toArray, List.nil_append, List.cons_append]
  go_upto_region 1 with fail
  rw [← hX]
  clear hX
  have kd := (Kept.refl X).drew
  go_cut [23] from 9 to 23 (fun t23 wx => t23 = .bool false ∧ Kept X wx)
  case first =>
    clear hrd hrd2 hSl hSl2 hRgM hRgN hE hck hck2 hML hNL
    go_region_held (fun u => Kept X u ∧ (u.cell? ⟨w.heap.size, 0, none⟩ = some (.int .i64 R) ∧ u.cell? ⟨w.heap.size, 1, none⟩ = some (.int .i64 C) ∧ u.cell? ⟨w.heap.size, 2, none⟩ = some (.int .i64 n) ∧ u.cell? ⟨w.heap.size, 3, none⟩ = some (.slice (some ⟨b, off, none⟩) rc cap)) ∧ (u.cell? ⟨w.heap.size + 1, 0, none⟩ = some (.int .i64 R) ∧ u.cell? ⟨w.heap.size + 1, 1, none⟩ = some (.int .i64 C) ∧ u.cell? ⟨w.heap.size + 1, 2, none⟩ = some (.int .i64 n) ∧ u.cell? ⟨w.heap.size + 1, 3, none⟩ = some (.slice (some ⟨b2, off2, none⟩) rc cap2))) (first | assumption | exact HS.out _ kd | exact HS.out _ (by assumption)) (first | (go_at_call 17; refine (KCC.out _ _ _ _ (by assumption) (by first | exact .inl ⟨rfl, rfl, rfl⟩ | exact .inr ⟨rfl, rfl, rfl⟩)).mono ?_; rintro e w3 ⟨rfl, k3⟩) | (go_at_call 31; refine (KA.out _ _ (by assumption)).mono ?_; rintro e w4 ⟨rfl, k4⟩))
    all_goals go_wp2_with fail
    all_goals go_meet
    all_goals exact ⟨rfl, by assumption⟩
  case rest =>
  obtain ⟨rfl, kc⟩ := hcut
  have KR : Hid (∀ u, Calls Try.prog 32 #[.agg #[.int .i64 R, .int .i64 C, .int .i64 n, .slice (some ⟨b, off, none⟩) rc cap]] u fun e w' => e = .returned (.func (.func 61) #[] #[.pointer (some ⟨u.heap.size, 0, none⟩)]) ∧ w' = u.alloc (.cells #[.int .i64 R, .int .i64 C, .int .i64 n, .slice (some ⟨b, off, none⟩) rc cap] 24)) := fun u => rowsOf_any _ _ _ _ u
  obtain ⟨-, ⟨m0, m1, m2, m3⟩, -⟩ := HS.out _ kc
  go_wp2_with (first | (go_at_call 32; refine (KR.out _).mono ?_; rintro e w2 ⟨rfl, rfl⟩))
  have hbY := M4.new wc (.int .i64 R) (.int .i64 C) (.int .i64 n) (.slice (some ⟨b, off, none⟩) rc cap) 24
  obtain ⟨Z, hZ⟩ : ∃ Z, Z = wc.alloc (.cells #[.int .i64 R, .int .i64 C, .int .i64 n, .slice (some ⟨b, off, none⟩) rc cap] 24) := ⟨_, rfl⟩
  rw [← hZ] at hbY ⊢
  have kXZ : Kept X Z := by rw [hZ]; exact kc.alloc _ _
  have hZs : Z.heap.size = wc.heap.size + 1 := by rw [hZ]; simp
  have hsc := kc.below.size
  have HrdM : Hid (∀ i, i < M.length → Z.cell? ⟨b, off + i, none⟩ = some (.int .i64 (M.getD i 0))) := fun i hi => hrd.kept hb (hKX.trans kXZ) i hi
  have HrdN : Hid (∀ i, i < N.length → Z.cell? ⟨b2, off2 + i, none⟩ = some (.int .i64 (N.getD i 0))) := fun i hi => hrd2.kept hb2 (hKX.trans kXZ) i hi
  have hmZ := hmX.bl kXZ.bl
  have hmZ2 := hmY.bl kXZ.bl
  have hrZ := (kXZ.bl.cell (w.heap.size + 2) 0 (by omega)).trans hrX
  have hfZ : Z.frozen? ⟨w.heap.size + 2, 0, none⟩ = false := (kXZ.frozen _).trans (hfX.out 0)
  have hKwZ := hKX.trans kXZ
  clear hZ m0 m1 m2 m3 KR HS KCC KA hrd hrd2 hSl hSl2 hck hck2 hmX hmY hrX hfX kd
  have RS := rows_stops 2 (by decide) wc.heap.size R C n b off cap hC (by rw [HRC.out]; omega) (by rw [HRC.out]; exact hcap) Z (by rw [HRC.out]; exact hbY)
  generalize hzb : wc.heap.size = zb at *
  clear hzb
  obtain ⟨g, hg⟩ : ∃ g, g = Z.heap.size := ⟨_, rfl⟩
  rw [← wpIn_wide (n := 3)]
  refine wpIn_rangeFunc_ownF rfl (by decide) (gf := 61) (lb := #[.pointer (some ⟨zb, 0, none⟩)]) rfl trivial (enters_of Try.func61 (by kernel_rfl) rfl) RS (fun h k => k.trans h) (fun W l o o' hl _ _ _ => World.putObj_heap_other (by omega)) (Below.refl _ _) (fun _ => rfl)
    (fun pre W => Z.grownBy W (some g)) (fun _ _ _ => False)
    (fun s A B row hs hg hr => grown_abid hs hg hr) (fun _ _ _ _ _ hs _ _ => hs)
    (World.grownBy.refl _ _)
    (fun x => { tmps := #[.agg #[.int .i64 R, .int .i64 C, .int .i64 n, .slice (some ⟨b, off, none⟩) rc cap], .agg #[.int .i64 R, .int .i64 C, .int .i64 n, .slice (some ⟨b2, off2, none⟩) rc cap2], .pointer (some ⟨w.heap.size, 0, none⟩), .pointer (some ⟨w.heap.size + 1, 0, none⟩), .pointer (some ⟨w.heap.size + 1 + 1, 0, none⟩), .int .i64 (x.1 : Int), .slice (some ⟨b, off + x.1 * C, none⟩) C C, undef, undef, u9, u10, u11, u12, u13, u14, u15, u16, u17, u18, u19, u20, u21, u22, .bool false, .agg #[.int .i64 R, .int .i64 C, .int .i64 n, .slice (some ⟨b, off, none⟩) rc cap], .func (.func 61) #[] #[.pointer (some ⟨zb, 0, none⟩)], .int .i64 (x.1 : Int), .slice (some ⟨b, off + x.1 * C, none⟩) C C, undef, undef, undef, undef, undef, undef, undef, undef, undef, undef, undef, undef, undef, undef, undef, undef, undef, undef, undef, undef, undef, undef], defers := [] }) ?assign ?body ?done ?stop
  case assign =>
    intro l x W K hK
    gi_wp2
    exact hK
  case body =>
    rintro l pre ⟨x, hx⟩ W hG hlt
    dsimp only
    have hCs : C ≤ 4096 := by
      have := Nat.le_mul_of_pos_left C hR
      rw [HRC.out] at this
      omega
    have hxc : ∀ k, k < C → x * C + k < rc := fun k hk => by
      have h1 : (x + 1) * C ≤ R * C := Nat.mul_le_mul_right _ hx
      rw [Nat.succ_mul, HRC.out] at h1
      omega
    have KB : Hid (∀ u, Calls Try.prog 33 #[.agg #[.int .i64 R, .int .i64 C, .int .i64 n, .slice (some ⟨b2, off2, none⟩) rc cap2], .int .i64 x] u fun e w' => e = .returned (.slice (some ⟨b2, off2 + x * C, none⟩) C C) ∧ Kept u w') := fun u => by
      have := rowOf_any R C x n hx hC (by rw [HRC.out]; omega) b2 off2 rc cap2 HRC.out.symm hcap2 u
      exact this
    have HCL : Hid (∀ u, Kept W u → ∀ k, k < C → u.cell? ⟨b, off + x * C + k, none⟩ = some (.int .i64 (M.getD (x * C + k) 0)) ∧ u.cell? ⟨b2, off2 + x * C + k, none⟩ = some (.int .i64 (N.getD (x * C + k) 0)) ∧ u.cell? ⟨w.heap.size, 2, none⟩ = some (.int .i64 n) ∧ u.cell? ⟨w.heap.size + 1, 2, none⟩ = some (.int .i64 n)) := fun u ku k hk => by
      have h1 := HrdM.out (x * C + k) (by rw [hML]; exact hxc k hk)
      have h2 := HrdN.out (x * C + k) (by rw [hNL]; exact hxc k hk)
      rw [← Nat.add_assoc] at h1 h2
      have hbZ : b < Z.heap.size := by omega
      have hbZ2 : b2 < Z.heap.size := by omega
      have hs := hG.size
      have gc : ∀ B o, B < Z.heap.size → u.cell? ⟨B, o, none⟩ = Z.cell? ⟨B, o, none⟩ := fun B o hB => (ku.bl.cell B o (by omega)).trans (grown_cell hG hB (by omega))
      exact ⟨(gc _ _ hbZ).trans h1, (gc _ _ hbZ2).trans h2, (gc _ _ (by omega)).trans hmZ.c2, (gc _ _ (by omega)).trans hmZ2.c2⟩
    have HTD : Hid (∀ k, k < C → ∀ u v, (v = M.getD (x * C + k) 0 ∨ v = N.getD (x * C + k) 0) → Calls Try.prog 34 #[.int .i64 v, .int .i64 n] u fun e w' => e = .returned (.int .i64 (cln (M.getD (x * C + k) 0) n)) ∧ Kept u w') := fun k hk u v hv => by
      have h1 := hRgM (x * C + k) (by rw [hML]; exact hxc k hk)
      have h2 := hRgN (x * C + k) (by rw [hNL]; exact hxc k hk)
      rcases hv with rfl | rfl
      · exact told_any _ n hn h1.1 h1.2 u
      · have := told_any (N.getD (x * C + k) 0) n hn h2.1 h2.2 u
        rw [← hE (x * C + k) (hxc k hk)] at this
        exact this
    have v0 : W.cell? ⟨w.heap.size + 1, 0, none⟩ = some (.int .i64 R) := (grown_cell hG (by omega) (by omega)).trans hmZ2.c0
    have v1 : W.cell? ⟨w.heap.size + 1, 1, none⟩ = some (.int .i64 C) := (grown_cell hG (by omega) (by omega)).trans hmZ2.c1
    have v2 : W.cell? ⟨w.heap.size + 1, 2, none⟩ = some (.int .i64 n) := (grown_cell hG (by omega) (by omega)).trans hmZ2.c2
    have v3 : W.cell? ⟨w.heap.size + 1, 3, none⟩ = some (.slice (some ⟨b2, off2, none⟩) rc cap2) := (grown_cell hG (by omega) (by omega)).trans hmZ2.c3
    have hzW : zb < W.heap.size := by have := hG.size; omega
    clear HrdM HrdN hmZ hmZ2 hrZ hfZ RS hbY hE hRgM hRgN hxc
    gi_wp2_with (first | (refine ⟨trivial, ?_⟩; gi_at_call 33; refine (CallsIn.inRound l (callsIn_wide.2 (KB.out _))).mono ?_; rintro e w3 ⟨rfl, k3⟩))
    gi_loopw [32] (fun iv wr => ∃ k : Nat, k ≤ C ∧ iv = .int .i64 k ∧ Kept W wr) (fun iv _ => C - (intOf iv).toNat)
    case atStart => exact ⟨0, Nat.zero_le _, rfl, k3⟩
    case round =>
      clear v0 v1 v2 v3
      obtain ⟨k, hk, rfl, kr⟩ := hrel
      by_cases hkl : k < C
      · have z0 : IntKind.i64.wrap ((k : Int) + 1) = (k : Int) + 1 := by rw [wrap_i64]; omega
        obtain ⟨q0, q1, q2, q3⟩ := HCL.out wr kr k hkl
        have HC1 : Hid (∀ u, Kept W u → _) := fun u ku => HCL.out u ku k hkl
        have KT : Hid (∀ u v, (v = M.getD (x * C + k) 0 ∨ v = N.getD (x * C + k) 0) → Kept W u → Calls Try.prog 34 #[.int .i64 v, .int .i64 n] u fun e w' => e = .returned (.int .i64 (cln (M.getD (x * C + k) 0) n)) ∧ Kept W w') := fun u v hv ku => by
          refine (HTD.out k hkl u v hv).mono ?_
          rintro e w' ⟨rfl, k2⟩
          exact ⟨rfl, ku.trans k2⟩
        clear HTD HCL KB k3
        generalize cln (M.getD (x * C + k) 0) n = cl at *
        generalize M.getD (x * C + k) 0 = mv at *
        generalize N.getD (x * C + k) 0 = nv at *
        have hcc : (cl != cl) = false := by simp
        have hcd : (cl == cl) = true := by simp
        have HSx : Hid (∀ u, Kept W u → Kept W u ∧ u.cell? ⟨b, off + x * C + k, none⟩ = some (.int .i64 mv) ∧ u.cell? ⟨b2, off2 + x * C + k, none⟩ = some (.int .i64 nv) ∧ u.cell? ⟨w.heap.size, 2, none⟩ = some (.int .i64 n) ∧ u.cell? ⟨w.heap.size + 1, 2, none⟩ = some (.int .i64 n)) := fun u ku => ⟨ku, HC1.out u ku⟩
        gi_wp2
        refine wpIn_region_late [] (fun u => Kept W u ∧ u.cell? ⟨b, off + x * C + k, none⟩ = some (.int .i64 mv) ∧ u.cell? ⟨b2, off2 + x * C + k, none⟩ = some (.int .i64 nv) ∧ u.cell? ⟨w.heap.size, 2, none⟩ = some (.int .i64 n) ∧ u.cell? ⟨w.heap.size + 1, 2, none⟩ = some (.int .i64 n)) (by kernel_rfl) (HSx.out _ kr.drew) (fun hHeld => ?_)
        refine wpAnyF_take (i := 0) (v := ?_) (by kernel_rfl) rfl (by kernel_rfl) (by kernel_rfl) (by kernel_rfl) (by kernel_rfl) (fun _ _ _ h => h) (fun _ => rfl) (Or.inl ⟨by rfl, ?hy0⟩) hHeld ?_
        case hy0 => (intro w hSw; (try dsimp only at hSw); go_simp; try (with_reducible rfl))
        (try simp only [Act.put, List.getElem_toArray, List.getElem_cons_succ, List.getElem_cons_zero, List.setIfInBounds_toArray, List.set_cons_zero, List.set_cons_succ])
        refine wpAnyF_take (i := 1) (v := ?_) (by kernel_rfl) rfl (by kernel_rfl) (by kernel_rfl) (by kernel_rfl) (by kernel_rfl) (fun _ _ _ h => h) (fun _ => rfl) (Or.inl ⟨by rfl, ?hy1⟩) hHeld ?_
        case hy1 => (intro w hSw; (try dsimp only at hSw); go_simp; try (with_reducible rfl))
        (try simp only [Act.put, List.getElem_toArray, List.getElem_cons_succ, List.getElem_cons_zero, List.setIfInBounds_toArray, List.set_cons_zero, List.set_cons_succ])
        refine wpAnyF_take (i := 2) (v := ?_) (by kernel_rfl) rfl (by kernel_rfl) (by kernel_rfl) (by kernel_rfl) (by kernel_rfl) (fun _ _ _ h => h) (fun _ => rfl) (Or.inl ⟨by rfl, ?hy2⟩) hHeld ?_
        case hy2 => (intro w hSw; (try dsimp only at hSw); go_simp; try (with_reducible rfl))
        (try simp only [Act.put, List.getElem_toArray, List.getElem_cons_succ, List.getElem_cons_zero, List.setIfInBounds_toArray, List.set_cons_zero, List.set_cons_succ])
        refine wpAnyF_take (i := 3) (v := ?_) (by kernel_rfl) rfl (by kernel_rfl) (by kernel_rfl) (by kernel_rfl) (by kernel_rfl) (fun _ _ _ h => h) (fun _ => rfl) (Or.inl ⟨by rfl, ?hy3⟩) hHeld ?_
        case hy3 => (intro w hSw; (try dsimp only at hSw); go_simp; try (with_reducible rfl))
        (try simp only [Act.put, List.getElem_toArray, List.getElem_cons_succ, List.getElem_cons_zero, List.setIfInBounds_toArray, List.set_cons_zero, List.set_cons_succ])
        refine wpAnyF_take (i := 4) (v := ?_) (by kernel_rfl) rfl (by kernel_rfl) (by kernel_rfl) (by kernel_rfl) (by kernel_rfl) (fun _ _ _ h => h) (fun _ => rfl) (Or.inl ⟨by rfl, ?hy4⟩) hHeld ?_
        case hy4 => (intro w hSw; (try dsimp only at hSw); go_simp; try (with_reducible rfl))
        (try simp only [Act.put, List.getElem_toArray, List.getElem_cons_succ, List.getElem_cons_zero, List.setIfInBounds_toArray, List.set_cons_zero, List.set_cons_succ])
        refine wpAnyF_take (i := 5) (v := ?_) (by kernel_rfl) rfl (by kernel_rfl) (by kernel_rfl) (by kernel_rfl) (by kernel_rfl) (fun _ _ _ h => h) (fun _ => rfl) (Or.inl ⟨by rfl, ?hy5⟩) hHeld ?_
        case hy5 => (intro w hSw; (try dsimp only at hSw); go_simp; try (with_reducible rfl))
        (try simp only [Act.put, List.getElem_toArray, List.getElem_cons_succ, List.getElem_cons_zero, List.setIfInBounds_toArray, List.set_cons_zero, List.set_cons_succ])
        refine wpAnyF_take (i := 7) (v := ?_) (by kernel_rfl) rfl (by kernel_rfl) (by kernel_rfl) (by kernel_rfl) (by kernel_rfl) (fun _ _ _ h => h) (fun _ => rfl) (Or.inl ⟨by rfl, ?hy7⟩) hHeld ?_
        case hy7 => (intro w hSw; (try dsimp only at hSw); go_simp; try (with_reducible rfl))
        (try simp only [Act.put, List.getElem_toArray, List.getElem_cons_succ, List.getElem_cons_zero, List.setIfInBounds_toArray, List.set_cons_zero, List.set_cons_succ])
        refine wpAnyF_take (i := 8) (v := ?_) (by kernel_rfl) rfl (by kernel_rfl) (by kernel_rfl) (by kernel_rfl) (by kernel_rfl) (fun _ _ _ h => h) (fun _ => rfl) (Or.inl ⟨by rfl, ?hy8⟩) hHeld ?_
        case hy8 => (intro w hSw; (try dsimp only at hSw); go_simp; try (with_reducible rfl))
        (try simp only [Act.put, List.getElem_toArray, List.getElem_cons_succ, List.getElem_cons_zero, List.setIfInBounds_toArray, List.set_cons_zero, List.set_cons_succ])
        refine wpAnyF_take (i := 9) (v := ?_) (by kernel_rfl) rfl (by kernel_rfl) (by kernel_rfl) (by kernel_rfl) (by kernel_rfl) (fun _ _ _ h => h) (fun _ => rfl) (Or.inl ⟨by rfl, ?hy9⟩) hHeld ?_
        case hy9 => (intro w hSw; (try dsimp only at hSw); go_simp; try (with_reducible rfl))
        (try simp only [Act.put, List.getElem_toArray, List.getElem_cons_succ, List.getElem_cons_zero, List.setIfInBounds_toArray, List.set_cons_zero, List.set_cons_succ])
        refine wpAnyF_one (i := 6) (by kernel_rfl) rfl (fun K hK9 => ?_)
        (rw [if_pos (by rfl)])
        gi_wp2_with (first | (refine ⟨trivial, ?_⟩; gi_at_call 34; refine (CallsIn.inRound l (callsIn_wide.2 (KT.out _ _ (.inl rfl) kr.drew))).mono ?_; rintro e w4 ⟨rfl, k4⟩))
        refine hK9.out _ _ (HSx.out _ k4) ?_
        clear hK9 K
        (try simp only [Act.put, List.getElem_toArray, List.getElem_cons_succ, List.getElem_cons_zero, List.setIfInBounds_toArray, List.set_cons_zero, List.set_cons_succ])
        refine wpAnyF_one (i := 10) (by kernel_rfl) rfl (fun K hK9 => ?_)
        (rw [if_pos (by rfl)])
        gi_wp2_with (first | (refine ⟨trivial, ?_⟩; gi_at_call 34; refine (CallsIn.inRound l (callsIn_wide.2 (KT.out _ _ (.inr rfl) k4))).mono ?_; rintro e w5 ⟨rfl, k5⟩))
        refine hK9.out _ _ (HSx.out _ k5) ?_
        clear hK9 K
        (try simp only [Act.put, List.getElem_toArray, List.getElem_cons_succ, List.getElem_cons_zero, List.setIfInBounds_toArray, List.set_cons_zero, List.set_cons_succ])
        refine wpAnyF_one (i := 11) (by kernel_rfl) rfl (fun K hK9 => ?_)
        rw [if_pos (by rfl)]
        gi_wp2_with fail
        refine hK9.out _ _ (HSx.out _ k5) ?_
        clear hK9 K
        (try simp only [Act.put, List.getElem_toArray, List.getElem_cons_succ, List.getElem_cons_zero, List.setIfInBounds_toArray, List.set_cons_zero, List.set_cons_succ])
        refine wpAnyF_done (by kernel_rfl) ?_ _
        (try simp only [Act.put, List.getElem_toArray, List.getElem_cons_succ, List.getElem_cons_zero, List.setIfInBounds_toArray, List.set_cons_zero, List.set_cons_succ])
        gi_wp2_with fail
        go_roundw
        case rel => exact ⟨k + 1, by omega, by go_num, k5⟩
        case measure => simp [intOf]; omega
      · obtain rfl : k = C := by omega
        gi_wp2
        exact ⟨kr.others, kr.below.block zb hzW, grown_trans hG ⟨kr.below.os, kr.below.tape, kr.below.output, kr.below.size, fun i hi _ => kr.below.block i hi⟩⟩
  case done =>
    rintro D xs W hD rfl hG hK
    have c0 : W.cell? ⟨w.heap.size + 2, 0, none⟩ = some (.bool false) := (grown_cell hG (by omega) (by omega)).trans hrZ
    have c1 : W.frozen? ⟨w.heap.size + 2, 0, none⟩ = false := (grown_frozen hG (by omega) (by omega)).trans hfZ
    have hB1 : Bl w W := ⟨hKwZ.below.grown hG (by omega) (fun i e => by cases e; omega)⟩
    clear HrdM HrdN hmZ hmZ2 RS hbY hE hRgM hRgN
    go_wp2_with fail
    have hK5 := (KeepsOthers.setCell W ⟨w.heap.size + 2, 0, none⟩ (.bool true)).same D _ hK rfl
    have p0 : ((W.setCell ⟨w.heap.size + 2, 0, none⟩ (.bool true)).putObj D (.deferred none)).cell? ⟨w.heap.size + 2, 0, none⟩ = some (.bool true) := by
      rw [World.cell?_of_block (w := W.setCell ⟨w.heap.size + 2, 0, none⟩ (.bool true)) (a := ⟨w.heap.size + 2, 0, none⟩) (World.putObj_heap_other (by show w.heap.size + 2 ≠ D; omega))]
      exact World.cell?_setCell_same' _ _ _ (by rw [c0]; rfl)
    have hB5 : Bl w ((W.setCell ⟨w.heap.size + 2, 0, none⟩ (.bool true)).putObj D (.deferred none)) := by
      have h2 := hB1.setCell (p := ⟨w.heap.size + 2, 0, none⟩) (by simp) (.bool true)
      exact ⟨h2.below.trans (belowK_b (w := w) (Nat.le_refl _) _ D _ _ (by omega) hK5 rfl rfl)⟩
    refine ⟨by simp, .inl ⟨_, _, rfl, run_takeDeferred hK5, ?_⟩⟩
    exact ⟨.bool true, by simp [results, Try.f9, go_sem, p0], rfl, hB5⟩
  case stop =>
    rintro D c pre W _ _ h _
    exact h.elim
end Go.Proofs.Ytijmjnmimijfdab
