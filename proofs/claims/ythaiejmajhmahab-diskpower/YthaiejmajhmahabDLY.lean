/- Package disk: Crash. -/
import Derived.Test.YthaiejmajhmahabDLX
namespace Go.Proofs.Ythaiejmajhmahab
open Go.ChangeShapes Go.WideShapes Go.ChangeAt Go.RowKit Go.Maps
set_option linter.unusedVariables false
set_option linter.unusedSimpArgs false

/-- What Crash makes of a disk. -/
def CraR (keep : List Int) (d d' : Dk) : Prop :=
  ∃ cn', (∀ s f, (crN d.W keep d.W.length d).nF s = some f → cn' f = (crN d.W keep d.W.length d).cf f) ∧ d' = { crN d.W keep d.W.length d with on := true, fused := false, left := 0, W := [], nN := (crN d.W keep d.W.length d).nF, nn := (crN d.W keep d.W.length d).nf, cn := cn' }
/-- The names' files, as they are copied one by one; r is the range's block. -/
def CopI (w : World) (O : Nat → Prop) (B : Nat) (Fs : Nat → Prop) (d : Dk) (q m r : Nat) (left : ByteArray → Bool) (wr : World) : Prop :=
  ∃ O' a' cn', Stp w O wr O' ∧ DSt wr O' B a' { d with cn := cn' } ∧ a'.mN = m ∧ a'.Fs = Fs ∧ (∀ f, (cn' f).length ≤ q) ∧ ¬ O' r ∧ (∀ s f, d.nN s = some f → left s = false → cn' f = d.cf f)
theorem CopI.kx {w u u' : World} {O : Nat → Prop} {B : Nat} {Fs : Nat → Prop} {d : Dk} {q m r : Nat} {left : ByteArray → Bool} (h : CopI w O B Fs d q m r left u) (k : KX (fun i => i = r) u u') (hr : w.heap.size ≤ r) : CopI w O B Fs d q m r left u' := by
  obtain ⟨O', a', cn', h1, h2, h3, h4, h5, h6, h7⟩ := h
  exact ⟨O', a', cn', ⟨h1.kx.plus k fun b hb => .inr (by omega), h1.new⟩, h2.kx k fun b hb => (by rw [hb]; exact h6), h3, h4, h5, h6, h7⟩
theorem CopI.file {w wr : World} {O : Nat → Prop} {B : Nat} {Fs : Nat → Prop} {d : Dk} {q m r : Nat} {left : ByteArray → Bool} (h : CopI w O B Fs d q m r left wr) {s : ByteArray} {f : Nat} (hs : d.nN s = some f) :
    ∃ v0 ar cr, Arr wr f 64 [v0, .slice ar (d.cf f).length cr] ∧ Rb wr (.slice ar (d.cf f).length cr) (d.cf f) := by
  obtain ⟨O', a', cn', h1, h2, h3⟩ := h
  have hf := (h2.inN s f hs).1
  obtain ⟨ar, cr, e⟩ := (h2.fls.rf f hf).form
  have hb := h2.fls.blk f hf
  have hr := h2.fls.rf f hf
  rw [e] at hb hr
  exact ⟨_, ar, cr, hb, hr⟩
theorem CopI.step {w wr u u2 : World} {O : Nat → Prop} {B : Nat} {Fs : Nat → Prop} {d : Dk} {q m r : Nat} {left : ByteArray → Bool} (h : CopI w O B Fs d q m r left wr) (hq : ∀ f, (d.cf f).length ≤ q) (hr : r < wr.heap.size) (k : Kept wr u) {s : ByteArray} {f : Nat} (hs : d.nN s = some f) (v' : Value) (hv : Rb u v' (d.cf f)) (ho : ∀ b, ob v' b → wr.heap.size ≤ b) (hu2 : u2 = u.setCell ⟨f, 0, none⟩ v') :
    CopI w O B Fs d q m r (fun t => left t && !decide (t = s)) u2 ∧ u2.heap[m]? = wr.heap[m]? ∧ u2.heap[r]? = wr.heap[r]? := by
  obtain ⟨O', a', cn', h1, h2, h3, h4, h5, h6, h7⟩ := h
  have hf := (h2.inN s f hs).1
  obtain ⟨s2, d2⟩ := h2.now f hf v' (d.cf f) (k.kx _) hv (fun b hb => .inr (ho b hb)) hu2
  have hm := h2.mN
  rw [h3] at hm
  have hml := hm.lt
  have hfm : f ≠ m := hm.ne_cells (h2.fls.blk f hf)
  have hfr : f ≠ r := fun e => h6 (by rw [← e]; exact h2.fls.of f hf)
  refine ⟨⟨_, _, up cn' f (d.cf f), h1.trans s2, d2, h3, h4, up_le h5 (hq f), fun hx => ?_, fun t g ht hl => ?_⟩, ?_, ?_⟩
  · rcases hx with hx | hx
    · exact h6 hx
    · omega
  · by_cases e : g = f
    · rw [e, up_same]
    · rw [up_other _ _ e]
      refine h7 t g ht ?_
      rcases e2 : left t
      · rfl
      · simp only [e2, Bool.true_and, Bool.not_eq_false', decide_eq_true_eq] at hl
        rw [hl] at ht
        have ht : d.nN s = some g := ht
        rw [hs] at ht
        cases ht
        exact absurd rfl e
  · rw [hu2]
    exact (Below.heap_setCell u ⟨f, 0, none⟩ v' m (fun e => hfm e.symm)).trans (k.below.block m hml)
  · rw [hu2]
    exact (Below.heap_setCell u ⟨f, 0, none⟩ v' r (fun e => hfr e.symm)).trans (k.below.block r hr)
theorem MS.form' {sz : Nat} {e : TypeId} {H : Nat} {w : World} {v : Value} {k : Nat} {V : List Value} (h : MS sz e H w v k V) : ∃ ao n c, v = .slice ao n c := by
  obtain ⟨ao, c, e⟩ := h.form
  exact ⟨ao, k, c, e⟩
set_option maxHeartbeats 4000000 in
set_option maxRecDepth 100000 in
theorem crash_any (keepv : Value) (keep : List Int) (O : Nat → Prop) (B : Nat) (a : Da) (d : Dk) (w : World) (hd : DSt w O B a d) (q : Nat) (hq : Bd q d) (hq8 : q < 99999999) (hk : Ri w keepv keep) (hkO : ∀ b, ob keepv b → ¬ O b) (hkl : keep.length < 99999999) :
    Calls Try.prog 15 #[.pointer (some ⟨B, 0, none⟩), keepv] w fun e w' => e = .returned (.tuple #[]) ∧ Turn w O B a q (CraR keep d) w' := by
  have hc7 := hd.blk.cell 7 _ rfl
  have hI := CraI.start (keep := keep) hd hq
  obtain ⟨n, hn⟩ : ∃ n, d.W.length = n := ⟨_, rfl⟩
  have hpf : ∃ ao c, a.pv = .slice ao n c := by rw [← hn]; exact hd.wks.ms.form
  obtain ⟨ao, c, hpv⟩ := hpf
  rw [hpv] at hc7
  obtain ⟨ko, kc, hkf⟩ := hk.form
  obtain ⟨kn, hkn⟩ : ∃ kn, keep.length = kn := ⟨_, rfl⟩
  rw [hkn] at hkf
  subst hkf
  have HD := hid hd
  have HQ := hid hq
  have HQ8 := hid hq8
  have HN := hid hn
  have HPV := hid hpv
  have HnB := hid (show n < 99999999 by have := len_wsum d.W; have := hq.nf; omega)
  have HkB := hid (show kn < 99999999 by omega)
  have HKN := hid hkn
  have hkc : ∀ u, KX O w u → ∀ i, i < kn → ∃ g z, ko = some ⟨g, 0, none⟩ ∧ keep[i]? = some z ∧ u.cell? ⟨g, i, none⟩ = some (.int .i64 z) := fun u k i hi => by
    rcases hk with ⟨h0, -⟩ | ⟨g, cap, e, -, h2, h3, h4⟩
    · omega
    · simp only [Value.slice.injEq] at e
      obtain ⟨rfl, -, -⟩ := e
      have hO4 : OwnS u g cap 1 3 (keep.map fun x => .int .i64 x) := h4.on (k.block g h4.lt (hkO g ⟨_, _, rfl⟩))
      obtain ⟨z, hz⟩ : ∃ z, keep[i]? = some z := ⟨_, List.getElem?_eq_getElem (by omega)⟩
      exact ⟨g, z, rfl, hz, hO4.cell i _ (by rw [List.getElem?_map, hz]; rfl)⟩
  have HKC := hid hkc
  have HKG := hid (show ∀ i, kn ≤ i → keep[i]? = none from fun i hi => List.getElem?_eq_none (by omega))
  clear hd hq hq8 hpv hn hk hkO hkl hkc hkn
  go_enter Try.func15, Try.ntmps15
  go_wp2_with (first | (go_at_call 17; refine (there_any B _).mono ?_; rintro e u1 ⟨rfl, rfl⟩))
  go_loopw [15] (fun iv wr => ∃ i : Nat, iv = .int .i64 i ∧ i ≤ n ∧ CraI w O B a d keep q i wr) (fun v _ => match v with | .int _ i => n - i.toNat | _ => 0)
  case atStart => exact ⟨0, rfl, Nat.zero_le n, hI⟩
  case round =>
    clear hc7 hI
    obtain ⟨i, rfl, hi, hS⟩ := hrel
    by_cases hp : i < n
    · obtain ⟨x, v, g, cap, hx, hv, hvf, hpv2, hcells⟩ := hS.at_ (by rw [HN.out]; exact hp)
      have e := HPV.out.symm.trans hpv2
      rw [HN.out] at e
      simp only [Value.slice.injEq] at e
      obtain ⟨rfl, -, rfl⟩ := e
      obtain ⟨av, nv, cv, rfl⟩ := hvf
      have c0 : wr.cell? ⟨g, i * 6, none⟩ = some (.int .i64 x.kind) := hcells 0 (by decide)
      have c1 : wr.cell? ⟨g, i * 6 + 1, none⟩ = some (.string x.nm) := hcells 1 (by decide)
      have c2 : wr.cell? ⟨g, i * 6 + 2, none⟩ = some (.string x.to_) := hcells 2 (by decide)
      have c3 : wr.cell? ⟨g, i * 6 + 3, none⟩ = some (.int .i64 x.len) := hcells 3 (by decide)
      have c4 : wr.cell? ⟨g, i * 6 + 4, none⟩ = some (.pointer (some ⟨x.file, 0, none⟩)) := hcells 4 (by decide)
      have c5 : wr.cell? ⟨g, i * 6 + 5, none⟩ = some (.slice av nv cv) := hcells 5 (by decide)
      clear hcells hpv2
      have HS := hid hS
      have HX := hid hx
      have HV := hid hv
      obtain ⟨M, hM⟩ : ∃ M, wr.heap.size = M := ⟨_, rfl⟩
      have hA := arr_new wr [.int .i64 x.kind, .string x.nm, .string x.to_, .int .i64 x.len, .pointer (some ⟨x.file, 0, none⟩), .slice av nv cv] 59
      rw [hM] at hA
      have HA := hid hA
      have kA : Kept wr (wr.alloc (.cells #[.int .i64 x.kind, .string x.nm, .string x.to_, .int .i64 x.len, .pointer (some ⟨x.file, 0, none⟩), .slice av nv cv] 59)) := (Kept.refl wr).alloc _ _
      have KA := hid kA
      clear hS hx hv hA kA
      have h9 : wrap64 ((i : Int) + 1) = i + 1 := by unfold wrap64; have := HnB.out; omega
      have H9 := hid h9
      have HI := hid hi
      clear hi h9
      by_cases hik : i < kn
      · obtain ⟨gk, z, rfl, hz, hcz⟩ := HKC.out wr HS.out.kx i hik
        have HZ := hid hz
        have hczA := kept_cell KA.out hcz
        clear hz
        by_cases hz0 : 0 < z
        · go_wp2_with fail
          try rw [hM]
          obtain ⟨U, hU⟩ : ∃ U, U = wr.alloc (.cells #[.int .i64 x.kind, .string x.nm, .string x.to_, .int .i64 x.len, .pointer (some ⟨x.file, 0, none⟩), .slice av nv cv] 59) := ⟨_, rfl⟩
          rw [← hU] at HA KA hczA
          rw [← hU]
          clear hU c0 c1 c2 c3 c4 c5 hcz
          have hAd := six (HA.out.kept ((Kept.refl U).drew))
          have hcd := kept_cell ((Kept.refl U).drew) hczA
          have HFA := hid (HS.out.fast HQ8.out (KA.out.trans ((Kept.refl U).drew)) HX.out HV.out z HZ.out hz0)
          have HCell := hid (show ∀ u, Kept U u → (∀ b : Nat, b = M → True) → True from fun _ _ _ => trivial)
          refine wp_region_late [6] (fun u => (u.cell? ⟨M, 0, none⟩ = some (.int .i64 x.kind) ∧ u.cell? ⟨M, 1, none⟩ = some (.string x.nm) ∧ u.cell? ⟨M, 2, none⟩ = some (.string x.to_) ∧ u.cell? ⟨M, 3, none⟩ = some (.int .i64 x.len) ∧ u.cell? ⟨M, 4, none⟩ = some (.pointer (some ⟨x.file, 0, none⟩)) ∧ u.cell? ⟨M, 5, none⟩ = some (.slice av nv cv)) ∧ u.cell? ⟨gk, i, none⟩ = some (.int .i64 z)) (by kernel_rfl) (show _ ∧ _ from ⟨hAd, hcd⟩) (fun hHeld => ?_)
          refine wpAnyD_take (i := 0) (v := ?_) rfl (by kernel_rfl) (by kernel_rfl) (by kernel_rfl) (by kernel_rfl) (fun _ _ _ h => h) (Or.inl ⟨by rfl, ?hyq0⟩) hHeld ?_
          case hyq0 => (intro w hSw; (try dsimp only at hSw); go_simp; try (with_reducible rfl))
          (try simp only [Act.put, List.getElem_toArray, List.getElem_cons_succ, List.getElem_cons_zero, List.setIfInBounds_toArray, List.set_cons_zero, List.set_cons_succ])
          refine wpAnyD_take (i := 1) (v := ?_) rfl (by kernel_rfl) (by kernel_rfl) (by kernel_rfl) (by kernel_rfl) (fun _ _ _ h => h) (Or.inl ⟨by rfl, ?hyq1⟩) hHeld ?_
          case hyq1 => (intro w hSw; (try dsimp only at hSw); go_simp; try (with_reducible rfl))
          (try simp only [Act.put, List.getElem_toArray, List.getElem_cons_succ, List.getElem_cons_zero, List.setIfInBounds_toArray, List.set_cons_zero, List.set_cons_succ])
          refine wpAnyD_take (i := 2) (v := ?_) rfl (by kernel_rfl) (by kernel_rfl) (by kernel_rfl) (by kernel_rfl) (fun _ _ _ h => h) (Or.inl ⟨by rfl, ?hyq2⟩) hHeld ?_
          case hyq2 => (intro w hSw; (try dsimp only at hSw); go_simp; try (with_reducible rfl))
          (try simp only [Act.put, List.getElem_toArray, List.getElem_cons_succ, List.getElem_cons_zero, List.setIfInBounds_toArray, List.set_cons_zero, List.set_cons_succ])
          refine wpAnyD_take (i := 3) (v := ?_) rfl (by kernel_rfl) (by kernel_rfl) (by kernel_rfl) (by kernel_rfl) (fun _ _ _ h => h) (Or.inl ⟨by rfl, ?hyq3⟩) hHeld ?_
          case hyq3 => (intro w hSw; (try dsimp only at hSw); go_simp; try (with_reducible rfl))
          (try simp only [Act.put, List.getElem_toArray, List.getElem_cons_succ, List.getElem_cons_zero, List.setIfInBounds_toArray, List.set_cons_zero, List.set_cons_succ])
          refine wpAnyD_take (i := 4) (v := ?_) rfl (by kernel_rfl) (by kernel_rfl) (by kernel_rfl) (by kernel_rfl) (fun _ _ _ h => h) (Or.inl ⟨by rfl, ?hyq4⟩) hHeld ?_
          case hyq4 => (intro w hSw; (try dsimp only at hSw); go_simp; try (with_reducible rfl))
          (try simp only [Act.put, List.getElem_toArray, List.getElem_cons_succ, List.getElem_cons_zero, List.setIfInBounds_toArray, List.set_cons_zero, List.set_cons_succ])
          refine wpAnyD_take (i := 5) (v := ?_) rfl (by kernel_rfl) (by kernel_rfl) (by kernel_rfl) (by kernel_rfl) (fun _ _ _ h => h) (Or.inl ⟨by rfl, ?hyq5⟩) hHeld ?_
          case hyq5 => (intro w hSw; (try dsimp only at hSw); go_simp; try (with_reducible rfl))
          (try simp only [Act.put, List.getElem_toArray, List.getElem_cons_succ, List.getElem_cons_zero, List.setIfInBounds_toArray, List.set_cons_zero, List.set_cons_succ])
          refine wpAnyD_late (i := 6) (by kernel_rfl) rfl rfl (fun K hK9 => ?_)
          go_simp
          go_wp2_with fail
          refine (HFA.out).mono ?_
          rintro e u7 ⟨rfl, h7⟩
          refine hK9.out _ _ ?_
          clear hK9 K
          (try simp only [Act.put, List.getElem_toArray, List.getElem_cons_succ, List.getElem_cons_zero, List.setIfInBounds_toArray, List.set_cons_zero, List.set_cons_succ])
          refine wpAnyD_done (by kernel_rfl) ?_ _
          (try simp only [Act.put, List.getElem_toArray, List.getElem_cons_succ, List.getElem_cons_zero, List.setIfInBounds_toArray, List.set_cons_zero, List.set_cons_succ])
          clear hHeld
          go_wp2_with fail
          go_roundw
          case rel => exact ⟨i + 1, by rw [H9.out]; simp, hp, h7⟩
          case measure => simp [H9.out]; omega
        · have hsk := hid (HS.out.kept KA.out |>.skip HX.out (fun y hy => by rw [HZ.out] at hy; cases hy; exact hz0))
          go_wp2_with fail
          go_roundw
          case rel => exact ⟨i + 1, by rw [H9.out]; simp, hp, hsk.out⟩
          case measure => simp [H9.out]; omega
      · have hsk := hid (HS.out.kept KA.out |>.skip HX.out (fun y hy => by rw [HKG.out i (Nat.not_lt.1 hik)] at hy; cases hy))
        go_wp2_with fail
        go_roundw
        case rel => exact ⟨i + 1, by rw [H9.out]; simp, hp, hsk.out⟩
        case measure => simp [H9.out]; omega
    · have ei : i = n := by omega
      rw [ei] at hS ⊢
      clear ei hi hp i
      obtain ⟨O1, a1, h1, h2, ⟨e1, e2, e3⟩, h9, h10⟩ := hS
      obtain ⟨dc, hdc⟩ : ∃ dc, crN d.W keep n d = dc := ⟨_, rfl⟩
      have hcw := crN_W d.W keep d n
      rw [hdc] at h2 h9 h10 hcw
      obtain ⟨g1, g2, g3, g4, g5, g6⟩ := hcw
      have hwd : wsum (d.W.drop n) = 0 := by rw [← HN.out, List.drop_length]; rfl
      rw [hwd] at h9 h10
      simp only [Nat.add_zero] at h9 h10
      obtain ⟨s1, d1⟩ := h2.works (.slice none 0 0) [] [] (KX.refl _ wr) (fun b hb => absurd hb (ob_nil b)) rfl (.inl ⟨rfl, rfl, rfl⟩) (fun j x v hx => by simp at hx) rfl
      have c7 := h2.blk.cell 7 _ rfl
      have c6 := h2.blk.cell 6 _ rfl
      have f7 := h2.blk.free 7
      rw [e1, HPV.out] at c7
      obtain ⟨O2, hO2⟩ : ∃ O2, Ow O1 wr (wr.setCell ⟨B, 7, none⟩ (.slice none 0 0)) = O2 := ⟨_, rfl⟩
      rw [hO2] at s1 d1
      obtain ⟨a2, ha2⟩ : ∃ a2, ({ a1 with pv := .slice none 0 0, vb := [] } : Da) = a2 := ⟨_, rfl⟩
      have hF2 : a2.Fs = a.Fs := by rw [← ha2]; exact e3
      have hmF2 : a1.mF = a2.mF := by rw [← ha2]
      rw [ha2] at d1
      rw [hmF2] at c6
      have HS1 := hid (h1.trans s1)
      have HD1 := hid d1
      have HDC := hid hdc
      have HF2 := hid hF2
      have HCN := hid (show ∀ f, (dc.cn f).length ≤ q from fun f => by rw [g2]; exact HQ.out.cn f)
      have HCF := hid h10
      have HNF := hid h9
      have HR := hid (show d.W.length = n from HN.out)
      have HMF1 := hid d1.mF
      clear h1 h2 s1 d1 hdc hF2 h9 h10 g1 g2 g3 g4 g5 g6 hwd e1 e2 e3 hO2 ha2 hmF2
      go_wp2_with (first | (go_at_call 30; refine (mapclone_any _ _ _ _ HMF1.out).mono ?_; rintro e u2 ⟨m, rfl, hm, hml, k2⟩; have c5 := (HD1.out.kept k2).blk.cell 5 _ rfl; have f5 := (HD1.out.kept k2).blk.free 5) | (at_range; have hX := HD1.out.nowmap k2 m _ _ hm hml HD1.out.inF rfl; obtain ⟨s3, d3⟩ := hX; refine range_mp _ rfl _ rfl m _ _ d3.mN rfl ?_; intro w4 cnt4 hR4 hc4 hk4 hsz4))
      have k23 := hid k2
      obtain ⟨U3, hU3⟩ : ∃ U3, u2.setCell ⟨B, 5, none⟩ (.map (some m)) = U3 := ⟨_, rfl⟩
      rw [hU3] at s3 d3 hk4 hR4 hsz4
      obtain ⟨r, hr2⟩ : ∃ r, u2.heap.size = r := ⟨_, rfl⟩
      have hr : U3.heap.size = r := by rw [← hU3, ← hr2]; simp
      rw [hr] at hR4
      rw [hr2]
      clear hr2
      obtain ⟨O3, hO3⟩ : ∃ O3, Ow O2 (wr.setCell ⟨B, 7, none⟩ (.slice none 0 0)) U3 = O3 := ⟨_, rfl⟩
      rw [hO3] at s3 d3
      obtain ⟨a3, ha3⟩ : ∃ a3, ({ a2 with mN := m } : Da) = a3 := ⟨_, rfl⟩
      have hF3 : a3.Fs = a.Fs := by rw [← ha3]; exact HF2.out
      have hm3 : a3.mN = m := by rw [← ha3]
      rw [ha3] at d3
      have hS3 := HS1.out.trans s3
      have hC4 : CopI w O B a.Fs { dc with W := [], nN := dc.nF, nn := dc.nf } q m r (fun s => (dc.nF s).isSome) w4 := ⟨O3, a3, dc.cn, hS3.kept hk4, d3.kept hk4, hm3, hF3, HCN.out, fun h => by have := d3.olt r h; omega, fun s f hs hl => by
        have hs : dc.nF s = some f := hs
        have hl : (dc.nF s).isSome = false := hl
        rw [hs] at hl
        cases hl⟩
      have hwr : w.heap.size ≤ r := by rw [← hr]; exact hS3.kx.size
      have HWR := hid hwr
      clear hwr hS3 hF3 hm3 ha3 hO3 s3 d3 hk4 hsz4 hr hU3 c5 f5 c6 c7 f7 hm hml k2 k23
      have HC4 := hid hC4
      clear hC4
      go_loopw [7] (fun _ wr2 => ∃ left cnt, Rng wr2 m r dc.nf dc.nF left cnt ∧ CopI w O B a.Fs { dc with W := [], nN := dc.nF, nn := dc.nf } q m r left wr2) (fun _ wr2 => wr2.rangeLeft m r)
      case atStart => exact ⟨_, cnt4, hR4, HC4.out⟩
      case round =>
        obtain ⟨left, cnt, hR, hC⟩ := hrel
        have hRl := hR.lt
        have HRL := hid hRl
        clear hRl
        have HC := hid hC
        clear hC HC4
        go_wp2_with (first | (at_next; refine next_mp _ rfl _ rfl m r dc.nf dc.nF left cnt rfl hR ?_ ?_))
        · intro hl
          obtain ⟨O5, a5, cn5, t1, t2, t3, t4, t5, t6, t7⟩ := HC.out
          have c0 := t2.blk.cell 0 _ rfl
          have c1 := t2.blk.cell 1 _ rfl
          have c2 := t2.blk.cell 2 _ rfl
          have f0 := t2.blk.free 0
          have f1 := t2.blk.free 1
          have f2 := t2.blk.free 2
          have HT1 := hid t1
          have HT2 := hid t2
          have HT4 := hid t4
          have HT5 := hid t5
          have HT7 := hid t7
          have HL := hid hl
          clear t1 t2 t3 t4 t5 t6 t7 hl hR
          go_wp2_with fail
          refine bodyPost_end (v := .tuple #[]) (by simp [results, Try.results15, go_sem]) rfl ⟨rfl, ?_⟩
          have kB : KX (fun b => b = B) wr (((wr.setCell ⟨B, 0, none⟩ (.bool true)).setCell ⟨B, 1, none⟩ (.bool false)).setCell ⟨B, 2, none⟩ (.int .i64 0)) := (((KX.refl (fun b => b = B) wr).setCell (.inl rfl) _).setCell (.inl rfl) _).setCell (.inl rfl) _
          have hA := ((HT2.out.blk.set 0 (.bool true)).set 1 (.bool false)).set 2 (.int .i64 0)
          have hP := HT2.out.power kB true false 0 hA
          refine ⟨O5, a5, _, HT1.out.trans (stp_names kB HT2.out.oB), hP, ⟨HNF.out, by simpa [wsum] using HNF.out, HT5.out, fun f => by simpa [wsum] using HCF.out f, fun x hx => by simp at hx⟩, fun f hf => by rw [HT4.out]; exact hf, cn5, ?_, ?_⟩
          · rw [HR.out, HDC.out]
            exact fun s f hs => HT7.out s f hs (HL.out s)
          · rw [HR.out, HDC.out]
        · intro x f w2 cnt2 hxs hlx hMx hR2 hc2 hk2 hsz2 hen
          have hC2 := HC.out.kx hk2 HWR.out
          obtain ⟨v0, ar, cr, hA, hRb⟩ := hC2.file hMx
          have c1o := hA.cell 1 _ rfl
          have HA := hid hA
          have HC2 := hid hC2
          have HCL := hid (clone_any _ (dc.cf f) w2 hRb.rd (by have := HCF.out f; have := HQ8.out; omega))
          clear hA hC2 hRb
          obtain ⟨lf, hlf⟩ : ∃ lf, (dc.cf f).length = lf := ⟨_, rfl⟩
          have c1 : w2.cell? ⟨f, 1, none⟩ = some (.slice ar lf cr) := by rw [← hlf]; exact c1o
          clear c1o
          have HCL : Hid (Calls Try.prog 28 #[.slice ar lf cr] w2 fun e w' => ∃ v', e = .returned v' ∧ Rb w' v' (dc.cf f) ∧ Kept w2 w' ∧ ∀ b, ob v' b → w2.heap.size ≤ b) := by rw [← hlf]; exact HCL
          have HLF := hid hlf
          clear hlf
          go_wp2_with (first | (go_at_call 28; refine HCL.out.mono ?_; rintro e u3 ⟨v3, rfl, r3, k3, o3⟩; obtain ⟨a3, n3, c3, rfl⟩ := MS.form' r3; have e0 := (HA.out.kept k3).cell 0 _ rfl; have f0 := (HA.out.kept k3).free 0))
          obtain ⟨q1, q2, q3⟩ := HC2.out.step (fun g => HCF.out g) (by have := HRL.out; omega) k3 hMx _ r3 o3 rfl
          have hR3 := hR2.on q2 q3
          go_roundw
          case rel => exact ⟨_, cnt2, hR3, q1⟩
          case measure => rw [hR3.left_eq, hR.left_eq]; omega
end Go.Proofs.Ythaiejmajhmahab
