/- DataBatches: the law's walk. -/
import Derived.Test.YtedghjededicpaaBM3
namespace Go.Proofs.Ytedghjededicpaa
open Go.ChangeShapes Go.WideShapes Go.ChangeAt Go.RowKit
set_option linter.unusedVariables false
set_option linter.unusedSimpArgs false

theorem hidq {p : Prop} (h : p) : Hid p := h
theorem Ew.below {u u' : World} {a : Option Addr} {c : Nat} {L : List Int} (h : Ew u a c L) (k : Below u.heap.size u u') : Ew u' a c L := by
  rcases h with h1 | ⟨b, off, e, N, M, h1, h2⟩
  · exact .inl h1
  · exact .inr ⟨b, off, e, N, M, by
      have hl := h1.lt
      obtain ⟨cur, h3, h4⟩ := h1
      exact ⟨cur, (k.block b hl).trans h3, h4⟩, h2⟩
theorem Sl.belowX {u u' : World} {v : Value} {L : List Int} (h : Sl u v L) (k : Below u.heap.size u u') : Sl u' v L := by
  obtain ⟨ao, c, e, h1, h2, f⟩ := h
  refine ⟨ao, c, e, h1, h2, fun hn => ?_⟩
  obtain ⟨b, o, e2, hb, hr⟩ := f hn
  exact ⟨b, o, e2, Nat.lt_of_lt_of_le hb k.size, fun i hi => (k.cell (p := ⟨b, o + i, none⟩) hb).trans (hr i hi)⟩
theorem below_then {a b c : World} (h : Below a.heap.size a b) (k : Below b.heap.size b c) : Below a.heap.size a c :=
  ⟨k.os.trans h.os, k.tape.trans h.tape, k.output.trans h.output, Nat.le_trans h.size k.size, fun i hi => (k.block i (Nat.lt_of_lt_of_le hi h.size)).trans (h.block i hi)⟩
theorem below_gs {S : List Nat} {a b c : World} (h : Below a.heap.size a b) (hS : ∀ i ∈ S, a.heap.size ≤ i) (k : Gs S b c) : Below a.heap.size a c :=
  ⟨k.os.trans h.os, k.tape.trans h.tape, k.output.trans h.output, Nat.le_trans h.size k.size, fun i hi => (k.block i (Nat.lt_of_lt_of_le hi h.size) (fun hm => by have := hS i hm; omega)).trans (h.block i hi)⟩
theorem bok_new (w : World) (t : TypeId) : Bok (w.alloc (.cells #[.slice none 0 0, .slice none 0 0, .slice none 0 0, .slice none 0 0, .slice none 0 0, .slice none 0 0, .slice none 0 0, .slice none 0 0, .slice none 0 0, .slice none 0 0, .slice none 0 0, .slice none 0 0, .slice none 0 0, .slice none 0 0, .slice none 0 0, .slice none 0 0] t)) w.heap.size 0 (fun _ => none) (fun _ => 0) (fun _ => 0) (fun _ => none) (fun _ => 0) (fun _ => []) (.slice none 0 0) (.slice none 0 0) :=
  ⟨by simp [go_sem], by simp [go_sem], fun o => by simp [go_sem], ⟨by simp [go_sem], by simp [go_sem], by simp [go_sem], by simp [go_sem], by simp [go_sem], by simp [go_sem], by simp [go_sem]⟩, .inl ⟨rfl, rfl⟩, .inl ⟨rfl, rfl⟩, fun b hb => by simp [rb] at hb, fun j hj => by omega, fun j hj => by omega, fun j hj => by omega, fun j hj => by omega, fun j hj => by omega, fun j k hj => by omega, fun j hj => by omega, fun j hj => by omega⟩

/-- The book with two lists, made behind them: all is apart. -/
theorem book_two (w : World) (t : TypeId) (a p : Option Addr) (ca cp : Nat) (La Lp : List Int) (hla : La.length ≤ 4096) (hlp : Lp.length ≤ 4096) (ha : Ew w a ca La) (hp : Ew w p cp Lp) (ha0 : a = none → ca = 0) (hp0 : p = none → cp = 0) (hap : ∀ b ∈ eb p, b ∉ eb a) :
    ∃ B Y, B = w.heap.size ∧ Y = w.alloc (.cells #[.slice none 0 0, .slice none 0 0, .slice none 0 0, .slice none 0 0, .slice none 0 0, .slice none 0 0, .slice none 0 0, .slice none 0 0, .slice none 0 0, .slice none 0 0, .slice none 0 0, .slice none 0 0, .slice none 0 0, .slice none 0 0, .slice none 0 0, .slice none 0 0] t) ∧ ∃ J1 J2 : World → Prop,
      Calls Try.prog 11 #[.pointer (some ⟨B, 0, none⟩), .slice a La.length ca] Y (fun e w' => e = .returned (.tuple #[]) ∧ J1 w') ∧
      (∀ u, J1 u → Calls Try.prog 11 #[.pointer (some ⟨B, 0, none⟩), .slice p Lp.length cp] u (fun e w' => e = .returned (.tuple #[]) ∧ J2 w')) ∧
      (∀ u, J2 u → Kept w u) ∧
      (∀ u u', J2 u → Kept u u' → Calls Try.prog 13 #[.pointer (some ⟨B, 0, none⟩)] u' (fun e w' => e = .returned (.bool true) ∧ ∃ W' S, (∀ b ∈ S, w.heap.size ≤ b ∨ b ∈ eb a ∨ b ∈ eb p) ∧ Gs S u' W' ∧ Kept W' w')) := by
  have hBk := bok_new w t
  have kY := (Kept.refl w).alloc #[.slice none 0 0, .slice none 0 0, .slice none 0 0, .slice none 0 0, .slice none 0 0, .slice none 0 0, .slice none 0 0, .slice none 0 0, .slice none 0 0, .slice none 0 0, .slice none 0 0, .slice none 0 0, .slice none 0 0, .slice none 0 0, .slice none 0 0, .slice none 0 0] t
  obtain ⟨Y, hY⟩ : ∃ Y, Y = w.alloc (.cells #[.slice none 0 0, .slice none 0 0, .slice none 0 0, .slice none 0 0, .slice none 0 0, .slice none 0 0, .slice none 0 0, .slice none 0 0, .slice none 0 0, .slice none 0 0, .slice none 0 0, .slice none 0 0, .slice none 0 0, .slice none 0 0, .slice none 0 0, .slice none 0 0] t) := ⟨_, rfl⟩
  obtain ⟨B, hB⟩ : ∃ B, B = w.heap.size := ⟨_, rfl⟩
  rw [← hY] at kY hBk
  rw [← hB] at hBk
  have hnb : ∀ {x : Option Addr} {c : Nat} {L : List Int}, Ew w x c L → ∀ b ∈ eb x, b ≠ B := fun h b hb e => by
    obtain ⟨N, M, ho⟩ := h.eb b hb
    have := ho.lt
    omega
  refine ⟨B, Y, hB, hY, fun u => Kept w u ∧ ∃ a2 c2 vI vW, Bok u B 1 (up (fun _ => none) 0 a) (up (fun _ => 0) 0 ca) (up (fun _ => 0) 0 La.length) a2 c2 (up (fun _ => []) 0 La) vI vW,
    fun u => Kept w u ∧ ∃ a2 c2 vI vW, Bok u B 2 (up (up (fun _ => none) 0 a) 1 p) (up (up (fun _ => 0) 0 ca) 1 cp) (up (up (fun _ => 0) 0 La.length) 1 Lp.length) a2 c2 (up (up (fun _ => []) 0 La) 1 Lp) vI vW, ?_, ?_, fun u h => h.1, ?_⟩
  · refine (bookInts B 0 (by omega) _ _ _ _ _ _ _ _ Y hBk a ca La (by omega) (ha.kept kY) ha0 (fun j hj => by omega) (hnb ha)).mono ?_
    rintro e w' ⟨rfl, h1, -, h2⟩
    refine ⟨rfl, kY.gsn (S := B :: (rb (.slice none 0 0) ++ rb (.slice none 0 0))) (fun i hi => ?_) h2, h1⟩
    have : i = B := by simpa [rb] using hi
    omega
  · rintro u ⟨k, a2, c2, vI, vW, h1⟩
    refine (bookInts B 1 (by omega) _ _ _ _ _ _ _ _ u h1 p cp Lp (by omega) (hp.kept k) hp0 (fun j hj => ?_) (hnb hp)).mono ?_
    · obtain rfl : j = 0 := by omega
      rw [up_eq]
      exact hap
    · rintro e w' ⟨rfl, h2, -, h3⟩
      refine ⟨rfl, k.gsn (fun i hi => ?_) h3, h2⟩
      rcases List.mem_cons.1 hi with h4 | h4
      · omega
      · rcases List.mem_append.1 h4 with h4 | h4
        · have := (h1.rI.lt i h4).1; omega
        · have := (h1.rW.lt i h4).1; omega
  · rintro u u' ⟨k, a2, c2, vI, vW, h1⟩ k2
    refine (book_apart B 2 (by omega) (by omega) _ _ _ _ _ _ vI vW u' (fun j hj => ?_) (h1.kept k2)).mono ?_
    · by_cases e : j = 1
      · subst e; rw [up_eq]; omega
      · obtain rfl : j = 0 := by omega
        rw [up_lt _ _ _ (by omega), up_eq]; omega
    · rintro e w' ⟨rfl, W', h2, h3⟩
      refine ⟨rfl, W', _, fun b hb => ?_, h2, h3⟩
      rcases List.mem_cons.1 hb with h4 | h4
      · exact .inl (by omega)
      · obtain ⟨j, hj, h5⟩ := ebs_mem h4
        by_cases e : j = 1
        · subst e; rw [up_eq] at h5; exact .inr (.inr h5)
        · obtain rfl : j = 0 := by omega
          rw [up_lt _ _ _ (by omega), up_eq] at h5; exact .inr (.inl h5)

set_option maxHeartbeats 8000000 in
set_option maxRecDepth 100000 in
theorem dbat_walk (n s sd ep b : Int) (hn : ¬ (500 < n ∧ n ≤ 4096)) (e1 e2 e3 k : Int) (La Lp : List Int) (hla : La.length ≤ 4096) (hlp : Lp.length ≤ 4096) (w : World)
    (KO1 : Hid (∀ u : World, Calls Try.prog 5 #[.int .i64 n, .int .i64 sd, .int .i64 ep] u fun e w' => ∃ a c, e = .returned (.tuple #[.slice a La.length c, .int .i64 e1]) ∧ Ew w' a c La ∧ (a = none → c = 0) ∧ (∀ b ∈ eb a, u.heap.size ≤ b) ∧ Kept u w'))
    (KO2 : Hid (∀ u : World, Calls Try.prog 6 #[.int .i64 n, .int .i64 sd, .int .i64 ep] u fun e w' => ∃ a c, e = .returned (.tuple #[.slice a La.length c, .int .i64 e1]) ∧ Sl w' (.slice a La.length c) La ∧ Kept u w'))
    (KB1 : Hid (∀ u : World, Calls Try.prog 7 #[.int .i64 n, .int .i64 s] u fun e w' => e = .returned (.tuple #[.int .i64 k, .int .i64 e2]) ∧ Kept u w'))
    (KB2 : Hid (∀ u : World, Calls Try.prog 8 #[.int .i64 n, .int .i64 s] u fun e w' => e = .returned (.tuple #[.int .i64 k, .int .i64 e2]) ∧ Kept u w'))
    (KP1 : Hid (∀ u : World, Calls Try.prog 9 #[.int .i64 n, .int .i64 s, .int .i64 sd, .int .i64 ep, .int .i64 b] u fun e w' => ∃ a c, e = .returned (.tuple #[.slice a Lp.length c, .int .i64 e3]) ∧ Ew w' a c Lp ∧ (a = none → c = 0) ∧ (∀ b ∈ eb a, u.heap.size ≤ b) ∧ Below u.heap.size u w'))
    (KP2 : Hid (∀ u : World, Calls Try.prog 10 #[.int .i64 n, .int .i64 s, .int .i64 sd, .int .i64 ep, .int .i64 b] u fun e w' => ∃ a c, e = .returned (.tuple #[.slice a Lp.length c, .int .i64 e3]) ∧ Sl w' (.slice a Lp.length c) Lp ∧ Kept u w')) :
    Calls Try.prog 3 #[.int .i64 n, .int .i64 s, .int .i64 sd, .int .i64 ep, .int .i64 b] w fun e w' => e = .returned (.bool true) ∧ Below w.heap.size w w' := by
  have HA : Hid (∀ u, Calls Try.prog 4 #[] u fun e w' => e = .returned (.bool true) ∧ Kept u w') := fun u => dalive_true u
  have x1 : (e1 == e1) = true := by simp
  have x2 : (e2 == e2) = true := by simp
  have x3 : (e3 == e3) = true := by simp
  have x4 : (k == k) = true := by simp
  obtain ⟨la, hla'⟩ : ∃ la, la = La.length := ⟨_, rfl⟩
  obtain ⟨lp, hlp'⟩ : ∃ lp, lp = Lp.length := ⟨_, rfl⟩
  have HLA := (show Hid (la = La.length ∧ La.length ≤ 4096) from ⟨hla', hla⟩)
  have HLP := (show Hid (lp = Lp.length ∧ Lp.length ≤ 4096) from ⟨hlp', hlp⟩)
  rw [← hla'] at KO1 KO2
  rw [← hlp'] at KP1 KP2
  clear hla' hlp' hla hlp
  have main : ∀ (hcase : ¬ (500 : Int) < n ∨ (500 : Int) < n ∧ ¬ n ≤ 4096), Calls Try.prog 3 #[.int .i64 n, .int .i64 s, .int .i64 sd, .int .i64 ep, .int .i64 b] w fun e w' => e = .returned (.bool true) ∧ Below w.heap.size w w' := by
    intro hcase
    have HC := hidq hcase
    clear hn hcase
    go_enter Try.func3, Try.ntmps3
    go_wp2_with fail
    refine (HA.out _).mono ?_
    rintro e w1 ⟨rfl, k1⟩
    rcases HC.out with c1 | ⟨c1, c2⟩
    all_goals
      go_wp2_with fail
      refine (KO1.out _).mono ?_
      rintro e w2 ⟨a, ca, rfl, ha, ha0, han, k2⟩
      go_wp2_with fail
      refine (KO2.out _).mono ?_
      rintro e w3 ⟨a', ca', rfl, ha', k3⟩
      go_wp2_with fail
      refine (KB1.out _).mono ?_
      rintro e w4 ⟨rfl, k4⟩
      go_wp2_with fail
      refine (KB2.out _).mono ?_
      rintro e w5 ⟨rfl, k5⟩
      go_wp2_with fail
      refine (KP1.out _).mono ?_
      rintro e w6 ⟨p, cp, rfl, hp, hp0, hpn, k6⟩
      go_wp2_with fail
      refine (KP2.out _).mono ?_
      rintro e w7 ⟨p', cp', rfl, hp', k7⟩
      have k25 := (k3.trans k4).trans k5
      have k15 := (k1.trans k2).trans k25
      have bl7 : Below w.heap.size w w7 := below_then (below_then k15.below k6) k7.below
      have A7 := ((ha.kept k25).below k6).kept k7
      have A7' := ((ha'.kept' (k4.trans k5)).belowX k6).kept' k7
      have P7 := hp.kept k7
      have hapart : ∀ b ∈ eb p, b ∉ eb a := fun b hb hb2 => by
        obtain ⟨N, M, ho⟩ := ha.eb b hb2
        have h1 := ho.lt
        have h2 := hpn b hb
        have h3 := k25.below.size
        omega
      have hnew : ∀ b, b ∈ eb a ∨ b ∈ eb p → w.heap.size ≤ b := fun b hb => by
        rcases hb with h | h
        · have h1 := han b h
          have h2 := k1.below.size
          omega
        · have h1 := hpn b h
          have h2 := k15.below.size
          omega
      obtain ⟨B, Y, hB, hY, J1, J2, K1, K2, K3, K4⟩ := book_two w7 45 a p ca cp La Lp HLA.out.2 HLP.out.2 A7 P7 ha0 hp0 hapart
      rw [← HLA.out.1] at K1
      rw [← HLP.out.1] at K2
      have HK1 := hidq K1
      have HK2 := hidq K2
      have HK4 := hidq K4
      have HS1 : Hid (∀ u, Kept w7 u → Calls Try.prog 12 #[.slice a la ca, .slice a' la ca'] u fun e w' => e = .returned (.bool true) ∧ Kept u w') := fun u k => by
        rw [HLA.out.1]
        rw [HLA.out.1] at A7'
        exact same19_any La a a' ca ca' u ((A7.kept k).slx ha0) (A7'.kept' k)
      have HS2 : Hid (∀ u, Kept w7 u → Calls Try.prog 12 #[.slice p lp cp, .slice p' lp cp'] u fun e w' => e = .returned (.bool true) ∧ Kept u w') := fun u k => by
        rw [HLP.out.1]
        rw [HLP.out.1] at hp'
        exact same19_any Lp p p' cp cp' u ((P7.kept k).slx hp0) (hp'.kept' k)
      have HN := hidq hnew
      have HBL := hidq bl7
      have HK3 := hidq K3
      clear K1 K2 K3 K4 hnew hapart P7 A7 A7' bl7 k15 k25 k1 k2 k3 k4 k5 k6 k7 ha ha' han hp hpn hp'
      go_upto_region 10 with fail
      rw [← hY, ← hB]
      clear hY hB
      go_wp2_with fail
      refine HK1.out.mono ?_
      rintro e w8 ⟨rfl, j1⟩
      go_wp2_with fail
      refine (HK2.out _ j1).mono ?_
      rintro e w9 ⟨rfl, j2⟩
      have k79 := HK3.out _ j2
      go_wp2_with fail
      refine (HS1.out _ k79).mono ?_
      rintro e w10 ⟨rfl, k10⟩
      go_wp2_with fail
      refine (HS2.out _ (k79.trans k10)).mono ?_
      rintro e w11 ⟨rfl, k11⟩
      go_wp2_with fail
      refine (HK4.out _ _ j2 (k10.trans k11)).mono ?_
      rintro e w12 ⟨rfl, W', S, hS, hG, kW⟩
      go_wp2_with fail
      go_ret
      refine ⟨rfl, below_then (below_gs (below_then HBL.out ((k79.trans k10).trans k11).below) (fun i hi => ?_) hG) kW.below⟩
      have h7 := HBL.out.size
      rcases hS i hi with h | h
      · omega
      · exact HN.out i h
  exact main (by omega)

set_option maxHeartbeats 2000000 in
set_option maxRecDepth 100000 in
theorem dbat_far (n s sd ep b : Int) (h1 : 500 < n) (h2 : n ≤ 4096) (w : World) : Calls Try.prog 3 #[.int .i64 n, .int .i64 s, .int .i64 sd, .int .i64 ep, .int .i64 b] w fun e w' => e = .returned (.bool true) ∧ Below w.heap.size w w' := by
  have HA : Hid (∀ u, Calls Try.prog 4 #[] u fun e w' => e = .returned (.bool true) ∧ Kept u w') := fun u => dalive_true u
  go_enter Try.func3, Try.ntmps3
  go_wp2_with fail
  refine (HA.out _).mono ?_
  rintro e w1 ⟨rfl, k1⟩
  go_wp2_with fail
  refine (HA.out _).mono ?_
  rintro e w2 ⟨rfl, k2⟩
  go_wp2_with fail
  go_ret
  exact ⟨rfl, (k1.trans k2).below⟩
end Go.Proofs.Ytedghjededicpaa
