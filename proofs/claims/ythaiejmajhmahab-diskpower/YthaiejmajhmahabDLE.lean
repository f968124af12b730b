/- Package disk: check, find. -/
import Derived.Test.YthaiejmajhmahabDLD
namespace Go.Proofs.Ythaiejmajhmahab
open Go.ChangeShapes Go.WideShapes Go.ChangeAt Go.RowKit Go.Maps
set_option linter.unusedVariables false
set_option linter.unusedSimpArgs false

instance (s : ByteArray) : Decidable (NmOk s) := by unfold NmOk Chrs; infer_instance
def okN (s : ByteArray) : Bool := decide (NmOk s)
theorem okN_iff (s : ByteArray) : okN s = true ↔ NmOk s := by unfold okN; exact decide_eq_true_iff
theorem okN_size {s : ByteArray} (h : okN s = true) : s.size ≤ 32 := ((okN_iff s).1 h).2.1
def chkE (ok on : Bool) : Int := if ok then (if on then 0 else 63) else 61
theorem index_nil (w : World) (fv : Value) : Calls Try.prog 40 #[.slice none 0 0, fv] w fun e w' => e = .returned (.int .i64 (-1)) ∧ Kept w w' := by
  go_enter Try.func40, Try.ntmps40
  go_wp2
  go_loopw [8] (fun v w' => v = .int .i64 0 ∧ w' = w) (fun v _ => 0)
  case atStart => exact ⟨rfl, rfl⟩
  case round =>
    obtain ⟨rfl, rfl⟩ := hrel
    go_wp2
    go_ret
    exact ⟨rfl, Kept.refl _⟩
theorem contains_nil (w : World) (fv : Value) : Calls Try.prog 33 #[.slice none 0 0, fv] w fun e w' => e = .returned (.bool false) ∧ Kept w w' := by
  go_enter Try.func33, Try.ntmps33
  go_wp2_with (first | (go_at_call 40; refine (index_nil _ fv).mono ?_; rintro e u1 ⟨rfl, k1⟩))
  go_ret
  exact ⟨rfl, k1⟩
theorem check_gen (B : Nat) (a : Da) (d : Dk) (v : Value) (ok : Bool) (w : World) (hB : Arr w B 47 (dcell a d))
    (hc : Hid (∀ u, Kept w u → Calls Try.prog 33 #[v, .func (.func 34) #[] #[]] u fun e w' => e = .returned (.bool (!ok)) ∧ Kept u w')) :
    Calls Try.prog 19 #[.pointer (some ⟨B, 0, none⟩), v] w fun e w' => e = .returned (.int .i64 (chkE ok d.on)) ∧ Kept w w' := by
  have HB := hid hB
  clear hB
  obtain ⟨on, hon⟩ : ∃ on, d.on = on := ⟨_, rfl⟩
  have hc0 : ∀ u, Kept w u → u.cell? ⟨B, 0, none⟩ = some (.bool on) := fun u k => by rw [← hon]; exact (HB.out.kept k).cell 0 _ rfl
  rw [hon]
  have HC0 := hid hc0
  clear hc0 hon
  cases ok <;> cases on
  all_goals
    go_enter Try.func19, Try.ntmps19
    go_wp2_with (first | (go_at_call 33; refine (hc.out _ (Kept.refl _)).mono ?_; rintro e u1 ⟨rfl, k1⟩; have c0 := HC0.out _ k1))
    go_ret
    exact ⟨rfl, k1⟩
theorem check0 (B : Nat) (a : Da) (d : Dk) (w : World) (hB : Arr w B 47 (dcell a d)) :
    Calls Try.prog 19 #[.pointer (some ⟨B, 0, none⟩), .slice none 0 0] w fun e w' => e = .returned (.int .i64 (chkE true d.on)) ∧ Kept w w' :=
  check_gen B a d _ true w hB (hid fun u k => contains_nil u _)
theorem checkN (B : Nat) (a : Da) (d : Dk) (w : World) (hB : Arr w B 47 (dcell a d)) (n : Nat) (g : Nat → ByteArray) (hn : n < 1000) (C : Nat) (hS : Sts w C n g) (ok : Bool) (hok : ok = true ↔ ∀ j, j < n → okN (g j) = true) :
    Calls Try.prog 19 #[.pointer (some ⟨B, 0, none⟩), .slice (some ⟨C, 0, none⟩) n n] w fun e w' => e = .returned (.int .i64 (chkE ok d.on)) ∧ Kept w w' :=
  check_gen B a d _ ok w hB (hid fun u k => contains_any n g hn C okN okN_iff ok hok u (hS.kept k))

/-- What find tells. -/
def fndE (d : Dk) (s : ByteArray) : Int := if okN s then (if d.on then (if (d.nN s).isSome then 0 else 60) else 63) else 61
theorem fndE_ok {d : Dk} {s : ByteArray} (h : fndE d s = 0) : okN s = true ∧ d.on = true ∧ ∃ f, d.nN s = some f := by
  unfold fndE at h
  split at h
  · split at h
    · split at h
      · rename_i h1 h2 h3
        exact ⟨h1, h2, Option.isSome_iff_exists.1 h3⟩
      · cases h
    · cases h
  · cases h
def fndF (d : Dk) (s : ByteArray) : Option Nat := if fndE d s = 0 then d.nN s else none
theorem one_sts (w : World) (t : TypeId) (s : ByteArray) : Sts (w.alloc (.cells #[.string s] t)) w.heap.size 1 (fun _ => s) := ⟨by simp, fun i hi => by
  obtain rfl : i = 0 := by omega
  exact (arr_new w [.string s] t).cell 0 _ rfl⟩
theorem find_any (O : Nat → Prop) (B : Nat) (a : Da) (d : Dk) (s : ByteArray) (w : World) (hd : DSt w O B a d) :
    Calls Try.prog 21 #[.pointer (some ⟨B, 0, none⟩), .string s] w fun e w' => e = .returned (.tuple #[pv (fndF d s), .int .i64 (fndE d s)]) ∧ Kept w w' := by
  have HD := hid hd
  obtain ⟨w1, hw1⟩ : ∃ w1, w.alloc (.cells #[.string s] 9) = w1 := ⟨_, rfl⟩
  have k1 : Kept w w1 := by rw [← hw1]; exact (Kept.refl w).alloc _ _
  have hC := hid (fun (ok : Bool) (hok : ok = okN s) => checkN B a d w1 (hd.blk.kept k1) 1 (fun _ => s) (by decide) w.heap.size (by rw [← hw1]; exact one_sts w _ s) ok (by rw [hok]; exact ⟨fun h _ _ => h, fun h => h 0 (by decide)⟩))
  obtain ⟨W, hW⟩ : ∃ W, w.heap.size = W := ⟨_, rfl⟩
  rw [hW] at hC
  have HW := hid hW
  obtain ⟨ok, hok⟩ : ∃ ok, okN s = ok := ⟨_, rfl⟩
  obtain ⟨on, hon⟩ : ∃ on, d.on = on := ⟨_, rfl⟩
  have KK1 := hid k1
  have HC := hid (hC.out ok hok.symm)
  rw [hon] at HC
  have hM : ∀ u, Kept w u → u.cell? ⟨B, 5, none⟩ = some (.map (some a.mN)) := fun u k => (HD.out.blk.kept k).cell 5 _ rfl
  have HM := hid hM
  clear hM hd hC k1
  cases ok
  · have e1 : fndE d s = 61 := by unfold fndE; rw [hok]; rfl
    have e2 : fndF d s = none := by unfold fndF; rw [e1]; rfl
    rw [e1, e2]
    clear e1 e2
    go_enter Try.func21, Try.ntmps21
    go_wp2_with (first | (go_at_call 19; (try rw [hW]); (try rw [hw1]); refine (HC.out).mono ?_; rintro e u1 ⟨rfl, k2⟩))
    go_ret2
    exact ⟨rfl, KK1.out.trans k2⟩
  · cases on
    · have e1 : fndE d s = 63 := by unfold fndE; rw [hok, hon]; rfl
      have e2 : fndF d s = none := by unfold fndF; rw [e1]; rfl
      rw [e1, e2]
      clear e1 e2
      go_enter Try.func21, Try.ntmps21
      go_wp2_with (first | (go_at_call 19; (try rw [hW]); (try rw [hw1]); refine (HC.out).mono ?_; rintro e u1 ⟨rfl, k2⟩))
      go_ret2
      exact ⟨rfl, KK1.out.trans k2⟩
    · have hsz : s.size ≤ maxLen := by
        have := okN_size hok
        unfold maxLen
        omega
      have HSZ := hid hsz
      clear hsz
      obtain ⟨q, hq⟩ : ∃ q, d.nN s = q := ⟨_, rfl⟩
      have e1 : fndE d s = if q.isSome then 0 else 60 := by unfold fndE; rw [hok, hon, hq]; rfl
      have e2 : fndF d s = q := by
        unfold fndF
        rw [e1, hq]
        cases q <;> rfl
      rw [e1, e2]
      clear e1 e2
      have HQ := hid hq
      cases q
      all_goals
        go_enter Try.func21, Try.ntmps21
        go_wp2_with (first | (go_at_call 19; (try rw [hW]); (try rw [hw1]); refine (HC.out).mono ?_; rintro e u1 ⟨rfl, k2⟩; have c5 := HM.out _ (KK1.out.trans k2); have KK2 := hid (KK1.out.trans k2)) | (at_lookup; refine look_mp_ok _ rfl _ _ rfl a.mN d.nn d.nN (HD.out.mN.on (KK2.out.below.block _ HD.out.mN.lt)) rfl s rfl HSZ.out ?_; rw [HQ.out]))
        go_ret2
        exact ⟨rfl, KK2.out⟩
end Go.Proofs.Ythaiejmajhmahab
