/- Package disk: a work done, a step of the fuse; how great a disk's parts get. -/
import Derived.Test.YthaiejmajhmahabDLR
namespace Go.Proofs.Ythaiejmajhmahab
open Go.ChangeShapes Go.WideShapes Go.ChangeAt Go.RowKit Go.Maps
set_option linter.unusedVariables false
set_option linter.unusedSimpArgs false

/-- What a call leaves: a disk, turned by a step of its own, of which R holds. -/
def Turn (w : World) (O : Nat → Prop) (B : Nat) (a : Da) (q : Nat) (R : Dk → Prop) (w' : World) : Prop :=
  ∃ O' a' d', Stp w O w' O' ∧ DSt w' O' B a' d' ∧ Bd q d' ∧ (∀ f, a.Fs f → a'.Fs f) ∧ R d'
theorem do_any (O : Nat → Prop) (B : Nat) (a : Da) (d : Dk) (x : Wk) (v : Value) (w : World) (hd : DSt w O B a d) (hx : WkOk w O a x v) (hlen : 0 ≤ x.len) {q : Nat} (hq : Bd q d) (hq8 : q + x.bytes.length < 99999999) :
    Calls Try.prog 22 #[.pointer (some ⟨B, 0, none⟩), wval x v] w fun e w' => e = .returned (.tuple #[]) ∧ ∃ O' a', Stp w O w' O' ∧ DSt w' O' B a' (doD x d) ∧ ∀ f, a.Fs f → a'.Fs f := by
  have h1 := len_wsum d.W
  have h2 := hq.nf
  have h3 := hq.nn
  have h4 := hq.cn x.file
  rcases e : ofN x.kind
  · exact do_bytes O B a d x v w hd hx e hlen (by omega) (by omega)
  · exact do_names O B a d x v w hd hx e (by omega) (by omega)
theorem Bd.do_ {q : Nat} {d : Dk} (h : Bd q d) (x : Wk) (hlen : 0 ≤ x.len) : Bd (q + 1 + x.bytes.length) (doD x d) := by
  have hw : wsum (d.W ++ [x]) = wsum d.W + (1 + x.bytes.length) := by rw [wsum_app]; simp [wsum]
  have h1 := h.nn
  have h2 := h.nf
  have hl : ∀ y ∈ d.W ++ [x], 0 ≤ y.len := fun y hy => by
    rcases List.mem_append.1 hy with hy | hy
    · exact h.ln y hy
    · rw [List.mem_singleton.1 hy]
      exact hlen
  unfold doD
  split
  · refine ⟨by simp only; omega, by simp only; rw [hw]; omega, fun f => by have := h.cn f; simp only; omega, fun f => by have := h.cf f; simp only; rw [hw]; omega, hl⟩
  · refine ⟨by simp only; omega, by simp only; rw [hw]; omega, fun f => ?_, fun f => by have := h.cf f; simp only; rw [hw]; omega, hl⟩
    refine up_le (fun g => by have := h.cn g; omega) ?_ f
    have := ontoL_le x x.len.toNat (d.cn x.file)
    have := h.cn x.file
    omega
theorem Bd.new {q : Nat} {d : Dk} (h : Bd q d) (f : Nat) : Bd q { d with cn := up d.cn f [], cf := up d.cf f [] } :=
  ⟨h.nn, h.nf, up_le h.cn (Nat.zero_le _), fun g => by
    unfold up
    simp only
    split
    · have := h.nf
      simp
      omega
    · exact h.cf g, h.ln⟩
def burnD (d : Dk) : Dk := if d.fused then { d with on := decide (0 < wrap64 (d.left - 1)), left := wrap64 (d.left - 1) } else d
theorem Bd.burn {q : Nat} {d : Dk} (h : Bd q d) : Bd q (burnD d) := by
  unfold burnD
  split
  · exact ⟨h.nn, h.nf, h.cn, h.cf, h.ln⟩
  · exact h
/-- A step is taken of the fuse. -/
theorem burn_disk (O : Nat → Prop) (B : Nat) (a : Da) (d : Dk) (w : World) (hd : DSt w O B a d) :
    Calls Try.prog 23 #[.pointer (some ⟨B, 0, none⟩)] w fun e w' => e = .returned (.tuple #[]) ∧ Stp w O w' O ∧ DSt w' O B a (burnD d) := by
  refine (burn_any B 47 d.on d.fused d.left _ w hd.blk).mono ?_
  rintro e w' ⟨rfl, k, hA⟩
  refine ⟨rfl, stp_names k hd.oB, ?_⟩
  unfold burnD
  split
  · rename_i hf
    rw [if_pos hf] at hA
    have := hd.power k (decide (0 < wrap64 (d.left - 1))) true (wrap64 (d.left - 1)) (by exact hA)
    rw [← hf] at this
    exact this
  · rename_i hf
    rw [if_neg hf] at hA
    exact hd.power k d.on d.fused d.left hA
/-- The names' number, in any world that keeps the map. -/
theorem len_run {w : World} {b n : Nat} {M : Nms} (h : Mp w b n M) : ∃ N, Full M N ∧ N.length ≤ n ∧ ∀ u, Kept w u → ∀ ty, (Builtin.len_ #[44] ty #[.map (some b)]).run Try.prog u = .ok (.int .i64 N.length) u := by
  have hl := h.lt
  obtain ⟨D, hO, v⟩ := h
  obtain ⟨N, h1, h2, h3, -⟩ := Mp.full hO v
  refine ⟨N, h1, h3, fun u k ty => ?_⟩
  have hu : u.ownsMap Try.prog 9 (ptrElem (H := Unit)) b n D := by
    obtain ⟨es, clock, hb, F, hs, hD⟩ := hO
    exact ⟨es, clock, (k.below.block b hl).trans hb, F, hs, hD⟩
  rw [h2]
  exact hu.len map_u ty
end Go.Proofs.Ythaiejmajhmahab
