/- Bytes that are cut off; bytes with one more; a byte that is turned. -/
import Derived.Test.YtfbcdbfalopkeaaWE
namespace Go.Proofs.Ytfbcdbfalopkeaa
open Go.ChangeShapes Go.WideShapes Go.ChangeAt Go.RowKit
set_option linter.unusedVariables false
set_option linter.unusedSimpArgs false

/-- What a piece reads hangs on the bytes that it reads: it reads on, it can be cut off. -/
structure Good {α : Type} (p : Ps α) : Prop where
  up : ∀ B i a q, p B i = .ok a q → i ≤ q
  cut : ∀ B i a q n, p B i = .ok a q → i ≤ n → n ≤ B.length → (q ≤ n → p (B.take n) i = .ok a q) ∧ (n < q → p (B.take n) i = .no 50 n)
theorem take_getD (B : List Int) (n j : Nat) (h : j < n) : (B.take n).getD j 0 = B.getD j 0 := by
  rw [List.getD_eq_getElem?_getD, List.getD_eq_getElem?_getD, List.getElem?_take, if_pos h]
theorem un_cut (B : List Int) (i n : Nat) : ∀ k, i + k ≤ n → un k (B.take n) i = un k B i
  | 0, _ => rfl
  | k + 1, h => by
    show un k (B.take n) i + (B.take n).getD (i + k) 0 * (256 : Int) ^ k = un k B i + B.getD (i + k) 0 * (256 : Int) ^ k
    rw [un_cut B i n k (by omega), take_getD B n (i + k) (by omega)]
theorem good_num (k : Nat) (g : Int → Bool) : Good (pnum k g) := by
  refine ⟨fun B i a q h => ?_, fun B i a q n h hi hn => ?_⟩
  · unfold pnum at h
    split at h
    · split at h
      · cases h; omega
      · cases h
    · cases h
  · have hl : (B.take n).length = n := by rw [List.length_take]; omega
    unfold pnum at h ⊢
    split at h
    · rename_i h1
      split at h
      · rename_i h2
        cases h
        refine ⟨fun hq => ?_, fun hq => ?_⟩
        · have e : numv k (B.take n) i = numv k B i := by unfold numv; rw [un_cut B i n k hq]
          rw [if_pos (by rw [hl]; exact hq), e, if_pos h2]
        · rw [if_neg (by rw [hl]; omega), hl]
      · cases h
    · cases h
theorem good_pure {α : Type} (a : α) : Good (ppure a) := ⟨fun B i b q h => by cases h; exact Nat.le_refl _, fun B i b q n h hi hn => by cases h; exact ⟨fun _ => rfl, fun h => by omega⟩⟩
theorem good_bind {α β : Type} {p : Ps α} {f : α → Ps β} (hp : Good p) (hf : ∀ a, Good (f a)) : Good (pbind p f) := by
  refine ⟨fun B i b q h => ?_, fun B i b q n h hi hn => ?_⟩
  · obtain ⟨a, q1, h1, h2⟩ := andTo_inv h
    exact Nat.le_trans (hp.up B i a q1 h1) ((hf a).up B q1 b q h2)
  · obtain ⟨a, q1, h1, h2⟩ := andTo_inv h
    have hu := (hf a).up B q1 b q h2
    obtain ⟨c1, c2⟩ := hp.cut B i a q1 n h1 hi hn
    show (q ≤ n → (p (B.take n) i).andTo _ = _) ∧ (n < q → (p (B.take n) i).andTo _ = _)
    by_cases hq : q1 ≤ n
    · rw [c1 hq, Res.andTo_ok]
      exact (hf a).cut B q1 b q n h2 hq hn
    · rw [c2 (by omega), Res.andTo_no]
      exact ⟨fun h => by omega, fun _ => rfl⟩
theorem good_rep {α : Type} {p : Ps α} (hp : Good p) : ∀ N, Good (prep N p)
  | 0 => good_pure []
  | N + 1 => good_bind hp fun a => good_bind (good_rep hp N) fun l => good_pure (a :: l)
theorem good_mk : ∀ l, Good (pmk l)
  | [] => good_pure ()
  | x :: l => good_bind (good_num 1 _) fun _ => good_mk l
theorem good_mat : Good pmat := good_bind (good_num 1 _) fun n => good_bind (good_num 2 _) fun r => good_bind (good_num 2 _) fun c => good_bind (good_rep (good_num _ _) _) fun L => good_pure _
theorem good_mats (k : Nat) (mo : Int) : Good (pmats k mo) := good_bind (good_num k _) fun n => good_rep good_mat _
theorem good_body : Good pbody := good_bind (good_mk _) fun _ => good_bind (good_num 8 _) fun a => good_bind (good_num 8 _) fun b => good_bind (good_num 8 _) fun d => good_bind (good_num 8 _) fun lo => good_bind (good_num 8 _) fun ra => good_bind (good_mats 2 64) fun P => good_bind (good_num 2 _) fun n => good_bind (good_rep (good_mats 1 4) _) fun Q => good_pure _
/-- Where the bytes of a state end. -/
theorem enc_parts {s : Sta} (h : Frm s) (hr : SRg s) : pbody (enc s) 0 = .ok s (wbody s).length ∧ (enc s).length = (wbody s).length + 4 ∧ (enc s).length ≤ 14000000 ∧ (enc s).take (wbody s).length = wbody s ∧ numv 4 (enc s) (wbody s).length = sumB (wbody s) := by
  have h1 := enc_body h hr [] (le 4 (sumB (wbody s)))
  have h2 := sumB_rng (wbody s)
  have h3 := numv_le 4 (sumB (wbody s)) (.inr ⟨by decide, h2.1, h2.2⟩) (wbody s) []
  rw [List.append_nil] at h3
  rw [List.nil_append, List.length_nil, Nat.zero_add] at h1
  have hl : (enc s).length = (wbody s).length + 4 := by unfold enc; rw [List.length_append, le_len]
  have ht : (enc s).take (wbody s).length = wbody s := by unfold enc; rw [List.take_left']; rfl
  have hsz := h.sz
  have hel := enc_len h
  exact ⟨h1, hl, by omega, ht, h3⟩
theorem read_cut {s : Sta} (h : Frm s) (hr : SRg s) (n : Nat) (hn : n < (enc s).length) : rread ((enc s).take n) = .no 50 n := by
  obtain ⟨h1, hl, hle, ht, h3⟩ := enc_parts h hr
  generalize enc s = E at *
  have htl : (E.take n).length = n := by rw [List.length_take]; omega
  unfold rread
  rw [if_pos (by rw [htl]; omega)]
  unfold pall pbind
  obtain ⟨c1, c2⟩ := good_body.cut E 0 s _ n h1 (Nat.zero_le _) (by omega)
  by_cases hq : (wbody s).length ≤ n
  · rw [c1 hq, Res.andTo_ok]
    show (pend (E.take n) (wbody s).length).andTo _ = _
    have h4 : pnum 4 anyB (E.take n) (wbody s).length = .no 50 n := by
      unfold pnum
      rw [if_neg (by rw [htl]; omega), htl]
    have h5 : pend (E.take n) (wbody s).length = .no 50 n := by
      unfold pend
      rw [h4, Res.andTo_no]
    rw [h5, Res.andTo_no]
  · rw [c2 (by omega), Res.andTo_no]
theorem read_more {s : Sta} (h : Frm s) (hr : SRg s) (x : Int) : rread (enc s ++ [x]) = .no 51 (enc s).length := by
  obtain ⟨-, hl, hle, ht, -⟩ := enc_parts h hr
  have h1 := enc_body h hr [] (le 4 (sumB (wbody s)) ++ [x])
  have h2 := sumB_rng (wbody s)
  have h3 := numv_le 4 (sumB (wbody s)) (.inr ⟨by decide, h2.1, h2.2⟩) (wbody s) [x]
  rw [List.nil_append, List.length_nil, Nat.zero_add, ← List.append_assoc] at h1
  have he : wbody s ++ le 4 (sumB (wbody s)) = enc s := rfl
  rw [he] at h1 h3
  generalize enc s = E at *
  have htk : (E ++ [x]).take (wbody s).length = wbody s := by rw [List.take_append_of_le_length (by omega), ht]
  generalize wbody s = W at *
  have hll : (E ++ [x]).length = E.length + 1 := by simp
  unfold rread
  rw [if_pos (by rw [hll]; omega)]
  unfold pall pbind
  rw [h1, Res.andTo_ok]
  have h4 : pnum 4 anyB (E ++ [x]) W.length = .ok (sumB W) (W.length + 4) := by
    unfold pnum
    rw [if_pos (by rw [hll]; omega), h3]
    exact if_pos rfl
  have h5 : pend (E ++ [x]) W.length = .no 51 (W.length + 4 : Nat) := by
    unfold pend
    rw [h4, Res.andTo_ok, if_pos (by rw [htk]), if_neg (by rw [hll]; omega)]
  show (pend (E ++ [x]) W.length).andTo _ = _
  rw [h5, Res.andTo_no, hl]
end Go.Proofs.Ytfbcdbfalopkeaa
