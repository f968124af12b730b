/- The laws of chapter 23: two states that are one. States and their bytes: there and back,without any program. The laws of chapter 23: same; within; bulk. -/
import Derived.Test.YtocjfdiimapojaaMG
import Derived.Test.YtocjfdiimapojaaMF
namespace Go.Proofs.Ytocjfdiimapojaa
open Go.ChangeShapes Go.WideShapes Go.ChangeAt Go.RowKit
set_option maxHeartbeats 16000000
set_option maxRecDepth 100000
set_option linter.unusedVariables false
set_option linter.unusedSimpArgs false
theorem sameMatrix_true (r c n : Int) (L : List Int) (hlen : L.length ≤ 9223372036854775807) (a1 a2 : Option Addr) (p1 p2 : Nat) (w : World) (h1 : Sl w (.slice a1 L.length p1) L) (h2 : Sl w (.slice a2 L.length p2) L) :
  Calls Try.prog 55 #[.agg #[.int .i64 r,.int .i64 c,.int .i64 n,.slice a1 L.length p1],.agg #[.int .i64 r,.int .i64 c,.int .i64 n,.slice a2 L.length p2]] w fun e w' => e = .returned (.bool true) ∧ Kept w w':=by
 obtain ⟨f,hf⟩ : ∃ f : Nat → Int,∀ i,L.getD i 0 = f i:=⟨_,fun _ => rfl⟩
 have HRd : Hid (∀ (a : Option Addr) (p : Nat),Sl w (.slice a L.length p) L → ∀ j,j < L.length → ∃ b off,a = some ⟨b,off,none⟩ ∧ ∀ u,Kept w u → u.cell? ⟨b,off + j,none⟩ = some (.int .i64 (f j))):=fun a p hs j hj => by
  obtain ⟨ao',cap',e,-,-,hr⟩:=hs
  cases e
  obtain ⟨b,off,e2,hb,hrd⟩:=hr (by intro e; rw [e] at hj; simp at hj)
  exact ⟨b,off,e2,fun u ku => by rw [← hf]; exact (ku.below.cell (p:=⟨b,off + j,none⟩) hb).trans (hrd j hj)⟩
 have HR1:=hid (HRd.out a1 p1 h1)
 have HR2:=hid (HRd.out a2 p2 h2)
 obtain ⟨N,hN⟩ : ∃ N,L.length = N:=⟨_,rfl⟩
 rw [hN] at HR1 HR2 hlen ⊢
 have HN:=hid hlen
 clear h1 h2 hf hN hlen HRd
 obtain ⟨M,hM⟩ : ∃ M,w.heap.size = M:=⟨_,rfl⟩
 obtain ⟨W0,hW0⟩ : ∃ W0,(w.alloc (.cells #[.int .i64 r,.int .i64 c,.int .i64 n,.slice a1 N p1] 54)).alloc (.cells #[.int .i64 r,.int .i64 c,.int .i64 n,.slice a2 N p2] 54) = W0:=⟨_,rfl⟩
 have k0 : Kept w W0:=by rw [← hW0]; exact ((Kept.refl w).alloc _ _).alloc _ _
 have b1 : Bk W0 M [.int .i64 r,.int .i64 c,.int .i64 n,.slice a1 N p1]:=by rw [← hW0,← hM]; exact (Bk.new w [.int .i64 r,.int .i64 c,.int .i64 n,.slice a1 N p1] 54).kept ((Kept.refl _).alloc _ _)
 have b2 : Bk W0 (M + 1) [.int .i64 r,.int .i64 c,.int .i64 n,.slice a2 N p2]:=by
  have:=Bk.new (w.alloc (.cells #[.int .i64 r,.int .i64 c,.int .i64 n,.slice a1 N p1] 54)) [.int .i64 r,.int .i64 c,.int .i64 n,.slice a2 N p2] 54
  rw [show (w.alloc (.cells #[.int .i64 r,.int .i64 c,.int .i64 n,.slice a1 N p1] 54)).heap.size = M + 1 by rw [← hM]; simp] at this
  rw [← hW0]
  exact this
 have HB1:=hid (show ∀ u,Kept W0 u → Bk u M [.int .i64 r,.int .i64 c,.int .i64 n,.slice a1 N p1] from fun u ku => b1.kept ku)
 have HB2:=hid (show ∀ u,Kept W0 u → Bk u (M + 1) [.int .i64 r,.int .i64 c,.int .i64 n,.slice a2 N p2] from fun u ku => b2.kept ku)
 have x0:=b1.c 0 _ rfl
 have x1:=b1.c 1 _ rfl
 have x2:=b1.c 2 _ rfl
 have x3:=b1.c 3 _ rfl
 have y0:=b2.c 0 _ rfl
 have y1:=b2.c 1 _ rfl
 have y2:=b2.c 2 _ rfl
 have y3:=b2.c 3 _ rfl
 have HK0:=hid k0
 clear k0 b1 b2
 go_enter Try.func55,Try.ntmps55
 go_wp2_with fail
 go_loopw [5] (fun jv wr => ∃ j : Nat,j ≤ N ∧ jv = .int .i64 (j : Int) ∧ Kept W0 wr) (fun jv _ => N - (intOf jv).toNat)
 case atStart => exact ⟨0,Nat.zero_le _,rfl,Kept.refl _⟩
 case round =>
  clear x0 x1 x2 x3 y0 y1 y2 y3 hW0 hM
  obtain ⟨j,hj,rfl,kr⟩:=hrel
  have x3:=(HB1.out wr kr).c 3 _ rfl
  have y3:=(HB2.out wr kr).c 3 _ rfl
  by_cases hjn : j < N
  ·obtain ⟨b1,o1,rfl,hc1⟩:=HR1.out j hjn
   obtain ⟨b2,o2,rfl,hc2⟩:=HR2.out j hjn
   have c1:=hc1 wr (HK0.out.trans kr)
   have c2:=hc2 wr (HK0.out.trans kr)
   have hb1 : (0 : Int) ≤ (j : Int) ∧ (j : Int) < (N : Int):=by omega
   have hb2 : (j : Int) < (N : Int):=by omega
   have z3 : IntKind.i64.wrap ((j : Int) + 1) = (j : Int) + 1:=by have:=HN.out; rw [wrap_i64]; omega
   have hkr:=hid kr
   have hj2:=hid hjn
   clear hc1 hc2 kr hj hjn HR1 HR2
   generalize f j = fj at *
   go_wp2_with fail
   refine wp_region_held_drew (S:=fun u => u.cell? ⟨M,3,none⟩ = some (.slice (some ⟨b1,o1,none⟩) N p1) ∧ u.cell? ⟨M + 1,3,none⟩ = some (.slice (some ⟨b2,o2,none⟩) N p2) ∧ u.cell? ⟨b1,o1 + j,none⟩ = some (.int .i64 fj) ∧ u.cell? ⟨b2,o2 + j,none⟩ = some (.int .i64 fj)) (by kernel_rfl) (⟨x3,y3,c1,c2⟩) (fun hHeld => ?_)
   refine tk (i:=0) (v:=?_) rfl ?_
   simp only [Act.put,zA,zB,zC,zD,zE,zF]
   refine tk (i:=1) (v:=?_) rfl ?_
   simp only [Act.put,zA,zB,zC,zD,zE,zF]
   refine tk (i:=2) (v:=?_) rfl ?_
   simp only [Act.put,zA,zB,zC,zD,zE,zF]
   refine tk (i:=3) (v:=?_) rfl ?_
   simp only [Act.put,zA,zB,zC,zD,zE,zF]
   refine tk (i:=4) (v:=?_) rfl ?_
   simp only [Act.put,zA,zB,zC,zD,zE,zF]
   refine tk (i:=5) (v:=?_) rfl ?_
   simp only [Act.put,zA,zB,zC,zD,zE,zF]
   refine tk (i:=6) (v:=?_) rfl ?_
   simp only [Act.put,zA,zB,zC,zD,zE,zF]
   refine tk (i:=7) (v:=?_) rfl ?_
   simp only [Act.put,zA,zB,zC,zD,zE,zF]
   refine tk (i:=8) (v:=?_) rfl ?_
   simp only [Act.put,zA,zB,zC,zD,zE,zF]
   refine tk (i:=9) (v:=?_) rfl ?_
   simp only [Act.put,zA,zB,zC,zD,zE,zF]
   refine tk (i:=10) (v:=?_) rfl ?_
   simp only [Act.put,zA,zB,zC,zD,zE,zF]
   refine wpAnyH_done (by kernel_rfl) ?_ _
   go_wp2_with fail
   go_roundw
   case rel => exact ⟨j + 1,by have:=hj2.out; omega,by go_num,hkr.out.drew⟩
   case measure => have:=hj2.out; simp [intOf]; omega
  ·obtain rfl : j = N:=by omega
   have hge : ¬ ((j : Int) < (j : Int)):=by omega
   have hkr:=hid kr
   clear kr
   go_wp2_with fail
   go_ret
   exact ⟨rfl,HK0.out.trans hkr.out⟩
theorem sameList_true (l : List Mat) (v1 v2 : Value) (hlen : l.length ≤ 9223372036854775807) (w : World) (h1 : MlI w v1 l) (h2 : MlI w v2 l) :
  Calls Try.prog 30 #[v1,v2] w fun e w' => e = .returned (.bool true) ∧ Kept w w':=by
 obtain ⟨a1,p1,rfl,hq1,hr1⟩:=h1
 obtain ⟨a2,p2,rfl,hq2,hr2⟩:=h2
 have HR : Hid (∀ (i : Nat) (m : Mat),l[i]? = some m → ∃ B1 o1 b1 c1 B2 o2 b2 c2,a1 = some ⟨B1,o1,none⟩ ∧ a2 = some ⟨B2,o2,none⟩ ∧ ∀ u,Kept w u → MC u B1 (o1 + i * 4) b1 c1 m ∧ MC u B2 (o2 + i * 4) b2 c2 m):=fun i m hi => by
  have hne : l ≠ []:=by intro e; rw [e] at hi; simp at hi
  obtain ⟨B1,o1,e1,h1⟩:=hr1 hne
  obtain ⟨B2,o2,e2,h2⟩:=hr2 hne
  obtain ⟨b1,c1,m1⟩:=h1 i m hi
  obtain ⟨b2,c2,m2⟩:=h2 i m hi
  exact ⟨B1,o1,b1,c1,B2,o2,b2,c2,e1,e2,fun u ku => ⟨m1.kept ku,m2.kept ku⟩⟩
 obtain ⟨N,hN⟩ : ∃ N,l.length = N:=⟨_,rfl⟩
 rw [hN] at hq1 hq2 hlen ⊢
 have HN:=hid hN
 have HQ:=hid (show N ≤ p1 ∧ N ≤ p2 ∧ N ≤ 9223372036854775807 from ⟨hq1,hq2,hlen⟩)
 clear hr1 hr2 hN hq1 hq2 hlen
 go_enter Try.func30,Try.ntmps30
 go_wp2_with fail
 go_loopw [5] (fun jv wr => ∃ j : Nat,j ≤ N ∧ jv = .int .i64 (j : Int) ∧ Kept w wr) (fun jv _ => N - (intOf jv).toNat)
 case atStart => exact ⟨0,Nat.zero_le _,rfl,Kept.refl _⟩
 case round =>
  obtain ⟨j,hj,rfl,kr⟩:=hrel
  by_cases hjn : j < N
  ·obtain ⟨m,hm⟩ : ∃ m,l[j]? = some m:=⟨_,List.getElem?_eq_getElem (by rw [HN.out]; exact hjn)⟩
   obtain ⟨B1,o1,b1,c1,B2,o2,b2,c2,rfl,rfl,hmc⟩:=HR.out j m hm
   obtain ⟨⟨x0,x1,x2,x3,s1⟩,⟨y0,y1,y2,y3,s2⟩⟩:=hmc wr kr
   have hb1 : (0 : Int) ≤ (j : Int) ∧ (j : Int) < (N : Int):=by omega
   have hb2 : (j : Int) < (N : Int):=by omega
   have z3 : IntKind.i64.wrap ((j : Int) + 1) = (j : Int) + 1:=by have:=HQ.out; rw [wrap_i64]; omega
   obtain ⟨r,c,nn,L⟩:=m
   dsimp only at x0 x1 x2 x3 y0 y1 y2 y3 s1 s2
   have hLl : L.length ≤ 9223372036854775807:=by
    obtain ⟨_,_,e,h1,h2,-⟩:=s1
    cases e
    have : maxLen ≤ 9223372036854775807:=by simp [maxLen]
    omega
   have K:=hid (sameMatrix_true r c nn L hLl b1 b2 c1 c2 wr.drew (s1.kept (Kept.refl wr).drew) (s2.kept (Kept.refl wr).drew))
   have hkr:=hid kr
   have hj2:=hid hjn
   obtain ⟨q,hq⟩ : ∃ q,L.length = q:=⟨_,rfl⟩
   rw [hq] at x3 y3 K
   clear hmc kr hj hjn HR hm s1 s2 hLl hq
   go_wp2_with fail
   refine wp_region_held_drew (S:=fun u => u.cell? ⟨B1,o1 + j * 4,none⟩ = some (.int .i64 r) ∧ u.cell? ⟨B1,o1 + j * 4 + 1,none⟩ = some (.int .i64 c) ∧ u.cell? ⟨B1,o1 + j * 4 + 2,none⟩ = some (.int .i64 nn) ∧ u.cell? ⟨B1,o1 + j * 4 + 3,none⟩ = some (.slice b1 q c1) ∧ u.cell? ⟨B2,o2 + j * 4,none⟩ = some (.int .i64 r) ∧ u.cell? ⟨B2,o2 + j * 4 + 1,none⟩ = some (.int .i64 c) ∧ u.cell? ⟨B2,o2 + j * 4 + 2,none⟩ = some (.int .i64 nn) ∧ u.cell? ⟨B2,o2 + j * 4 + 3,none⟩ = some (.slice b2 q c2)) (by kernel_rfl) (⟨x0,x1,x2,x3,y0,y1,y2,y3⟩) (fun hHeld => ?_)
   refine tk (i:=0) (v:=?_) rfl ?_
   simp only [Act.put,zA,zB,zC,zD,zE,zF]
   refine tk (i:=1) (v:=?_) rfl ?_
   simp only [Act.put,zA,zB,zC,zD,zE,zF]
   refine tk (i:=2) (v:=?_) rfl ?_
   simp only [Act.put,zA,zB,zC,zD,zE,zF]
   refine tk (i:=3) (v:=?_) rfl ?_
   simp only [Act.put,zA,zB,zC,zD,zE,zF]
   refine tk (i:=4) (v:=?_) rfl ?_
   simp only [Act.put,zA,zB,zC,zD,zE,zF]
   refine tk (i:=5) (v:=?_) rfl ?_
   simp only [Act.put,zA,zB,zC,zD,zE,zF]
   refine tk (i:=6) (v:=?_) rfl ?_
   simp only [Act.put,zA,zB,zC,zD,zE,zF]
   refine tk (i:=7) (v:=?_) rfl ?_
   simp only [Act.put,zA,zB,zC,zD,zE,zF]
   refine wpAnyH_ready (rs:=[8]) (by kernel_rfl) (by simp) ?_
   refine AllReadyH.cons rfl (fun K9 hK9 => ?_) AllReadyH.nil
   go_simp
   go_wp2_with fail
   refine K.out.mono ?_
   rintro e u1 ⟨rfl,k1⟩
   have kk : Kept wr u1:=((Kept.refl wr).drew).trans k1
   refine hK9.out _ _ ⟨(kk.below.cell (p:=⟨B1,o1 + j * 4,none⟩) (World.block_lt_of_cell? _ _ x0)).trans x0,(kk.below.cell (p:=⟨B1,o1 + j * 4 + 1,none⟩) (World.block_lt_of_cell? _ _ x1)).trans x1,(kk.below.cell (p:=⟨B1,o1 + j * 4 + 2,none⟩) (World.block_lt_of_cell? _ _ x2)).trans x2,(kk.below.cell (p:=⟨B1,o1 + j * 4 + 3,none⟩) (World.block_lt_of_cell? _ _ x3)).trans x3,(kk.below.cell (p:=⟨B2,o2 + j * 4,none⟩) (World.block_lt_of_cell? _ _ y0)).trans y0,(kk.below.cell (p:=⟨B2,o2 + j * 4 + 1,none⟩) (World.block_lt_of_cell? _ _ y1)).trans y1,(kk.below.cell (p:=⟨B2,o2 + j * 4 + 2,none⟩) (World.block_lt_of_cell? _ _ y2)).trans y2,(kk.below.cell (p:=⟨B2,o2 + j * 4 + 3,none⟩) (World.block_lt_of_cell? _ _ y3)).trans y3⟩ (fun hHeld1 => ?_)
   clear hK9 K9
   refine tk (i:=9) (v:=?_) rfl ?_
   simp only [Act.put,zA,zB,zC,zD,zE,zF]
   refine wpAnyH_done (by kernel_rfl) ?_ _
   have kk2:=hid kk
   clear hHeld hHeld1 kk k1 x0 x1 x2 x3 y0 y1 y2 y3
   go_wp2_with fail
   go_roundw
   case rel => exact ⟨j + 1,by have:=hj2.out; omega,by go_num,hkr.out.trans kk2.out⟩
   case measure => have:=hj2.out; simp [intOf]; omega
  ·obtain rfl : j = N:=by omega
   have hge : ¬ ((j : Int) < (j : Int)):=by omega
   go_wp2_with fail
   go_ret
   exact ⟨rfl,kr⟩
end Go.Proofs.Ytocjfdiimapojaa
namespace Go.Proofs.Ytocjfdiimapojaa
open Go.ChangeShapes Go.WideShapes Go.ChangeAt Go.RowKit
set_option maxHeartbeats 16000000
set_option maxRecDepth 100000
set_option linter.unusedVariables false
set_option linter.unusedSimpArgs false
theorem emod_step (n p : Int) (hp : 0 < p) : n % (p * 256) = n % p + (n / p % 256) * p:=by
 have h1:=Int.emod_add_mul_ediv n p
 have h2:=Int.emod_add_mul_ediv (n / p) 256
 have h3 : n / (p * 256) = n / p / 256:=(Int.ediv_ediv_of_nonneg (by omega)).symm
 have h4:=Int.emod_add_mul_ediv n (p * 256)
 rw [h3] at h4
 generalize n / p / 256 = c at *
 generalize n / p % 256 = b at *
 have h5 : p * 256 * c + b * p = p * (n / p):=by rw [← h2,Int.mul_add,Int.mul_comm p b,Int.mul_assoc]; omega
 omega
theorem pow_step (k : Nat) : (2 : Int) ^ (8 * (k + 1)) = 2 ^ (8 * k) * 256:=by
 rw [show 8 * (k + 1) = 8 * k + 8 by omega,Int.pow_add]
 rfl
theorem pow_pos8 (k : Nat) : (0 : Int) < 2 ^ (8 * k):=Int.pow_pos (by decide)
theorem pow_256 (k : Nat) : (256 : Int) ^ k = 2 ^ (8 * k):=by
 induction k with
 | zero => rfl
 | succ k ih => rw [Int.pow_succ,ih,pow_step]
theorem un_eq (n : Int) (B : List Int) (i : Nat) : ∀ k,(∀ j,j < k → B.getD (i + j) 0 = n / 2 ^ (8 * j) % 256) → un k B i = n % 2 ^ (8 * k)
 | 0,_ => by show (0 : Int) = n % 2 ^ 0; rw [Int.pow_zero,Int.emod_one]
 | k + 1,h => by
  show un k B i + B.getD (i + k) 0 * (256 : Int) ^ k = _
  rw [un_eq n B i k (fun j hj => h j (by omega)),h k (by omega),pow_step,emod_step _ _ (pow_pos8 k),pow_256]
theorem le_get (k : Nat) (n : Int) (j : Nat) (hj : j < k) : (le k n).getD j 0 = n / 2 ^ (8 * j) % 256:=by
 induction k with
 | zero => omega
 | succ k ih =>
  show (le k n ++ [n / 2 ^ (8 * k) % 256]).getD j 0 = _
  rw [List.getD_eq_getElem?_getD,List.getElem?_append,le_len]
  by_cases h : j < k
  ·rw [if_pos h,← List.getD_eq_getElem?_getD]; exact ih h
  ·obtain rfl : j = k:=by omega
   rw [if_neg h,Nat.sub_self]; rfl
/-- What k bytes can hold. -/
def Hld (k : Nat) (n : Int) : Prop:=(k = 8 ∧ -9223372036854775808 ≤ n ∧ n ≤ 9223372036854775807) ∨ (k ≤ 7 ∧ 0 ≤ n ∧ n < 2 ^ (8 * k))
theorem numv_le (k : Nat) (n : Int) (h : Hld k n) (A C : List Int) : numv k (A ++ le k n ++ C) A.length = n:=by
 unfold numv
 rw [un_eq n _ _ k (fun j hj => by
  rw [← le_get k n j hj,List.getD_eq_getElem?_getD,List.getD_eq_getElem?_getD,List.append_assoc,List.getElem?_append_right (by omega),Nat.add_sub_cancel_left,List.getElem?_append_left (by rw [le_len]; exact hj)]),wrap_i64]
 rcases h with ⟨rfl,h1,h2⟩ | ⟨h1,h2,h3⟩
 ·have : (2 : Int) ^ (8 * 8) = 18446744073709551616:=by decide
  rw [this]; omega
 ·rw [Int.emod_eq_of_lt h2 h3]
  have : (2 : Int) ^ (8 * k) ≤ 2 ^ (8 * 7):=by
   have h9:=Int.ofNat_le.2 (Nat.pow_le_pow_right (n:=2) (by decide) (show 8 * k ≤ 8 * 7 by omega))
   rw [Int.natCast_pow,Int.natCast_pow] at h9
   exact h9
  have e7 : (2 : Int) ^ (8 * 7) = 72057594037927936:=by decide
  omega
/-- A piece reads what stands there. -/
def Enc {α : Type} (p : Ps α) (e : List Int) (a : α) : Prop:=∀ A C,p (A ++ e ++ C) A.length = .ok a (A.length + e.length)
theorem Enc.bind {α β : Type} {p : Ps α} {f : α → Ps β} {e e2 : List Int} {a : α} {b : β} (h : Enc p e a) (k : Enc (f a) e2 b) : Enc (pbind p f) (e ++ e2) b:=fun A C => by
 show (p (A ++ (e ++ e2) ++ C) A.length).andTo _ = _
 have h1:=h A (e2 ++ C)
 have h2:=k (A ++ e) C
 rw [show A ++ (e ++ e2) ++ C = A ++ e ++ (e2 ++ C) by simp [List.append_assoc],h1,Res.andTo_ok]
 rw [show A ++ e ++ (e2 ++ C) = A ++ e ++ e2 ++ C by simp [List.append_assoc],← List.length_append,h2,List.length_append,List.length_append,Nat.add_assoc]
theorem Enc.pure {α : Type} (a : α) : Enc (ppure a) [] a:=fun A C => rfl
theorem Enc.num {k : Nat} {n : Int} {g : Int → Bool} (h : Hld k n) (hg : g n = true) : Enc (pnum k g) (le k n) n:=fun A C => by
 unfold pnum
 rw [if_pos (by rw [List.length_append,List.length_append,le_len]; omega),numv_le k n h,if_pos hg,le_len]
theorem Enc.mk : ∀ (l : List Int),(∀ x ∈ l,0 ≤ x ∧ x < 256) → Enc (pmk l) l ()
 | [],_ => Enc.pure ()
 | x :: l,h => by
  have hx:=h x (List.mem_cons_self ..)
  have h1 : Enc (pnum 1 (fun n => n == x)) (le 1 x) x:=Enc.num (.inr ⟨by decide,hx.1,by simpa using hx.2⟩) (by simp)
  have h2 : le 1 x = [x]:=by show [] ++ [x / 2 ^ 0 % 256] = [x]; rw [Int.pow_zero,Int.ediv_one,Int.emod_eq_of_lt hx.1 hx.2]; rfl
  rw [h2] at h1
  exact h1.bind (Enc.mk l fun y hy => h y (List.mem_cons_of_mem _ hy))
theorem enc_bits (k : Nat) (g : Int → Bool) : ∀ L : List Int,(∀ x ∈ L,Hld k x ∧ g x = true) → Enc (prep L.length (pnum k g)) (wbits k L) L
 | [],_ => Enc.pure []
 | x :: L,h => by
  have hx:=h x (List.mem_cons_self ..)
  have:=(Enc.num (g:=g) hx.1 hx.2).bind (f:=fun a => pbind (prep L.length (pnum k g)) fun l => ppure (a :: l)) ((enc_bits k g L fun y hy => h y (List.mem_cons_of_mem _ hy)).bind (f:=fun l => ppure (x :: l)) (Enc.pure (x :: L)))
  rw [List.append_nil] at this
  exact this
/-- The numbers of a matrix are ints. -/
def MRg (m : Mat) : Prop:=∀ x ∈ m.L,-9223372036854775808 ≤ x ∧ x ≤ 9223372036854775807
theorem enc_mat {m : Mat} (h : matOk m) (hr : MRg m) : Enc pmat (wm m) m:=by
 obtain ⟨h1,h2,h3⟩:=ckM_ok h.1
 obtain ⟨h4,h5,h6,h7⟩:=ckS_ok h1
 have h8:=le_of_mul h5 h6
 have e1 : Enc (pnum 1 (fun n => val 0 n)) (le 1 m.n) m.n:=Enc.num (.inr ⟨by decide,by omega,by show m.n < 256; omega⟩) (by rw [val_0]; simpa using h4)
 have e2 : Enc (pnum 2 (fun r => decide (r > 0))) (le 2 m.r) m.r:=Enc.num (.inr ⟨by decide,by omega,by show m.r < 65536; omega⟩) (by simp; omega)
 have e3 : Enc (pnum 2 (fun c => ckS m.r c m.n == 0)) (le 2 m.c) m.c:=Enc.num (.inr ⟨by decide,by omega,by show m.c < 65536; omega⟩) (by simp [h1])
 have e4 : Enc (prep m.L.length (pel m.n)) (wbits (Int.tdiv m.n 8).toNat m.L) m.L:=enc_bits _ _ _ fun x hx => by
  obtain ⟨i,hi,rfl⟩:=List.getElem_of_mem hx
  have hv:=h3 i hi
  have hf:=h.2 i hi
  have hg:=hr _ (List.getElem_mem hi)
  rw [List.getD_eq_getElem?_getD,List.getElem?_eq_getElem hi] at hv hf
  refine ⟨?_,hf⟩
  simp only [Option.getD_some] at hv
  unfold val at hv
  rw [decide_eq_true_eq] at hv
  rcases hv with e | ⟨e,hb⟩
  ·rw [e]; exact .inl ⟨rfl,hg⟩
  ·rw [e]; exact .inr ⟨by decide,hb.1,hb.2⟩
 have:=e1.bind (f:=fun n => pbind (pnum 2 (fun r => decide (r > 0))) fun r => pbind (pnum 2 (fun c => ckS r c n == 0)) fun c => pbind (prep (r * c).toNat (pel n)) fun L => ppure (⟨r,c,n,L⟩ : Mat)) (e2.bind (e3.bind (by
  rw [show (m.r * m.c).toNat = m.L.length by omega]
  exact e4.bind (Enc.pure (⟨m.r,m.c,m.n,m.L⟩ : Mat)))))
 unfold wm
 simp only [List.append_nil,List.append_assoc] at this ⊢
 exact this
theorem enc_mats : ∀ l : List Mat,(∀ m ∈ l,matOk m ∧ MRg m) → Enc (prep l.length pmat) (wls l) l
 | [],_ => Enc.pure []
 | x :: L,h => by
  have hx:=h x (List.mem_cons_self ..)
  have:=(enc_mat hx.1 hx.2).bind (f:=fun a => pbind (prep L.length pmat) fun l => ppure (a :: l)) ((enc_mats L fun y hy => h y (List.mem_cons_of_mem _ hy)).bind (f:=fun l => ppure (x :: l)) (Enc.pure (x :: L)))
  rw [List.append_nil] at this
  exact this
theorem enc_list (k : Nat) (mo : Int) (l : List Mat) (hk : Hld k l.length) (hm : (l.length : Int) ≤ mo) (h : ∀ m ∈ l,matOk m ∧ MRg m) : Enc (pmats k mo) (le k l.length ++ wls l) l:=by
 have:=(Enc.num (g:=fun n => decide (n ≤ mo)) hk (by simpa using hm)).bind (f:=fun n => prep n.toNat pmat) (by rw [Int.toNat_natCast]; exact enc_mats l h)
 exact this
theorem enc_lists : ∀ Q : List (List Mat),(∀ l ∈ Q,l.length ≤ 4 ∧ ∀ m ∈ l,matOk m ∧ MRg m) → Enc (prep Q.length (pmats 1 4)) (wqs Q) Q
 | [],_ => Enc.pure []
 | x :: L,h => by
  have hx:=h x (List.mem_cons_self ..)
  have:=(enc_list 1 4 x (.inr ⟨by decide,by omega,by show (x.length : Int) < 256; omega⟩) (by omega) hx.2).bind (f:=fun a => pbind (prep L.length (pmats 1 4)) fun l => ppure (a :: l)) ((enc_lists L fun y hy => h y (List.mem_cons_of_mem _ hy)).bind (f:=fun l => ppure (x :: l)) (Enc.pure (x :: L)))
  rw [List.append_nil] at this
  exact this
theorem mem_oks {l : List Mat} (h : Oks l) : ∀ m ∈ l,matOk m:=fun m hm => by
 obtain ⟨i,hi,rfl⟩:=List.getElem_of_mem hm
 exact h i _ (List.getElem?_eq_getElem hi)
/-- The numbers of a state are ints. -/
structure SRg (s : Sta) : Prop where
 lo : -9223372036854775808 ≤ s.lo ∧ s.lo ≤ 9223372036854775807
 ra : -9223372036854775808 ≤ s.ra ∧ s.ra ≤ 9223372036854775807
 p : ∀ m ∈ s.P,MRg m
 q : ∀ l ∈ s.Q,∀ m ∈ l,MRg m
theorem enc_body {s : Sta} (h : Frm s) (hr : SRg s) : Enc pbody (wbody s) s:=by
 have st : ∀ n,stepB n = true → Hld 8 n:=fun n hn => by unfold stepB at hn; rw [decide_eq_true_eq] at hn; exact .inl ⟨rfl,by omega,by omega⟩
 have e0:=Enc.mk mkL (by decide)
 have ea:=Enc.num (g:=stepB) (st _ h.a) h.a
 have eb:=Enc.num (g:=stepB) (st _ h.b) h.b
 have ed:=Enc.num (g:=stepB) (st _ h.d) h.d
 have el:=Enc.num (k:=8) (g:=anyB) (.inl ⟨rfl,hr.lo⟩) rfl
 have er:=Enc.num (k:=8) (g:=anyB) (.inl ⟨rfl,hr.ra⟩) rfl
 have hpl:=h.pl
 have hql:=h.ql
 have ep:=enc_list 2 64 s.P (.inr ⟨by decide,by omega,by show (s.P.length : Int) < 65536; omega⟩) (by omega) (fun m hm => ⟨mem_oks h.p m hm,hr.p m hm⟩)
 have en:=Enc.num (k:=2) (n:=(s.Q.length : Int)) (g:=fun n => decide (n ≤ 64)) (.inr ⟨by decide,by omega,by show (s.Q.length : Int) < 65536; omega⟩) (by simp; omega)
 have eq:=enc_lists s.Q (fun l hl => by
  obtain ⟨i,hi,rfl⟩:=List.getElem_of_mem hl
  have hq:=h.q i _ (List.getElem?_eq_getElem hi)
  exact ⟨hq.1,fun m hm => ⟨mem_oks hq.2 m hm,hr.q _ hl m hm⟩⟩)
 have:=e0.bind (f:=fun _ => pbind (pnum 8 stepB) fun a => pbind (pnum 8 stepB) fun b => pbind (pnum 8 stepB) fun d => pbind (pnum 8 anyB) fun lo => pbind (pnum 8 anyB) fun ra => pbind (pmats 2 64) fun P => pbind (pnum 2 (fun n => decide (n ≤ 64))) fun n => pbind (prep n.toNat (pmats 1 4)) fun Q => ppure (⟨a,b,d,P,Q,lo,ra⟩ : Sta)) (ea.bind (eb.bind (ed.bind (el.bind (er.bind (ep.bind (en.bind (by
  rw [Int.toNat_natCast]
  exact eq.bind (Enc.pure (⟨s.a,s.b,s.d,s.P,s.Q,s.lo,s.ra⟩ : Sta))))))))))
 unfold wbody wbits wbits wbits wbits wbits wbits
 simp only [List.append_nil,List.append_assoc] at this ⊢
 exact this
theorem sumB_rng (l : List Int) : 0 ≤ sumB l ∧ sumB l < 4294967296:=by unfold sumB; omega
theorem read_enc {s : Sta} (h : Frm s) (hr : SRg s) : rread (enc s) = .ok s (enc s).length:=by
 have hsz:=h.sz
 have hel:=enc_len h
 have h1:=enc_body h hr [] (le 4 (sumB (wbody s)))
 have h2:=sumB_rng (wbody s)
 have h3:=numv_le 4 (sumB (wbody s)) (.inr ⟨by decide,h2.1,h2.2⟩) (wbody s) []
 rw [List.append_nil] at h3
 rw [List.nil_append,List.length_nil,Nat.zero_add] at h1
 have hl : (enc s).length = (wbody s).length + 4:=by unfold enc; rw [List.length_append,le_len]
 have ht : (enc s).take (wbody s).length = wbody s:=by unfold enc; rw [List.take_left']; rfl
 have he : wbody s ++ le 4 (sumB (wbody s)) = enc s:=rfl
 rw [he] at h1 h3
 have hle : (enc s).length ≤ 16777216:=by omega
 clear he hel hsz
 generalize enc s = E at *
 generalize wbody s = W at *
 unfold rread
 rw [if_pos hle]
 unfold pall pbind
 rw [h1,Res.andTo_ok]
 have h4 : pnum 4 anyB E W.length = .ok (sumB W) (W.length + 4):=by
  unfold pnum
  rw [if_pos (by omega),h3]
  exact if_pos rfl
 have h5 : pend E W.length = .ok () (W.length + 4):=by
  unfold pend
  rw [h4,Res.andTo_ok,if_pos (by rw [ht]),if_pos hl.symm]
 show (pend E W.length).andTo _ = _
 rw [h5,Res.andTo_ok,hl]
 rfl
end Go.Proofs.Ytocjfdiimapojaa
namespace Go.Proofs.Ytocjfdiimapojaa
open Go.ChangeShapes Go.WideShapes Go.ChangeAt Go.RowKit
set_option maxHeartbeats 16000000
set_option maxRecDepth 100000
set_option linter.unusedVariables false
set_option linter.unusedSimpArgs false
theorem MlI.len {w : World} {v : Value} {l : List Mat} (h : MlI w v l) : ∃ ao c,v = .slice ao l.length c:=by
 obtain ⟨ao,c,e,-⟩:=h
 exact ⟨ao,c,e⟩
theorem same_true (s : Sta) (v1 v2 : Value) (hpn : s.P.length ≤ 9223372036854775807) (hqn : s.Q.length ≤ 9223372036854775807) (hln : ∀ l ∈ s.Q,l.length ≤ 9223372036854775807) (w : World) (h1 : StI w v1 s) (h2 : StI w v2 s) :
  Calls Try.prog 13 #[v1,v2] w fun e w' => e = .returned (.bool true) ∧ Kept w w':=by
 obtain ⟨pv1,qv1,rfl,hP1,hQ1⟩:=h1
 obtain ⟨pv2,qv2,rfl,hP2,hQ2⟩:=h2
 have HP : Hid (∀ u,Kept w u → Calls Try.prog 30 #[pv1,pv2] u fun e w' => e = .returned (.bool true) ∧ Kept u w'):=fun u ku => sameList_true s.P pv1 pv2 hpn u (hP1.kept ku) (hP2.kept ku)
 obtain ⟨pa1,pc1,rfl⟩:=hP1.len
 obtain ⟨pa2,pc2,rfl⟩:=hP2.len
 obtain ⟨a1,p1,rfl,hq1,hr1⟩:=hQ1
 obtain ⟨a2,p2,rfl,hq2,hr2⟩:=hQ2
 have HR : Hid (∀ (i : Nat) (l : List Mat),s.Q[i]? = some l → ∃ B1 o1 b1 c1 B2 o2 b2 c2,a1 = some ⟨B1,o1,none⟩ ∧ a2 = some ⟨B2,o2,none⟩ ∧ ∀ u,Kept w u → u.cell? ⟨B1,o1 + i,none⟩ = some (.slice b1 l.length c1) ∧ u.cell? ⟨B2,o2 + i,none⟩ = some (.slice b2 l.length c2) ∧ Calls Try.prog 30 #[.slice b1 l.length c1,.slice b2 l.length c2] u fun e w' => e = .returned (.bool true) ∧ Kept u w'):=fun i l hi => by
  have hne : s.Q ≠ []:=by intro e; rw [e] at hi; simp at hi
  obtain ⟨B1,o1,e1,h1⟩:=hr1 hne
  obtain ⟨B2,o2,e2,h2⟩:=hr2 hne
  obtain ⟨lv1,g1,m1⟩:=h1 i l hi
  obtain ⟨lv2,g2,m2⟩:=h2 i l hi
  have hs:=fun u (ku : Kept w u) => sameList_true l lv1 lv2 (hln l (List.mem_of_getElem? hi)) u (m1.kept ku) (m2.kept ku)
  obtain ⟨b1,c1,rfl⟩:=m1.len
  obtain ⟨b2,c2,rfl⟩:=m2.len
  exact ⟨B1,o1,b1,c1,B2,o2,b2,c2,e1,e2,fun u ku => ⟨(ku.below.cell (p:=⟨B1,o1 + i,none⟩) (World.block_lt_of_cell? _ _ g1)).trans g1,(ku.below.cell (p:=⟨B2,o2 + i,none⟩) (World.block_lt_of_cell? _ _ g2)).trans g2,hs u ku⟩⟩
 clear hP1 hP2 hr1 hr2 hln hpn
 obtain ⟨N,hN⟩ : ∃ N,s.Q.length = N:=⟨_,rfl⟩
 rw [hN] at hq1 hq2 hqn ⊢
 have HN:=hid hN
 have HQ:=hid (show N ≤ p1 ∧ N ≤ p2 ∧ N ≤ 9223372036854775807 from ⟨hq1,hq2,hqn⟩)
 obtain ⟨sa,sb,sd,P,Q,lo,ra⟩:=s
 dsimp only at *
 clear hN hq1 hq2 hqn
 obtain ⟨pl,hpl⟩ : ∃ pl,P.length = pl:=⟨_,rfl⟩
 rw [hpl] at HP ⊢
 clear hpl
 obtain ⟨M,hM⟩ : ∃ M,w.heap.size = M:=⟨_,rfl⟩
 obtain ⟨W0,hW0⟩ : ∃ W0,(w.alloc (.cells #[.int .i64 sa,.int .i64 sb,.int .i64 sd,.slice pa1 pl pc1,.slice a1 N p1,.int .i64 lo,.int .i64 ra] 35)).alloc (.cells #[.int .i64 sa,.int .i64 sb,.int .i64 sd,.slice pa2 pl pc2,.slice a2 N p2,.int .i64 lo,.int .i64 ra] 35) = W0:=⟨_,rfl⟩
 have k0 : Kept w W0:=by rw [← hW0]; exact ((Kept.refl w).alloc _ _).alloc _ _
 have b1 : Bk W0 M [.int .i64 sa,.int .i64 sb,.int .i64 sd,.slice pa1 pl pc1,.slice a1 N p1,.int .i64 lo,.int .i64 ra]:=by rw [← hW0,← hM]; exact (Bk.new w [.int .i64 sa,.int .i64 sb,.int .i64 sd,.slice pa1 pl pc1,.slice a1 N p1,.int .i64 lo,.int .i64 ra] 35).kept ((Kept.refl _).alloc _ _)
 have b2 : Bk W0 (M + 1) [.int .i64 sa,.int .i64 sb,.int .i64 sd,.slice pa2 pl pc2,.slice a2 N p2,.int .i64 lo,.int .i64 ra]:=by
  have:=Bk.new (w.alloc (.cells #[.int .i64 sa,.int .i64 sb,.int .i64 sd,.slice pa1 pl pc1,.slice a1 N p1,.int .i64 lo,.int .i64 ra] 35)) [.int .i64 sa,.int .i64 sb,.int .i64 sd,.slice pa2 pl pc2,.slice a2 N p2,.int .i64 lo,.int .i64 ra] 35
  rw [show (w.alloc (.cells #[.int .i64 sa,.int .i64 sb,.int .i64 sd,.slice pa1 pl pc1,.slice a1 N p1,.int .i64 lo,.int .i64 ra] 35)).heap.size = M + 1 by rw [← hM]; simp] at this
  rw [← hW0]
  exact this
 have HB1:=hid (show ∀ u,Kept W0 u → Bk u M [.int .i64 sa,.int .i64 sb,.int .i64 sd,.slice pa1 pl pc1,.slice a1 N p1,.int .i64 lo,.int .i64 ra] from fun u ku => b1.kept ku)
 have HB2:=hid (show ∀ u,Kept W0 u → Bk u (M + 1) [.int .i64 sa,.int .i64 sb,.int .i64 sd,.slice pa2 pl pc2,.slice a2 N p2,.int .i64 lo,.int .i64 ra] from fun u ku => b2.kept ku)
 have x0:=b1.c 0 _ rfl
 have y0:=b2.c 0 _ rfl
 have x1:=b1.c 1 _ rfl
 have y1:=b2.c 1 _ rfl
 have x2:=b1.c 2 _ rfl
 have y2:=b2.c 2 _ rfl
 have x3:=b1.c 3 _ rfl
 have y3:=b2.c 3 _ rfl
 have x4:=b1.c 4 _ rfl
 have y4:=b2.c 4 _ rfl
 have x5:=b1.c 5 _ rfl
 have y5:=b2.c 5 _ rfl
 have x6:=b1.c 6 _ rfl
 have y6:=b2.c 6 _ rfl
 have HK0:=hid k0
 have HP0:=hid (HP.out W0 k0)
 clear k0 b1 b2 HP
 go_enter Try.func13,Try.ntmps13
 go_wp2_with fail
 go_at_call 30
 refine HP0.out.mono ?_
 rintro e w1 ⟨rfl,k1⟩
 clear x0 x1 x2 x3 x4 x5 x6 y0 y1 y2 y3 y4 y5 y6 hW0 hM HP0
 have x4:=(HB1.out w1 k1).c 4 _ rfl
 have y4:=(HB2.out w1 k1).c 4 _ rfl
 have K1:=hid k1
 clear k1
 go_wp2_with fail
 go_loopw [5] (fun jv wr => ∃ j : Nat,j ≤ N ∧ jv = .int .i64 (j : Int) ∧ Kept W0 wr) (fun jv _ => N - (intOf jv).toNat)
 case atStart => exact ⟨0,Nat.zero_le _,rfl,K1.out⟩
 case round =>
  clear x4 y4
  obtain ⟨j,hj,rfl,kr⟩:=hrel
  have x4:=(HB1.out wr kr).c 4 _ rfl
  have y4:=(HB2.out wr kr).c 4 _ rfl
  by_cases hjn : j < N
  ·obtain ⟨l,hl⟩ : ∃ l,Q[j]? = some l:=⟨_,List.getElem?_eq_getElem (by rw [HN.out]; exact hjn)⟩
   obtain ⟨B1,o1,b1,c1,B2,o2,b2,c2,rfl,rfl,hmc⟩:=HR.out j l hl
   obtain ⟨g1,g2,-⟩:=hmc wr (HK0.out.trans kr)
   have K:=hid (hmc wr.drew (HK0.out.trans (kr.trans (Kept.refl wr).drew))).2.2
   have hb1 : (0 : Int) ≤ (j : Int) ∧ (j : Int) < (N : Int):=by omega
   have hb2 : (j : Int) < (N : Int):=by omega
   have z3 : IntKind.i64.wrap ((j : Int) + 1) = (j : Int) + 1:=by have:=HQ.out; rw [wrap_i64]; omega
   have hkr:=hid kr
   have hj2:=hid hjn
   obtain ⟨q,hq⟩ : ∃ q,l.length = q:=⟨_,rfl⟩
   rw [hq] at g1 g2 K
   clear hmc kr hj hjn HR hl hq
   go_wp2_with fail
   refine wp_region_held_drew (S:=fun u => u.cell? ⟨M,4,none⟩ = some (.slice (some ⟨B1,o1,none⟩) N p1) ∧ u.cell? ⟨M + 1,4,none⟩ = some (.slice (some ⟨B2,o2,none⟩) N p2) ∧ u.cell? ⟨B1,o1 + j,none⟩ = some (.slice b1 q c1) ∧ u.cell? ⟨B2,o2 + j,none⟩ = some (.slice b2 q c2)) (by kernel_rfl) (⟨x4,y4,g1,g2⟩) (fun hHeld => ?_)
   refine tk (i:=0) (v:=?_) rfl ?_
   simp only [Act.put,zA,zB,zC,zD,zE,zF]
   refine tk (i:=1) (v:=?_) rfl ?_
   simp only [Act.put,zA,zB,zC,zD,zE,zF]
   refine tk (i:=2) (v:=?_) rfl ?_
   simp only [Act.put,zA,zB,zC,zD,zE,zF]
   refine tk (i:=3) (v:=?_) rfl ?_
   simp only [Act.put,zA,zB,zC,zD,zE,zF]
   refine tk (i:=4) (v:=?_) rfl ?_
   simp only [Act.put,zA,zB,zC,zD,zE,zF]
   refine tk (i:=5) (v:=?_) rfl ?_
   simp only [Act.put,zA,zB,zC,zD,zE,zF]
   refine tk (i:=6) (v:=?_) rfl ?_
   simp only [Act.put,zA,zB,zC,zD,zE,zF]
   refine tk (i:=7) (v:=?_) rfl ?_
   simp only [Act.put,zA,zB,zC,zD,zE,zF]
   refine tk (i:=8) (v:=?_) rfl ?_
   simp only [Act.put,zA,zB,zC,zD,zE,zF]
   refine tk (i:=9) (v:=?_) rfl ?_
   simp only [Act.put,zA,zB,zC,zD,zE,zF]
   refine wpAnyH_ready (rs:=[10]) (by kernel_rfl) (by simp) ?_
   refine AllReadyH.cons rfl (fun K9 hK9 => ?_) AllReadyH.nil
   go_simp
   go_wp2_with fail
   refine K.out.mono ?_
   rintro e u1 ⟨rfl,k1⟩
   have kk : Kept wr u1:=((Kept.refl wr).drew).trans k1
   refine hK9.out _ _ ⟨(kk.below.cell (p:=⟨M,4,none⟩) (World.block_lt_of_cell? _ _ x4)).trans x4,(kk.below.cell (p:=⟨M + 1,4,none⟩) (World.block_lt_of_cell? _ _ y4)).trans y4,(kk.below.cell (p:=⟨B1,o1 + j,none⟩) (World.block_lt_of_cell? _ _ g1)).trans g1,(kk.below.cell (p:=⟨B2,o2 + j,none⟩) (World.block_lt_of_cell? _ _ g2)).trans g2⟩ (fun hHeld1 => ?_)
   clear hK9 K9
   refine tk (i:=11) (v:=?_) rfl ?_
   simp only [Act.put,zA,zB,zC,zD,zE,zF]
   refine wpAnyH_done (by kernel_rfl) ?_ _
   have kk2:=hid kk
   clear hHeld hHeld1 kk k1 x4 y4 g1 g2
   go_wp2_with fail
   go_roundw
   case rel => exact ⟨j + 1,by have:=hj2.out; omega,by go_num,hkr.out.trans kk2.out⟩
   case measure => have:=hj2.out; simp [intOf]; omega
  ·obtain rfl : j = N:=by omega
   have hge : ¬ ((j : Int) < (j : Int)):=by omega
   have hkr:=hid kr
   clear kr
   go_wp2_with fail
   go_ret
   exact ⟨rfl,HK0.out.trans hkr.out⟩
end Go.Proofs.Ytocjfdiimapojaa
