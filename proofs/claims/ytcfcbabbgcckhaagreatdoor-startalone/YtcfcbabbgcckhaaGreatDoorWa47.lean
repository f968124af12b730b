/- Package start: what makes the elements goes well,kind by kind. Package start: Make of any Init. -/
import Derived.Test.YtcfcbabbgcckhaaGreatDoorWa46
namespace Go.Proofs.YtcfcbabbgcckhaaGreatDoor
open Go.ChangeShapes Go.WideShapes Go.ChangeAt Go.RowKit
set_option maxHeartbeats 16000000
set_option maxRecDepth 100000
set_option linter.unusedVariables false
set_option linter.unusedSimpArgs false
theorem elok3 (kd rows cols wd va vb s t : Int) (ha : -9223372036854775808 ≤ va ∧ va ≤ 9223372036854775807) (ca : cls va 64 < 3) (hb : -9223372036854775808 ≤ vb ∧ vb ≤ 9223372036854775807) (cb : cls vb 64 < 3) (N : Nat) (hN : N ≤ 4096) (w : World) (hT : Tab w) (hk : kd = 5) : Calls Tryz.prog 30 #[.agg #[.int .i64 kd,.int .i64 rows,.int .i64 cols,.int .i64 wd,.int .i64 va,.int .i64 vb],.agg #[.int .i64 s,.int .i64 t,.int .i64 0]] w fun e w' => ∃ v,e = .returned v ∧ ElOK (fun i => nz (-1127) (zf va 64 * (sup s t (12 * (i : Int)) 12 - 54043195528445952))) N w w' v ∧ Kept w w':=by
 obtain ⟨za,la⟩:=zf_vz va 64 (.inl rfl) ca
 obtain ⟨E,hE⟩ : ∃ E : Nat,E = 2200:=⟨_,rfl⟩
 have la:=la E hE
 refine (els3 kd rows cols wd va vb s t _ _ hk w (ofKO va vb ha ca hb cb w hT)).mono ?_
 rintro e w' ⟨D,U,A1,n1,a1,l1,c1,x1,rfl,h⟩
 have hD0 : 2 ∉ [D]:=by have h1:=hT.1; have h2:=h.oD; simp; omega
 refine ⟨_,rfl,⟨96,_,D,fun i u => Dw u D s t (12 * (i : Int)) ∧ u.cell? ⟨U,0,none⟩ = some (ufn D) ∧ N3 u A1 (.bool n1) (.slice a1 l1 c1) (.int .i64 x1) ∧ NumUp D u (.agg #[.bool n1,.slice a1 l1 c1,.int .i64 x1]) (ofN va 64),rfl,fun w => rfl,h.oD,h.dw.1.lt,⟨by simpa using h.dw,h.fn,h.bx,h.up⟩,fun i x hi hTx hJ => ?_,fun i x y hJ k => ⟨hJ.1.kept k,(k.below.cell (p:=⟨U,0,none⟩) (cell_ltU hJ.2.1)).trans hJ.2.1,hJ.2.2.1.kept k,hJ.2.2.2.kept k⟩,fun g hg i x o z hJ => ⟨hJ.1.far ⟨g,o,none⟩ (by have:=h.oD; simp; omega) z,cell_far x U g o 0 _ z hJ.2.1 (by have:=h.oU; omega),hJ.2.2.1.far g o (by have:=h.oA; omega) z,hJ.2.2.2.setLow g o (by have:=h.oD; omega) z⟩⟩,h.k⟩
 obtain ⟨j1,j2,j3,j4⟩:=hJ
 have hr:=sup_rng s t (12 * (i : Int)) 12
 obtain ⟨p,hp⟩ : ∃ p,p = sup s t (12 * (i : Int)) 12 - 54043195528445952:=⟨_,rfl⟩
 have hl : p.natAbs < 2 ^ 62:=by omega
 dsimp only
 rw [← hp]
 refine (elem3_walk A1 U D n1 a1 l1 c1 x1 s t (12 * (i : Int)) (12 * ((i + 1 : Nat) : Int)) p (nz (-1127) (zf va 64 * p)) x j3 j2 j1 h.nA h.nU (fun u hu => ?_) (fun u hG => ?_)).mono ?_
 ·have:=normal_any s t (12 * (i : Int)) (by omega) (by omega) D u hu
  rw [show 12 * (i : Int) + 12 = 12 * ((i + 1 : Nat) : Int) by omega,← hp] at this
  exact this
 ·exact timesN _ _ za E la (by omega) p hl _ u (hTx.gs hG hD0) (j4.gs hG (by simp)).numAt
 ·rintro e w'' ⟨v,rfl,hN2,hd,hG⟩
  exact ⟨v,rfl,hN2.numAt,⟨hd,(hG.cell U 0 (cell_ltU j2) (by simpa using h.nU)).trans j2,j3.gs hG (by simpa using h.nA),j4.gs hG (by simp)⟩,hG⟩
end Go.Proofs.YtcfcbabbgcckhaaGreatDoor

namespace Go.Proofs.YtcfcbabbgcckhaaGreatDoor
open Go.ChangeShapes Go.WideShapes Go.ChangeAt Go.RowKit
set_option maxHeartbeats 16000000
set_option maxRecDepth 100000
set_option linter.unusedVariables false
set_option linter.unusedSimpArgs false
theorem nz_vld (s Z : Int) : vld (nz s Z) = true:=by
 unfold nz
 cases h : cfm Z s with
 | none => rfl
 | some x => exact (frm_vld _ _ _ _ h).1
/-- what Make tells: a matrix with elements of its own,or none -/
def MkA (q rows cols wd : Int) (N : Nat) (L : List Int) (w : World) (e : Ending) (w' : World) : Prop:=Kept w w' ∧ ((q = 0 ∧ ∃ g,e = .returned (.tuple #[.agg #[.int .i64 rows,.int .i64 cols,.int .i64 wd,.slice (some ⟨g,0,none⟩) N N],.int .i64 0]) ∧ w.heap.size ≤ g ∧ Own w' g N L) ∨ ((q == 0) = false ∧ e = .returned (.tuple #[zeroM,.int .i64 q])))
/-- the elements,rounded -/
def btN (wd : Int) (nu : Nat → Nm) (i : Nat) : Int:=rzN wd 0 (nu i)
/-- the fault -/
def feN (wd : Int) (nu : Nat → Nm) (N : Nat) : Int:=if fine (fun i => cls (btN wd nu i) wd) N = N then 0 else 31
abbrev initV (kd rows cols wd va vb : Int) : Value:=.agg #[.int .i64 kd,.int .i64 rows,.int .i64 cols,.int .i64 wd,.int .i64 va,.int .i64 vb]
theorem make_el (nu : Nat → Nm) (hnu : ∀ i,vld (nu i) = true) (kd rows cols wd va vb s t : Int) (N : Nat) (hk : 0 ≤ kd ∧ kd ≤ 5) (hwd : wd = 64 ∨ wd = 32) (hN : N ≤ 4096) (hN1 : 1 ≤ N)
  (KZ : ∀ u,Calls Tryz.prog 27 #[.int .i64 rows,.int .i64 cols,.int .i64 wd] u fun e w' => ∃ g,e = .returned (.tuple #[.agg #[.int .i64 rows,.int .i64 cols,.int .i64 wd,.slice (some ⟨g,0,none⟩) N N],.int .i64 0]) ∧ u.heap.size ≤ g ∧ Own w' g N (List.replicate N 0) ∧ Kept u w')
  (KN : ∀ u,Calls Tryz.prog 28 #[initV kd rows cols wd va vb] u fun e w' => e = .returned (.int .i64 0) ∧ Kept u w')
  (KE : ∀ u,Tab u → Calls Tryz.prog 30 #[initV kd rows cols wd va vb,.agg #[.int .i64 s,.int .i64 t,.int .i64 0]] u fun e w' => ∃ v,e = .returned v ∧ ElOK nu N u w' v ∧ Kept u w') :
  ∀ w,Tab w → Calls Tryz.prog 11 #[initV kd rows cols wd va vb,.int .i64 s,.int .i64 t] w fun e w' => MkA (feN wd nu N) rows cols wd N (stl N (btN wd nu) N) w e w':=fun w hT => by
 obtain ⟨fe,hfe⟩ : ∃ fe : Int,fe = feN wd nu N:=⟨_,rfl⟩
 have hf2 : fe = 0 ∨ fe = 31:=by rw [hfe]; unfold feN; split <;> simp
 rw [← hfe]
 unfold feN at hfe
 refine (make_elems kd rows cols wd va vb s t N fe (stl N (btN wd nu) N) (ElOK nu N) hk w KZ KN (fun u k => KE u (hT.kept k)) (fun u0 u v g k ku he ho => fill_any nu hnu rows cols wd hwd N hN hN1 (btN wd nu) (fun i => cls (btN wd nu i) wd) (fun i => rfl) (fun i => rfl) fe hfe u0 u v g (hT.kept k) ku he ho) hf2).mono ?_
 rintro e w' (⟨h0,g,he,hg,ho,k⟩ | ⟨h0,he,k⟩)
 ·exact ⟨k,.inl ⟨h0,g,he,hg,ho⟩⟩
 ·exact ⟨k,.inr ⟨by rw [h0]; rfl,by rw [h0]; exact he⟩⟩
theorem cls_top (b n : Int) : cls b n ≤ 4:=by
 unfold cls clsOf
 repeat' split
 all_goals decide
theorem ckn_ok {b : Int} {u : Bool} (h : ckn b u = 0) : cls b 64 < 3:=by
 unfold ckn at h
 have:=cls_top b 64
 split at h
 ·exact absurd h (by decide)
 ·split at h
  ·exact absurd h (by decide)
  ·split at h
   ·exact absurd h (by decide)
   ·omega
theorem make_any (kd rows cols wd va vb s t : Int) (ha : -9223372036854775808 ≤ va ∧ va ≤ 9223372036854775807) (hb : -9223372036854775808 ≤ vb ∧ vb ≤ 9223372036854775807) :
  ∃ (q : Int) (N : Nat) (L : List Int),L.length = N ∧ N ≤ 4096 ∧ ∀ w,Tab w → Calls Tryz.prog 11 #[initV kd rows cols wd va vb,.int .i64 s,.int .i64 t] w fun e w' => MkA q rows cols wd N L w e w':=by
 by_cases hk : kd < 0 ∨ 5 < kd
 ·exact ⟨42,0,[],rfl,by decide,fun w hT => (make_kind kd rows cols wd va vb s t hk w).mono fun e w' h => ⟨h.2,.inr ⟨rfl,h.1⟩⟩⟩
 have hk : 0 ≤ kd ∧ kd ≤ 5:=by omega
 by_cases hz : ckS rows cols wd = 0
 ·obtain ⟨hwd,hr,hc,hrc⟩:=ckS_ok hz
  obtain ⟨N,hN⟩ : ∃ N : Nat,N = (rows * cols).toNat:=⟨_,rfl⟩
  have h1 : 0 < rows * cols:=Int.mul_pos (by omega) (by omega)
  have hNi : (N : Int) = rows * cols:=by omega
  have hN1 : 1 ≤ N:=by omega
  have hN4 : N ≤ 4096:=by omega
  have hw : IntKind.i64.wrap (rows * cols) = (N : Int):=by rw [wrap_i64]; omega
  have KZ:=fun u => zero_yes rows cols wd hwd hz N hw hN4 u
  have KN:=fun u => checkNumbers_any kd rows cols wd va vb (by omega) ha hb u
  by_cases hn : cks kd va vb = 0
  ·rw [hn] at KN
   have ca : cls va 64 < 3:=by
    unfold cks at hn
    split at hn
    ·rename_i h; exact absurd hn h
    ·rename_i h; exact ckn_ok (by simpa using h)
   have cb : cls vb 64 < 3:=by
    unfold cks at hn
    split at hn
    ·rename_i h; exact absurd hn h
    ·split at hn
     ·rename_i h; exact absurd hn h
     ·rename_i h; exact ckn_ok (by simpa using h)
   have fin : ∀ nu : Nat → Nm,(∀ i,vld (nu i) = true) → (∀ u,Tab u → Calls Tryz.prog 30 #[initV kd rows cols wd va vb,.agg #[.int .i64 s,.int .i64 t,.int .i64 0]] u fun e w' => ∃ v,e = .returned v ∧ ElOK nu N u w' v ∧ Kept u w') → ∃ (q : Int) (N : Nat) (L : List Int),L.length = N ∧ N ≤ 4096 ∧ ∀ w,Tab w → Calls Tryz.prog 11 #[initV kd rows cols wd va vb,.int .i64 s,.int .i64 t] w fun e w' => MkA q rows cols wd N L w e w':=fun nu hnu KE => by
    exact ⟨_,N,_,stl_len N _ N,hN4,make_el nu hnu kd rows cols wd va vb s t N hk hwd hN4 hN1 KZ KN KE⟩
   have rc : rows + cols ≤ 4097:=by
    have : 0 ≤ (rows - 1) * (cols - 1):=Int.mul_nonneg (by omega) (by omega)
    rw [Int.sub_mul,Int.mul_sub] at this
    omega
   have root : ∀ fan : Int,1 ≤ fan → fan ≤ 4097 → (kd = 3 ∧ IntKind.i64.wrap (rows + cols) = fan ∨ kd = 4 ∧ rows = fan) → ∃ (q : Int) (N : Nat) (L : List Int),L.length = N ∧ N ≤ 4096 ∧ ∀ w,Tab w → Calls Tryz.prog 11 #[initV kd rows cols wd va vb,.int .i64 s,.int .i64 t] w fun e w' => MkA q rows cols wd N L w e w':=fun fan f1 f2 hf => by
    have hfan : ((fan.toNat : Nat) : Int) = fan:=by omega
    rcases hwd with rfl | rfl
    ·obtain ⟨L,l1,l2,-,-,KR⟩:=root6_64 fan.toNat (by omega) (by omega)
     rw [hfan] at KR
     exact fin _ (fun i => nz_vld _ _) (fun u hT => elok2 kd rows cols 64 va vb s t ha ca hb cb N hN4 u hT fan L hf (.inl rfl) (by omega) (cls_pos64 L l2).1 KR)
    ·obtain ⟨L,l1,l2,-,-,KR⟩:=root6_32 fan.toNat (by omega) (by omega)
     rw [hfan] at KR
     exact fin _ (fun i => nz_vld _ _) (fun u hT => elok2 kd rows cols 32 va vb s t ha ca hb cb N hN4 u hT fan L hf (.inr rfl) (by omega) (cls_pos32 L l2).1 KR)
   have hc6 : (kd = 0 ∨ kd = 1) ∨ kd = 2 ∨ kd = 3 ∨ kd = 4 ∨ kd = 5:=by omega
   rcases hc6 with h | h | h | h | h
   ·exact fin _ (fun i => (zf_vz va 64 (.inl rfl) ca).1.ok) (fun u hT => elok4 kd rows cols wd va vb s t ha ca hb cb N hN4 u hT h)
   ·exact fin _ (fun i => nz_vld _ _) (fun u hT => elok1 kd rows cols wd va vb s t ha ca hb cb N hN4 u hT h)
   ·exact root (rows + cols) (by omega) rc (.inl ⟨h,by rw [wrap_i64]; omega⟩)
   ·have : rows ≤ 4097:=by omega
    exact root rows hr this (.inr ⟨h,rfl⟩)
   ·exact fin _ (fun i => nz_vld _ _) (fun u hT => elok3 kd rows cols wd va vb s t ha ca hb cb N hN4 u hT h)
  ·have hq : (cks kd va vb != 0) = true:=by simpa using hn
   have hq2 : (cks kd va vb == 0) = false:=by simpa using hn
   exact ⟨cks kd va vb,0,[],rfl,by decide,fun w hT => (make_num kd rows cols wd va vb s t _ N hk hq hq2 w KZ KN).mono fun e w' h => ⟨h.2,.inr ⟨hq2,h.1⟩⟩⟩
 ·have hq : (ckS rows cols wd != 0) = true:=by simpa using hz
  have hq2 : (ckS rows cols wd == 0) = false:=by simpa using hz
  exact ⟨ckS rows cols wd,0,[],rfl,by decide,fun w hT => (make_zero kd rows cols wd va vb s t _ hk hq hq2 w (fun u => zero_no rows cols wd _ rfl hq u)).mono fun e w' h => ⟨h.2,.inr ⟨hq2,h.1⟩⟩⟩
end Go.Proofs.YtcfcbabbgcckhaaGreatDoor
