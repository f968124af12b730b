/- Package rate: each kind tells one answer,whatever the world. -/
import Derived.Test.YtnniljhdcplkgaaGreatDoorWr44
import Derived.Test.YtnniljhdcplkgaaGreatDoorWr47
import Derived.Test.YtnniljhdcplkgaaGreatDoorWr48
import Derived.Test.YtnniljhdcplkgaaGreatDoorWr49
namespace Go.Proofs.YtnniljhdcplkgaaGreatDoor
open Go.ChangeShapes Go.WideShapes Go.ChangeAt Go.RowKit
set_option maxHeartbeats 16000000
set_option maxRecDepth 100000
set_option linter.unusedVariables false
set_option linter.unusedSimpArgs false
theorem of_det (b : Int) (h1 : -9223372036854775808 ≤ b) (h2 : b ≤ 9223372036854775807) (hc : cls b 64 < 3) : ∃ x : Nm,vld x = true ∧ ∀ u,Tab u → Calls Tryz.prog 42 #[.int .i64 b,.int .i64 64] u fun e w' => ∃ v,e = .returned v ∧ New u w' v x ∧ Kept u w' :=
 ⟨ofN b 64,(zf_vz b 64 (.inl rfl) hc).1.ok,fun u hT => sof_any b 64 h1 h2 (.inl rfl) hc u hT⟩
theorem int_det (p : Int) (h0 : 0 ≤ p) (h : p < 1152921504606846976) : ∃ y : Nm,vld y = true ∧ (0 < p → y.mag ≠ [] ∧ y.neg = false) ∧ ∀ u,Tab u → Calls Tryz.prog 23 #[.int .i64 p] u fun e w' => ∃ v,e = .returned v ∧ New u w' v y ∧ Kept u w':=by
 by_cases hp : p = 0
 ·subst hp
  exact ⟨zN,zN_vld,fun h => by omega,fun u hT => sint_any 0 (by decide) (by decide) zN (by rw [cfm_zero]) u hT⟩
 ·obtain ⟨y,e,hv,hn,hm,-,-,-⟩:=int_bits p.toNat (by omega) (by have hh : (2 : Nat) ^ 60 = 1152921504606846976 := (by decide); omega)
  rw [show ((p.toNat : Nat) : Int) = p by omega] at e
  exact ⟨y,hv,fun _ => ⟨hm,hn⟩,fun u hT => sint_any p (by omega) (by omega) y e u hT⟩
theorem frm_neg {v : Nat} {x : Int} {r : Nm} (h : frm false v x = some r) : r.neg = false:=by
 unfold frm at h
 split at h
 ·cases h; rfl
 ·split at h
  ·cases h; rfl
  ·cases h
theorem mulT_neg (x y : Nm) (h : x.neg = y.neg) : (mulT x y).neg = false:=by
 unfold mulT
 cases hm : mulN x y with
 | none => rfl
 | some r =>
  unfold mulN at hm
  split at hm
  ·rw [h,show (y.neg != y.neg) = false by cases y.neg <;> rfl] at hm
   exact frm_neg hm
  ·cases hm
theorem share_det (b : Int) (h1 : -9223372036854775808 ≤ b) (h2 : b ≤ 9223372036854775807) (hc : cls b 64 < 3) (x y : Nm) (hx : vld x = true) (hy : vld y = true) (hy0 : y.mag ≠ []) : ∃ s : Int,∀ u v1 v2,Tab u → NumAt u v1 x → NumAt u v2 y → Calls Tryz.prog 22 #[.int .i64 b,v1,v2] u fun e w' => e = .returned (.int .i64 s) ∧ Kept u w':=by
 obtain ⟨xb,vb,hb⟩:=of_det b h1 h2 hc
 obtain ⟨s,hs⟩:=squotT (mulT xb x) y (mulT_vld _ _) hy hy0
 refine ⟨s,fun u v1 v2 hT n1 n2 => ?_⟩
 obtain ⟨a1,c1,rfl,s1⟩:=n1.form
 obtain ⟨a2,c2,rfl,s2⟩:=n2.form
 exact share_walk b _ _ _ _ _ _ _ _ _ _ xb (mulT xb x) s u (fun u2 k => hb u2 (hT.kept k)) (fun u2 v k nv => smulT xb x vb hx _ _ u2 (hT.kept k) nv ⟨_,rfl,s1.kept k⟩) (fun u2 v k nv => hs _ _ u2 (hT.kept k) nv ⟨_,rfl,s2.kept k⟩)
theorem raised_det (x : Nm) (hx : vld x = true) (t : Int) (h0 : 0 ≤ t) (h1 : t < 1000000) : ∃ z : Nm,vld z = true ∧ ((0 < t → True) → True) ∧ ∀ u v,Tab u → NumAt u v x → Calls Tryz.prog 91 #[v,.int .i64 t] u fun e w' => ∃ v,e = .returned v ∧ New u w' v z ∧ Kept u w':=by
 obtain ⟨one,v1,-,hone⟩:=int_det 1 (by decide) (by decide)
 refine ⟨rz one x t.toNat (bl t.toNat) (bl t.toNat),rz_vld one x v1 _ _ _,fun _ => trivial,fun u v hT nv => ?_⟩
 obtain ⟨a1,c1,rfl,s1⟩:=nv.form
 have:=raised_walk x.neg a1 x.mag.length c1 x.exp t.toNat (bl t.toNat) (by omega) rfl one x v1 u (fun u2 k => hone u2 (hT.kept k)) (fun u2 v p k np vp => smulT p p vp vp _ _ u2 (hT.kept k) np np) (fun u2 v p k np vp => smulT p x vp hx _ _ u2 (hT.kept k) np ⟨_,rfl,s1.kept k⟩)
 rw [show ((t.toNat : Nat) : Int) = t by omega] at this
 exact this
theorem constant_det (kd ba fa wa ev tt : Int) (hb1 : -9223372036854775808 ≤ ba) (hb2 : ba ≤ 9223372036854775807) (hbc : cls ba 64 < 3) (hf1 : -9223372036854775808 ≤ fa) (hf2 : fa ≤ 9223372036854775807) (hfc : cls fa 64 < 3) (k : Int) : ∃ s : Int,∀ u,Tab u → Calls Tryz.prog 61 #[.agg #[.int .i64 kd,.int .i64 ba,.int .i64 fa,.int .i64 wa,.int .i64 ev,.int .i64 tt],.int .i64 k] u fun e w' => e = .returned (.int .i64 s) ∧ Kept u w':=by
 obtain ⟨x,vx,hx⟩:=of_det ba hb1 hb2 hbc
 exact ⟨rzN 64 0 x,fun u hT => constant_walk kd ba fa wa ev tt k x _ u (fun u2 k => hx u2 (hT.kept k)) (fun u2 v k nv => sround_any 64 (.inl rfl) x vx v u2 (hT.kept k) nv)⟩
theorem steps_det (kd ba fa wa ev tt : Int) (hb1 : -9223372036854775808 ≤ ba) (hb2 : ba ≤ 9223372036854775807) (hbc : cls ba 64 < 3) (hf1 : -9223372036854775808 ≤ fa) (hf2 : fa ≤ 9223372036854775807) (hfc : cls fa 64 < 3) (k : Int) (hk0 : 0 ≤ k) (hk1 : k ≤ 1099511627776) (he : 0 < ev) (he2 : ev ≤ 1099511627776) : ∃ s : Int,∀ u,Tab u → Calls Tryz.prog 62 #[.agg #[.int .i64 kd,.int .i64 ba,.int .i64 fa,.int .i64 wa,.int .i64 ev,.int .i64 tt],.int .i64 k] u fun e w' => e = .returned (.int .i64 s) ∧ Kept u w':=by
 obtain ⟨x1,v1,h1⟩:=of_det fa hf1 hf2 hfc
 obtain ⟨x2,v2,h2⟩:=of_det ba hb1 hb2 hbc
 have hq : 0 ≤ k.tdiv ev:=Int.tdiv_nonneg hk0 (by omega)
 have hq2 : k.tdiv ev ≤ k:=by rw [Int.tdiv_eq_ediv_of_nonneg hk0]; exact Int.ediv_le_self _ hk0
 have hw : IntKind.i64.wrap (k.tdiv ev) = k.tdiv ev:=by rw [wrap_i64]; omega
 obtain ⟨y,vy,-,hy⟩:=raised_det x1 v1 (min (k.tdiv ev) 900) (by omega) (by omega)
 exact ⟨rzN 64 0 (mulT x2 y),fun u hT => steps_walk kd ba fa wa ev tt k _ _ (by omega) (by simp; omega) hw rfl x1 x2 y (mulT x2 y) _ u (fun u2 k => h1 u2 (hT.kept k)) (fun u2 k => h2 u2 (hT.kept k)) (fun u2 v k nv => hy u2 v (hT.kept k) nv) (fun u2 v v' k nv nv' => smulT x2 y v2 vy _ _ u2 (hT.kept k) nv nv') (fun u2 v k nv => sround_any 64 (.inl rfl) _ (mulT_vld _ _) v u2 (hT.kept k) nv)⟩
theorem rroot_det (kd ba fa wa ev tt : Int) (hb1 : -9223372036854775808 ≤ ba) (hb2 : ba ≤ 9223372036854775807) (hbc : cls ba 64 < 3) (hf1 : -9223372036854775808 ≤ fa) (hf2 : fa ≤ 9223372036854775807) (hfc : cls fa 64 < 3) (k : Int) (hk0 : 0 ≤ k) (hk1 : k ≤ 1099511627776) (he : 0 < ev) (he2 : ev ≤ 1099511627776) : ∃ s : Int,∀ u,Tab u → Calls Tryz.prog 64 #[.agg #[.int .i64 kd,.int .i64 ba,.int .i64 fa,.int .i64 wa,.int .i64 ev,.int .i64 tt],.int .i64 k] u fun e w' => e = .returned (.int .i64 s) ∧ Kept u w':=by
 obtain ⟨x,vx,hx⟩:=of_det ba hb1 hb2 hbc
 obtain ⟨z1,vz1,g1,hz1⟩:=int_det ev (by omega) (by omega)
 obtain ⟨z2,vz2,g2,hz2⟩:=int_det (ev + k) (by omega) (by omega)
 have hw : IntKind.i64.wrap (ev + k) = ev + k:=by rw [wrap_i64]; omega
 obtain ⟨s,hs⟩:=srootT (mulT (mulT x x) z1) z2 (mulT_vld _ _) vz2 (g2 (by omega)).1 (mulT_neg _ _ (by rw [mulT_neg x x rfl,(g1 he).2])) (g2 (by omega)).2
 exact ⟨s,fun u hT => rroot_walk kd ba fa wa ev tt k _ hw x (mulT x x) z1 z2 _ s u (fun u2 k => hx u2 (hT.kept k)) (fun u2 v k nv => smulT x x vx vx _ _ u2 (hT.kept k) nv nv) (fun u2 k => hz1 u2 (hT.kept k)) (fun u2 v v' k nv nv' => smulT _ z1 (mulT_vld _ _) vz1 _ _ u2 (hT.kept k) nv nv') (fun u2 k => hz2 u2 (hT.kept k)) (fun u2 v v' k nv nv' => hs _ _ u2 (hT.kept k) nv nv')⟩
theorem triangle_det (kd ba fa wa ev tt : Int) (hb1 : -9223372036854775808 ≤ ba) (hb2 : ba ≤ 9223372036854775807) (hbc : cls ba 64 < 3) (hf1 : -9223372036854775808 ≤ fa) (hf2 : fa ≤ 9223372036854775807) (hfc : cls fa 64 < 3) (k : Int) (hk0 : 0 ≤ k) (hk1 : k ≤ 1099511627776) (he : 0 < ev) (he2 : ev ≤ 1099511627776) : ∃ s : Int,∀ u,Tab u → Calls Tryz.prog 65 #[.agg #[.int .i64 kd,.int .i64 ba,.int .i64 fa,.int .i64 wa,.int .i64 ev,.int .i64 tt],.int .i64 k] u fun e w' => e = .returned (.int .i64 s) ∧ Kept u w':=by
 obtain ⟨xb,vb,hb⟩:=of_det ba hb1 hb2 hbc
 obtain ⟨xf,vf,hf⟩:=of_det fa hf1 hf2 hfc
 have hw : IntKind.i64.wrap (2 * ev) = 2 * ev:=by rw [wrap_i64]; omega
 obtain ⟨pp,hpp⟩ : ∃ p,k.tmod (2 * ev) = p:=⟨_,rfl⟩
 have hp : 0 ≤ pp ∧ pp < 2 * ev:=by
  rw [← hpp,Int.tmod_eq_emod_of_nonneg hk0]
  exact ⟨Int.emod_nonneg _ (by omega),Int.emod_lt_of_pos _ (by omega)⟩
 have hd : IntKind.i64.wrap (2 * ev - pp) = 2 * ev - pp:=by rw [wrap_i64]; omega
 obtain ⟨qq,hqq⟩ : ∃ q,min pp (2 * ev - pp) = q:=⟨_,rfl⟩
 have hq : 0 ≤ qq ∧ qq ≤ ev:=by omega
 have hed : IntKind.i64.wrap (ev - qq) = ev - qq:=by rw [wrap_i64]; omega
 obtain ⟨i1,vi1,-,hi1⟩:=int_det (ev - qq) (by omega) (by omega)
 obtain ⟨i2,vi2,-,hi2⟩:=int_det qq (by omega) (by omega)
 obtain ⟨i3,vi3,g3,hi3⟩:=int_det ev (by omega) (by omega)
 obtain ⟨s,hs⟩:=squotT (addT (mulT xb i1) (mulT xf i2)) i3 (addT_vld _ _ (mulT_vld _ _) (mulT_vld _ _)) vi3 (g3 he).1
 exact ⟨s,fun u hT => triangle_walk kd ba fa wa ev tt k _ _ _ _ _ hw (by omega) (by simp; omega) hpp hd hqq hed xb xf i1 i2 i3 _ _ _ s u (fun u2 k => hb u2 (hT.kept k)) (fun u2 k => hf u2 (hT.kept k)) (fun u2 k => hi1 u2 (hT.kept k)) (fun u2 k => hi2 u2 (hT.kept k)) (fun u2 k => hi3 u2 (hT.kept k)) (fun u2 v v' k nv nv' => smulT xb i1 vb vi1 _ _ u2 (hT.kept k) nv nv') (fun u2 v v' k nv nv' => smulT xf i2 vf vi2 _ _ u2 (hT.kept k) nv nv') (fun u2 v v' k nv nv' => saddT _ _ (mulT_vld _ _) (mulT_vld _ _) _ _ u2 (hT.kept k) nv nv') (fun u2 v v' k nv nv' => hs _ _ u2 (hT.kept k) nv nv')⟩
theorem vz_ne {Z : Int} {x : Nm} (h : Vz 0 Z x) (hz : Z ≠ 0) : x.mag ≠ []:=fun e => by
 have hv:=h.val
 unfold vz at hv
 rw [e] at hv
 apply hz
 rw [← hv]
 cases x.neg <;> simp [sg,nv]
theorem mulT_val {X Y : Int} {x y : Nm} (hx : Vz 0 X x) (hy : Vz 0 Y y) (hb : (X * Y).natAbs < 2 ^ expS) : Vz 0 (X * Y) (mulT x y):=by
 obtain ⟨r,hr⟩:=vz_mk 0 (X * Y) (by decide) (by decide) hb
 have hm:=Vz.mul (by decide) (by decide) hx hy (t:=0) (by decide) hr.eq
 unfold mulT
 rw [hm]
 exact hr
theorem pow_bd (X : Int) (h0 : 0 ≤ X) (h : X ≤ 1099511627776) (t : Nat) (ht : t ≤ 8) : ∀ n,n ≤ t → (X ^ n).natAbs < 2 ^ expS:=fun n hn => by
 rw [Int.natAbs_pow]
 have h1 : X.natAbs ≤ 2 ^ 40:=by have hh : (2 : Nat) ^ 40 = 1099511627776 := (by decide); omega
 refine Nat.lt_of_le_of_lt (Nat.pow_le_pow_left h1 n) ?_
 rw [← Nat.pow_mul]
 exact Nat.pow_lt_pow_right (by decide) (by unfold expS; omega)
theorem rz_val (one x : Nm) (X : Int) (hX : 0 ≤ X) (h1 : Vz 0 1 one) (hx : Vz 0 X x) (t L : Nat) (hL : t < 2 ^ L) (bd : ∀ n,n ≤ t → (X ^ n).natAbs < 2 ^ expS) : ∀ i,i ≤ L → Vz 0 (X ^ (t / 2 ^ (L - i))) (rz one x t L i)
 | 0,_ => by
  rw [Nat.sub_zero,Nat.div_eq_of_lt hL,Int.pow_zero]
  exact h1
 | i + 1,hi => by
  have ih:=rz_val one x X hX h1 hx t L hL bd i (by omega)
  obtain ⟨m,hm⟩ : ∃ m,t / 2 ^ (L - i) = m:=⟨_,rfl⟩
  obtain ⟨q,hq⟩ : ∃ q,t / 2 ^ (L - (i + 1)) = q:=⟨_,rfl⟩
  have hmq : m = q / 2:=by
   rw [← hm,← hq,Nat.div_div_eq_div_mul,← Nat.pow_succ,show (L - (i + 1)).succ = L - i by omega]
  have hqt : q ≤ t:=by rw [← hq]; exact Nat.div_le_self _ _
  rw [hm] at ih
  rw [show L - (i + 1) = L - 1 - i by omega] at hq
  have h2 : Vz 0 (X ^ (m + m)) (mulT (rz one x t L i) (rz one x t L i)):=by
   rw [Int.pow_add]
   exact mulT_val ih ih (by rw [← Int.pow_add]; exact bd _ (by omega))
  rw [show L - (i + 1) = L - 1 - i by omega,hq]
  by_cases hbit : t / 2 ^ (L - 1 - i) % 2 = 1
  ·rw [rz_one _ _ _ _ _ hbit]
   rw [hq] at hbit
   rw [show q = (m + m) + 1 by omega,Int.pow_succ]
   exact mulT_val h2 hx (by rw [← Int.pow_succ]; exact bd _ (by omega))
  ·rw [rz_nul _ _ _ _ _ hbit]
   rw [hq] at hbit
   rw [show q = m + m by omega]
   exact h2
theorem one_vz : ∃ one : Nm,Vz 0 1 one ∧ ∀ u,Tab u → Calls Tryz.prog 23 #[.int .i64 1] u fun e w' => ∃ v,e = .returned v ∧ New u w' v one ∧ Kept u w':=by
 obtain ⟨x,hx⟩:=vz_mk 0 1 (by decide) (by decide) (by have:=pow_bd 1 (by decide) (by decide) 1 (by decide) 1 (by decide); simpa using this)
 exact ⟨x,hx,fun u hT => sint_any 1 (by decide) (by decide) x hx.eq u hT⟩
theorem fading_det (kd ba fa wa ev tt : Int) (hb1 : -9223372036854775808 ≤ ba) (hb2 : ba ≤ 9223372036854775807) (hbc : cls ba 64 < 3) (hf1 : -9223372036854775808 ≤ fa) (hf2 : fa ≤ 9223372036854775807) (hfc : cls fa 64 < 3) (k g : Int) (hk0 : 0 ≤ k) (hk1 : k ≤ 1099511627776) (ht : 0 < tt) (ht2 : tt ≤ 1099511627776) (hg0 : 0 < g) (hg1 : g ≤ 8) : ∃ s : Int,∀ u,Tab u → Calls Tryz.prog 92 #[.agg #[.int .i64 kd,.int .i64 ba,.int .i64 fa,.int .i64 wa,.int .i64 ev,.int .i64 tt],.int .i64 k,.int .i64 g] u fun e w' => e = .returned (.int .i64 s) ∧ Kept u w':=by
 have hw : IntKind.i64.wrap (tt - k) = tt - k:=by rw [wrap_i64]; omega
 obtain ⟨d,hd⟩ : ∃ d,max 0 (tt - k) = d:=⟨_,rfl⟩
 obtain ⟨y1,v1,-,h1⟩:=int_det d (by omega) (by omega)
 obtain ⟨z1,w1,-,p1⟩:=raised_det y1 v1 g (by omega) (by omega)
 obtain ⟨one,hone,ho⟩:=one_vz
 obtain ⟨y2,hy2⟩:=vz_mk 0 tt (by decide) (by decide) (by have:=pow_bd tt (by omega) ht2 1 (by decide) 1 (by decide); simpa using this)
 have hL:=bl_lt g.toNat
 have hv:=rz_val one y2 tt (by omega) hone hy2 g.toNat (bl g.toNat) hL (pow_bd tt (by omega) ht2 g.toNat (by omega)) (bl g.toNat) (Nat.le_refl _)
 rw [Nat.sub_self,Nat.pow_zero,Nat.div_one] at hv
 have hne : (rz one y2 g.toNat (bl g.toNat) (bl g.toNat)).mag ≠ []:=vz_ne hv (by
  have : 0 < tt ^ g.toNat:=Int.pow_pos ht
  omega)
 obtain ⟨s,hs⟩:=share_det ba hb1 hb2 hbc z1 _ w1 (rz_vld one y2 hone.ok g.toNat (bl g.toNat) (bl g.toNat)) hne
 refine ⟨s,fun u hT => fading_walk kd ba fa wa ev tt k g d (by rw [hw]; exact hd) y1 y2 z1 _ s u (fun u2 k => h1 u2 (hT.kept k)) (fun u2 k => sint_any tt (by omega) (by omega) y2 hy2.eq u2 (hT.kept k)) (fun u2 v k nv => p1 u2 v (hT.kept k) nv) (fun u2 v k nv => ?_) (fun u2 v v' k nv nv' => hs u2 v v' (hT.kept k) nv nv')⟩
 obtain ⟨a1,c1,rfl,s1⟩:=nv.form
 have:=raised_walk y2.neg a1 y2.mag.length c1 y2.exp g.toNat (bl g.toNat) (by omega) rfl one y2 hone.ok u2 (fun u3 k3 => ho u3 ((hT.kept k).kept k3)) (fun u3 v p k3 np vp => smulT p p vp vp _ _ u3 ((hT.kept k).kept k3) np np) (fun u3 v p k3 np vp => smulT p y2 vp hy2.ok _ _ u3 ((hT.kept k).kept k3) np ⟨_,rfl,s1.kept k3⟩)
 rw [show ((g.toNat : Nat) : Int) = g by omega] at this
 exact this
end Go.Proofs.YtnniljhdcplkgaaGreatDoor
