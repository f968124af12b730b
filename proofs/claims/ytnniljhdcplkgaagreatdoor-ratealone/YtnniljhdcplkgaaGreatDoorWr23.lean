/- The walk of exact's take,in general: the quotient's digit,and the rest that is left. -/
import Derived.Test.YtnniljhdcplkgaaGreatDoorWr19
import Derived.Test.YtnniljhdcplkgaaGreatDoorWr22
namespace Go.Proofs.YtnniljhdcplkgaaGreatDoor
open Go.ChangeShapes Go.WideShapes Go.ChangeAt Go.RowKit
set_option maxHeartbeats 16000000
set_option maxRecDepth 100000
set_option linter.unusedVariables false
set_option linter.unusedSimpArgs false
structure TK (g off n : Nat) (w w' : World) : Prop where
 grw : Grw g w w'
 rest : ∀ i,(i < off ∨ off + n < i) → w'.cell? ⟨g,i,none⟩ = w.cell? ⟨g,i,none⟩
theorem TK.refl (g off n : Nat) (w : World) : TK g off n w w:=⟨Grw.refl _ _,fun _ _ => rfl⟩
theorem TK.kept {g off n : Nat} {w a b : World} (hg : g < w.heap.size) (h : TK g off n w a) (k : Kept a b) : TK g off n w b :=
 ⟨h.grw.trans (k.toGrw g),fun i hi => (k.below.cell (p:=⟨g,i,none⟩) (Nat.lt_of_lt_of_le hg h.grw.grown.size)).trans (h.rest i hi)⟩
theorem TK.set {g off n : Nat} {w a : World} (h : TK g off n w a) (j : Nat) (hj : j ≤ n) (v : Value) : TK g off n w (a.setCell ⟨g,off + j,none⟩ v) :=
 ⟨h.grw.setCell _ _,fun i hi => by
  exact (World.cell?_setCell_other a ⟨g,off + j,none⟩ ⟨g,i,none⟩ v (by intro he; injection he with _ he; omega)).trans (h.rest i hi)⟩
theorem DgAt.off_block {w w' : World} {g h m V : Nat} (hd : DgAt w h 0 m V) (hgh : h ≠ g) (k : Grw g w w') : DgAt w' h 0 m V:=fun i hi => by
 have hc:=hd i hi
 have hb:=World.block_lt_of_cell? w _ hc
 exact (World.cell?_of_block (a:=⟨h,0 + i,none⟩) (k.grown.block h hb (by simpa using hgh))).trans hc
theorem or_30 (xn xm T2 : Nat) (hm : xm < 1073741824) (hn : xn < 1073741824) (hT : T2 = xn * 1073741824 + xm) : bits .or .i64 ((xn : Int) * 1073741824) (xm : Int) = (T2 : Int):=by
 have e : (2 : Nat) ^ 30 = 1073741824:=by decide
 have:=or_low xm xn 30 (by rw [e]; exact hm) (by rw [e]; omega)
 rw [e] at this
 rw [show ((xn * 1073741824 : Nat) : Int) = (xn : Int) * 1073741824 by omega,show ((xm + xn * 1073741824 : Nat) : Int) = (T2 : Int) by omega] at this
 exact this
theorem quo_nat (a b : Nat) : (a : Int).tdiv ((b : Int) + 1) = ((a / (b + 1) : Nat) : Int):=by
 rw [Int.tdiv_eq_ediv_of_nonneg (by omega),Int.natCast_ediv]
 rfl
theorem take_any (g off cap h cap2 n : Nat) (hgh : h ≠ g) (hn : 0 < n) (hn2 : n < 100000) (V U : Nat) (hV0 : V < 2 ^ (30 * (n + 1))) (hU1 : 2 ^ (30 * (n - 1)) * 536870912 ≤ U) (hU0 : U < 2 ^ (30 * n)) (hVU : V < U * 4294967296) (w : World) (hg0 : g < w.heap.size) (RX0 : DgAt w g off (n + 1) V) (RU0 : DgAt w h 0 n U) (FZ0 : ∀ i,w.frozen? ⟨g,i,none⟩ = false) : Calls Tryz.prog 153 #[.slice (some ⟨g,off,none⟩) (n + 1) cap,.slice (some ⟨h,0,none⟩) n cap2] w fun e w' => e = .returned (.int .i64 ((V / U : Nat) : Int)) ∧ DgAt w' g off (n + 1) (V % U) ∧ TK g off n w w':=by
 have RX : Hid (DgAt w g off (n + 1) V):=RX0
 have RU : Hid (DgAt w h 0 n U):=RU0
 have FZ : Hid (∀ i,w.frozen? ⟨g,i,none⟩ = false):=FZ0
 have HV : Hid (V < 2 ^ (30 * (n + 1))):=hV0
 have HU : Hid (2 ^ (30 * (n - 1)) * 536870912 ≤ U ∧ U < 2 ^ (30 * n) ∧ V < U * 4294967296):=⟨hU1,hU0,hVU⟩
 have HG0 : Hid (g < w.heap.size):=hg0
 clear RX0 RU0 FZ0 hV0 hU0 hU1 hVU hg0
 obtain ⟨n1,hn1⟩ : ∃ n1 : Nat,n = n1 + 1:=⟨n - 1,by omega⟩
 have HN : Hid (n = n1 + 1):=hn1
 have hn1i : (n : Int) - 1 = (n1 : Int):=by omega
 have hn1n : (n1 : Int) < (n : Int):=by omega
 have hn1n' : (n1 : Int) < (n : Int) + 1:=by omega
 have hn1b : n1 < 100000:=by omega
 have hnn : (n : Int) < (n : Int) + 1:=by omega
 clear hn1
 have zn1 : IntKind.i64.wrap (n1 : Int) = (n1 : Int):=by rw [wrap_i64]; omega
 obtain ⟨res,hres⟩ : ∃ res,V / U = res:=⟨_,rfl⟩
 have HRes : Hid (V / U = res):=hres
 rw [hres]
 clear hres
 go_enter Tryz.func153,Tryz.ntmps153
 go_wp2
 go_loopw [6] (fun tv wr => ∃ (t X : Nat),tv = .int .i64 t ∧ V = t * U + X ∧ DgAt wr g off (n + 1) X ∧ TK g off n w wr) (fun tv _ => V - (intOf tv).toNat)
 case atStart => exact ⟨0,V,rfl,by rw [Nat.zero_mul,Nat.zero_add],RX.out,TK.refl _ _ _ _⟩
 case round =>
  obtain ⟨t,X,rfl,hVX,hDX,hTK⟩:=hrel
  have HVX : Hid (V = t * U + X):=hVX
  have HDX : Hid (DgAt wr g off (n + 1) X):=hDX
  have HTK : Hid (TK g off n w wr):=hTK
  have hXV : X ≤ V:=by rw [hVX]; exact Nat.le_add_left _ _
  have HX : Hid (X < 2 ^ (30 * (n + 1))):=Nat.lt_of_le_of_lt hXV HV.out
  have hU0 : 0 < U:=Nat.lt_of_lt_of_le (Nat.mul_pos (Nat.two_pow_pos _) (by decide)) HU.out.1
  have ht : t < 4294967296:=by
   have h1:=HU.out.2.2
   rw [hVX] at h1
   apply Decidable.byContradiction
   intro hge
   have:=Nat.mul_le_mul_right U (show 4294967296 ≤ t by omega)
   rw [Nat.mul_comm 4294967296 U] at this
   omega
  have KB : Hid (Calls Tryz.prog 164 #[.slice (some ⟨g,off,none⟩) (n + 1) cap,.slice (some ⟨h,0,none⟩) n cap2] wr fun e w' => e = .returned (.bool (decide (X < U))) ∧ Kept wr w'):=below_any g off cap h cap2 n hn hn2 X U HX.out HU.out.2.1 wr hDX (RU.out.off_block hgh hTK.grw)
  clear hVX hDX hTK hXV
  by_cases hlt : X < U
  ·rw [decide_eq_true hlt] at KB
   go_wp2_with fail
   refine KB.out.mono ?_
   rintro e w1 ⟨rfl,k1⟩
   have e1 : V / U = t ∧ V % U = X:=by
    rw [HVX.out]
    rw [Nat.mul_comm]
    exact ⟨by rw [Nat.mul_add_div hU0,Nat.div_eq_of_lt hlt,Nat.add_zero],by rw [Nat.mul_add_mod,Nat.mod_eq_of_lt hlt]⟩
   have hr : res = t:=by rw [← HRes.out]; exact e1.1
   have HE : Hid (V % U = X):=e1.2
   subst hr
   clear e1
   go_wp2
   go_ret
   exact ⟨rfl,by rw [HE.out]; exact HDX.out.kept k1,HTK.out.kept HG0.out k1⟩
  ·rw [decide_eq_false hlt] at KB
   have hUX : U ≤ X:=by omega
   obtain ⟨gs,hgs⟩ : ∃ gs,gs = max 1 ((X / 2 ^ (30 * n1)) / (U / 2 ^ (30 * n1) + 1)):=⟨_,rfl⟩
   have hN:=HN.out
   have hx2:=HX.out
   have hu3:=HU.out
   rw [hN] at hx2 hu3
   rw [Nat.add_sub_cancel] at hu3
   obtain ⟨gU,g1⟩:=guess_ok X U n1 hx2 hu3.2.1 hUX gs hgs
   obtain ⟨t1,t2,t3⟩:=guess_lt X U n1 hx2 hu3.1
   have HGU : Hid (gs * U ≤ X):=gU
   have hgs31 : gs < 2147483648:=by omega
   obtain ⟨T2,hT2⟩ : ∃ T2,X / 2 ^ (30 * n1) = T2:=⟨_,rfl⟩
   obtain ⟨ut,hut⟩ : ∃ ut,U / 2 ^ (30 * n1) = ut:=⟨_,rfl⟩
   have hut2 : dg U n1 = ut:=by rw [dg_zero_hi U n1 hu3.2.1]; exact hut
   obtain ⟨xn,hxn⟩ : ∃ xn,dg X n = xn:=⟨_,rfl⟩
   obtain ⟨xm,hxm⟩ : ∃ xm,dg X n1 = xm:=⟨_,rfl⟩
   have hT3 : T2 = xn * 1073741824 + xm:=by
    rw [← hT2,← hxn,← hxm,dg_split X n1,hN,← dg_zero_hi X (n1 + 1) hx2]
   have bxn:=dg_lt X n
   have bxm:=dg_lt X n1
   have but:=dg_lt U n1
   rw [hxn] at bxn
   rw [hxm] at bxm
   rw [hut2] at but
   rw [hT2] at hgs t1 t3
   rw [hut] at hgs t2 t3
   have cn:=HDX.out n (by omega)
   have cm:=HDX.out n1 (by omega)
   have cu:=(RU.out.off_block hgh HTK.out.grw) n1 (by omega)
   rw [hxn] at cn
   rw [hxm] at cm
   rw [hut2,Nat.zero_add] at cu
   have o1' : bits .or .i64 ((xn : Int) * 1073741824) (xm : Int) = (T2 : Int):=by
    exact or_30 xn xm T2 bxm bxn hT3
   obtain ⟨xs,hxs⟩ : ∃ xs : Nat,(xn : Int) * 1073741824 = (xs : Int):=⟨xn * 1073741824,by omega⟩
   have zx : IntKind.i64.wrap ((xn : Int) * 1073741824) = (xs : Int):=by rw [wrap_i64]; omega
   have o1 : bits .or .i64 (xs : Int) (xm : Int) = (T2 : Int):=by rw [← hxs]; exact o1'
   obtain ⟨ud,hud⟩ : ∃ ud : Nat,ud = ut + 1:=⟨_,rfl⟩
   have zu : IntKind.i64.wrap ((ut : Int) + 1) = (ud : Int):=by rw [wrap_i64]; omega
   have hu10 : ¬ ud = 0:=by omega
   clear o1' hxs
   obtain ⟨qd,hqd⟩ : ∃ qd : Nat,T2 / (ut + 1) = qd:=⟨_,rfl⟩
   rw [hqd] at hgs t3
   have o2 : (T2 : Int).tdiv (ud : Int) = (qd : Int):=by
    rw [show (ud : Int) = (ut : Int) + 1 by omega,quo_nat,hqd]
   have zq : IntKind.i64.wrap (qd : Int) = (qd : Int):=by rw [wrap_i64]; omega
   have o3 : max (1 : Int) (qd : Int) = (gs : Int):=by omega
   clear hud
   clear hgs hT2 hut hut2 hxn hxm hT3 hqd hN hx2 hu3 gU t1 t2
   go_wp2_with fail
   refine KB.out.mono ?_
   rintro e w1 ⟨rfl,k1⟩
   have cn1:=(k1.below.cell (p:=⟨g,off + n,none⟩) (World.block_lt_of_cell? wr _ cn)).trans cn
   have cm1:=(k1.below.cell (p:=⟨g,off + n1,none⟩) (World.block_lt_of_cell? wr _ cm)).trans cm
   have cu1:=(k1.below.cell (p:=⟨h,n1,none⟩) (World.block_lt_of_cell? wr _ cu)).trans cu
   have HDX1 : Hid (DgAt w1 g off (n + 1) X):=HDX.out.kept k1
   have HTK1 : Hid (TK g off n w w1):=HTK.out.kept HG0.out k1
   clear cn cm cu k1 HDX HTK
   go_wp2_with fail
   refine wp_region_held_drew (S:=fun u => (u.cell? ⟨g,off + n,none⟩ = some (.int .i64 (xn : Int)) ∧ u.cell? ⟨g,off + n1,none⟩ = some (.int .i64 (xm : Int))) ∧ u.cell? ⟨h,n1,none⟩ = some (.int .i64 (ut : Int))) (by kernel_rfl) ⟨⟨cn1,cm1⟩,cu1⟩ (fun hHeld => ?_)
   refine tk (i:=0) (v:=?_) rfl ?_
   simp only [Act.put,zA,zB,zC,zD,zE,zF]
   refine tk (i:=1) (v:=?_) rfl ?_
   simp only [Act.put,zA,zB,zC,zD,zE,zF]
   refine tk (i:=2) (v:=?_) rfl ?_
   simp only [Act.put,zA,zB,zC,zD,zE,zF]
   refine tk (i:=3) (v:=?_) rfl ?_
   simp only [Act.put,zA,zB,zC,zD,zE,zF]
   refine tk (i:=4) (v:=?_) rfl ?_
   simp only [Act.put,zA,zB,zC,zD,zE,zF]
   refine tk (i:=5) (v:=?_) rfl ?_
   simp only [Act.put,zA,zB,zC,zD,zE,zF]
   refine tk (i:=6) (v:=?_) rfl ?_
   simp only [Act.put,zA,zB,zC,zD,zE,zF]
   refine tk (i:=7) (v:=?_) rfl ?_
   simp only [Act.put,zA,zB,zC,zD,zE,zF]
   refine tk (i:=8) (v:=?_) rfl ?_
   simp only [Act.put,zA,zB,zC,zD,zE,zF]
   refine tk (i:=9) (v:=?_) rfl ?_
   simp only [Act.put,zA,zB,zC,zD,zE,zF]
   refine tk (i:=10) (v:=?_) rfl ?_
   simp only [Act.put,zA,zB,zC,zD,zE,zF]
   refine tk (i:=11) (v:=?_) rfl ?_
   simp only [Act.put,zA,zB,zC,zD,zE,zF]
   refine tk (i:=12) (v:=?_) rfl ?_
   simp only [Act.put,zA,zB,zC,zD,zE,zF]
   refine tk (i:=13) (v:=?_) rfl ?_
   simp only [Act.put,zA,zB,zC,zD,zE,zF]
   refine tk (i:=14) (v:=?_) rfl ?_
   simp only [Act.put,zA,zB,zC,zD,zE,zF]
   refine tk (i:=15) (v:=?_) rfl ?_
   simp only [Act.put,zA,zB,zC,zD,zE,zF]
   refine tk (i:=16) (v:=?_) rfl ?_
   simp only [Act.put,zA,zB,zC,zD,zE,zF]
   refine tk (i:=17) (v:=?_) rfl ?_
   simp only [Act.put,zA,zB,zC,zD,zE,zF]
   refine tk (i:=18) (v:=?_) rfl ?_
   simp only [Act.put,zA,zB,zC,zD,zE,zF]
   refine tk (i:=19) (v:=?_) rfl ?_
   simp only [Act.put,zA,zB,zC,zD,zE,zF]
   refine wpAnyH_done (by kernel_rfl) ?_ _
   clear hHeld
   have HD2 : Hid (DgAt w1.drew g off (n + 1) X):=HDX1.out.kept (Kept.refl _).drew
   have HT2 : Hid (TK g off n w w1.drew):=HTK1.out.kept HG0.out (Kept.refl _).drew
   clear HDX1 HTK1 cn1 cm1 cu1 o1 o2 o3 zx zu zq hu10
   obtain ⟨X',hX'⟩ : ∃ X',X - gs * U = X':=⟨_,rfl⟩
   have HX' : Hid (X - gs * U = X'):=hX'
   clear hX'
   go_wp2_with fail
   go_loopw [8,36] (fun ov iv wi => ∃ (k : Nat) (o : Int),k ≤ n ∧ iv = .int .i64 k ∧ ov = .int .i64 o ∧ o = ovr X U gs k ∧ (∀ i,i < k → wi.cell? ⟨g,off + i,none⟩ = some (.int .i64 ((dg X' i : Nat) : Int))) ∧ (∀ i,k ≤ i → i < n + 1 → wi.cell? ⟨g,off + i,none⟩ = some (.int .i64 ((dg X i : Nat) : Int))) ∧ TK g off n w wi) (fun _ iv _ => n - (intOf iv).toNat)
   case atStart => exact ⟨0,0,Nat.zero_le _,rfl,rfl,(ovr_zero X U gs).symm,fun i hi => absurd hi (by omega),fun i _ hi => HD2.out i hi,HT2.out⟩
   case round =>
    obtain ⟨k,o,hk,rfl,rfl,ho,hlo,hhi,hTi⟩:=hrel
    have ob:=ovr_bounds X U gs k
    rw [← ho] at ob
    have HO : Hid (o = ovr X U gs k):=ho
    have HLO : Hid (∀ i,i < k → wr.cell? ⟨g,off + i,none⟩ = some (.int .i64 ((dg X' i : Nat) : Int))):=hlo
    have HHI : Hid (∀ i,k ≤ i → i < n + 1 → wr.cell? ⟨g,off + i,none⟩ = some (.int .i64 ((dg X i : Nat) : Int))):=hhi
    have HTI : Hid (TK g off n w wr):=hTi
    clear ho hlo hhi hTi
    by_cases hkn : k < n
    ·have hki : (k : Int) < (n : Int):=by omega
     have hki' : (k : Int) < (n : Int) + 1:=by omega
     have cx:=HHI.out k (Nat.le_refl _) (by omega)
     have cu:=(RU.out.off_block hgh HTI.out.grw) k hkn
     have ff : wr.frozen? ⟨g,off + k,none⟩ = false:=(HTI.out.grw.frozen _).trans (FZ.out _)
     have dst:=ovr_step X U gs k
     have ddg:=ovr_digit X U gs k HGU.out
     rw [HX'.out] at ddg
     rw [← HO.out] at dst ddg
     have ob2:=ovr_bounds X U gs (k + 1)
     obtain ⟨xv,hxv⟩ : ∃ xv,dg X k = xv:=⟨_,rfl⟩
     obtain ⟨uv,huv⟩ : ∃ uv,dg U k = uv:=⟨_,rfl⟩
     obtain ⟨dv,hdv⟩ : ∃ dv,dg X' k = dv:=⟨_,rfl⟩
     obtain ⟨o2,ho2⟩ : ∃ o2,ovr X U gs (k + 1) = o2:=⟨_,rfl⟩
     have bx:=dg_lt X k
     have bu:=dg_lt U k
     rw [hxv] at cx dst ddg bx
     rw [huv] at cu dst ddg bu
     rw [hdv] at ddg
     rw [ho2] at dst ob2
     rw [Nat.zero_add] at cu
     have HDV : Hid (dg X' k = dv):=hdv
     have HO2 : Hid (ovr X U gs (k + 1) = o2):=ho2
     obtain ⟨p,hp⟩ : ∃ p : Nat,gs * uv = p:=⟨_,rfl⟩
     have bp : p < 2305843009213693952:=by
      rw [← hp]
      have:=Nat.mul_lt_mul'' hgs31 bu
      omega
     have ep : (gs : Int) * (uv : Int) = (p : Int):=by rw [← Int.natCast_mul,hp]
     have zp : IntKind.i64.wrap (p : Int) = (p : Int):=by rw [wrap_i64]; omega
     rw [ep] at dst ddg
     obtain ⟨e1,he1⟩ : ∃ e1 : Int,(xv : Int) - (p : Int) = e1:=⟨_,rfl⟩
     have ze1 : IntKind.i64.wrap ((xv : Int) - (p : Int)) = e1:=by rw [wrap_i64]; omega
     rw [he1] at dst ddg
     obtain ⟨e2,he2⟩ : ∃ e2 : Int,o + e1 = e2:=⟨_,rfl⟩
     have ze2 : IntKind.i64.wrap (o + e1) = e2:=by rw [wrap_i64]; omega
     rw [he2] at dst ddg
     have hand : bits .and .i64 e2 1073741823 = (dv : Int):=by rw [mask30]; exact ddg
     clear hxv huv hdv ho2 hp he1 he2 ddg
     go_wp2_with fail
     refine wp_region_held_drew (S:=fun u => u.cell? ⟨g,off + k,none⟩ = some (.int .i64 (xv : Int)) ∧ u.cell? ⟨h,k,none⟩ = some (.int .i64 (uv : Int))) (by kernel_rfl) ⟨cx,cu⟩ (fun hHeld => ?_)
     refine tk (i:=0) (v:=?_) rfl ?_
     simp only [Act.put,zA,zB,zC,zD,zE,zF]
     refine tk (i:=1) (v:=?_) rfl ?_
     simp only [Act.put,zA,zB,zC,zD,zE,zF]
     refine tk (i:=2) (v:=?_) rfl ?_
     simp only [Act.put,zA,zB,zC,zD,zE,zF]
     refine tk (i:=3) (v:=?_) rfl ?_
     simp only [Act.put,zA,zB,zC,zD,zE,zF]
     refine tk (i:=4) (v:=?_) rfl ?_
     simp only [Act.put,zA,zB,zC,zD,zE,zF]
     refine tk (i:=5) (v:=?_) rfl ?_
     simp only [Act.put,zA,zB,zC,zD,zE,zF]
     refine tk (i:=6) (v:=?_) rfl ?_
     simp only [Act.put,zA,zB,zC,zD,zE,zF]
     refine tk (i:=7) (v:=?_) rfl ?_
     simp only [Act.put,zA,zB,zC,zD,zE,zF]
     refine tk (i:=8) (v:=?_) rfl ?_
     simp only [Act.put,zA,zB,zC,zD,zE,zF]
     refine tk (i:=9) (v:=?_) rfl ?_
     simp only [Act.put,zA,zB,zC,zD,zE,zF]
     refine tk (i:=10) (v:=?_) rfl ?_
     simp only [Act.put,zA,zB,zC,zD,zE,zF]
     refine tk (i:=11) (v:=?_) rfl ?_
     simp only [Act.put,zA,zB,zC,zD,zE,zF]
     refine tk (i:=12) (v:=?_) rfl ?_
     simp only [Act.put,zA,zB,zC,zD,zE,zF]
     refine tk (i:=13) (v:=?_) rfl ?_
     simp only [Act.put,zA,zB,zC,zD,zE,zF]
     refine wpAnyH_done (by kernel_rfl) ?_ _
     clear hHeld
     have ff2 : wr.drew.frozen? ⟨g,off + k,none⟩ = false:=ff
     have cx2 : wr.drew.cell? ⟨g,off + k,none⟩ = some (.int .i64 (xv : Int)):=cx
     go_wp2
     go_roundw
     case rel =>
      have hTd : TK g off n w wr.drew:=HTI.out.kept HG0.out (Kept.refl _).drew
      refine ⟨k + 1,o2,by omega,by go_num,by first | rfl | (rw [dst]),HO2.out.symm,fun i hi => ?_,fun i h1 h2 => ?_,hTd.set k (by omega) _⟩
      ·by_cases hik : i = k
       ·subst hik
        rw [HDV.out]
        exact World.cell?_setCell_same _ _ _ cx2
       ·exact (World.cell?_setCell_other wr.drew ⟨g,off + k,none⟩ ⟨g,off + i,none⟩ _ (by intro he; injection he with _ he; omega)).trans (HLO.out i (by omega))
      ·exact (World.cell?_setCell_other wr.drew ⟨g,off + k,none⟩ ⟨g,off + i,none⟩ _ (by intro he; injection he with _ he; omega)).trans (HHI.out i (by omega) h2)
     case measure => simp [intOf]; omega
    ·obtain rfl : k = n:=by omega
     have cx:=HHI.out k (Nat.le_refl _) (by omega)
     have ff : wr.frozen? ⟨g,off + k,none⟩ = false:=(HTI.out.grw.frozen _).trans (FZ.out _)
     have dl:=ovr_last X U gs k HGU.out HX.out HU.out.2.1
     rw [HX'.out,← HO.out] at dl
     obtain ⟨xv,hxv⟩ : ∃ xv,dg X k = xv:=⟨_,rfl⟩
     obtain ⟨dv,hdv⟩ : ∃ dv,dg X' k = dv:=⟨_,rfl⟩
     have HDV : Hid (dg X' k = dv):=hdv
     have bd:=dg_lt X' k
     rw [hxv] at cx dl
     rw [hdv] at dl bd
     have zl : IntKind.i64.wrap ((xv : Int) + o) = (dv : Int):=by rw [wrap_i64]; omega
     have zt : IntKind.i64.wrap ((t : Int) + (gs : Int)) = ((t + gs : Nat) : Int):=by rw [wrap_i64]; omega
     clear hxv hdv
     go_wp2
     go_roundw
     case rel =>
      refine ⟨t + gs,X',by go_num,?_,fun i hi => ?_,HTI.out.set k (Nat.le_refl _) _⟩
      ·have h1:=HVX.out
       have h2:=HX'.out
       have h3:=HGU.out
       rw [Nat.add_mul]
       omega
      ·by_cases hik : i = k
       ·subst hik
        rw [HDV.out]
        exact World.cell?_setCell_same _ _ _ cx
       ·exact (World.cell?_setCell_other wr ⟨g,off + k,none⟩ ⟨g,off + i,none⟩ _ (by intro he; injection he with _ he; omega)).trans (HLO.out i (by omega))
     case measure =>
      have h1:=HVX.out
      have h4 : t * 1 ≤ t * U:=Nat.mul_le_mul_left _ hU0
      simp [intOf]
      omega
end Go.Proofs.YtnniljhdcplkgaaGreatDoor
