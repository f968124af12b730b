/- Package state: a reader takes a number that stands there. -/
import Derived.Test.YtocjfdiimapojaaVC
namespace Go.Proofs.Ytocjfdiimapojaa
open Go.ChangeShapes Go.WideShapes Go.ChangeAt Go.RowKit
set_option maxHeartbeats 16000000
set_option maxRecDepth 100000
set_option linter.unusedVariables false
set_option linter.unusedSimpArgs false
theorem number_bad0 (k q cap R K : Nat) (ao : Option Addr) (B : List Int) (hk1 : 1 ≤ k) (hk : k ≤ 8) (w : World) (hR : RV w R ao B cap q) (hle : q + k ≤ B.length) (hB : Byt B)
  (hcall : ∀ (x : Int) (wx : World),(callFunc K #[.int .i64 x]).run Try.prog wx = .ok (.enter K #[.int .i64 x]) wx)
  (HC : ∀ u,Kept w u → Calls Try.prog K #[.int .i64 (numv k B q)] u fun e w' => e = .returned (.bool false) ∧ Kept u w') :
  Calls Try.prog 49 #[.pointer (some ⟨R,0,none⟩),.int .i64 (k : Int),.func (.func K) #[] #[]] w fun e w' => e = PN 51 q ∧ Kept w w':=by
 have hne : B ≠ []:=by intro h; subst h; simp at hle; omega
 obtain ⟨b,off,rfl,hbR,hrd⟩:=hR.bd hne
 have hb:=Nat.lt_trans hbR hR.lt
 have hsm:=hR.sm
 have HR : Hid (∀ u,Kept w u → RV u R (some ⟨b,off,none⟩) B cap q):=fun u k => hR.kept k
 have HB : Hid (∀ u i,i < B.length → Kept w u → u.cell? ⟨b,off + i,none⟩ = some (.int .u8 (B.getD i 0))):=fun u i hi kk => (kk.below.cell (p:=⟨b,off + i,none⟩) hb).trans (hrd i hi)
 have HD : Hid (∀ i,i < B.length → 0 ≤ B.getD i 0 ∧ B.getD i 0 < 256):=fun i _ => hB.at i
 have HO : Hid (∀ i,i ≤ 7 → bits .or .i64 (numv i B q) (IntKind.i64.wrap (B.getD (q + i) 0 * 2 ^ (8 * i))) = numv (i + 1) B q):=fun i hi => or_num i hi B q hB
 have HC2 : Hid (∀ u,Kept w u → Calls Try.prog K #[.int .i64 (numv k B q)] u fun e w' => e = .returned (.bool false) ∧ Kept u w'):=HC
 have hz : numv 0 B q = 0:=by unfold numv un; rw [wrap_i64]; rfl
 have HQ : Hid (∃ f : Nat → Int,∃ h : Nat → Int,(∀ i,numv i B q = f i) ∧ ∀ i,B.getD i 0 = h i):=⟨_,_,fun _ => rfl,fun _ => rfl⟩
 obtain ⟨f,h,hf,hh⟩:=HQ.out
 simp only [hf,hh] at HB HD HO HC2 hz
 obtain ⟨m,hm⟩ : ∃ m,B.length = m:=⟨_,rfl⟩
 have HRm : Hid (∀ u,Kept w u → u.cell? ⟨R,0,none⟩ = some (.slice (some ⟨b,off,none⟩) m cap) ∧ u.cell? ⟨R,1,none⟩ = some (.int .i64 (q : Int)) ∧ u.frozen? ⟨R,1,none⟩ = false):=fun u kk => by
  have:=HR.out u kk
  rw [← hm]
  exact ⟨this.c0,this.c1,this.fz⟩
 rw [hm] at HB HD hsm hle
 have HRf : Hid (RV w R (some ⟨b,off,none⟩) B cap q ∧ B.length = m):=⟨hR,hm⟩
 have HHf : Hid (numv k B q = f k):=hf k
 clear hR HR hrd hB HC hf hh HQ hne hm hb
 obtain ⟨a0,a1,a2⟩:=HRm.out w (Kept.refl w)
 have z1 : IntKind.i64.wrap ((m : Int) - (q : Int)) = (m : Int) - (q : Int):=by rw [wrap_i64]; omega
 have hd : decide ((k : Int) ≤ (m : Int) - (q : Int)) = true:=decide_eq_true (by omega)
 have HLE : Hid (q + k ≤ m ∧ m ≤ 16777216 ∧ 1 ≤ k ∧ k ≤ 8):=⟨hle,hsm,hk1,hk⟩
 clear hle hsm hk1 hk
 go_enter Try.func49,Try.ntmps49
 go_wp2_with fail
 refine wp_region_held_drew (S:=fun u => Kept w u ∧ u.cell? ⟨R,0,none⟩ = some (.slice (some ⟨b,off,none⟩) m cap) ∧ u.cell? ⟨R,1,none⟩ = some (.int .i64 (q : Int))) (by kernel_rfl) (⟨(Kept.refl w).drew,a0,a1⟩) (fun hHeld => ?_)
 refine tk (i:=0) (v:=?_) rfl ?_
 simp only [Act.put,zA,zB,zC,zD,zE,zF]
 refine tk (i:=1) (v:=?_) rfl ?_
 simp only [Act.put,zA,zB,zC,zD,zE,zF]
 refine tk (i:=2) (v:=?_) rfl ?_
 simp only [Act.put,zA,zB,zC,zD,zE,zF]
 refine tk (i:=3) (v:=?_) rfl ?_
 simp only [Act.put,zA,zB,zC,zD,zE,zF]
 refine tk (i:=4) (v:=?_) rfl ?_
 simp only [Act.put,zA,zB,zC,zD,zE,zF]
 refine tk (i:=5) (v:=?_) rfl ?_
 simp only [Act.put,zA,zB,zC,zD,zE,zF]
 refine tk (i:=6) (v:=?_) rfl ?_
 simp only [Act.put,zA,zB,zC,zD,zE,zF]
 refine tk (i:=7) (v:=?_) rfl ?_
 simp only [Act.put,zA,zB,zC,zD,zE,zF]
 refine tk (i:=8) (v:=?_) rfl ?_
 simp only [Act.put,zA,zB,zC,zD,zE,zF]
 refine tk (i:=9) (v:=?_) rfl ?_
 simp only [Act.put,zA,zB,zC,zD,zE,zF]
 refine tk (i:=10) (v:=?_) rfl ?_
 simp only [Act.put,zA,zB,zC,zD,zE,zF]
 refine tk (i:=11) (v:=?_) rfl ?_
 simp only [Act.put,zA,zB,zC,zD,zE,zF]
 refine tk (i:=12) (v:=?_) rfl ?_
 simp only [Act.put,zA,zB,zC,zD,zE,zF]
 refine tk (i:=13) (v:=?_) rfl ?_
 simp only [Act.put,zA,zB,zC,zD,zE,zF]
 refine tk (i:=14) (v:=?_) rfl ?_
 simp only [Act.put,zA,zB,zC,zD,zE,zF]
 refine tk (i:=15) (v:=?_) rfl ?_
 simp only [Act.put,zA,zB,zC,zD,zE,zF]
 refine tk (i:=16) (v:=?_) rfl ?_
 simp only [Act.put,zA,zB,zC,zD,zE,zF]
 refine tk (i:=17) (v:=?_) rfl ?_
 simp only [Act.put,zA,zB,zC,zD,zE,zF]
 refine wpAnyH_ready (rs:=[18]) (by kernel_rfl) (by simp) ?_
 refine AllReadyH.cons rfl (fun K9 hK9 => ?_) AllReadyH.nil
 go_simp
 go_wp2_with fail
 refine (want_ok _ _ _).mono ?_
 rintro e u1 ⟨rfl,ka⟩
 have kb : Kept w u1:=((Kept.refl w).drew).trans ka
 obtain ⟨d0,d1,d2⟩:=HRm.out _ kb
 refine hK9.out _ _ ⟨kb,d0,d1⟩ (fun hHeld1 => ?_)
 clear hK9 K9 hHeld1 hHeld hd z1 a0 a1 a2 ka d0 d1 d2
 refine wpAnyH_done (by kernel_rfl) ?_ _
 go_wp2_with fail
 go_loopw [7,29] (fun nv iv wr => ∃ i : Nat,i ≤ k ∧ nv = .int .i64 (f i) ∧ iv = .int .i64 (i : Int) ∧ Kept w wr) (fun _ iv _ => k - (intOf iv).toNat)
 case atStart => exact ⟨0,Nat.zero_le _,by rw [hz],rfl,kb⟩
 case round =>
  obtain ⟨i,hi,rfl,rfl,kr⟩:=hrel
  obtain ⟨hle,hsm,hk1,hk⟩:=HLE.out
  by_cases hik : i < k
  ·obtain ⟨a0,a1,a2⟩:=HRm.out wr kr
   obtain ⟨p,hp⟩ : ∃ p,q + i = p:=⟨_,rfl⟩
   have c3:=HB.out wr p (by omega) kr
   have hx:=HD.out p (by omega)
   have z0 : IntKind.i64.wrap ((q : Int) + (i : Int)) = (p : Int):=by rw [wrap_i64]; omega
   have hbd : (0 : Int) ≤ (p : Int) ∧ (p : Int) < (m : Int):=by omega
   have z2 : IntKind.i64.wrap ((i : Int) + 1) = (i : Int) + 1:=by rw [wrap_i64]; omega
   obtain ⟨s8,hs8⟩ : ∃ s8 : Int,s8 = 8 * (i : Int):=⟨_,rfl⟩
   have z3 : IntKind.i64.wrap (8 * (i : Int)) = s8:=by rw [wrap_i64]; omega
   obtain ⟨y,hy⟩ : ∃ y,IntKind.i64.wrap (h p * 2 ^ (8 * i)) = y:=⟨_,rfl⟩
   have z4 : Op.shift .shl .i64 (h p) .i64 s8 = pure (.int .i64 y):=by
    rw [shift_shl_any .i64 .i64 (h p) s8 (by omega),hs8,show (8 * (i : Int)).toNat = 8 * i by omega,Nat.min_eq_left (by show 8 * i ≤ 64; omega),hy]
   have z5 : bits .or .i64 (f i) y = f (i + 1):=by
    have:=HO.out i (by omega)
    rw [hp,hy] at this
    exact this
   have z6 : IntKind.i64.wrap (h p) = h p:=by rw [wrap_i64]; omega
   have HI : Hid (i < k ∧ hk1 = hk1):=⟨hik,rfl⟩
   have hik2 : ((i : Int) < (k : Int)):=by omega
   clear hle hsm hk hx hs8 hy hp
   generalize h p = x at *
   generalize f i = ni at *
   go_wp2_with fail
   refine wp_region_held_drew (S:=fun u => Kept w u ∧ u.cell? ⟨R,0,none⟩ = some (.slice (some ⟨b,off,none⟩) m cap) ∧ u.cell? ⟨R,1,none⟩ = some (.int .i64 (q : Int)) ∧ u.cell? ⟨b,off + p,none⟩ = some (.int .u8 x)) (by kernel_rfl) (⟨kr.drew,a0,a1,c3⟩) (fun hHeld => ?_)
   refine tk (i:=0) (v:=?_) rfl ?_
   simp only [Act.put,zA,zB,zC,zD,zE,zF]
   refine tk (i:=1) (v:=?_) rfl ?_
   simp only [Act.put,zA,zB,zC,zD,zE,zF]
   refine tk (i:=2) (v:=?_) rfl ?_
   simp only [Act.put,zA,zB,zC,zD,zE,zF]
   refine tk (i:=3) (v:=?_) rfl ?_
   simp only [Act.put,zA,zB,zC,zD,zE,zF]
   refine tk (i:=4) (v:=?_) rfl ?_
   simp only [Act.put,zA,zB,zC,zD,zE,zF]
   refine tk (i:=5) (v:=?_) rfl ?_
   simp only [Act.put,zA,zB,zC,zD,zE,zF]
   refine tk (i:=6) (v:=?_) rfl ?_
   simp only [Act.put,zA,zB,zC,zD,zE,zF]
   refine tk (i:=7) (v:=?_) rfl ?_
   simp only [Act.put,zA,zB,zC,zD,zE,zF]
   refine tk (i:=8) (v:=?_) rfl ?_
   simp only [Act.put,zA,zB,zC,zD,zE,zF]
   refine tk (i:=9) (v:=?_) rfl ?_
   simp only [Act.put,zA,zB,zC,zD,zE,zF]
   refine tk (i:=10) (v:=?_) rfl ?_
   simp only [Act.put,zA,zB,zC,zD,zE,zF]
   refine tk (i:=11) (v:=?_) rfl ?_
   simp only [Act.put,zA,zB,zC,zD,zE,zF]
   refine tk (i:=12) (v:=?_) rfl ?_
   simp only [Act.put,zA,zB,zC,zD,zE,zF]
   refine tk (i:=13) (v:=?_) rfl ?_
   simp only [Act.put,zA,zB,zC,zD,zE,zF]
   refine tk (i:=14) (v:=?_) rfl ?_
   simp only [Act.put,zA,zB,zC,zD,zE,zF]
   refine tk (i:=15) (v:=?_) rfl ?_
   simp only [Act.put,zA,zB,zC,zD,zE,zF]
   refine tk (i:=16) (v:=?_) rfl ?_
   simp only [Act.put,zA,zB,zC,zD,zE,zF]
   refine tk (i:=17) (v:=?_) rfl ?_
   simp only [Act.put,zA,zB,zC,zD,zE,zF]
   refine tk (i:=18) (v:=?_) rfl ?_
   simp only [Act.put,zA,zB,zC,zD,zE,zF]
   refine wpAnyH_done (by kernel_rfl) ?_ _
   go_wp2_with fail
   go_roundw
   case rel => exact ⟨i + 1,by omega,rfl,by go_num,kr.drew⟩
   case measure => simp [intOf]; omega
  ·obtain rfl : i = k:=by omega
   have hge : ¬ ((i : Int) < (i : Int)):=by omega
   obtain ⟨a0,a1,a2⟩:=HRm.out wr kr
   have HS : Hid (∀ u,Kept w u → u.cell? ⟨R,1,none⟩ = some (.int .i64 (q : Int))):=fun u kk => (HRm.out u kk).2.1
   have z0 : IntKind.i64.wrap ((q : Int) + (i : Int)) = ((q + i : Nat) : Int):=by rw [wrap_i64]; omega
   clear hle hsm hk
   go_wp2_with fail
   refine wp_region_held_drew (S:=fun u => Kept w u ∧ u.cell? ⟨R,1,none⟩ = some (.int .i64 (q : Int))) (by kernel_rfl) (⟨kr.drew,a1⟩) (fun hHeld => ?_)
   refine tk (i:=0) (v:=?_) rfl ?_
   simp only [Act.put,zA,zB,zC,zD,zE,zF]
   refine tk (i:=1) (v:=?_) rfl ?_
   simp only [Act.put,zA,zB,zC,zD,zE,zF]
   refine tk (i:=3) (v:=?_) rfl ?_
   simp only [Act.put,zA,zB,zC,zD,zE,zF]
   refine tk (i:=4) (v:=?_) rfl ?_
   simp only [Act.put,zA,zB,zC,zD,zE,zF]
   refine tk (i:=5) (v:=?_) rfl ?_
   simp only [Act.put,zA,zB,zC,zD,zE,zF]
   refine tk (i:=6) (v:=?_) rfl ?_
   simp only [Act.put,zA,zB,zC,zD,zE,zF]
   refine tk (i:=7) (v:=?_) rfl ?_
   simp only [Act.put,zA,zB,zC,zD,zE,zF]
   refine wpAnyH_ready (rs:=[2]) (by kernel_rfl) (by simp) ?_
   refine AllReadyH.cons rfl (fun K9 hK9 => ?_) AllReadyH.nil
   go_simp
   go_wp2_with fail
   refine (HC2.out _ kr.drew).mono ?_
   rintro e u3 ⟨rfl,k3⟩
   have k4 : Kept w u3:=kr.drew.trans k3
   refine hK9.out _ _ ⟨k4,HS.out _ k4⟩ (fun hHeld3 => ?_)
   clear hK9 K9
   refine wpAnyH_ready (rs:=[8]) (by kernel_rfl) (by simp) ?_
   refine AllReadyH.cons rfl (fun K9 hK9 => ?_) AllReadyH.nil
   go_simp
   go_wp2_with fail
   refine (want_no _ _ _).mono ?_
   rintro e u9 ⟨rfl,k9⟩
   exact ⟨rfl,rfl,k4.trans k9⟩
theorem number_ok0 (k q cap R K : Nat) (ao : Option Addr) (B : List Int) (hk1 : 1 ≤ k) (hk : k ≤ 8) (w : World) (hR : RV w R ao B cap q) (hle : q + k ≤ B.length) (hB : Byt B)
  (hcall : ∀ (x : Int) (wx : World),(callFunc K #[.int .i64 x]).run Try.prog wx = .ok (.enter K #[.int .i64 x]) wx)
  (HC : ∀ u,Kept w u → Calls Try.prog K #[.int .i64 (numv k B q)] u fun e w' => e = .returned (.bool true) ∧ Kept u w') :
  Calls Try.prog 49 #[.pointer (some ⟨R,0,none⟩),.int .i64 (k : Int),.func (.func K) #[] #[]] w fun e w' => e = .returned (.int .i64 (numv k B q)) ∧ Grw R w w' ∧ RV w' R ao B cap (q + k):=by
 have hne : B ≠ []:=by intro h; subst h; simp at hle; omega
 obtain ⟨b,off,rfl,hbR,hrd⟩:=hR.bd hne
 have hb:=Nat.lt_trans hbR hR.lt
 have hsm:=hR.sm
 have HR : Hid (∀ u,Kept w u → RV u R (some ⟨b,off,none⟩) B cap q):=fun u k => hR.kept k
 have HB : Hid (∀ u i,i < B.length → Kept w u → u.cell? ⟨b,off + i,none⟩ = some (.int .u8 (B.getD i 0))):=fun u i hi kk => (kk.below.cell (p:=⟨b,off + i,none⟩) hb).trans (hrd i hi)
 have HD : Hid (∀ i,i < B.length → 0 ≤ B.getD i 0 ∧ B.getD i 0 < 256):=fun i _ => hB.at i
 have HO : Hid (∀ i,i ≤ 7 → bits .or .i64 (numv i B q) (IntKind.i64.wrap (B.getD (q + i) 0 * 2 ^ (8 * i))) = numv (i + 1) B q):=fun i hi => or_num i hi B q hB
 have HC2 : Hid (∀ u,Kept w u → Calls Try.prog K #[.int .i64 (numv k B q)] u fun e w' => e = .returned (.bool true) ∧ Kept u w'):=HC
 have hz : numv 0 B q = 0:=by unfold numv un; rw [wrap_i64]; rfl
 have HQ : Hid (∃ f : Nat → Int,∃ h : Nat → Int,(∀ i,numv i B q = f i) ∧ ∀ i,B.getD i 0 = h i):=⟨_,_,fun _ => rfl,fun _ => rfl⟩
 obtain ⟨f,h,hf,hh⟩:=HQ.out
 simp only [hf,hh] at HB HD HO HC2 hz
 obtain ⟨m,hm⟩ : ∃ m,B.length = m:=⟨_,rfl⟩
 have HRm : Hid (∀ u,Kept w u → u.cell? ⟨R,0,none⟩ = some (.slice (some ⟨b,off,none⟩) m cap) ∧ u.cell? ⟨R,1,none⟩ = some (.int .i64 (q : Int)) ∧ u.frozen? ⟨R,1,none⟩ = false):=fun u kk => by
  have:=HR.out u kk
  rw [← hm]
  exact ⟨this.c0,this.c1,this.fz⟩
 rw [hm] at HB HD hsm hle
 have HRf : Hid (RV w R (some ⟨b,off,none⟩) B cap q ∧ B.length = m):=⟨hR,hm⟩
 have HHf : Hid (numv k B q = f k):=hf k
 clear hR HR hrd hB HC hf hh HQ hne hm hb
 obtain ⟨a0,a1,a2⟩:=HRm.out w (Kept.refl w)
 have z1 : IntKind.i64.wrap ((m : Int) - (q : Int)) = (m : Int) - (q : Int):=by rw [wrap_i64]; omega
 have hd : decide ((k : Int) ≤ (m : Int) - (q : Int)) = true:=decide_eq_true (by omega)
 have HLE : Hid (q + k ≤ m ∧ m ≤ 16777216 ∧ 1 ≤ k ∧ k ≤ 8):=⟨hle,hsm,hk1,hk⟩
 clear hle hsm hk1 hk
 go_enter Try.func49,Try.ntmps49
 go_wp2_with fail
 refine wp_region_held_drew (S:=fun u => Kept w u ∧ u.cell? ⟨R,0,none⟩ = some (.slice (some ⟨b,off,none⟩) m cap) ∧ u.cell? ⟨R,1,none⟩ = some (.int .i64 (q : Int))) (by kernel_rfl) (⟨(Kept.refl w).drew,a0,a1⟩) (fun hHeld => ?_)
 refine tk (i:=0) (v:=?_) rfl ?_
 simp only [Act.put,zA,zB,zC,zD,zE,zF]
 refine tk (i:=1) (v:=?_) rfl ?_
 simp only [Act.put,zA,zB,zC,zD,zE,zF]
 refine tk (i:=2) (v:=?_) rfl ?_
 simp only [Act.put,zA,zB,zC,zD,zE,zF]
 refine tk (i:=3) (v:=?_) rfl ?_
 simp only [Act.put,zA,zB,zC,zD,zE,zF]
 refine tk (i:=4) (v:=?_) rfl ?_
 simp only [Act.put,zA,zB,zC,zD,zE,zF]
 refine tk (i:=5) (v:=?_) rfl ?_
 simp only [Act.put,zA,zB,zC,zD,zE,zF]
 refine tk (i:=6) (v:=?_) rfl ?_
 simp only [Act.put,zA,zB,zC,zD,zE,zF]
 refine tk (i:=7) (v:=?_) rfl ?_
 simp only [Act.put,zA,zB,zC,zD,zE,zF]
 refine tk (i:=8) (v:=?_) rfl ?_
 simp only [Act.put,zA,zB,zC,zD,zE,zF]
 refine tk (i:=9) (v:=?_) rfl ?_
 simp only [Act.put,zA,zB,zC,zD,zE,zF]
 refine tk (i:=10) (v:=?_) rfl ?_
 simp only [Act.put,zA,zB,zC,zD,zE,zF]
 refine tk (i:=11) (v:=?_) rfl ?_
 simp only [Act.put,zA,zB,zC,zD,zE,zF]
 refine tk (i:=12) (v:=?_) rfl ?_
 simp only [Act.put,zA,zB,zC,zD,zE,zF]
 refine tk (i:=13) (v:=?_) rfl ?_
 simp only [Act.put,zA,zB,zC,zD,zE,zF]
 refine tk (i:=14) (v:=?_) rfl ?_
 simp only [Act.put,zA,zB,zC,zD,zE,zF]
 refine tk (i:=15) (v:=?_) rfl ?_
 simp only [Act.put,zA,zB,zC,zD,zE,zF]
 refine tk (i:=16) (v:=?_) rfl ?_
 simp only [Act.put,zA,zB,zC,zD,zE,zF]
 refine tk (i:=17) (v:=?_) rfl ?_
 simp only [Act.put,zA,zB,zC,zD,zE,zF]
 refine wpAnyH_ready (rs:=[18]) (by kernel_rfl) (by simp) ?_
 refine AllReadyH.cons rfl (fun K9 hK9 => ?_) AllReadyH.nil
 go_simp
 go_wp2_with fail
 refine (want_ok _ _ _).mono ?_
 rintro e u1 ⟨rfl,ka⟩
 have kb : Kept w u1:=((Kept.refl w).drew).trans ka
 obtain ⟨d0,d1,d2⟩:=HRm.out _ kb
 refine hK9.out _ _ ⟨kb,d0,d1⟩ (fun hHeld1 => ?_)
 clear hK9 K9 hHeld1 hHeld hd z1 a0 a1 a2 ka d0 d1 d2
 refine wpAnyH_done (by kernel_rfl) ?_ _
 go_wp2_with fail
 go_loopw [7,29] (fun nv iv wr => ∃ i : Nat,i ≤ k ∧ nv = .int .i64 (f i) ∧ iv = .int .i64 (i : Int) ∧ Kept w wr) (fun _ iv _ => k - (intOf iv).toNat)
 case atStart => exact ⟨0,Nat.zero_le _,by rw [hz],rfl,kb⟩
 case round =>
  obtain ⟨i,hi,rfl,rfl,kr⟩:=hrel
  obtain ⟨hle,hsm,hk1,hk⟩:=HLE.out
  by_cases hik : i < k
  ·obtain ⟨a0,a1,a2⟩:=HRm.out wr kr
   obtain ⟨p,hp⟩ : ∃ p,q + i = p:=⟨_,rfl⟩
   have c3:=HB.out wr p (by omega) kr
   have hx:=HD.out p (by omega)
   have z0 : IntKind.i64.wrap ((q : Int) + (i : Int)) = (p : Int):=by rw [wrap_i64]; omega
   have hbd : (0 : Int) ≤ (p : Int) ∧ (p : Int) < (m : Int):=by omega
   have z2 : IntKind.i64.wrap ((i : Int) + 1) = (i : Int) + 1:=by rw [wrap_i64]; omega
   obtain ⟨s8,hs8⟩ : ∃ s8 : Int,s8 = 8 * (i : Int):=⟨_,rfl⟩
   have z3 : IntKind.i64.wrap (8 * (i : Int)) = s8:=by rw [wrap_i64]; omega
   obtain ⟨y,hy⟩ : ∃ y,IntKind.i64.wrap (h p * 2 ^ (8 * i)) = y:=⟨_,rfl⟩
   have z4 : Op.shift .shl .i64 (h p) .i64 s8 = pure (.int .i64 y):=by
    rw [shift_shl_any .i64 .i64 (h p) s8 (by omega),hs8,show (8 * (i : Int)).toNat = 8 * i by omega,Nat.min_eq_left (by show 8 * i ≤ 64; omega),hy]
   have z5 : bits .or .i64 (f i) y = f (i + 1):=by
    have:=HO.out i (by omega)
    rw [hp,hy] at this
    exact this
   have z6 : IntKind.i64.wrap (h p) = h p:=by rw [wrap_i64]; omega
   have HI : Hid (i < k ∧ hk1 = hk1):=⟨hik,rfl⟩
   have hik2 : ((i : Int) < (k : Int)):=by omega
   clear hle hsm hk hx hs8 hy hp
   generalize h p = x at *
   generalize f i = ni at *
   go_wp2_with fail
   refine wp_region_held_drew (S:=fun u => Kept w u ∧ u.cell? ⟨R,0,none⟩ = some (.slice (some ⟨b,off,none⟩) m cap) ∧ u.cell? ⟨R,1,none⟩ = some (.int .i64 (q : Int)) ∧ u.cell? ⟨b,off + p,none⟩ = some (.int .u8 x)) (by kernel_rfl) (⟨kr.drew,a0,a1,c3⟩) (fun hHeld => ?_)
   refine tk (i:=0) (v:=?_) rfl ?_
   simp only [Act.put,zA,zB,zC,zD,zE,zF]
   refine tk (i:=1) (v:=?_) rfl ?_
   simp only [Act.put,zA,zB,zC,zD,zE,zF]
   refine tk (i:=2) (v:=?_) rfl ?_
   simp only [Act.put,zA,zB,zC,zD,zE,zF]
   refine tk (i:=3) (v:=?_) rfl ?_
   simp only [Act.put,zA,zB,zC,zD,zE,zF]
   refine tk (i:=4) (v:=?_) rfl ?_
   simp only [Act.put,zA,zB,zC,zD,zE,zF]
   refine tk (i:=5) (v:=?_) rfl ?_
   simp only [Act.put,zA,zB,zC,zD,zE,zF]
   refine tk (i:=6) (v:=?_) rfl ?_
   simp only [Act.put,zA,zB,zC,zD,zE,zF]
   refine tk (i:=7) (v:=?_) rfl ?_
   simp only [Act.put,zA,zB,zC,zD,zE,zF]
   refine tk (i:=8) (v:=?_) rfl ?_
   simp only [Act.put,zA,zB,zC,zD,zE,zF]
   refine tk (i:=9) (v:=?_) rfl ?_
   simp only [Act.put,zA,zB,zC,zD,zE,zF]
   refine tk (i:=10) (v:=?_) rfl ?_
   simp only [Act.put,zA,zB,zC,zD,zE,zF]
   refine tk (i:=11) (v:=?_) rfl ?_
   simp only [Act.put,zA,zB,zC,zD,zE,zF]
   refine tk (i:=12) (v:=?_) rfl ?_
   simp only [Act.put,zA,zB,zC,zD,zE,zF]
   refine tk (i:=13) (v:=?_) rfl ?_
   simp only [Act.put,zA,zB,zC,zD,zE,zF]
   refine tk (i:=14) (v:=?_) rfl ?_
   simp only [Act.put,zA,zB,zC,zD,zE,zF]
   refine tk (i:=15) (v:=?_) rfl ?_
   simp only [Act.put,zA,zB,zC,zD,zE,zF]
   refine tk (i:=16) (v:=?_) rfl ?_
   simp only [Act.put,zA,zB,zC,zD,zE,zF]
   refine tk (i:=17) (v:=?_) rfl ?_
   simp only [Act.put,zA,zB,zC,zD,zE,zF]
   refine tk (i:=18) (v:=?_) rfl ?_
   simp only [Act.put,zA,zB,zC,zD,zE,zF]
   refine wpAnyH_done (by kernel_rfl) ?_ _
   go_wp2_with fail
   go_roundw
   case rel => exact ⟨i + 1,by omega,rfl,by go_num,kr.drew⟩
   case measure => simp [intOf]; omega
  ·obtain rfl : i = k:=by omega
   have hge : ¬ ((i : Int) < (i : Int)):=by omega
   obtain ⟨a0,a1,a2⟩:=HRm.out wr kr
   have HS : Hid (∀ u,Kept w u → u.cell? ⟨R,1,none⟩ = some (.int .i64 (q : Int))):=fun u kk => (HRm.out u kk).2.1
   have z0 : IntKind.i64.wrap ((q : Int) + (i : Int)) = ((q + i : Nat) : Int):=by rw [wrap_i64]; omega
   clear hle hsm hk
   go_wp2_with fail
   refine wp_region_held_drew (S:=fun u => Kept w u ∧ u.cell? ⟨R,1,none⟩ = some (.int .i64 (q : Int))) (by kernel_rfl) (⟨kr.drew,a1⟩) (fun hHeld => ?_)
   refine tk (i:=0) (v:=?_) rfl ?_
   simp only [Act.put,zA,zB,zC,zD,zE,zF]
   refine tk (i:=1) (v:=?_) rfl ?_
   simp only [Act.put,zA,zB,zC,zD,zE,zF]
   refine tk (i:=3) (v:=?_) rfl ?_
   simp only [Act.put,zA,zB,zC,zD,zE,zF]
   refine tk (i:=4) (v:=?_) rfl ?_
   simp only [Act.put,zA,zB,zC,zD,zE,zF]
   refine tk (i:=5) (v:=?_) rfl ?_
   simp only [Act.put,zA,zB,zC,zD,zE,zF]
   refine tk (i:=6) (v:=?_) rfl ?_
   simp only [Act.put,zA,zB,zC,zD,zE,zF]
   refine tk (i:=7) (v:=?_) rfl ?_
   simp only [Act.put,zA,zB,zC,zD,zE,zF]
   refine wpAnyH_ready (rs:=[2]) (by kernel_rfl) (by simp) ?_
   refine AllReadyH.cons rfl (fun K9 hK9 => ?_) AllReadyH.nil
   go_simp
   go_wp2_with fail
   refine (HC2.out _ kr.drew).mono ?_
   rintro e u3 ⟨rfl,k3⟩
   have k4 : Kept w u3:=kr.drew.trans k3
   refine hK9.out _ _ ⟨k4,HS.out _ k4⟩ (fun hHeld3 => ?_)
   clear hK9 K9
   refine wpAnyH_ready (rs:=[8]) (by kernel_rfl) (by simp) ?_
   refine AllReadyH.cons rfl (fun K9 hK9 => ?_) AllReadyH.nil
   go_simp
   go_wp2_with fail
   refine (want_ok _ _ _).mono ?_
   rintro e u9 ⟨rfl,k9⟩
   have k5 : Kept w u9:=k4.trans k9
   refine hK9.out _ _ ⟨k5,HS.out _ k5⟩ (fun hHeld9 => ?_)
   clear hK9 K9
   refine wpAnyH_done (by kernel_rfl) ?_ _
   obtain ⟨e0,e1,e2⟩:=HRm.out _ k5
   go_wp2_with fail
   go_ret
   obtain ⟨hRV,hml⟩:=HRf.out
   obtain ⟨h1,h2,-,-⟩:=HLE.out
   refine ⟨by rw [HHf.out]; rfl,(k5.toGrw R).setCell 1 _,(hRV.kept k5).set _ (by omega)⟩
end Go.Proofs.Ytocjfdiimapojaa
