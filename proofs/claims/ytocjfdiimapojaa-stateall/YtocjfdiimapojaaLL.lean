/- The laws' reads: bytes that were lent are read,by the program and by the document; what was read is kept. -/
import Derived.Test.YtocjfdiimapojaaLE0
import Derived.Test.YtocjfdiimapojaaLJ
namespace Go.Proofs.Ytocjfdiimapojaa
open Go.ChangeShapes Go.WideShapes Go.ChangeAt Go.RowKit
set_option maxHeartbeats 16000000
set_option maxRecDepth 100000
set_option linter.unusedVariables false
set_option linter.unusedSimpArgs false
theorem reads_many (kb : Nat) (r0 r1 kv sv : Value) (n : Nat) (V1 V2 : List Value) (ao : Option Addr) (cap : Nat) (B : List Int) (hB : Byt B) (hlen : B.length ≤ 400000) (hlc : B.length ≤ cap) (u : World) (hS : B ≠ [] → ∃ b off,ao = some ⟨b,off,none⟩ ∧ b < u.heap.size ∧ BR u b off B)
  (hk : Bk u kb [r0,r1,kv,sv]) (h1 : MS 7 35 0 u kv n V1) (h2 : MS 7 35 0 u sv n V2) (hn : n ≤ 900) (hk1 : ¬ bkv kv kb) (hk2 : ¬ bkv sv kb) (hks : ∀ b,bkv kv b → ¬ bkv sv b) :
  Calls Try.prog 6 #[.slice ao B.length cap,.pointer (some ⟨kb,0,none⟩)] u fun e w' => e = .returned (.bool true) ∧ KX (fun b => b = kb ∨ bkv kv b ∨ bkv sv b) u w' ∧ ∃ kv' sv' x y HB HF,Bk w' kb [r0,r1,kv',sv'] ∧ MS 7 35 0 w' kv' (n + 1) (V1 ++ row7 x) ∧ MS 7 35 0 w' sv' (n + 1) (V2 ++ row7 y) ∧ u.heap.size ≤ HB ∧ HB ≤ HF ∧ HF ≤ w'.heap.size ∧ KRd u.heap.size HB w' x ∧ KBt u.heap.size HB w' x ∧ KRd HB HF w' y ∧ x.s = y.s ∧ (∀ (w2 : World) (X : Nat → Prop),KX X w' w2 → (∀ b,u.heap.size ≤ b → b < HB → ¬ X b) → StI w2 x.val x.s) ∧ (∀ (w2 : World) (X : Nat → Prop),KX X w' w2 → (∀ b,HB ≤ b → b < HF → ¬ X b) → StI w2 y.val y.s) ∧ (∀ b,bkv kv' b → bkv kv b ∨ HF ≤ b) ∧ (∀ b,bkv sv' b → bkv sv b ∨ HF ≤ b) ∧ (∀ b,bkv kv' b → ¬ bkv sv' b):=by
 have hkl:=hk.lt
 have hkvl : ∀ b,bkv kv b → b < u.heap.size:=fun b hb => (ms_bk h1 b hb).2
 have hsvl : ∀ b,bkv sv b → b < u.heap.size:=fun b hb => (ms_bk h2 b hb).2
 obtain ⟨m,hm⟩ : ∃ m,B.length = m:=⟨_,rfl⟩
 obtain ⟨H,hH⟩ : ∃ H,u.heap.size = H:=⟨_,rfl⟩
 have hl5 : B.length < 500000:=by omega
 obtain ⟨v1,w1,hr1,k1,hb1⟩:=bapp_nil B (by omega) ao cap u (fun hne => by
  obtain ⟨b,off,e,h,r⟩:=hS hne
  exact ⟨b,off,e,h,r⟩)
 rw [hH] at hb1
 have hH1 : H ≤ w1.heap.size:=by have:=k1.below.size; omega
 obtain ⟨g,C,w2,hr2,hg,hC,ho2,kx2⟩:=bapp_two H w1 v1 B hb1 hH1 hl5 7 8
 have k2 : Kept u w2:=(kept_of_kx k1 kx2 (fun b hb => by omega))
 have hg2 : g < w2.heap.size:=ho2.lt
 have hbr2 : ∀ w,Kept w2 w → BR w g 0 (B ++ [7,8]):=fun w k j hj => by
  rw [Nat.zero_add]
  refine (ho2.kept k).cell j _ ?_
  rw [List.getElem?_map,List.getElem?_eq_getElem hj,List.getD_eq_getElem?_getD,List.getElem?_eq_getElem hj]
  rfl
 have hbr3 : ∀ w,Kept w2 w → BR w g 0 B:=fun w k j hj => by
  have h:=hbr2 w k j (by rw [List.length_append]; omega)
  rw [h,List.getD_eq_getElem?_getD,List.getD_eq_getElem?_getD,List.getElem?_append_left hj]
 have hRd:=read_any (some ⟨g,0,none⟩) C B hB (by omega) w2 (fun _ => ⟨g,0,rfl,hg2,hbr3 w2 (Kept.refl _)⟩)
 have hSm : ∀ w,Kept w2 w → Calls Try.prog 15 #[.slice (some ⟨g,0,none⟩) B.length C] w fun e w' => e = .returned (.int .i64 (sumB B)) ∧ Kept w w':=fun w k => sum_any (some ⟨g,0,none⟩) C B hB (by omega) w (fun _ => ⟨g,0,rfl,Nat.lt_of_lt_of_le hg2 k.below.size,hbr3 w k⟩)
 have hSu : ∀ w,Kept u w → B ≠ [] → ∃ b off,ao = some ⟨b,off,none⟩ ∧ b < w.heap.size ∧ BR w b off B:=fun w k hne => by
  obtain ⟨b,off,e,h,r⟩:=hS hne
  exact ⟨b,off,e,Nat.lt_of_lt_of_le h k.below.size,fun i hi => (k.below.cell (p:=⟨b,off + i,none⟩) h).trans (r i hi)⟩
 have hRr : ∀ w,Kept u w → Calls Try.prog 16 #[.slice ao B.length cap] w fun e w' => Kept w w' ∧ RdD w.heap.size (rread B) e w':=fun w k => rrread ao cap B hB hlc w (hSu w k)
 have hSr : ∀ w,Kept u w → Calls Try.prog 17 #[.slice ao B.length cap] w fun e w' => e = .returned (.int .i64 (sumB B)) ∧ Kept w w':=fun w k => rsum_any _ B hB (by omega) w ⟨ao,cap,rfl,hSu w k⟩
 obtain ⟨S1,hS1⟩ : ∃ S,SB B = S:=⟨_,rfl⟩
 obtain ⟨S2,hS2⟩ : ∃ S,SB (B ++ [7,8]) = S:=⟨_,rfl⟩
 have hB2 : Byt (B ++ [7,8]):=hB.app (fun i hi => by
  match i,hi with
  | 0,_ => exact ⟨by decide,by decide⟩
  | 1,_ => exact ⟨by decide,by decide⟩)
 have hSt1 : ∀ w,Kept u w → (convert 22 9 (.slice ao B.length cap)).run Try.prog w = .ok (.string S1) w:=fun w k => by
  rw [← hS1]
  refine str_any B hB ao cap w fun hne => ?_
  obtain ⟨b,off,e,-,r⟩:=hSu w k hne
  exact ⟨b,off,e,r⟩
 have hSt2 : ∀ w,Kept w2 w → (convert 22 9 (.slice (some ⟨g,0,none⟩) (B.length + 2) C)).run Try.prog w = .ok (.string S2) w:=fun w k => by
  have:=str_run (B ++ [7,8]) hB2 g 0 C w (hbr2 w k)
  rw [List.length_append] at this
  rw [← hS2]
  exact this
 have hAdd : S1.size = m ∧ S1 ++ (⟨#[7,8]⟩ : ByteArray) = S2:=by
  rw [← hS1,← hS2]
  exact ⟨(sb_size B).trans hm,sb_two B⟩
 have heq : ∀ (w : World),(binOp .neq 9 (.string S2) (.string S2)).run Try.prog w = .ok (.bool false) w:=fun w => by
  rw [binOp_string_neq]
  simp [Sem.run_pure]
 have hSL:=rSt_len hB
 obtain ⟨sm,hsm⟩ : ∃ s,sumB B = s:=⟨_,rfl⟩
 have hRdK:=fun (e : Ending) (w : World) (h : RdR w2.heap.size (rread B) e w) (hH : w2.heap.size ≤ w.heap.size) => h.ke2 hB hH
 have hRrK:=fun (Hy : Nat) (e : Ending) (w : World) (h : RdD Hy (rread B) e w) => h.ke2 hB
 obtain ⟨St,hSt⟩ : ∃ s,rSt (rread B) = s:=⟨_,rfl⟩
 obtain ⟨Er,hEr⟩ : ∃ s,rEr (rread B) = s:=⟨_,rfl⟩
 obtain ⟨Pl,hPl⟩ : ∃ s,rPl (rread B) = s:=⟨_,rfl⟩
 rw [hSt] at hSL
 simp only [hSt,hEr,hPl] at hRdK hRrK
 rw [hsm] at hSm hSr
 rw [hm] at hRd hSm hRr hSr hSt1 hSt2 hr1 hr2 hC
 have HRd:=hid hRd
 have HSm:=hid hSm
 have HRr:=hid hRr
 have HSr:=hid hSr
 have HSt1:=hid hSt1
 have HSt2:=hid hSt2
 have HAdd:=hid hAdd
 have Heq:=hid heq
 have HR1:=hid hr1
 have HR2:=hid hr2
 have HSL:=hid hSL
 have HRdK:=hid hRdK
 have HRrK:=hid hRrK
 have K2:=hid k2
 have HK:=hid hk
 have HM1:=hid h1
 have HM2:=hid h2
 have HG:=hid (show H ≤ g ∧ g < w2.heap.size ∧ m + 2 ≤ C ∧ kb < H ∧ m ≤ 400000 ∧ u.heap.size = H ∧ n ≤ 900 from ⟨hg,hg2,hC,by omega,by omega,hH,hn⟩)
 have HO2:=hid (show OwnV w2 g C 5 ((B ++ [7,8]).map (Value.int .u8)) ∧ ((B ++ [7,8]).map (Value.int .u8)).length = m + 2 from ⟨ho2,by rw [List.length_map,List.length_append,hm]; rfl⟩)
 have HBl:=hid (show (∀ b,bkv kv b → b < H) ∧ (∀ b,bkv sv b → b < H) ∧ ¬ bkv kv kb ∧ ¬ bkv sv kb ∧ (∀ b,bkv kv b → ¬ bkv sv b) from ⟨fun b hb => by have:=hkvl b hb; omega,fun b hb => by have:=hsvl b hb; omega,hk1,hk2,hks⟩)
 have hmc : (m : Int) ≤ (C : Int) ∧ (0 : Int) ≤ (m : Int):=by omega
 have hmc2 : m ≤ C:=by omega
 rw [hm,hH]
 clear hRd hSm hRr hSr hSt1 hSt2 hAdd heq hr1 hr2 hSL hRdK hRrK k1 hb1 kx2 k2 hk h1 h2 hkl hkvl hsvl hg hg2 hC ho2 hbr2 hbr3 hS hB hB2 hlen hlc hl5 hH1 hn hk1 hk2 hks hSu hS1 hS2 hSt hEr hPl hsm hm
 go_enter Try.func6,Try.ntmps6
 go_wp2_with (first | (at_builtin; refine wpList_append_run rfl _ _ _ rfl _ _ rfl rfl _ _ (HR1.out _) ?_; clear HR1) | (at_builtin; refine wpList_append_run rfl _ _ _ rfl _ _ rfl rfl _ _ (HR2.out _) ?_; clear HR2))
 go_at_call 12
 refine HRd.out.mono ?_
 rintro e w3 ⟨k3,hrd⟩
 obtain ⟨x,hxe,hxs,xR,xB,xT⟩:=HRdK.out e w3 hrd k3.below.size
 obtain ⟨xpa,xpc,hpa⟩:=xR.ok.p.form
 obtain ⟨xqa,xqc,hqa⟩:=xR.ok.q.form
 have hrow : row7 x = [.int .i64 x.s.a,.int .i64 x.s.b,.int .i64 x.s.d,.slice xpa x.s.P.length xpc,.slice xqa x.s.Q.length xqc,.int .i64 x.s.lo,.int .i64 x.s.ra]:=by unfold row7; rw [hpa,hqa]
 have hval : x.val = .agg #[.int .i64 x.s.a,.int .i64 x.s.b,.int .i64 x.s.d,.slice xpa x.s.P.length xpc,.slice xqa x.s.Q.length xqc,.int .i64 x.s.lo,.int .i64 x.s.ra]:=by unfold KE.val; rw [hpa,hqa]
 rw [hval] at hxe
 obtain ⟨xa,h9⟩ : ∃ z,x.s.a = z:=⟨_,rfl⟩
 rw [h9] at hrow hval hxe
 clear h9
 obtain ⟨xb,h9⟩ : ∃ z,x.s.b = z:=⟨_,rfl⟩
 rw [h9] at hrow hval hxe
 clear h9
 obtain ⟨xd,h9⟩ : ∃ z,x.s.d = z:=⟨_,rfl⟩
 rw [h9] at hrow hval hxe
 clear h9
 obtain ⟨xlo,h9⟩ : ∃ z,x.s.lo = z:=⟨_,rfl⟩
 rw [h9] at hrow hval hxe
 clear h9
 obtain ⟨xra,h9⟩ : ∃ z,x.s.ra = z:=⟨_,rfl⟩
 rw [h9] at hrow hval hxe
 clear h9
 obtain ⟨xpn,h9⟩ : ∃ z,x.s.P.length = z:=⟨_,rfl⟩
 rw [h9] at hrow hval hxe
 clear h9
 obtain ⟨xqn,h9⟩ : ∃ z,x.s.Q.length = z:=⟨_,rfl⟩
 rw [h9] at hrow hval hxe
 clear h9
 subst hxe
 clear hpa hqa
 obtain ⟨T6,hT6⟩ : ∃ T,w3.heap.size = T:=⟨_,rfl⟩
 obtain ⟨W4,hW6⟩ : ∃ W,w3.alloc (.cells #[.int .i64 xa,.int .i64 xb,.int .i64 xd,.slice xpa xpn xpc,.slice xqa xqn xqc,.int .i64 xlo,.int .i64 xra] 35) = W:=⟨_,rfl⟩
 have hbk6 : Bk W4 T6 [.int .i64 xa,.int .i64 xb,.int .i64 xd,.slice xpa xpn xpc,.slice xqa xqn xqc,.int .i64 xlo,.int .i64 xra] ∧ Kept w3 W4:=by
  rw [← hW6,← hT6]
  exact ⟨Bk.new w3 [.int .i64 xa,.int .i64 xb,.int .i64 xd,.slice xpa xpn xpc,.slice xqa xqn xqc,.int .i64 xlo,.int .i64 xra] 35,(Kept.refl w3).alloc _ _⟩
 have hxv:=hval
 have hxw:=hrow
 clear hval hrow
 have HXS:=hid hxs
 have HXR:=hid xR
 have HXB:=hid xB
 have HXT:=hid xT
 have HXV:=hid hxv
 have HXW:=hid hxw
 have HT6:=hid (show w2.heap.size ≤ T6 ∧ w3.heap.size = T6 from ⟨by have:=k3.below.size; omega,hT6⟩)
 have K23:=hid k3
 have K4:=hid (k3.trans hbk6.2)
 have K34:=hid hbk6.2
 have HB6:=hid hbk6.1
 clear hrd k3 hxs xR xB xT hxv hxw hbk6
 go_wp2_with fail
 (try rw [hW6])
 clear hW6 hT6
 go_at_call 15
 refine (HSm.out _ K4.out).mono ?_
 rintro e w5 ⟨rfl,k5⟩
 have K5:=hid (K2.out.trans (K4.out.trans k5))
 have K35:=hid (K34.out.trans k5)
 have HB65:=hid (HB6.out.kept k5)
 clear k5 K4 K34 HB6 HSm
 go_wp2_with fail
 go_at_call 16
 refine (HRr.out _ K5.out).mono ?_
 rintro e w6 ⟨k6,hrr⟩
 obtain ⟨y,hxe,hys,yR,yT⟩:=HRrK.out w5.heap.size e w6 hrr
 obtain ⟨ypa,ypc,hpa⟩:=yR.ok.p.form
 obtain ⟨yqa,yqc,hqa⟩:=yR.ok.q.form
 have hrow : row7 y = [.int .i64 y.s.a,.int .i64 y.s.b,.int .i64 y.s.d,.slice ypa y.s.P.length ypc,.slice yqa y.s.Q.length yqc,.int .i64 y.s.lo,.int .i64 y.s.ra]:=by unfold row7; rw [hpa,hqa]
 have hval : y.val = .agg #[.int .i64 y.s.a,.int .i64 y.s.b,.int .i64 y.s.d,.slice ypa y.s.P.length ypc,.slice yqa y.s.Q.length yqc,.int .i64 y.s.lo,.int .i64 y.s.ra]:=by unfold KE.val; rw [hpa,hqa]
 rw [hval] at hxe
 obtain ⟨ya,h9⟩ : ∃ z,y.s.a = z:=⟨_,rfl⟩
 rw [h9] at hrow hval hxe
 clear h9
 obtain ⟨yb,h9⟩ : ∃ z,y.s.b = z:=⟨_,rfl⟩
 rw [h9] at hrow hval hxe
 clear h9
 obtain ⟨yd,h9⟩ : ∃ z,y.s.d = z:=⟨_,rfl⟩
 rw [h9] at hrow hval hxe
 clear h9
 obtain ⟨ylo,h9⟩ : ∃ z,y.s.lo = z:=⟨_,rfl⟩
 rw [h9] at hrow hval hxe
 clear h9
 obtain ⟨yra,h9⟩ : ∃ z,y.s.ra = z:=⟨_,rfl⟩
 rw [h9] at hrow hval hxe
 clear h9
 obtain ⟨ypn,h9⟩ : ∃ z,y.s.P.length = z:=⟨_,rfl⟩
 rw [h9] at hrow hval hxe
 clear h9
 obtain ⟨yqn,h9⟩ : ∃ z,y.s.Q.length = z:=⟨_,rfl⟩
 rw [h9] at hrow hval hxe
 clear h9
 subst hxe
 clear hpa hqa
 obtain ⟨T10,hT10⟩ : ∃ T,w6.heap.size = T:=⟨_,rfl⟩
 obtain ⟨W7,hW10⟩ : ∃ W,w6.alloc (.cells #[.int .i64 ya,.int .i64 yb,.int .i64 yd,.slice ypa ypn ypc,.slice yqa yqn yqc,.int .i64 ylo,.int .i64 yra] 35) = W:=⟨_,rfl⟩
 have hbk10 : Bk W7 T10 [.int .i64 ya,.int .i64 yb,.int .i64 yd,.slice ypa ypn ypc,.slice yqa yqn yqc,.int .i64 ylo,.int .i64 yra] ∧ Kept w6 W7:=by
  rw [← hW10,← hT10]
  exact ⟨Bk.new w6 [.int .i64 ya,.int .i64 yb,.int .i64 yd,.slice ypa ypn ypc,.slice yqa yqn yqc,.int .i64 ylo,.int .i64 yra] 35,(Kept.refl w6).alloc _ _⟩
 have hyv:=hval
 have hyw:=hrow
 clear hval hrow
 have HYS:=hid hys
 have HYR:=hid yR
 have HYT:=hid yT
 have HYV:=hid hyv
 have HYW:=hid hyw
 have HT10:=hid (show w5.heap.size ≤ T10 ∧ w6.heap.size = T10 ∧ T6 < w5.heap.size from ⟨by have:=k6.below.size; omega,hT10,HB65.out.lt⟩)
 have K37:=hid (K35.out.trans (k6.trans hbk10.2))
 have K67:=hid hbk10.2
 have K7:=hid (K5.out.trans (k6.trans hbk10.2))
 have HB67:=hid (HB65.out.kept (k6.trans hbk10.2))
 have HB10:=hid hbk10.1
 have HSame : Hid (Calls Try.prog 13 #[x.val,y.val] W7 fun e w' => e = .returned (.bool true) ∧ Kept W7 w'):=by
  refine same_true St x.val y.val (by have:=HSL.out; omega) (by have:=HSL.out; omega) (fun l hl => by have:=HSL.out.2.2 l hl; omega) W7 ?_ ?_
  ·have h:=HXT.out W7 (fun _ => False) (K37.out.kx _) (fun b h => h.elim)
   rw [HXS.out] at h
   exact h
  ·have h:=HYT.out W7 (fun _ => False) (K67.out.kx _) (fun b h => h.elim)
   rw [HYS.out] at h
   exact h
 have hsame:=HSame.out
 rw [HXV.out,HYV.out] at hsame
 have HSame2:=hid hsame
 clear hrr k6 hys yR yT hyv hyw hbk10 HSame hsame K5 K35 HB65 HRr
 obtain ⟨x0,x1,x2,x3,x4,x5,x6⟩ : _ ∧ _ ∧ _ ∧ _ ∧ _ ∧ _ ∧ _:=⟨HB67.out.c 0 _ rfl,HB67.out.c 1 _ rfl,HB67.out.c 2 _ rfl,HB67.out.c 3 _ rfl,HB67.out.c 4 _ rfl,HB67.out.c 5 _ rfl,HB67.out.c 6 _ rfl⟩
 obtain ⟨y0,y1,y2,y3,y4,y5,y6⟩ : _ ∧ _ ∧ _ ∧ _ ∧ _ ∧ _ ∧ _:=⟨HB10.out.c 0 _ rfl,HB10.out.c 1 _ rfl,HB10.out.c 2 _ rfl,HB10.out.c 3 _ rfl,HB10.out.c 4 _ rfl,HB10.out.c 5 _ rfl,HB10.out.c 6 _ rfl⟩
 go_wp2_with fail
 (try rw [hW10])
 clear hT10
 go_at_call 13
 refine HSame2.out.mono ?_
 rintro e w8 ⟨rfl,k8⟩
 have K8:=hid (K7.out.trans k8)
 have K38:=hid (K37.out.trans k8)
 have K68:=hid (K67.out.trans k8)
 have HB68:=hid (HB67.out.kept k8)
 have HB18:=hid (HB10.out.kept k8)
 clear x0 x1 x2 x3 x4 x5 x6 y0 y1 y2 y3 y4 y5 y6 k8 hW10 K7 K37 K67 HB67 HB10 HSame2
 go_wp2_with fail
 go_at_call 17
 refine (HSr.out _ K8.out).mono ?_
 rintro e w9 ⟨rfl,k9⟩
 have K9:=hid (K8.out.trans k9)
 have K39:=hid (K38.out.trans k9)
 have K69:=hid (K68.out.trans k9)
 have HB69:=hid (HB68.out.kept k9)
 have HB19:=hid (HB18.out.kept k9)
 have c1:=HSt1.out w9 K9.out
 have c2:=HSt2.out w9 (K23.out.trans K39.out)
 obtain ⟨hadd,happ⟩:=HAdd.out
 have hz1 : ¬ (9223372036854775807 < (m : Int) + 2):=by have:=HG.out; omega
 have hz2 : ¬ (9223372036854775807 < m + 2):=by have:=HG.out; omega
 have hz3 : ¬ (9223372036854775807 < ((m + 2 : Nat) : Int)):=by have:=HG.out; omega
 have heq:=Heq.out
 clear k9 K8 K38 K68 HB68 HB18 HSr
 go_wp2_with fail
 clear c1 c2 hadd happ hz1 hz2 hz3 heq HSt1 HSt2 HAdd Heq
 go_loopw [13] (fun iv wr => ∃ (i : Nat) (V : List Value),i ≤ m + 2 ∧ iv = .int .i64 (i : Int) ∧ KX (fun b => b = g) w9 wr ∧ V.length = m + 2 ∧ OwnV wr g C 5 V) (fun iv _ => m + 2 - (intOf iv).toNat)
 case atStart => exact ⟨0,_,Nat.zero_le _,rfl,(Kept.refl _).kx _,HO2.out.2,HO2.out.1.kept (K23.out.trans K39.out)⟩
 case round =>
  obtain ⟨i,V,hi,rfl,kx,hV,ho⟩:=hrel
  by_cases him : i < m + 2
  ·have d1 : decide ((i : Int) < (m : Int) + 2) = true:=decide_eq_true (by omega)
   have d2 : decide (i < m + 2) = true:=decide_eq_true him
   have d3 : decide ((i : Int) < ((m + 2 : Nat) : Int)) = true:=decide_eq_true (by omega)
   have hbd : (0 : Int) ≤ (i : Int) ∧ (i : Int) < ((m + 2 : Nat) : Int):=by omega
   have hbd2 : (i : Int) < (m : Int) + 2:=by omega
   have z9 : IntKind.i64.wrap ((i : Int) + 1) = (i : Int) + 1:=by have:=HG.out; rw [wrap_i64]; omega
   have ec : ∃ y,wr.cell? ⟨g,i,none⟩ = some y:=⟨_,ho.cell i _ (List.getElem?_eq_getElem (by omega))⟩
   obtain ⟨y9,ec⟩:=ec
   have ef:=ho.free i
   have HO:=hid (ho.set i (.int .u8 238))
   have HV:=hid (show (V.set i (.int .u8 238)).length = m + 2 by rw [List.length_set]; exact hV)
   have HKx:=hid (kx.trans ((Grw.refl g wr).setCell i (.int .u8 238)).kx)
   have HII:=hid him
   clear kx hV ho him hi
   go_wp2_with fail
   go_roundw
   case rel => exact ⟨i + 1,_,by have:=HII.out; omega,by go_num,HKx.out,HV.out,HO.out⟩
   case measure => have:=HII.out; simp [intOf]; omega
  ·obtain rfl : i = m + 2:=by omega
   have d1 : decide ((m : Int) + 2 < (m : Int) + 2) = false:=decide_eq_false (by omega)
   have d2 : decide (m + 2 < m + 2) = false:=decide_eq_false (by omega)
   have d3 : decide (((m + 2 : Nat) : Int) < ((m + 2 : Nat) : Int)) = false:=decide_eq_false (by omega)
   have KU : Hid (Kept u wr):=kept_of_kx K9.out kx (fun b hb => by have:=HG.out; omega)
   have hkr:=HK.out.kept KU.out
   have hb6:=HB69.out.kx kx (by have:=HG.out; have:=HT6.out; omega)
   have hb10:=HB19.out.kx kx (by have:=HG.out; have:=HT6.out; have:=HT10.out; omega)
   have hm1:=HM1.out.kept KU.out
   have hm2:=HM2.out.kept KU.out
   have KY3:=hid ((K39.out.kx (fun b => b = g ∨ b = kb ∨ bkv kv b ∨ bkv sv b)).trans (kx.mono fun b hb => .inl hb))
   have KY6:=hid ((K69.out.kx (fun b => b = g ∨ b = kb ∨ bkv kv b ∨ bkv sv b)).trans (kx.mono fun b hb => .inl hb))
   clear kx hV ho him hi
   have HSF : Hid (∀ u,Kept wr u → u.cell? ⟨kb,2,none⟩ = some (kv) ∧ u.cell? ⟨T6,0,none⟩ = some (.int .i64 xa) ∧ u.cell? ⟨T6,1,none⟩ = some (.int .i64 xb) ∧ u.cell? ⟨T6,2,none⟩ = some (.int .i64 xd) ∧ u.cell? ⟨T6,3,none⟩ = some (.slice xpa xpn xpc) ∧ u.cell? ⟨T6,4,none⟩ = some (.slice xqa xqn xqc) ∧ u.cell? ⟨T6,5,none⟩ = some (.int .i64 xlo) ∧ u.cell? ⟨T6,6,none⟩ = some (.int .i64 xra)):=fun u k => by
    have h:=hb6.kept k
    exact ⟨(hkr.kept k).c 2 _ rfl,h.c 0 _ rfl,h.c 1 _ rfl,h.c 2 _ rfl,h.c 3 _ rfl,h.c 4 _ rfl,h.c 5 _ rfl,h.c 6 _ rfl⟩
   have hWs : u.heap.size ≤ wr.heap.size:=KU.out.below.size
   obtain ⟨va,vc,w11,hrun,hma,kxa,hba⟩:=st_app wr.drew kv n V1 (hm1.kept (Kept.refl wr).drew) (by have:=HG.out; omega) xa xb xd xpa xpn xpc xqa xqn xqc xlo xra
   replace hrun : ∀ ty,(Builtin.append_ #[25,25] ty #[kv,.slice (some ⟨wr.heap.size,0,none⟩) 1 1]).run Try.prog ((wr.alloc (.cells #[.int .i64 xa,.int .i64 xb,.int .i64 xd,.slice xpa xpn xpc,.slice xqa xqn xqc,.int .i64 xlo,.int .i64 xra] 35)).drew) = _:=hrun
   replace kxa : KX (bkv kv) wr w11:=((Kept.refl wr).drew.kx _).trans kxa
   replace hba : ∀ b,bkv (.slice va (n + 1) vc) b → bkv kv b ∨ wr.heap.size ≤ b:=hba
   have HRn:=hid hrun
   have hk11:=hkr.kx kxa HBl.out.2.2.1
   have hb611:=hb6.kx kxa (fun h => by have:=HBl.out.1 _ h; have:=HT6.out; have:=HG.out; omega)
   have HSA:=hid (show w11.cell? ⟨kb,2,none⟩ = some (kv) ∧ w11.cell? ⟨T6,0,none⟩ = some (.int .i64 xa) ∧ w11.cell? ⟨T6,1,none⟩ = some (.int .i64 xb) ∧ w11.cell? ⟨T6,2,none⟩ = some (.int .i64 xd) ∧ w11.cell? ⟨T6,3,none⟩ = some (.slice xpa xpn xpc) ∧ w11.cell? ⟨T6,4,none⟩ = some (.slice xqa xqn xqc) ∧ w11.cell? ⟨T6,5,none⟩ = some (.int .i64 xlo) ∧ w11.cell? ⟨T6,6,none⟩ = some (.int .i64 xra) from by
    have h:=hb611
    exact ⟨hk11.c 2 _ rfl,h.c 0 _ rfl,h.c 1 _ rfl,h.c 2 _ rfl,h.c 3 _ rfl,h.c 4 _ rfl,h.c 5 _ rfl,h.c 6 _ rfl⟩)
   have e11:=hk11.c 2 _ rfl
   have f11:=hk11.fz 2
   have hb11:=hb10.kx kxa (fun h => by have:=HBl.out.1 _ h; have:=HT10.out; have:=HT6.out; have:=HG.out; omega)
   have hm11:=hm2.onx kxa (fun b hb hb2 => HBl.out.2.2.2.2 b hb2 hb)
   obtain ⟨w12,hw12⟩ : ∃ w12,w11.setCell ⟨kb,2,none⟩ (.slice va (n + 1) vc) = w12:=⟨_,rfl⟩
   have ks12 : KX (fun b => b = kb) w11 w12:=by rw [← hw12]; exact ((Grw.refl kb w11).setCell _ _).kx
   have hk12 : Bk w12 kb [r0,r1,.slice va (n + 1) vc,sv]:=by rw [← hw12]; exact hk11.set 2 _
   have hb12:=hb11.kx ks12 (by have:=HT10.out; have:=HT6.out; have:=HG.out; omega)
   have hm12:=hm11.onx ks12 (fun b hb e => HBl.out.2.2.2.1 (by rw [← e]; exact hb))
   have hma12:=hma.onx ks12 (fun b hb e => by
    subst e
    rcases hba b hb with h | h
    ·exact HBl.out.2.2.1 h
    ·have:=HG.out
     omega)
   have KYa:=hid ((kxa.mono (Y:=(fun b => b = g ∨ b = kb ∨ bkv kv b ∨ bkv sv b)) fun b hb => .inr (.inr (.inl hb))).trans (ks12.mono (Y:=(fun b => b = g ∨ b = kb ∨ bkv kv b ∨ bkv sv b)) fun b hb => .inr (.inl hb)))
   have KUa:=hid (((KU.out.kx (fun b => b = kb ∨ bkv kv b ∨ bkv sv b)).trans (kxa.mono fun b hb => .inr (.inl hb))).trans (ks12.mono fun b hb => .inl hb))
   have HBa:=hid (show ∀ b,bkv (.slice va (n + 1) vc) b → bkv kv b ∨ T10 ≤ b from fun b hb => (hba b hb).imp id fun h => by
    have:=hb10.lt
    omega)
   have HK12:=hid hk12
   have HB12:=hid hb12
   have HM12:=hid hm12
   have HMa:=hid hma12
   have HW12:=hid hw12
   clear hkr hb6 hb10 hm1 hm2 hrun hma kxa hba hk11 hb611 hb11 hm11 ks12 hk12 hb12 hm12 hma12 hWs hw12
   go_wp2_with fail
   refine wp_region_late [10] (fun u => u.cell? ⟨kb,2,none⟩ = some (kv) ∧ u.cell? ⟨T6,0,none⟩ = some (.int .i64 xa) ∧ u.cell? ⟨T6,1,none⟩ = some (.int .i64 xb) ∧ u.cell? ⟨T6,2,none⟩ = some (.int .i64 xd) ∧ u.cell? ⟨T6,3,none⟩ = some (.slice xpa xpn xpc) ∧ u.cell? ⟨T6,4,none⟩ = some (.slice xqa xqn xqc) ∧ u.cell? ⟨T6,5,none⟩ = some (.int .i64 xlo) ∧ u.cell? ⟨T6,6,none⟩ = some (.int .i64 xra)) (by kernel_rfl) (show wr.drew.cell? ⟨kb,2,none⟩ = some (kv) ∧ wr.drew.cell? ⟨T6,0,none⟩ = some (.int .i64 xa) ∧ wr.drew.cell? ⟨T6,1,none⟩ = some (.int .i64 xb) ∧ wr.drew.cell? ⟨T6,2,none⟩ = some (.int .i64 xd) ∧ wr.drew.cell? ⟨T6,3,none⟩ = some (.slice xpa xpn xpc) ∧ wr.drew.cell? ⟨T6,4,none⟩ = some (.slice xqa xqn xqc) ∧ wr.drew.cell? ⟨T6,5,none⟩ = some (.int .i64 xlo) ∧ wr.drew.cell? ⟨T6,6,none⟩ = some (.int .i64 xra) from HSF.out _ (Kept.refl wr).drew) (fun hHeld => ?_)
   refine tkD (i:=0) (v:=?_) rfl hHeld ?_
   (try simp only [Act.put,zA,zB,zC,zD,zE,zF])
   refine tkD (i:=1) (v:=?_) rfl hHeld ?_
   (try simp only [Act.put,zA,zB,zC,zD,zE,zF])
   refine tkD (i:=2) (v:=?_) rfl hHeld ?_
   (try simp only [Act.put,zA,zB,zC,zD,zE,zF])
   refine tkD (i:=3) (v:=?_) rfl hHeld ?_
   (try simp only [Act.put,zA,zB,zC,zD,zE,zF])
   refine tkD (i:=4) (v:=?_) rfl hHeld ?_
   (try simp only [Act.put,zA,zB,zC,zD,zE,zF])
   refine tkD (i:=5) (v:=?_) rfl hHeld ?_
   (try simp only [Act.put,zA,zB,zC,zD,zE,zF])
   refine wpAnyD_step (i:=6) (by kernel_rfl) rfl (fun K hK9 => ?_)
   go_simp
   refine hK9.out _ _ (show (World.alloc _ _).cell? ⟨kb,2,none⟩ = some (kv) ∧ (World.alloc _ _).cell? ⟨T6,0,none⟩ = some (.int .i64 xa) ∧ (World.alloc _ _).cell? ⟨T6,1,none⟩ = some (.int .i64 xb) ∧ (World.alloc _ _).cell? ⟨T6,2,none⟩ = some (.int .i64 xd) ∧ (World.alloc _ _).cell? ⟨T6,3,none⟩ = some (.slice xpa xpn xpc) ∧ (World.alloc _ _).cell? ⟨T6,4,none⟩ = some (.slice xqa xqn xqc) ∧ (World.alloc _ _).cell? ⟨T6,5,none⟩ = some (.int .i64 xlo) ∧ (World.alloc _ _).cell? ⟨T6,6,none⟩ = some (.int .i64 xra) from HSF.out _ ((Kept.refl wr).alloc _ _)) (fun hHeld2 => ?_)
   clear hK9 K
   (try simp only [Act.put,zA,zB,zC,zD,zE,zF])
   refine wpAnyD_step (i:=7) (by kernel_rfl) rfl (fun K hK9 => ?_)
   rw [if_pos (by rfl)]
   refine oper_append_run _ _ _ rfl _ _ rfl rfl _ _ (HRn.out _) ?_
   refine hK9.out _ _ (HSA.out) (fun hHeld3 => ?_)
   clear hK9 K
   (try simp only [Act.put,zA,zB,zC,zD,zE,zF])
   refine tkD (i:=8) (v:=?_) rfl hHeld3 ?_
   (try simp only [Act.put,zA,zB,zC,zD,zE,zF])
   refine tkD (i:=9) (v:=?_) rfl hHeld3 ?_
   (try simp only [Act.put,zA,zB,zC,zD,zE,zF])
   refine wpAnyD_late (i:=10) (by kernel_rfl) rfl rfl (fun K hK9 => ?_)
   go_simp
   refine hK9.out _ _ ?_
   clear hK9 K
   (try simp only [Act.put,zA,zB,zC,zD,zE,zF])
   refine wpAnyD_done (by kernel_rfl) ?_ _
   (try simp only [Act.put,zA,zB,zC,zD,zE,zF])
   clear hHeld hHeld2 hHeld3 e11 f11
   (try rw [HW12.out])
   go_wp2_with fail
   (try rw [HW12.out])
   have HSF2 : Hid (∀ u,Kept w12 u → u.cell? ⟨kb,3,none⟩ = some (sv) ∧ u.cell? ⟨T10,0,none⟩ = some (.int .i64 ya) ∧ u.cell? ⟨T10,1,none⟩ = some (.int .i64 yb) ∧ u.cell? ⟨T10,2,none⟩ = some (.int .i64 yd) ∧ u.cell? ⟨T10,3,none⟩ = some (.slice ypa ypn ypc) ∧ u.cell? ⟨T10,4,none⟩ = some (.slice yqa yqn yqc) ∧ u.cell? ⟨T10,5,none⟩ = some (.int .i64 ylo) ∧ u.cell? ⟨T10,6,none⟩ = some (.int .i64 yra)):=fun u k => by
    have h:=HB12.out.kept k
    exact ⟨(HK12.out.kept k).c 3 _ rfl,h.c 0 _ rfl,h.c 1 _ rfl,h.c 2 _ rfl,h.c 3 _ rfl,h.c 4 _ rfl,h.c 5 _ rfl,h.c 6 _ rfl⟩
   obtain ⟨vb,vd,w13,hrun,hmb,kxb,hbb⟩:=st_app w12.drew sv n V2 (HM12.out.kept (Kept.refl w12).drew) (by have:=HG.out; omega) ya yb yd ypa ypn ypc yqa yqn yqc ylo yra
   replace hrun : ∀ ty,(Builtin.append_ #[25,25] ty #[sv,.slice (some ⟨w12.heap.size,0,none⟩) 1 1]).run Try.prog ((w12.alloc (.cells #[.int .i64 ya,.int .i64 yb,.int .i64 yd,.slice ypa ypn ypc,.slice yqa yqn yqc,.int .i64 ylo,.int .i64 yra] 35)).drew) = _:=hrun
   replace kxb : KX (bkv sv) w12 w13:=((Kept.refl w12).drew.kx _).trans kxb
   replace hbb : ∀ b,bkv (.slice vb (n + 1) vd) b → bkv sv b ∨ w12.heap.size ≤ b:=hbb
   have HRn2:=hid hrun
   have hk13:=HK12.out.kx kxb HBl.out.2.2.2.1
   have hb113:=HB12.out.kx kxb (fun h => by have:=HBl.out.2.1 _ h; have:=HT10.out; have:=HT6.out; have:=HG.out; omega)
   have HSB:=hid (show w13.cell? ⟨kb,3,none⟩ = some (sv) ∧ w13.cell? ⟨T10,0,none⟩ = some (.int .i64 ya) ∧ w13.cell? ⟨T10,1,none⟩ = some (.int .i64 yb) ∧ w13.cell? ⟨T10,2,none⟩ = some (.int .i64 yd) ∧ w13.cell? ⟨T10,3,none⟩ = some (.slice ypa ypn ypc) ∧ w13.cell? ⟨T10,4,none⟩ = some (.slice yqa yqn yqc) ∧ w13.cell? ⟨T10,5,none⟩ = some (.int .i64 ylo) ∧ w13.cell? ⟨T10,6,none⟩ = some (.int .i64 yra) from by
    have h:=hb113
    exact ⟨hk13.c 3 _ rfl,h.c 0 _ rfl,h.c 1 _ rfl,h.c 2 _ rfl,h.c 3 _ rfl,h.c 4 _ rfl,h.c 5 _ rfl,h.c 6 _ rfl⟩)
   have e13:=hk13.c 3 _ rfl
   have f13:=hk13.fz 3
   have hnn : ∀ b,bkv (.slice va (n + 1) vc) b → ¬ bkv sv b:=fun b hb hb2 => by
    rcases HBa.out b hb with h | h
    ·exact HBl.out.2.2.2.2 b h hb2
    ·have:=HBl.out.2.1 b hb2
     have:=HT10.out
     have:=HT6.out
     have:=HG.out
     omega
   have hkn : ¬ bkv (.slice va (n + 1) vc) kb:=fun hb => by
    rcases HBa.out kb hb with h | h
    ·exact HBl.out.2.2.1 h
    ·have:=HT10.out
     have:=HT6.out
     have:=HG.out
     omega
   have hma13:=HMa.out.onx kxb hnn
   obtain ⟨w14,hw14⟩ : ∃ w14,w13.setCell ⟨kb,3,none⟩ (.slice vb (n + 1) vd) = w14:=⟨_,rfl⟩
   have ks14 : KX (fun b => b = kb) w13 w14:=by rw [← hw14]; exact ((Grw.refl kb w13).setCell _ _).kx
   have hk14 : Bk w14 kb [r0,r1,.slice va (n + 1) vc,.slice vb (n + 1) vd]:=by rw [← hw14]; exact hk13.set 3 _
   have hsz12 : T10 < w12.heap.size:=HB12.out.lt
   have hbn : ∀ b,bkv (.slice vb (n + 1) vd) b → bkv sv b ∨ T10 ≤ b:=fun b hb => (hbb b hb).imp id fun h => by
    omega
   have hma14:=hma13.onx ks14 (fun b hb e => hkn (by rw [← e]; exact hb))
   have hmb14:=hmb.onx ks14 (fun b hb e => by
    subst e
    rcases hbn b hb with h | h
    ·exact HBl.out.2.2.2.1 h
    ·have:=HT10.out
     have:=HT6.out
     have:=HG.out
     omega)
   have KYb:=(kxb.mono (Y:=(fun b => b = g ∨ b = kb ∨ bkv kv b ∨ bkv sv b)) fun b hb => .inr (.inr (.inr hb))).trans (ks14.mono (Y:=(fun b => b = g ∨ b = kb ∨ bkv kv b ∨ bkv sv b)) fun b hb => .inr (.inl hb))
   have KY3b:=(KY3.out.trans KYa.out).trans KYb
   have KY6b:=(KY6.out.trans KYa.out).trans KYb
   have HFin:=hid (show KX (fun b => b = kb ∨ bkv kv b ∨ bkv sv b) u w14 ∧ Bk w14 kb [r0,r1,.slice va (n + 1) vc,.slice vb (n + 1) vd] ∧ MS 7 35 0 w14 (.slice va (n + 1) vc) (n + 1) (V1 ++ row7 x) ∧ MS 7 35 0 w14 (.slice vb (n + 1) vd) (n + 1) (V2 ++ row7 y) ∧ (∀ b,bkv (.slice vb (n + 1) vd) b → bkv sv b ∨ T10 ≤ b) ∧ (∀ b,bkv (.slice va (n + 1) vc) b → ¬ bkv (.slice vb (n + 1) vd) b) from ⟨(KUa.out.trans (kxb.mono fun b hb => .inr (.inr hb))).trans (ks14.mono fun b hb => .inl hb),hk14,by rw [HXW.out]; exact hma14,by rw [HYW.out]; exact hmb14,hbn,fun b hb hb2 => by
    rcases hbb b hb2 with h | h
    ·exact hnn b hb h
    ·have:=(ms_bk HMa.out b hb).2
     omega⟩)
   have HY3:=hid KY3b
   have HY6:=hid KY6b
   have HW14:=hid hw14
   clear hrun hk13 hmb kxb hbb hb113 hma13 ks14 hk14 hma14 hmb14 hsz12 KYb KY3b KY6b hnn hkn hbn hw14
   refine wp_region_late [10] (fun u => u.cell? ⟨kb,3,none⟩ = some (sv) ∧ u.cell? ⟨T10,0,none⟩ = some (.int .i64 ya) ∧ u.cell? ⟨T10,1,none⟩ = some (.int .i64 yb) ∧ u.cell? ⟨T10,2,none⟩ = some (.int .i64 yd) ∧ u.cell? ⟨T10,3,none⟩ = some (.slice ypa ypn ypc) ∧ u.cell? ⟨T10,4,none⟩ = some (.slice yqa yqn yqc) ∧ u.cell? ⟨T10,5,none⟩ = some (.int .i64 ylo) ∧ u.cell? ⟨T10,6,none⟩ = some (.int .i64 yra)) (by kernel_rfl) (show w12.drew.cell? ⟨kb,3,none⟩ = some (sv) ∧ w12.drew.cell? ⟨T10,0,none⟩ = some (.int .i64 ya) ∧ w12.drew.cell? ⟨T10,1,none⟩ = some (.int .i64 yb) ∧ w12.drew.cell? ⟨T10,2,none⟩ = some (.int .i64 yd) ∧ w12.drew.cell? ⟨T10,3,none⟩ = some (.slice ypa ypn ypc) ∧ w12.drew.cell? ⟨T10,4,none⟩ = some (.slice yqa yqn yqc) ∧ w12.drew.cell? ⟨T10,5,none⟩ = some (.int .i64 ylo) ∧ w12.drew.cell? ⟨T10,6,none⟩ = some (.int .i64 yra) from HSF2.out _ (Kept.refl w12).drew) (fun hHeld => ?_)
   refine tkD (i:=0) (v:=?_) rfl hHeld ?_
   (try simp only [Act.put,zA,zB,zC,zD,zE,zF])
   refine tkD (i:=1) (v:=?_) rfl hHeld ?_
   (try simp only [Act.put,zA,zB,zC,zD,zE,zF])
   refine tkD (i:=2) (v:=?_) rfl hHeld ?_
   (try simp only [Act.put,zA,zB,zC,zD,zE,zF])
   refine tkD (i:=3) (v:=?_) rfl hHeld ?_
   (try simp only [Act.put,zA,zB,zC,zD,zE,zF])
   refine tkD (i:=4) (v:=?_) rfl hHeld ?_
   (try simp only [Act.put,zA,zB,zC,zD,zE,zF])
   refine tkD (i:=5) (v:=?_) rfl hHeld ?_
   (try simp only [Act.put,zA,zB,zC,zD,zE,zF])
   refine wpAnyD_step (i:=6) (by kernel_rfl) rfl (fun K hK9 => ?_)
   go_simp
   refine hK9.out _ _ (show (World.alloc _ _).cell? ⟨kb,3,none⟩ = some (sv) ∧ (World.alloc _ _).cell? ⟨T10,0,none⟩ = some (.int .i64 ya) ∧ (World.alloc _ _).cell? ⟨T10,1,none⟩ = some (.int .i64 yb) ∧ (World.alloc _ _).cell? ⟨T10,2,none⟩ = some (.int .i64 yd) ∧ (World.alloc _ _).cell? ⟨T10,3,none⟩ = some (.slice ypa ypn ypc) ∧ (World.alloc _ _).cell? ⟨T10,4,none⟩ = some (.slice yqa yqn yqc) ∧ (World.alloc _ _).cell? ⟨T10,5,none⟩ = some (.int .i64 ylo) ∧ (World.alloc _ _).cell? ⟨T10,6,none⟩ = some (.int .i64 yra) from HSF2.out _ ((Kept.refl w12).alloc _ _)) (fun hHeld2 => ?_)
   clear hK9 K
   (try simp only [Act.put,zA,zB,zC,zD,zE,zF])
   refine wpAnyD_step (i:=7) (by kernel_rfl) rfl (fun K hK9 => ?_)
   rw [if_pos (by rfl)]
   refine oper_append_run _ _ _ rfl _ _ rfl rfl _ _ (HRn2.out _) ?_
   refine hK9.out _ _ (HSB.out) (fun hHeld3 => ?_)
   clear hK9 K
   (try simp only [Act.put,zA,zB,zC,zD,zE,zF])
   refine tkD (i:=8) (v:=?_) rfl hHeld3 ?_
   (try simp only [Act.put,zA,zB,zC,zD,zE,zF])
   refine tkD (i:=9) (v:=?_) rfl hHeld3 ?_
   (try simp only [Act.put,zA,zB,zC,zD,zE,zF])
   refine wpAnyD_late (i:=10) (by kernel_rfl) rfl rfl (fun K hK9 => ?_)
   go_simp
   refine hK9.out _ _ ?_
   clear hK9 K
   (try simp only [Act.put,zA,zB,zC,zD,zE,zF])
   refine wpAnyD_done (by kernel_rfl) ?_ _
   (try simp only [Act.put,zA,zB,zC,zD,zE,zF])
   clear hHeld hHeld2 hHeld3 e13 f13
   (try rw [HW14.out])
   go_wp2_with fail
   (try rw [HW14.out])
   go_ret
   obtain ⟨q1,q2,q3,q4,q5,q6⟩:=HFin.out
   have hlow : ∀ b,b = g ∨ b = kb ∨ bkv kv b ∨ bkv sv b → b < w2.heap.size:=fun b hb => by
    have h1:=HG.out
    rcases hb with rfl | rfl | h | h
    ·omega
    ·omega
    ·have:=HBl.out.1 b h; omega
    ·have:=HBl.out.2.1 b h; omega
   have hT1:=HT6.out
   have hT2:=HT10.out
   have hg9:=HG.out
   have hs14:=HY6.out.size
   refine ⟨rfl,q1,_,_,x,y,w5.heap.size,T10,q2,q3,q4,by omega,by omega,by omega,?_,?_,?_,HXS.out.trans HYS.out.symm,?_,?_,HBa.out,q5,q6⟩
   ·exact (HXR.out.kx HY3.out (fun b hb _ hx => by have:=hlow b hx; omega)).up (by omega) (by omega)
   ·exact (HXB.out.kx HY3.out (fun b hb _ hx => by have:=hlow b hx; omega)).up (by omega) (by omega)
   ·exact (HYR.out.kx HY6.out (fun b hb _ hx => by have:=hlow b hx; omega)).up (Nat.le_refl _) (by omega)
   ·intro wz X kz hX
    have hs3:=HY3.out.size
    exact HXT.out wz _ (((HY3.out.mono (Y:=fun b => (b = g ∨ b = kb ∨ bkv kv b ∨ bkv sv b) ∨ X b) fun b hb => .inl hb).trans (kz.mono fun b hb => .inr hb)).shrink (Y:=fun b => b < w2.heap.size) fun b hb hx => by
     rcases hx with hx | hx
     ·exact hlow b hx
     ·by_cases h9 : u.heap.size ≤ b
      ·exact absurd hx (hX b (by omega) (by omega))
      ·omega) (fun b h => h)
   ·intro wz X kz hX
    exact HYT.out wz _ (((HY6.out.mono (Y:=fun b => (b = g ∨ b = kb ∨ bkv kv b ∨ bkv sv b) ∨ X b) fun b hb => .inl hb).trans (kz.mono fun b hb => .inr hb)).shrink (Y:=fun b => b < w5.heap.size) fun b hb hx => by
     rcases hx with hx | hx
     ·have:=hlow b hx; omega
     ·by_cases h9 : w5.heap.size ≤ b
      ·exact absurd hx (hX b h9 (by omega))
      ·omega) (fun b h => h)
end Go.Proofs.Ytocjfdiimapojaa
