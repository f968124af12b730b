/- Rows of bytes that were answered are marked,grown,looked at: any rows. -/
import Derived.Test.YtocjfdiimapojaaNC
import Derived.Test.YtocjfdiimapojaaND
namespace Go.Proofs.Ytocjfdiimapojaa
open Go.ChangeShapes Go.WideShapes Go.ChangeAt Go.RowKit
set_option maxHeartbeats 16000000
set_option maxRecDepth 100000
set_option linter.unusedVariables false
set_option linter.unusedSimpArgs false
/-- Rows of bytes,as they lie. -/
structure Rws (kb : Nat) (rv r1 kv sv : Value) (bvs : List Value) (P : Nat → List Int → Prop) (w : World) : Prop where
 k : Bk w kb [rv,r1,kv,sv]
 r : MS 1 22 0 w rv bvs.length bvs
 b : ∀ (i : Nat) (v : Value),bvs[i]? = some v → ∃ L,ExB w v L ∧ P i L ∧ L.length ≤ 14000000
theorem Rws.kept {kb : Nat} {rv r1 kv sv : Value} {bvs : List Value} {P : Nat → List Int → Prop} {w w' : World} (h : Rws kb rv r1 kv sv bvs P w) (k : Kept w w') : Rws kb rv r1 kv sv bvs P w' :=
 ⟨h.k.kept k,h.r.kept k,fun i v hv => by
  obtain ⟨L,h1,h2,h3⟩:=h.b i v hv
  exact ⟨L,h1.kept k,h2,h3⟩⟩
theorem Rws.imp {kb : Nat} {rv r1 kv sv : Value} {bvs : List Value} {P Q : Nat → List Int → Prop} {w : World} (h : Rws kb rv r1 kv sv bvs P w) (hi : ∀ (i : Nat) (v : Value) (L : List Int),bvs[i]? = some v → ExB w v L → P i L → Q i L) : Rws kb rv r1 kv sv bvs Q w :=
 ⟨h.k,h.r,fun i v hv => by
  obtain ⟨L,h1,h2,h3⟩:=h.b i v hv
  exact ⟨L,h1,hi i v L hv h1 h2,h3⟩⟩
theorem ExB.bk {w : World} {v : Value} {L : List Int} (h : ExB w v L) {b : Nat} (hb : bkv v b) : ∃ cur,w.heap[b]? = some (.cells cur 5 (0,0)):=by
 obtain ⟨n,c,e⟩:=hb
 rcases h with ⟨-,e2⟩ | ⟨g,e2,-,cur,h1,-⟩
 ·rw [e] at e2; cases e2
 ·rw [e] at e2; cases e2; exact ⟨cur,h1⟩
theorem ExB.len2 {w w' : World} {v : Value} {L L' : List Int} (h : ExB w v L) (h' : ExB w' v L') : L.length = L'.length:=by
 rcases h with ⟨rfl,rfl⟩ | ⟨g,rfl,-,-⟩
 ·rcases h' with ⟨rfl,-⟩ | ⟨g,e,-⟩
  ·rfl
  ·cases e
 ·rcases h' with ⟨rfl,e⟩ | ⟨g,e,-⟩
  ·cases e
  ·injection e
theorem ExB.onx {w w' : World} {v : Value} {L : List Int} {X : Nat → Prop} (h : ExB w v L) (k : KX X w w') (hX : ∀ b,bkv v b → ¬ X b) : ExB w' v L:=by
 rcases h with h | ⟨g,e,h0,h⟩
 ·exact .inl h
 ·refine .inr ⟨g,e,h0,?_⟩
  obtain ⟨cur,h1,h2⟩:=h
  exact ⟨cur,(k.block g (lt_of_block h1) (hX g ⟨_,_,e⟩)).trans h1,h2⟩
/-- One byte of a row is written. -/
theorem Rws.set {kb : Nat} {rv r1 kv sv : Value} {bvs : List Value} {P Q : Nat → List Int → Prop} {w : World} (h : Rws kb rv r1 kv sv bvs P w) (hab : ∀ (i j : Nat) (u v : Value),bvs[i]? = some u → bvs[j]? = some v → i ≠ j → ∀ b,bkv u b → ¬ bkv v b) (hkb : ∀ v ∈ bvs,¬ bkv v kb) (i g n j : Nat) (x : Int) (L : List Int) (hi : bvs[i]? = some (.slice (some ⟨g,0,none⟩) n n)) (hL : ExB w (.slice (some ⟨g,0,none⟩) n n) L) (hj : j < n) (hQ : Q i (L.set j x)) (hPQ : ∀ k L,k ≠ i → P k L → Q k L) (hl4 : L.length ≤ 14000000) : Rws kb rv r1 kv sv bvs Q (w.setCell ⟨g,j,none⟩ (.int .u8 x)):=by
 have kx : KX (fun b => b = g) w (w.setCell ⟨g,j,none⟩ (.int .u8 x)):=((Grw.refl g w).setCell j _).kx
 have hty:=hL.bk (b:=g) ⟨_,_,rfl⟩
 obtain ⟨cur,hcur⟩:=hty
 refine ⟨h.k.kx kx (fun e => hkb _ (List.mem_of_getElem? hi) ⟨n,n,by rw [e]⟩),h.r.onx kx fun b hb e => ?_,fun k v hv => ?_⟩
 ·subst e
  obtain ⟨c2,h2⟩:=h.r.ty hb
  rw [hcur] at h2
  simp at h2
 ·by_cases hki : k = i
  ·subst hki
   rw [hi] at hv
   cases hv
   refine ⟨L.set j x,?_,hQ,by rw [List.length_set]; exact hl4⟩
   rcases hL with ⟨-,e⟩ | ⟨g2,e,h0,ho⟩
   ·cases e
   ·cases e
    refine .inr ⟨g,by rw [List.length_set],by rw [List.length_set]; exact h0,?_⟩
    rw [List.length_set,List.map_set]
    exact ho.set j _
  ·obtain ⟨L2,h1,h2,h3⟩:=h.b k v hv
   exact ⟨L2,h1.onx kx (fun b hb e => hab k i v _ hv hi hki b hb ⟨n,n,by rw [e]⟩),hPQ k L2 hki h2,h3⟩
/-- The marks of the first i rows,and the first j of the next one. -/
def Pb (i j : Nat) (k : Nat) (L : List Int) : Prop:=(k < i → L = List.replicate L.length (k : Int)) ∧ (k = i → L.take j = List.replicate j (k : Int))
def Pn (k : Nat) (L : List Int) : Prop:=L = List.replicate L.length (k : Int)
theorem pb_step (i j : Nat) (L : List Int) (hj : j < L.length) (h : Pb i j i L) : Pb i (j + 1) i (L.set j (i : Int)):=by
 refine ⟨fun h => absurd h (Nat.lt_irrefl _),fun _ => ?_⟩
 rw [List.take_add_one,List.take_set_of_le (Nat.le_refl _),h.2 rfl]
 simp [hj,List.replicate_succ']
theorem pb_next (i : Nat) (k : Nat) (L : List Int) (n : Nat) (hn : k = i → L.length = n) (h : Pb i n k L) : Pb (i + 1) 0 k L:=by
 refine ⟨fun hk => ?_,fun _ => rfl⟩
 by_cases hki : k = i
 ·have h2:=h.2 hki
  rw [List.take_of_length_le (by rw [hn hki]; exact Nat.le_refl _)] at h2
  rw [hn hki]
  exact h2
 ·exact h.1 (by omega)
theorem bytes_many (kb : Nat) (rv r1 kv sv : Value) (bvs : List Value) (hm : bvs.length ≤ 200) (hab : ∀ (i j : Nat) (u v : Value),bvs[i]? = some u → bvs[j]? = some v → i ≠ j → ∀ b,bkv u b → ¬ bkv v b) (hkb : ∀ v ∈ bvs,¬ bkv v kb) (u : World) (hp : Rws kb rv r1 kv sv bvs (fun _ _ => True) u) :
  Calls Try.prog 18 #[.pointer (some ⟨kb,0,none⟩)] u fun e w' => e = .returned (.bool true) ∧ KX (fun b => ∃ v ∈ bvs,bkv v b) u w':=by
 obtain ⟨ra,rc,hrv⟩:=hp.r.form
 obtain ⟨m,hmm⟩ : ∃ m,bvs.length = m:=⟨_,rfl⟩
 rw [hmm] at hm hrv
 have HMM:=hid (show bvs.length = m ∧ m ≤ 200 from ⟨hmm,hm⟩)
 have HAb:=hid hab
 have HKb:=hid hkb
 have HC : Hid (∀ P w,Rws kb rv r1 kv sv bvs P w → w.cell? ⟨kb,0,none⟩ = some (.slice ra m rc)):=fun P w h => by rw [← hrv]; exact h.k.c 0 _ rfl
 have HHdr : Hid (∀ P w,Rws kb rv r1 kv sv bvs P w → ∀ (i : Nat) (v : Value),bvs[i]? = some v → ∃ gb,ra = some ⟨gb,0,none⟩ ∧ w.cell? ⟨gb,i,none⟩ = some v):=fun P w h i v hv => by
  rcases h.r with ⟨h0,-,-⟩ | ⟨gr,cap,e,-,-,-,ho⟩
  ·rw [List.getElem?_eq_none (by omega)] at hv
   cases hv
  ·rw [hrv] at e
   cases e
   exact ⟨gr,rfl,ho.cell i v hv⟩
 have HHb : Hid (∀ (i : Nat) (v : Value),bvs[i]? = some v → ∀ b,bkv v b → ∃ v ∈ bvs,bkv v b):=fun i v hv b hb => ⟨v,List.mem_of_getElem? hv,hb⟩
 have HPic:=hid hp
 clear hab hkb hrv hp hm hmm
 go_enter Try.func18,Try.ntmps18
 go_wp2_with fail
 go_loopw [3] (fun rvv wx => ∃ r : Int,(r = 0 ∨ r = 1 ∨ r = 2 ∨ r = 3) ∧ rvv = .int .i64 r ∧ KX (fun b => ∃ v ∈ bvs,bkv v b) u wx ∧ Rws kb rv r1 kv sv bvs (fun _ _ => True) wx ∧ (r ≠ 0 → Rws kb rv r1 kv sv bvs Pn wx)) (fun rvv _ => 3 - (intOf rvv).toNat)
 case atStart => exact ⟨0,.inl rfl,rfl,(Kept.refl _).kx _,HPic.out,fun h => absurd rfl h⟩
 case round =>
  clear HPic
  obtain ⟨r,hr,rfl,kx,hp,hpm⟩:=hrel
  have KXr:=hid kx
  have HPr:=hid hp
  have HPm:=hid hpm
  clear kx hp hpm
  rcases hr with rfl | rfl | rfl | rfl
  ·skip
   go_wp2_with fail
   go_loopw [4] (fun iv wx => ∃ i : Nat,i ≤ m ∧ iv = .int .i64 (i : Int) ∧ KX (fun b => ∃ v ∈ bvs,bkv v b) u wx ∧ Rws kb rv r1 kv sv bvs (Pb i 0) wx) (fun iv _ => m - (intOf iv).toNat)
   case atStart => exact ⟨0,Nat.zero_le _,rfl,KXr.out,HPr.out.imp (fun k v L _ _ _ => ⟨fun h => absurd h (Nat.not_lt_zero _),fun _ => rfl⟩)⟩
   case round =>
    clear KXr HPr HPm
    obtain ⟨i,hi,rfl,kx,hp⟩:=hrel
    have KXi:=hid kx
    have HPi:=hid hp
    have cK:=HC.out _ _ hp
    by_cases hiN : i < m
    ·obtain ⟨v,hv⟩ : ∃ v,bvs[i]? = some v:=⟨_,List.getElem?_eq_getElem (by have:=HMM.out; omega)⟩
     obtain ⟨L0,hL0,-,hl4⟩:=hp.b i v hv
     obtain ⟨va,vc,hvf⟩:=hL0.bn.form
     obtain ⟨n,hn⟩ : ∃ n,L0.length = n:=⟨_,rfl⟩
     rw [hn] at hvf
     obtain ⟨gb,e7,eb⟩:=HHdr.out _ _ hp i _ hv
     subst e7
     rw [hvf] at eb
     have d1 : decide ((i : Int) < (m : Int)) = true:=decide_eq_true (by omega)
     have d2 : decide (i < m) = true:=decide_eq_true hiN
     have hbd : (0 : Int) ≤ (i : Int) ∧ (i : Int) < (m : Int):=by omega
     have z7 : IntKind.i64.wrap ((i : Int) + 1) = (i : Int) + 1:=by have:=HMM.out; rw [wrap_i64]; omega
     have z5 : IntKind.u8.wrap (i : Int) = (i : Int):=by have:=HMM.out; rw [IntKind.wrap_u8]; omega
     have HII:=hid hiN
     have HVi:=hid (show bvs[i]? = some (.slice va n vc) by rw [← hvf]; exact hv)
     have HM2:=hid (show n ≤ 14000000 by omega)
     have HLn : Hid (∀ w L,ExB w (.slice va n vc) L → L.length = n):=fun w L h => by rw [← hvf] at h; rw [← hn]; exact h.len2 hL0
     clear hiN hv hi kx hp hL0 hvf hn hl4
     go_wp2_with fail
     go_loopw [5] (fun jv wx => ∃ j : Nat,j ≤ n ∧ jv = .int .i64 (j : Int) ∧ KX (fun b => ∃ v ∈ bvs,bkv v b) u wx ∧ Rws kb rv r1 kv sv bvs (Pb i j) wx) (fun jv _ => n - (intOf jv).toNat)
     case atStart => exact ⟨0,Nat.zero_le _,rfl,KXi.out,HPi.out⟩
     case round =>
      clear KXi HPi eb cK
      obtain ⟨j,hj,rfl,kx,hp⟩:=hrel
      have cK:=HC.out _ _ hp
      obtain ⟨L,hL,hPa,hl4⟩:=hp.b i _ HVi.out
      have hLn:=HLn.out _ _ hL
      obtain ⟨gb',e8,eb⟩:=HHdr.out _ _ hp i _ HVi.out
      cases e8
      by_cases hjm : j < n
      ·obtain ⟨g,e9,e10,h0,hO⟩ : ∃ g,va = some ⟨g,0,none⟩ ∧ vc = n ∧ 0 < n ∧ OwnV wr g n 5 (L.map (Value.int .u8)):=by
        rcases hL with ⟨h1,-⟩ | ⟨g,e,h0,ho⟩
        ·rw [h1] at hLn; simp at hLn; omega
        ·rw [hLn] at e h0 ho
         injection e with e1 e2 e3
         exact ⟨g,e1,e3,h0,ho⟩
       subst e9 e10
       have d3 : decide ((j : Int) < (vc : Int)) = true:=decide_eq_true (by omega)
       have d4 : decide (j < vc) = true:=decide_eq_true hjm
       have hbj : (0 : Int) ≤ (j : Int) ∧ (j : Int) < (vc : Int):=by omega
       have z8 : IntKind.i64.wrap ((j : Int) + 1) = (j : Int) + 1:=by have:=HM2.out; rw [wrap_i64]; omega
       have HJJ:=hid hjm
       have ec : wr.cell? ⟨g,j,none⟩ = some (.int .u8 (L.getD j 0)):=by
        refine hO.cell j _ ?_
        rw [List.getElem?_map,List.getElem?_eq_getElem (by omega),List.getD_eq_getElem?_getD,List.getElem?_eq_getElem (by omega)]
        rfl
       have ef:=hO.free j
       have ks:=((Grw.refl g wr).setCell j (.int .u8 (i : Int))).kx
       have HP2:=hid (hp.set (Q:=Pb i (j + 1)) HAb.out HKb.out i g vc j (i : Int) L HVi.out hL hjm (pb_step i j L (by omega) hPa) (fun k L hk h => ⟨h.1,fun e => absurd e hk⟩) hl4)
       have HK2:=hid (kx.trans (ks.mono (Y:=(fun b => ∃ v ∈ bvs,bkv v b)) fun b hb => HHb.out i _ HVi.out b ⟨vc,vc,by rw [hb]⟩))
       clear ks hj hjm kx hp hPa hO hL hLn hl4
       go_wp2_with fail
       go_roundw
       case rel => exact ⟨j + 1,by have:=HJJ.out; omega,by go_num,HK2.out,HP2.out⟩
       case measure => have:=HJJ.out; simp [intOf]; omega
      ·obtain rfl : j = n:=by omega
       have d3 : decide ((j : Int) < (j : Int)) = false:=decide_eq_false (by omega)
       have d4 : decide (j < j) = false:=decide_eq_false (by omega)
       have KXj:=hid kx
       have HPj:=hid hp
       clear hj hjm kx hp hPa hL hLn hl4
       go_wp2_with fail
       clear eb cK
       go_loopw [6] (fun gv wx => gv = .int .i64 1 ∧ KX (fun b => ∃ v ∈ bvs,bkv v b) u wx ∧ Rws kb rv r1 kv sv bvs (Pb i j) wx) (fun gv _ => 0)
       case atStart => exact ⟨rfl,KXj.out,HPj.out⟩
       case round =>
        clear KXj HPj
        obtain ⟨rfl,kx,hp⟩:=hrel
        have KXg:=hid kx
        have HPg:=hid hp
        clear kx hp
        go_wp2_with fail
        go_roundw
        case rel => exact ⟨i + 1,by have:=HII.out; omega,by go_num,KXg.out,HPg.out.imp (fun k v L hv hL h => pb_next i k L j (fun hk => by subst hk; rw [HVi.out] at hv; cases hv; exact HLn.out _ _ hL) h)⟩
        case measure => have:=HII.out; simp [intOf]; omega
    ·obtain rfl : i = m:=by omega
     have d1 : decide ((i : Int) < (i : Int)) = false:=decide_eq_false (by omega)
     have d2 : decide (i < i) = false:=decide_eq_false (by omega)
     clear hi hiN kx hp
     go_wp2_with fail
     go_roundw
     case rel => exact ⟨1,by decide,rfl,KXi.out,HPi.out.imp (fun _ _ _ _ _ _ => trivial),fun _ => HPi.out.imp (fun k v L hv _ h => h.1 (by have:=(List.getElem?_eq_some_iff.1 hv).1; have:=HMM.out; omega))⟩
     case measure => simp [intOf]
  ·skip
   go_wp2_with fail
   go_loopw [4] (fun iv wx => ∃ i : Nat,i ≤ m ∧ iv = .int .i64 (i : Int) ∧ KX (fun b => ∃ v ∈ bvs,bkv v b) u wx ∧ Rws kb rv r1 kv sv bvs (Pn) wx) (fun iv _ => m - (intOf iv).toNat)
   case atStart => exact ⟨0,Nat.zero_le _,rfl,KXr.out,HPm.out (by decide)⟩
   case round =>
    clear KXr HPr HPm
    obtain ⟨i,hi,rfl,kx,hp⟩:=hrel
    have KXi:=hid kx
    have HPi:=hid hp
    have cK:=HC.out _ _ hp
    by_cases hiN : i < m
    ·obtain ⟨v,hv⟩ : ∃ v,bvs[i]? = some v:=⟨_,List.getElem?_eq_getElem (by have:=HMM.out; omega)⟩
     obtain ⟨L0,hL0,-,hl4⟩:=hp.b i v hv
     obtain ⟨va,vc,hvf⟩:=hL0.bn.form
     obtain ⟨n,hn⟩ : ∃ n,L0.length = n:=⟨_,rfl⟩
     rw [hn] at hvf
     obtain ⟨gb,e7,eb⟩:=HHdr.out _ _ hp i _ hv
     subst e7
     rw [hvf] at eb
     have d1 : decide ((i : Int) < (m : Int)) = true:=decide_eq_true (by omega)
     have d2 : decide (i < m) = true:=decide_eq_true hiN
     have hbd : (0 : Int) ≤ (i : Int) ∧ (i : Int) < (m : Int):=by omega
     have z7 : IntKind.i64.wrap ((i : Int) + 1) = (i : Int) + 1:=by have:=HMM.out; rw [wrap_i64]; omega
     have z5 : IntKind.u8.wrap (i : Int) = (i : Int):=by have:=HMM.out; rw [IntKind.wrap_u8]; omega
     have HII:=hid hiN
     have HVi:=hid (show bvs[i]? = some (.slice va n vc) by rw [← hvf]; exact hv)
     have HM2:=hid (show n ≤ 14000000 by omega)
     have HLn : Hid (∀ w L,ExB w (.slice va n vc) L → L.length = n):=fun w L h => by rw [← hvf] at h; rw [← hn]; exact h.len2 hL0
     clear hiN hv hi kx hp hL0 hvf hn hl4
     go_wp2_with fail
     go_loopw [5] (fun jv wx => ∃ j : Nat,j ≤ n ∧ jv = .int .i64 (j : Int) ∧ KX (fun b => ∃ v ∈ bvs,bkv v b) u wx ∧ Rws kb rv r1 kv sv bvs (Pn) wx) (fun jv _ => n - (intOf jv).toNat)
     case atStart => exact ⟨0,Nat.zero_le _,rfl,KXi.out,HPi.out⟩
     case round =>
      clear KXi HPi eb cK
      obtain ⟨j,hj,rfl,kx,hp⟩:=hrel
      have cK:=HC.out _ _ hp
      obtain ⟨L,hL,hPa,hl4⟩:=hp.b i _ HVi.out
      have hLn:=HLn.out _ _ hL
      obtain ⟨gb',e8,eb⟩:=HHdr.out _ _ hp i _ HVi.out
      cases e8
      by_cases hjm : j < n
      ·obtain ⟨g,e9,e10,h0,hO⟩ : ∃ g,va = some ⟨g,0,none⟩ ∧ vc = n ∧ 0 < n ∧ OwnV wr g n 5 (L.map (Value.int .u8)):=by
        rcases hL with ⟨h1,-⟩ | ⟨g,e,h0,ho⟩
        ·rw [h1] at hLn; simp at hLn; omega
        ·rw [hLn] at e h0 ho
         injection e with e1 e2 e3
         exact ⟨g,e1,e3,h0,ho⟩
       subst e9 e10
       have d3 : decide ((j : Int) < (vc : Int)) = true:=decide_eq_true (by omega)
       have d4 : decide (j < vc) = true:=decide_eq_true hjm
       have hbj : (0 : Int) ≤ (j : Int) ∧ (j : Int) < (vc : Int):=by omega
       have z8 : IntKind.i64.wrap ((j : Int) + 1) = (j : Int) + 1:=by have:=HM2.out; rw [wrap_i64]; omega
       have HJJ:=hid hjm
       have HP2:=hid hp
       have HK2:=hid kx
       clear hj hjm kx hp hPa hO hL hLn hl4
       go_wp2_with fail
       go_roundw
       case rel => exact ⟨j + 1,by have:=HJJ.out; omega,by go_num,HK2.out,HP2.out⟩
       case measure => have:=HJJ.out; simp [intOf]; omega
      ·obtain rfl : j = n:=by omega
       have d3 : decide ((j : Int) < (j : Int)) = false:=decide_eq_false (by omega)
       have d4 : decide (j < j) = false:=decide_eq_false (by omega)
       have KXj:=hid kx
       have HPj:=hid hp
       clear hj hjm kx hp hPa hL hLn hl4
       go_wp2_with fail
       clear eb cK
       go_loopw [6] (fun gv wx => ∃ q : Nat,1 ≤ q ∧ q ≤ 18 ∧ gv = .int .i64 (q : Int) ∧ KX (fun b => ∃ v ∈ bvs,bkv v b) u wx ∧ Rws kb rv r1 kv sv bvs Pn wx) (fun gv _ => 18 - (intOf gv).toNat)
       case atStart => exact ⟨1,Nat.le_refl _,by decide,rfl,KXj.out,HPj.out⟩
       case round =>
        clear KXj HPj
        obtain ⟨q,hq1,hq2,rfl,kx,hp⟩:=hrel
        have cK:=HC.out _ _ hp
        obtain ⟨L,hL,hPa,hl4⟩:=hp.b i _ HVi.out
        have hLn:=HLn.out _ _ hL
        obtain ⟨gb',e8,eb⟩:=HHdr.out _ _ hp i _ HVi.out
        cases e8
        have KXg:=hid kx
        have HPg:=hid hp
        by_cases hq17 : q ≤ 17
        ·obtain ⟨mm,hmm⟩ : ∃ mm,q + q / 17 * 80 = mm:=⟨_,rfl⟩
         have hm1 : 0 < mm ∧ mm ≤ 1000:=by omega
         have d3 : decide ((q : Int) ≤ 17) = true:=decide_eq_true (by omega)
         have d4 : decide (q ≤ 17) = true:=decide_eq_true hq17
         obtain ⟨d,hd⟩ : ∃ d : Int,Int.tdiv (q : Int) 17 = d:=⟨_,rfl⟩
         have hd2 : d = ((q / 17 : Nat) : Int):=by rw [← hd,Int.tdiv_eq_ediv_of_nonneg (by omega)]; omega
         have hall : wrap64 ((q : Int) + wrap64 (wrap64 d * 80)) = (mm : Int):=by
          unfold wrap64
          omega
         clear hd2
         have z2 : IntKind.i64.wrap ((q : Int) + 1) = (q : Int) + 1:=by rw [wrap_i64]; omega
         obtain ⟨C2,w6,hrun,k6,⟨x,hx⟩,hf⟩:=zgrow_b wr (.slice va j vc) L hL hl4 mm hm1.1 hm1.2
         rw [hLn] at hrun hx hf
         obtain ⟨g2,hg2⟩ : ∃ g2,wr.heap.size = g2:=⟨_,rfl⟩
         rw [hg2] at hrun hx hf
         obtain ⟨p,hp9⟩ : ∃ p,j + mm - 1 = p:=⟨_,rfl⟩
         rw [hp9] at hx hf
         have hM2:=HM2.out
         have t4 : IntKind.i64.wrap (((j + mm : Nat) : Int) - 1) = (p : Int):=by rw [wrap_i64]; omega
         have t5 : IntKind.i64.wrap ((j : Int) + (mm : Int) - 1) = (p : Int):=by rw [wrap_i64]; omega
         have t6 : (0 : Int) ≤ (p : Int) ∧ (p : Int) < ((j + mm : Nat) : Int):=by omega
         have t7 : (p : Int) < (j : Int) + (mm : Int):=by omega
         rw [← hall] at hrun
         have HRun:=hid hrun
         have k7:=kept_of_kx k6 ((Grw.refl g2 w6).setCell p (.int .u8 254)).kx (fun b hb => by omega)
         have HP7:=hid (hp.kept k7)
         have HK7:=hid (kx.trans (k7.kx _))
         have HII2:=hid (show q ≤ 17 from hq17)
         clear hall hp kx hPa hL hLn hl4 hrun hq17 hmm hm1 hp9 hM2 hg2 KXg HPg k6 k7
         go_wp2_with (first | (at_builtin; refine wpList_append_run2 rfl _ _ _ _ rfl _ _ rfl rfl _ _ (HRun.out _) ?_; clear HRun))
         go_roundw
         case rel => exact ⟨q + 1,by omega,by have:=HII2.out; omega,by go_num,HK7.out,HP7.out⟩
         case measure => have:=HII2.out; simp [intOf]; omega
        ·have d3 : decide ((q : Int) ≤ 17) = false:=decide_eq_false (by omega)
         have d4 : decide (q ≤ 17) = false:=decide_eq_false hq17
         clear hp kx hPa hL hLn hl4 hq17 eb cK
         go_wp2_with fail
         go_roundw
         case rel => exact ⟨i + 1,by have:=HII.out; omega,by go_num,KXg.out,HPg.out⟩
         case measure => have:=HII.out; simp [intOf]; omega
    ·obtain rfl : i = m:=by omega
     have d1 : decide ((i : Int) < (i : Int)) = false:=decide_eq_false (by omega)
     have d2 : decide (i < i) = false:=decide_eq_false (by omega)
     clear hi hiN kx hp
     go_wp2_with fail
     go_roundw
     case rel => exact ⟨2,by decide,rfl,KXi.out,HPi.out.imp (fun _ _ _ _ _ _ => trivial),fun _ => HPi.out⟩
     case measure => simp [intOf]
  ·skip
   go_wp2_with fail
   go_loopw [4] (fun iv wx => ∃ i : Nat,i ≤ m ∧ iv = .int .i64 (i : Int) ∧ KX (fun b => ∃ v ∈ bvs,bkv v b) u wx ∧ Rws kb rv r1 kv sv bvs (Pn) wx) (fun iv _ => m - (intOf iv).toNat)
   case atStart => exact ⟨0,Nat.zero_le _,rfl,KXr.out,HPm.out (by decide)⟩
   case round =>
    clear KXr HPr HPm
    obtain ⟨i,hi,rfl,kx,hp⟩:=hrel
    have KXi:=hid kx
    have HPi:=hid hp
    have cK:=HC.out _ _ hp
    by_cases hiN : i < m
    ·obtain ⟨v,hv⟩ : ∃ v,bvs[i]? = some v:=⟨_,List.getElem?_eq_getElem (by have:=HMM.out; omega)⟩
     obtain ⟨L0,hL0,-,hl4⟩:=hp.b i v hv
     obtain ⟨va,vc,hvf⟩:=hL0.bn.form
     obtain ⟨n,hn⟩ : ∃ n,L0.length = n:=⟨_,rfl⟩
     rw [hn] at hvf
     obtain ⟨gb,e7,eb⟩:=HHdr.out _ _ hp i _ hv
     subst e7
     rw [hvf] at eb
     have d1 : decide ((i : Int) < (m : Int)) = true:=decide_eq_true (by omega)
     have d2 : decide (i < m) = true:=decide_eq_true hiN
     have hbd : (0 : Int) ≤ (i : Int) ∧ (i : Int) < (m : Int):=by omega
     have z7 : IntKind.i64.wrap ((i : Int) + 1) = (i : Int) + 1:=by have:=HMM.out; rw [wrap_i64]; omega
     have z5 : IntKind.u8.wrap (i : Int) = (i : Int):=by have:=HMM.out; rw [IntKind.wrap_u8]; omega
     have HII:=hid hiN
     have HVi:=hid (show bvs[i]? = some (.slice va n vc) by rw [← hvf]; exact hv)
     have HM2:=hid (show n ≤ 14000000 by omega)
     have HLn : Hid (∀ w L,ExB w (.slice va n vc) L → L.length = n):=fun w L h => by rw [← hvf] at h; rw [← hn]; exact h.len2 hL0
     clear hiN hv hi kx hp hL0 hvf hn hl4
     go_wp2_with fail
     go_loopw [5] (fun jv wx => ∃ j : Nat,j ≤ n ∧ jv = .int .i64 (j : Int) ∧ KX (fun b => ∃ v ∈ bvs,bkv v b) u wx ∧ Rws kb rv r1 kv sv bvs (Pn) wx) (fun jv _ => n - (intOf jv).toNat)
     case atStart => exact ⟨0,Nat.zero_le _,rfl,KXi.out,HPi.out⟩
     case round =>
      clear KXi HPi eb cK
      obtain ⟨j,hj,rfl,kx,hp⟩:=hrel
      have cK:=HC.out _ _ hp
      obtain ⟨L,hL,hPa,hl4⟩:=hp.b i _ HVi.out
      have hLn:=HLn.out _ _ hL
      obtain ⟨gb',e8,eb⟩:=HHdr.out _ _ hp i _ HVi.out
      cases e8
      by_cases hjm : j < n
      ·obtain ⟨g,e9,e10,h0,hO⟩ : ∃ g,va = some ⟨g,0,none⟩ ∧ vc = n ∧ 0 < n ∧ OwnV wr g n 5 (L.map (Value.int .u8)):=by
        rcases hL with ⟨h1,-⟩ | ⟨g,e,h0,ho⟩
        ·rw [h1] at hLn; simp at hLn; omega
        ·rw [hLn] at e h0 ho
         injection e with e1 e2 e3
         exact ⟨g,e1,e3,h0,ho⟩
       subst e9 e10
       have d3 : decide ((j : Int) < (vc : Int)) = true:=decide_eq_true (by omega)
       have d4 : decide (j < vc) = true:=decide_eq_true hjm
       have hbj : (0 : Int) ≤ (j : Int) ∧ (j : Int) < (vc : Int):=by omega
       have z8 : IntKind.i64.wrap ((j : Int) + 1) = (j : Int) + 1:=by have:=HM2.out; rw [wrap_i64]; omega
       have HJJ:=hid hjm
       have hLr : L.getD j 0 = (i : Int):=by
        have h2 : L = List.replicate L.length (i : Int):=hPa
        rw [h2,List.getD_eq_getElem?_getD,List.getElem?_replicate,if_pos (by omega)]
        rfl
       have ec : wr.cell? ⟨g,j,none⟩ = some (.int .u8 (L.getD j 0)):=by
        refine hO.cell j _ ?_
        rw [List.getElem?_map,List.getElem?_eq_getElem (by omega),List.getD_eq_getElem?_getD,List.getElem?_eq_getElem (by omega)]
        rfl
       rw [hLr] at ec
       have HP2:=hid hp
       have HK2:=hid kx
       clear hj hjm kx hp hPa hO hL hLn hl4 hLr
       go_wp2_with fail
       go_roundw
       case rel => exact ⟨j + 1,by have:=HJJ.out; omega,by go_num,HK2.out,HP2.out⟩
       case measure => have:=HJJ.out; simp [intOf]; omega
      ·obtain rfl : j = n:=by omega
       have d3 : decide ((j : Int) < (j : Int)) = false:=decide_eq_false (by omega)
       have d4 : decide (j < j) = false:=decide_eq_false (by omega)
       have KXj:=hid kx
       have HPj:=hid hp
       clear hj hjm kx hp hPa hL hLn hl4
       go_wp2_with fail
       clear eb cK
       go_loopw [6] (fun gv wx => gv = .int .i64 1 ∧ KX (fun b => ∃ v ∈ bvs,bkv v b) u wx ∧ Rws kb rv r1 kv sv bvs (Pn) wx) (fun gv _ => 0)
       case atStart => exact ⟨rfl,KXj.out,HPj.out⟩
       case round =>
        clear KXj HPj
        obtain ⟨rfl,kx,hp⟩:=hrel
        have KXg:=hid kx
        have HPg:=hid hp
        clear kx hp
        go_wp2_with fail
        go_roundw
        case rel => exact ⟨i + 1,by have:=HII.out; omega,by go_num,KXg.out,HPg.out⟩
        case measure => have:=HII.out; simp [intOf]; omega
    ·obtain rfl : i = m:=by omega
     have d1 : decide ((i : Int) < (i : Int)) = false:=decide_eq_false (by omega)
     have d2 : decide (i < i) = false:=decide_eq_false (by omega)
     clear hi hiN kx hp
     go_wp2_with fail
     go_roundw
     case rel => exact ⟨3,by decide,rfl,KXi.out,HPi.out.imp (fun _ _ _ _ _ _ => trivial),fun _ => HPi.out⟩
     case measure => simp [intOf]
  ·skip
   go_wp2_with fail
   go_ret
   exact ⟨rfl,KXr.out⟩
end Go.Proofs.Ytocjfdiimapojaa
