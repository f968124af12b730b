/- The laws of chapter 23: bulk,and what it tells of a state's lists. The laws of chapter 23: is what was lent what it was,its marks too? A lent state in whose memory one number is another one: it is a state still,as long as it was. What is told of a state,by the program and by the document: one answer. Bytes as text. The laws of chapter 23: writes. The laws of chapter 23: bytes that were answered are marked,grown,looked at. -/
import Derived.Test.YtocjfdiimapojaaMI
import Derived.Test.YtocjfdiimapojaaXD
import Derived.Test.YtocjfdiimapojaaZE
namespace Go.Proofs.Ytocjfdiimapojaa
open Go.ChangeShapes Go.WideShapes Go.ChangeAt Go.RowKit
set_option maxHeartbeats 16000000
set_option maxRecDepth 100000
set_option linter.unusedVariables false
set_option linter.unusedSimpArgs false
def SmL (l : List Mat) (k : Nat) (x : Int) : Prop:=∀ (j : Nat) (m : Mat),l[j]? = some m → j < k → (m.L.length : Int) ≤ x
def SmQ (Q : List (List Mat)) (k : Nat) (x : Int) : Prop:=∀ (j : Nat) (l : List Mat),Q[j]? = some l → j < k → (l.length : Int) ≤ x ∧ SmL l l.length x
theorem SmL.mono {l : List Mat} {k : Nat} {x y : Int} (h : SmL l k x) (hxy : x ≤ y) : SmL l k y:=fun j m hj hk => Int.le_trans (h j m hj hk) hxy
theorem SmQ.mono {Q : List (List Mat)} {k : Nat} {x y : Int} (h : SmQ Q k x) (hxy : x ≤ y) : SmQ Q k y:=fun j l hj hk => ⟨Int.le_trans (h j l hj hk).1 hxy,(h j l hj hk).2.mono hxy⟩
/-- The lists of a state are no longer than the form's own reach. -/
structure SRc (s : Sta) : Prop where
 p : s.P.length ≤ 140737488351232
 q : s.Q.length ≤ 140737488351232
 l : ∀ (i : Nat) (l : List Mat),s.Q[i]? = some l → l.length ≤ 140737488351232
 pm : ∀ (i : Nat) (m : Mat),s.P[i]? = some m → m.L.length ≤ 140737488351232
 qm : ∀ (i : Nat) (l : List Mat),s.Q[i]? = some l → ∀ (j : Nat) (m : Mat),l[j]? = some m → m.L.length ≤ 140737488351232
/-- A state that bulk finds small. -/
structure Smal (s : Sta) : Prop where
 p : s.P.length ≤ 40000
 q : s.Q.length ≤ 40000
 pm : SmL s.P s.P.length 40000
 qm : SmQ s.Q s.Q.length 40000
theorem bulk_sm (v : Value) (s : Sta) (hrc : SRc s) (w : World) (hS : StI w v s) :
  Calls Try.prog 8 #[v] w fun e w' => (∃ x,e = .returned (.int .i64 x) ∧ (x ≤ 40000 → Smal s)) ∧ Kept w w':=by
 have hpn:=hrc.p
 have hqn:=hrc.q
 have HPM:=hid hrc.pm
 have HQM:=hid hrc.qm
 have HFi : Hid (∀ x : Int,x ≤ 40000 → (s.P.length : Int) + s.Q.length ≤ x → SmL s.P s.P.length x → SmQ s.Q s.Q.length x → Smal s):=fun x h1 h2 h3 h4 => ⟨by omega,by omega,h3.mono h1,h4.mono h1⟩
 obtain ⟨pv,qv,rfl,⟨pa,pc,rfl,hpc,hpr⟩,⟨qa,qc,rfl,hqc,hqr⟩⟩:=hS
 have HP : Hid (∀ (i : Nat) (m : Mat),s.P[i]? = some m → ∃ B off a cp,pa = some ⟨B,off,none⟩ ∧ ∀ u,Kept w u → u.cell? ⟨B,off + i * 4 + 3,none⟩ = some (.slice a m.L.length cp)):=fun i m hi => by
  obtain ⟨B,off,e,h⟩:=hpr (by intro e; rw [e] at hi; simp at hi)
  obtain ⟨a,cp,hm⟩:=h i m hi
  exact ⟨B,off,a,cp,e,fun u ku => (hm.kept ku).c3⟩
 have HQ : Hid (∀ (i : Nat) (l : List Mat),s.Q[i]? = some l → ∃ B off la lc,qa = some ⟨B,off,none⟩ ∧ l.length ≤ lc ∧ (∀ u,Kept w u → u.cell? ⟨B,off + i,none⟩ = some (.slice la l.length lc)) ∧ ∀ (k : Nat) (m : Mat),l[k]? = some m → ∃ B2 off2 a cp,la = some ⟨B2,off2,none⟩ ∧ ∀ u,Kept w u → u.cell? ⟨B2,off2 + k * 4 + 3,none⟩ = some (.slice a m.L.length cp)):=fun i l hi => by
  obtain ⟨B,off,e,h⟩:=hqr (by intro e; rw [e] at hi; simp at hi)
  obtain ⟨lv,h1,la,lc,rfl,hlc,hr⟩:=h i l hi
  refine ⟨B,off,la,lc,e,hlc,fun u ku => (ku.below.cell (p:=⟨B,off + i,none⟩) (World.block_lt_of_cell? _ _ h1)).trans h1,fun k m hk => ?_⟩
  obtain ⟨B2,off2,e2,h2⟩:=hr (by intro e; rw [e] at hk; simp at hk)
  obtain ⟨a,cp,hm⟩:=h2 k m hk
  exact ⟨B2,off2,a,cp,e2,fun u ku => (hm.kept ku).c3⟩
 have HLN:=hid hrc.l
 clear hpr hqr hrc
 obtain ⟨sa,sb,sd,P,Q,lo,ra⟩:=s
 dsimp only at *
 obtain ⟨pl,hpl⟩ : ∃ pl,P.length = pl:=⟨_,rfl⟩
 obtain ⟨n,hn⟩ : ∃ n,Q.length = n:=⟨_,rfl⟩
 rw [hpl] at hpn hpc HFi ⊢
 rw [hn] at hqn hqc HFi ⊢
 have HPl:=hid hpl
 have HNn:=hid hn
 have HB:=hid (show pl ≤ 140737488351232 ∧ n ≤ 140737488351232 ∧ pl ≤ pc ∧ n ≤ qc from ⟨hpn,hqn,hpc,hqc⟩)
 clear hpl hn hpn hqn hpc hqc
 obtain ⟨M,hM⟩ : ∃ M,w.heap.size = M:=⟨_,rfl⟩
 obtain ⟨W0,hW0⟩ : ∃ W0,w.alloc (.cells #[.int .i64 sa,.int .i64 sb,.int .i64 sd,.slice pa pl pc,.slice qa n qc,.int .i64 lo,.int .i64 ra] 35) = W0:=⟨_,rfl⟩
 have k0 : Kept w W0:=by rw [← hW0]; exact (Kept.refl w).alloc _ _
 have b0 : Bk W0 M [.int .i64 sa,.int .i64 sb,.int .i64 sd,.slice pa pl pc,.slice qa n qc,.int .i64 lo,.int .i64 ra]:=by rw [← hW0,← hM]; exact Bk.new w _ _
 have x3:=b0.c 3 _ rfl
 have x4:=b0.c 4 _ rfl
 have HK0:=hid k0
 have HBk:=hid (show ∀ u,Kept W0 u → Bk u M [.int .i64 sa,.int .i64 sb,.int .i64 sd,.slice pa pl pc,.slice qa n qc,.int .i64 lo,.int .i64 ra] from fun u ku => b0.kept ku)
 clear k0 b0
 have z0 : IntKind.i64.wrap ((pl : Int) + (n : Int)) = (pl : Int) + (n : Int):=by have:=HB.out; rw [wrap_i64]; omega
 have HX0:=hid (show (0 : Int) ≤ (pl : Int) + (n : Int) ∧ (pl : Int) + (n : Int) ≤ 500000000000000 by have:=HB.out; omega)
 go_enter Try.func8,Try.ntmps8
 go_wp2_with fail
 clear hM hW0
 go_loopw [3,4] (fun sv iv wr => ∃ (i : Nat) (x : Int),i ≤ pl ∧ sv = .int .i64 x ∧ iv = .int .i64 (i : Int) ∧ Kept W0 wr ∧ (0 ≤ x ∧ x ≤ 500000000000000 ∧ (pl : Int) + n ≤ x ∧ SmL P i x)) (fun _ iv _ => pl - (intOf iv).toNat)
 case atStart => exact ⟨0,_,Nat.zero_le _,rfl,rfl,Kept.refl _,HX0.out.1,HX0.out.2,Int.le_refl _,fun j m _ h => by omega⟩
 case round =>
  clear x3 x4
  obtain ⟨i,x,hi,rfl,rfl,kr,hxx⟩:=hrel
  have HXX:=hid hxx
  clear hxx
  have x3:=(HBk.out _ kr).c 3 _ rfl
  have x4:=(HBk.out _ kr).c 4 _ rfl
  have KR:=hid kr
  by_cases hin : i < pl ∧ x ≤ 40000
  ·obtain ⟨hin,hx⟩:=hin
   obtain ⟨m,hm⟩ : ∃ m,P[i]? = some m:=⟨_,List.getElem?_eq_getElem (by rw [HPl.out]; exact hin)⟩
   obtain ⟨B,off,a,cp,rfl,hc⟩:=HP.out i m hm
   have c3:=hc _ (HK0.out.trans kr)
   have hbd : (0 : Int) ≤ (i : Int) ∧ (i : Int) < (pl : Int):=by omega
   have hbd2 : decide ((i : Int) < (pl : Int)) = true:=decide_eq_true (by omega)
   have hxd : decide (x ≤ 40000) = true:=decide_eq_true hx
   have z2 : IntKind.i64.wrap ((i : Int) + 1) = (i : Int) + 1:=by have:=HB.out; rw [wrap_i64]; omega
   have hi2:=hid hin
   have hml:=HPM.out i m hm
   have zx : IntKind.i64.wrap (x + (m.L.length : Int)) = x + (m.L.length : Int):=by have:=HXX.out; rw [wrap_i64]; omega
   have HXN:=hid (show 0 ≤ x + (m.L.length : Int) ∧ x + (m.L.length : Int) ≤ 500000000000000 ∧ (pl : Int) + n ≤ x + (m.L.length : Int) ∧ SmL P (i + 1) (x + (m.L.length : Int)) from ⟨by have:=HXX.out; omega,by have:=HXX.out; omega,by have:=HXX.out; omega,fun j m2 h1 h2 => by
    by_cases hji : j < i
    ·have:=HXX.out.2.2.2 j m2 h1 hji; omega
    ·obtain rfl : j = i:=by omega
     rw [hm] at h1; cases h1; have:=HXX.out; omega⟩)
   clear hc hm HP HQ hi hin hx kr hml
   go_wp2_with fail
   go_roundw
   case rel => exact ⟨i + 1,_,by have:=hi2.out; omega,rfl,by go_num,KR.out,HXN.out⟩
   case measure => have:=hi2.out; simp [intOf]; omega
  ·have hdd : ((decide ((i : Int) < (pl : Int)) = false ∧ decide (i < pl) = false) ∧ ¬ i < pl) ∨ ((decide ((i : Int) < (pl : Int)) = true ∧ decide (i < pl) = true ∧ i < pl) ∧ decide (x ≤ 40000) = false ∧ ¬ x ≤ 40000):=by
    by_cases h1 : i < pl
    ·exact .inr ⟨⟨decide_eq_true (by omega),decide_eq_true h1,h1⟩,decide_eq_false (fun h => hin ⟨h1,h⟩),fun h => hin ⟨h1,h⟩⟩
    ·exact .inl ⟨⟨decide_eq_false (by omega),decide_eq_false h1⟩,h1⟩
   clear hin hi HP kr
   have HE1 : Hid (40000 < x ∨ SmL P pl x):=by
    rcases hdd with ⟨-,hd4⟩ | ⟨-,-,hd5⟩
    ·exact .inr fun j m h1 h2 => HXX.out.2.2.2 j m h1 (by omega)
    ·exact .inl (by omega)
   rcases hdd with ⟨⟨hd1,hd3⟩,hd4⟩ | ⟨⟨hd1,hd3,hd4⟩,hd2,hd5⟩
   all_goals
    go_wp2_with fail
    go_loopw [3,5] (fun sv iv wr => ∃ (i : Nat) (x : Int),i ≤ n ∧ sv = .int .i64 x ∧ iv = .int .i64 (i : Int) ∧ Kept W0 wr ∧ (0 ≤ x ∧ x ≤ 500000000000000 ∧ (pl : Int) + n ≤ x ∧ (40000 < x ∨ (SmL P pl x ∧ SmQ Q i x)))) (fun _ iv _ => n - (intOf iv).toNat)
    case atStart => exact ⟨0,_,Nat.zero_le _,rfl,rfl,KR.out,HXX.out.1,HXX.out.2.1,HXX.out.2.2.1,HE1.out.elim .inl fun h => .inr ⟨h,fun j l _ h => by omega⟩⟩
    case round =>
     clear hd1 hd3 hd4 x3 x4 KR HE1
     try clear hd2 hd5
     obtain ⟨i,x,hi,rfl,rfl,kr,hxx⟩:=hrel
     have HXY:=hid hxx
     clear hxx
     have x3:=(HBk.out _ kr).c 3 _ rfl
     have x4:=(HBk.out _ kr).c 4 _ rfl
     have KR:=hid kr
     by_cases hin : i < n ∧ x ≤ 40000
     ·obtain ⟨hin,hx⟩:=hin
      obtain ⟨l,hl⟩ : ∃ l,Q[i]? = some l:=⟨_,List.getElem?_eq_getElem (by rw [HNn.out]; exact hin)⟩
      obtain ⟨B,off,la,lc,rfl,hlc,hc,hin3⟩:=HQ.out i l hl
      have c3:=hc _ (HK0.out.trans kr)
      have hbd : (0 : Int) ≤ (i : Int) ∧ (i : Int) < (n : Int):=by omega
      have hbd2 : decide ((i : Int) < (n : Int)) = true:=decide_eq_true (by omega)
      have hxd : decide (x ≤ 40000) = true:=decide_eq_true hx
      have z2 : IntKind.i64.wrap ((i : Int) + 1) = (i : Int) + 1:=by have:=HB.out; rw [wrap_i64]; omega
      have HLl:=hid (HLN.out i l hl)
      have HSP:=hid (show SmL P pl x ∧ SmQ Q i x from HXY.out.2.2.2.resolve_left (by omega))
      have HQl:=hid hl
      obtain ⟨q,hq⟩ : ∃ q,l.length = q:=⟨_,rfl⟩
      rw [hq] at c3 HLl hlc
      have HL:=hid hq
      have HL3:=hid hin3
      have hi2:=hid hin
      have HC3:=hid hc
      have zq : IntKind.i64.wrap (x + (q : Int)) = x + (q : Int):=by have:=HXY.out; have:=HLl.out; rw [wrap_i64]; omega
      have HX3:=hid (show x ≤ 40000 from hx)
      clear hc hl HQ hi hin hx hq hin3 hlc kr
      go_wp2_with fail
      go_loopw [3,6] (fun sv iv wr => ∃ (k : Nat) (y : Int),k ≤ q ∧ sv = .int .i64 y ∧ iv = .int .i64 (k : Int) ∧ Kept W0 wr ∧ (0 ≤ y ∧ y ≤ 500000000000000 ∧ x + q ≤ y ∧ SmL l k y)) (fun _ iv _ => q - (intOf iv).toNat)
      case atStart => exact ⟨0,_,Nat.zero_le _,rfl,rfl,KR.out,by have:=HXY.out; omega,by have:=HXY.out; have:=HX3.out; have:=HLl.out; omega,Int.le_refl _,fun j m _ h => by omega⟩
      case round =>
       clear hxd x3 x4 c3 KR
       obtain ⟨k,y,hk,rfl,rfl,kr,hyy⟩:=hrel
       have HYY:=hid hyy
       clear hyy
       have x3:=(HBk.out _ kr).c 3 _ rfl
       have x4:=(HBk.out _ kr).c 4 _ rfl
       have c3:=HC3.out _ (HK0.out.trans kr)
       rw [HL.out] at c3
       have KR:=hid kr
       by_cases hkn : k < q ∧ y ≤ 40000
       ·obtain ⟨hkn,hy⟩:=hkn
        obtain ⟨m,hm⟩ : ∃ m,l[k]? = some m:=⟨_,List.getElem?_eq_getElem (by rw [HL.out]; exact hkn)⟩
        obtain ⟨B2,off2,a,cp,rfl,hc⟩:=HL3.out k m hm
        have c4:=hc _ (HK0.out.trans kr)
        have hbd3 : (0 : Int) ≤ (k : Int) ∧ (k : Int) < (q : Int):=by omega
        have hbd4 : decide ((k : Int) < (q : Int)) = true:=decide_eq_true (by omega)
        have hyd : decide (y ≤ 40000) = true:=decide_eq_true hy
        have z4 : IntKind.i64.wrap ((k : Int) + 1) = (k : Int) + 1:=by have:=HLl.out; rw [wrap_i64]; omega
        have hk2:=hid hkn
        have hml:=HQM.out i l HQl.out k m hm
        have zx : IntKind.i64.wrap (y + (m.L.length : Int)) = y + (m.L.length : Int):=by have:=HYY.out; rw [wrap_i64]; omega
        have HYN:=hid (show 0 ≤ y + (m.L.length : Int) ∧ y + (m.L.length : Int) ≤ 500000000000000 ∧ x + q ≤ y + (m.L.length : Int) ∧ SmL l (k + 1) (y + (m.L.length : Int)) from ⟨by have:=HYY.out; omega,by have:=HYY.out; omega,by have:=HYY.out; omega,fun j m2 h1 h2 => by
         by_cases hji : j < k
         ·have:=HYY.out.2.2.2 j m2 h1 hji; omega
         ·obtain rfl : j = k:=by omega
          rw [hm] at h1; cases h1; have:=HYY.out; have:=HXY.out; omega⟩)
        clear hc hm HL3 hk hkn hy kr hml
        go_wp2_with fail
        go_roundw
        case rel => exact ⟨k + 1,_,by have:=hk2.out; omega,rfl,by go_num,KR.out,HYN.out⟩
        case measure => have:=hk2.out; simp [intOf]; omega
       ·have hdd : ((decide ((k : Int) < (q : Int)) = false ∧ decide (k < q) = false) ∧ ¬ k < q) ∨ ((decide ((k : Int) < (q : Int)) = true ∧ decide (k < q) = true ∧ k < q) ∧ decide (y ≤ 40000) = false ∧ ¬ y ≤ 40000):=by
         by_cases h1 : k < q
         ·exact .inr ⟨⟨decide_eq_true (by omega),decide_eq_true h1,h1⟩,decide_eq_false (fun h => hkn ⟨h1,h⟩),fun h => hkn ⟨h1,h⟩⟩
         ·exact .inl ⟨⟨decide_eq_false (by omega),decide_eq_false h1⟩,h1⟩
        have HE3 : Hid (0 ≤ y ∧ y ≤ 500000000000000 ∧ (pl : Int) + n ≤ y ∧ (40000 < y ∨ (SmL P pl y ∧ SmQ Q (i + 1) y))):=by
         have h1:=HYY.out
         have h2:=HXY.out
         refine ⟨h1.1,h1.2.1,by omega,?_⟩
         rcases hdd with ⟨-,hd4⟩ | ⟨-,-,hd5⟩
         ·refine .inr ⟨HSP.out.1.mono (by omega),fun j l2 hj hji => ?_⟩
          by_cases hj2 : j < i
          ·exact (HSP.out.2.mono (show x ≤ y by omega)) j l2 hj hj2
          ·obtain rfl : j = i:=by omega
           rw [HQl.out] at hj; cases hj
           exact ⟨by have:=HL.out; omega,fun a m ha hb => h1.2.2.2 a m ha (by have:=HL.out; omega)⟩
         ·exact .inl (by omega)
        clear hkn hk kr
        rcases hdd with ⟨⟨hd1,hd3⟩,hd4⟩ | ⟨⟨hd1,hd3,hd4⟩,hd2,hd5⟩
        all_goals
         go_wp2_with fail
         go_roundw
         case rel => exact ⟨i + 1,_,by have:=hi2.out; omega,rfl,by go_num,KR.out,HE3.out⟩
         case measure => have:=hi2.out; simp [intOf]; omega
     ·have hdd : ((decide ((i : Int) < (n : Int)) = false ∧ decide (i < n) = false) ∧ ¬ i < n) ∨ ((decide ((i : Int) < (n : Int)) = true ∧ decide (i < n) = true ∧ i < n) ∧ decide (x ≤ 40000) = false ∧ ¬ x ≤ 40000):=by
       by_cases h1 : i < n
       ·exact .inr ⟨⟨decide_eq_true (by omega),decide_eq_true h1,h1⟩,decide_eq_false (fun h => hin ⟨h1,h⟩),fun h => hin ⟨h1,h⟩⟩
       ·exact .inl ⟨⟨decide_eq_false (by omega),decide_eq_false h1⟩,h1⟩
      have HE2 : Hid (x ≤ 40000 → Smal ⟨sa,sb,sd,P,Q,lo,ra⟩):=by
       intro hx4
       have h2:=HXY.out
       have h3:=h2.2.2.2.resolve_left (by omega)
       rcases hdd with ⟨-,hd4⟩ | ⟨-,-,hd5⟩
       ·have : i = n:=by omega
        subst this
        exact HFi.out x hx4 h2.2.2.1 h3.1 h3.2
       ·exact absurd hx4 hd5
      clear hin hi kr
      rcases hdd with ⟨⟨hd1,hd3⟩,hd4⟩ | ⟨⟨hd1,hd3,hd4⟩,hd2,hd5⟩
      all_goals
       go_wp2_with fail
       go_ret
       exact ⟨⟨_,rfl,HE2.out⟩,HK0.out.trans KR.out⟩
end Go.Proofs.Ytocjfdiimapojaa

namespace Go.Proofs.Ytocjfdiimapojaa
open Go.ChangeShapes Go.WideShapes Go.ChangeAt Go.RowKit
set_option maxHeartbeats 16000000
set_option maxRecDepth 100000
set_option linter.unusedVariables false
set_option linter.unusedSimpArgs false
theorem own_markc {w : World} {g C : Nat} {L : List Int} {x : Int} (h : Own w g C (L ++ [x])) : w.cell? ⟨g,L.length,none⟩ = some (.int .i64 x) ∧ L.length + 1 ≤ C:=by
 obtain ⟨-,-,hc⟩ : _ ∧ _ ∧ (L ++ [x]).length ≤ C:=⟨trivial,trivial,by obtain ⟨cur,-,h2,-⟩:=h; exact h2⟩
 have h9:=(own_v.1 h).cell L.length (.int .i64 x) (by rw [List.getElem?_map,List.getElem?_append_right (Nat.le_refl _),Nat.sub_self]; rfl)
 exact ⟨h9,by simpa using hc⟩
theorem keptList_any (H : Nat) (v : Value) (l : List Mat) (hlen : l.length ≤ 1000000) (hml : ∀ (i : Nat) (m : Mat),l[i]? = some m → m.L.length ≤ 1000000) (w : World) (hL : LnV H w v l) : Calls Try.prog 42 #[v] w fun e w' => e = .returned (.bool true) ∧ Kept w w':=by
 obtain ⟨G,C,V,rfl,-,hC,hV,hO⟩:=hL
 have hVl:=hV.len
 have HE : Hid (∀ u,Kept w u → ∀ (i : Nat) (m : Mat),l[i]? = some m → ∃ g c,m.L.length + 1 ≤ c ∧ u.cell? ⟨G,i * 4 + 3,none⟩ = some (.slice (some ⟨g,0,none⟩) m.L.length c) ∧ u.cell? ⟨g,m.L.length,none⟩ = some (.int .i64 (-77))):=fun u ku i m hi => by
  obtain ⟨g,c,-,ho,-,-,-,h3⟩:=hV.get i m hi
  have hil:=(List.getElem?_eq_some_iff.1 hi).1
  have h4:=hO.kept ku
  have h5:=own_markc (ho.kept ku)
  exact ⟨g,c,h5.2,h4.cell _ _ ((List.getElem?_append_left (by omega)).trans h3),h5.1⟩
 have c0 : w.cell? ⟨G,l.length * 4,none⟩ = some (.int .i64 (-77)):=hO.cell _ _ (by rw [List.getElem?_append_right (by omega),hVl,Nat.sub_self]; rfl)
 obtain ⟨n,hn⟩ : ∃ n,l.length = n:=⟨_,rfl⟩
 rw [hn] at c0 hlen hC ⊢
 have HN:=hid hn
 have HNl:=hid (show n ≤ 1000000 from hlen)
 have HML:=hid hml
 have hc1 : (0 : Int) ≤ (n : Int) + 1 ∧ (n : Int) + 1 ≤ (C : Int):=by omega
 have hc2 : (n : Int) + 1 ≤ (C : Int):=by omega
 have hc3 : (n : Int) < (n : Int) + 1:=by omega
 have hc4 : n + 1 ≤ C:=hC
 have hc5 : (0 : Int) ≤ (n : Int) ∧ (n : Int) < (n : Int) + 1:=by omega
 have zn : IntKind.i64.wrap ((n : Int) + 1) = (n : Int) + 1:=by rw [wrap_i64]; omega
 have tn : ((n : Int) + 1).toNat = n + 1:=by omega
 clear hn hlen hml hV hO hVl hC
 go_enter Try.func42,Try.ntmps42
 go_wp2_with fail
 go_loopw [4] (fun iv wr => ∃ i : Nat,i ≤ n ∧ iv = .int .i64 (i : Int) ∧ Kept w wr) (fun iv _ => n - (intOf iv).toNat)
 case atStart => exact ⟨0,Nat.zero_le _,rfl,Kept.refl w⟩
 case round =>
  obtain ⟨i,hi,rfl,kr⟩:=hrel
  clear c0 hc1 hc2 hc3 hc4 hc5 zn tn
  by_cases hin : i < n
  ·obtain ⟨m,hm⟩ : ∃ m,l[i]? = some m:=⟨_,List.getElem?_eq_getElem (by rw [HN.out]; exact hin)⟩
   obtain ⟨g,c,hk,e0,e1⟩:=HE.out wr kr i m hm
   have hmm:=HML.out i m hm
   have HMM:=hid hmm
   have hbd : (0 : Int) ≤ (i : Int) ∧ (i : Int) < (n : Int):=by omega
   have hbd2 : (i : Int) < (n : Int):=by omega
   have z2 : IntKind.i64.wrap ((i : Int) + 1) = (i : Int) + 1:=by have:=HNl.out; rw [wrap_i64]; omega
   have hII:=hid hin
   clear HE HML hm hin hi
   generalize m.L.length = k at *
   have hc1 : (0 : Int) ≤ (k : Int) + 1 ∧ (k : Int) + 1 ≤ (c : Int):=by omega
   have hc2 : (k : Int) + 1 ≤ (c : Int):=by omega
   have hc3 : (k : Int) < (k : Int) + 1:=by omega
   have hc5 : (0 : Int) ≤ (k : Int) ∧ (k : Int) < (k : Int) + 1:=by omega
   have zk : IntKind.i64.wrap ((k : Int) + 1) = (k : Int) + 1:=by rw [wrap_i64]; omega
   have tk : ((k : Int) + 1).toNat = k + 1:=by omega
   go_wp2_with fail
   go_roundw
   case rel => exact ⟨i + 1,by have:=hII.out; omega,by go_num,kr⟩
   case measure => have:=hII.out; simp [intOf]; omega
  ·obtain rfl : i = n:=by omega
   go_wp2_with fail
   go_ret
   exact ⟨rfl,kr⟩
theorem kept_any (H : Nat) (vx vs : Value) (s : Sta) (hsm : Smal s) (w : World) (hx : SnL H w vx s) (hs : StI w vs s) : Calls Try.prog 22 #[vx,vs] w fun e w' => e = .returned (.bool true) ∧ Kept w w':=by
 have hq4:=hsm.qm
 have hql : ∀ (i : Nat) (l : List Mat),s.Q[i]? = some l → l.length ≤ 40000 ∧ ∀ (j : Nat) (m : Mat),l[j]? = some m → m.L.length ≤ 1000000:=fun i l hi => by
  obtain ⟨h1,h2⟩:=hq4 i l hi (List.getElem?_eq_some_iff.1 hi).1
  exact ⟨by omega,fun j m hj => by have:=h2 j m hj (List.getElem?_eq_some_iff.1 hj).1; omega⟩
 have hpm : ∀ (i : Nat) (m : Mat),s.P[i]? = some m → m.L.length ≤ 1000000:=fun i m hi => by have:=hsm.pm i m hi (List.getElem?_eq_some_iff.1 hi).1; omega
 have HSm:=hid (show ∀ u,Kept w u → Calls Try.prog 13 #[vx,vs] u fun e w' => e = .returned (.bool true) ∧ Kept u w' from fun u ku => same_true s vx vs (by have:=hsm.p; omega) (by have:=hsm.q; omega) (fun l hl => by
  obtain ⟨i,hi,rfl⟩:=List.getElem_of_mem hl
  have:=(hql i _ (List.getElem?_eq_getElem hi)).1
  omega) u (hx.st.kept ku) (hs.kept ku))
 obtain ⟨pa2,pc2,qa2,qc2,rfl⟩:=hs.form
 obtain ⟨pv,qv,rfl,hpv,hqv⟩:=hx
 have HKP:=hid (show ∀ u,Kept w u → Calls Try.prog 42 #[pv] u fun e w' => e = .returned (.bool true) ∧ Kept u w' from fun u ku => keptList_any H pv s.P (by have:=hsm.p; omega) hpm u (hpv.kx (ku.kx fun _ => False) (fun b hb => hb.elim)))
 obtain ⟨GP,CP,rfl,-⟩:=hpv.form
 obtain ⟨G,C,V,K,rfl,-,hC,hV,hO,-,hOK⟩:=hqv
 have hVl:=hV.len
 have HKQ : Hid (∀ u,Kept w u → ∀ (i : Nat) (l : List Mat),s.Q[i]? = some l → ∃ g c,u.cell? ⟨G,i,none⟩ = some (.slice (some ⟨g,0,none⟩) l.length c) ∧ Calls Try.prog 42 #[.slice (some ⟨g,0,none⟩) l.length c] u fun e w' => e = .returned (.bool true) ∧ Kept u w'):=fun u ku i l hi => by
  obtain ⟨lv,h1,h2⟩:=hV.get i l hi
  obtain ⟨g,c,rfl,-⟩:=h2.form
  have hil:=(List.getElem?_eq_some_iff.1 h1).1
  exact ⟨g,c,(hO.kept ku).cell _ _ ((List.getElem?_append_left hil).trans h1),keptList_any H _ l (by have:=(hql i l hi).1; omega) (hql i l hi).2 u (h2.kx (ku.kx fun _ => False) (fun b hb => hb.elim))⟩
 have HMk : Hid (∀ u,Kept w u → u.cell? ⟨G,s.Q.length,none⟩ = some (.slice (some ⟨K,0,none⟩) 1 1) ∧ u.cell? ⟨K,0,none⟩ = some (.int .i64 (-78))):=fun u ku => ⟨(hO.kept ku).cell _ _ (by rw [List.getElem?_append_right (by omega),hVl,Nat.sub_self]; rfl),(hOK.kept ku).cell 0 _ rfl⟩
 have hqn:=hsm.q
 clear hq4 hql hpm hs hpv hV hO hOK hsm hVl
 obtain ⟨n,hn⟩ : ∃ n,s.Q.length = n:=⟨_,rfl⟩
 rw [hn] at HMk hqn hC HSm ⊢
 have HN:=hid hn
 have HNl:=hid (show n ≤ 40000 ∧ n + 1 ≤ C from ⟨hqn,hC⟩)
 clear hn hqn hC
 generalize s.P.length = pl at *
 generalize s.a = sa at *
 generalize s.b = sb at *
 generalize s.d = sd at *
 generalize s.lo = lo at *
 generalize s.ra = ra at *
 obtain ⟨M,hM⟩ : ∃ M,w.heap.size = M:=⟨_,rfl⟩
 obtain ⟨W0,hW0⟩ : ∃ W0,(w.alloc (.cells #[.int .i64 sa,.int .i64 sb,.int .i64 sd,.slice (some ⟨GP,0,none⟩) pl CP,.slice (some ⟨G,0,none⟩) n C,.int .i64 lo,.int .i64 ra] 35)).alloc (.cells #[.int .i64 sa,.int .i64 sb,.int .i64 sd,.slice pa2 pl pc2,.slice qa2 n qc2,.int .i64 lo,.int .i64 ra] 35) = W0:=⟨_,rfl⟩
 have k0 : Kept w W0:=by rw [← hW0]; exact ((Kept.refl w).alloc _ _).alloc _ _
 have bx : Bk W0 M [.int .i64 sa,.int .i64 sb,.int .i64 sd,.slice (some ⟨GP,0,none⟩) pl CP,.slice (some ⟨G,0,none⟩) n C,.int .i64 lo,.int .i64 ra]:=by rw [← hW0,← hM]; exact (Bk.new w [.int .i64 sa,.int .i64 sb,.int .i64 sd,.slice (some ⟨GP,0,none⟩) pl CP,.slice (some ⟨G,0,none⟩) n C,.int .i64 lo,.int .i64 ra] 35).kept ((Kept.refl _).alloc _ _)
 have bs : Bk W0 (M + 1) [.int .i64 sa,.int .i64 sb,.int .i64 sd,.slice pa2 pl pc2,.slice qa2 n qc2,.int .i64 lo,.int .i64 ra]:=by
  have h:=Bk.new (w.alloc (.cells #[.int .i64 sa,.int .i64 sb,.int .i64 sd,.slice (some ⟨GP,0,none⟩) pl CP,.slice (some ⟨G,0,none⟩) n C,.int .i64 lo,.int .i64 ra] 35)) [.int .i64 sa,.int .i64 sb,.int .i64 sd,.slice pa2 pl pc2,.slice qa2 n qc2,.int .i64 lo,.int .i64 ra] 35
  rw [World.size_alloc,hM,hW0] at h
  exact h
 have HK0:=hid k0
 have HBx:=hid (show ∀ u,Kept W0 u → u.cell? ⟨M,3,none⟩ = some (.slice (some ⟨GP,0,none⟩) pl CP) ∧ u.cell? ⟨M,4,none⟩ = some (.slice (some ⟨G,0,none⟩) n C) from fun u ku => ⟨(bx.kept ku).c 3 _ rfl,(bx.kept ku).c 4 _ rfl⟩)
 obtain ⟨x0,x1,x2,x3,x4,x5,x6⟩ : _ ∧ _ ∧ _ ∧ _ ∧ _ ∧ _ ∧ _:=⟨bx.c 0 _ rfl,bx.c 1 _ rfl,bx.c 2 _ rfl,bx.c 3 _ rfl,bx.c 4 _ rfl,bx.c 5 _ rfl,bx.c 6 _ rfl⟩
 obtain ⟨y0,y1,y2,y3,y4,y5,y6⟩ : _ ∧ _ ∧ _ ∧ _ ∧ _ ∧ _ ∧ _:=⟨bs.c 0 _ rfl,bs.c 1 _ rfl,bs.c 2 _ rfl,bs.c 3 _ rfl,bs.c 4 _ rfl,bs.c 5 _ rfl,bs.c 6 _ rfl⟩
 clear k0 bx bs
 go_enter Try.func22,Try.ntmps22
 go_wp2_with fail
 go_at_call 13
 refine (HSm.out W0 HK0.out).mono ?_
 rintro e w1 ⟨rfl,k1⟩
 have K1:=hid k1
 clear k1 x0 x1 x2 x3 x4 x5 x6 y0 y1 y2 y3 y4 y5 y6 hM hW0
 obtain ⟨x3,x4⟩:=HBx.out w1 K1.out
 go_wp2_with fail
 go_at_call 42
 refine (HKP.out w1 (HK0.out.trans K1.out)).mono ?_
 rintro e w2 ⟨rfl,k2⟩
 have K2:=hid (K1.out.trans k2)
 clear k2 K1 x3 x4
 go_wp2_with fail
 go_loopw [5,6] (fun bv iv wr => ∃ i : Nat,i ≤ n ∧ bv = .bool true ∧ iv = .int .i64 (i : Int) ∧ Kept W0 wr) (fun _ iv _ => n - (intOf iv).toNat)
 case atStart => exact ⟨0,Nat.zero_le _,rfl,rfl,K2.out⟩
 case round =>
  obtain ⟨i,hi,rfl,rfl,kr⟩:=hrel
  obtain ⟨x3,x4⟩:=HBx.out wr kr
  have KR:=hid kr
  by_cases hin : i < n
  ·obtain ⟨l,hl⟩ : ∃ l,s.Q[i]? = some l:=⟨_,List.getElem?_eq_getElem (by rw [HN.out]; exact hin)⟩
   obtain ⟨g,c,e0,hcall⟩:=HKQ.out wr (HK0.out.trans kr) i l hl
   have HCl:=hid hcall
   have hbd : (0 : Int) ≤ (i : Int) ∧ (i : Int) < (n : Int):=by omega
   have hbd2 : (i : Int) < (n : Int):=by omega
   have hbd3 : decide ((i : Int) < (n : Int)) = true:=decide_eq_true hbd2
   have hbd4 : decide (i < n) = true:=decide_eq_true hin
   have z2 : IntKind.i64.wrap ((i : Int) + 1) = (i : Int) + 1:=by have:=HNl.out; rw [wrap_i64]; omega
   have hII:=hid hin
   clear hcall hl HKQ hi hin kr
   generalize l.length = ll at *
   go_wp2_with fail
   go_at_call 42
   refine HCl.out.mono ?_
   rintro e w5 ⟨rfl,k5⟩
   have K5:=hid (KR.out.trans k5)
   clear k5
   go_wp2_with fail
   go_roundw
   case rel => exact ⟨i + 1,by have:=hII.out; omega,rfl,by go_num,K5.out⟩
   case measure => have:=hII.out; simp [intOf]; omega
  ·obtain rfl : i = n:=by omega
   obtain ⟨m0,m1⟩:=HMk.out wr (HK0.out.trans kr)
   have hbd3 : decide ((i : Int) < (i : Int)) = false:=decide_eq_false (by omega)
   have hbd4 : decide (i < i) = false:=decide_eq_false (by omega)
   have hc1 : (0 : Int) ≤ (i : Int) + 1 ∧ (i : Int) + 1 ≤ (C : Int):=by have:=HNl.out; omega
   have hc2 : (i : Int) + 1 ≤ (C : Int):=by omega
   have hc3 : (i : Int) < (i : Int) + 1:=by omega
   have hc4 : i + 1 ≤ C:=HNl.out.2
   have hc5 : (0 : Int) ≤ (i : Int) ∧ (i : Int) < (i : Int) + 1:=by omega
   have zk : IntKind.i64.wrap ((i : Int) + 1) = (i : Int) + 1:=by have:=HNl.out; rw [wrap_i64]; omega
   have tk : ((i : Int) + 1).toNat = i + 1:=by omega
   go_wp2_with fail
   go_ret
   exact ⟨rfl,HK0.out.trans KR.out⟩
end Go.Proofs.Ytocjfdiimapojaa

namespace Go.Proofs.Ytocjfdiimapojaa
open Go.ChangeShapes Go.WideShapes Go.ChangeAt Go.RowKit
set_option maxHeartbeats 16000000
set_option maxRecDepth 100000
set_option linter.unusedVariables false
set_option linter.unusedSimpArgs false
theorem poke_sl {w : World} {g' C : Nat} {L : List Int} {y : Int} (h : Own w g' C (L ++ [y])) (g : Nat) (v : Int) : ∃ L' : List Int,L'.length = L.length ∧ (∀ x ∈ L',x = v ∨ x ∈ L) ∧ Sl (w.setCell ⟨g,0,none⟩ (.int .i64 v)) (.slice (some ⟨g',0,none⟩) L.length C) L':=by
 have hm:=own_mark h
 have hlt:=h.lt
 obtain ⟨ao,cap,e,h1,h2,hr⟩:=hm
 cases e
 by_cases hg : g' = g
 ·subst hg
  match L,h,hr with
  | [],_,_ => exact ⟨[],rfl,fun x hx => (by cases hx),some ⟨g',0,none⟩,C,rfl,h1,h2,fun h => absurd rfl h⟩
  | a :: t,h,hr =>
   refine ⟨v :: t,rfl,fun x hx => by
    rcases List.mem_cons.1 hx with h | h
    ·exact .inl h
    ·exact .inr (List.mem_cons_of_mem _ h),some ⟨g',0,none⟩,C,rfl,h1,h2,fun _ => ⟨g',0,rfl,by simpa using hlt,?_⟩⟩
   obtain ⟨b,off,e,-,hrd⟩:=hr (by simp)
   cases e
   intro i hi
   match i,hi with
   | 0,_ =>
    have:=hrd 0 (by simp)
    rw [Nat.add_zero] at this ⊢
    rw [World.cell?_setCell_same _ _ _ this]
    rfl
   | i + 1,hi =>
    have:=hrd (i + 1) (by simpa using hi)
    rw [World.cell?_setCell_other _ _ _ _ (by intro e; cases e)]
    simpa using this
 ·exact ⟨L,rfl,fun x hx => .inr hx,some ⟨g',0,none⟩,C,rfl,h1,h2,fun hne => by
   obtain ⟨b,off,e,hb,hrd⟩:=hr hne
   cases e
   exact ⟨g',0,rfl,by simpa using hlt,fun i hi => (World.cell?_of_block (Below.heap_setCell w ⟨g,0,none⟩ (.int .i64 v) g' hg)).trans (hrd i hi)⟩⟩
/-- A matrix is as long as another one,its numbers are that one's or v. -/
structure Lik (v : Int) (m' m : Mat) : Prop where
 len : m'.L.length = m.L.length
 mem : ∀ x ∈ m'.L,x = v ∨ x ∈ m.L
theorem MsN.poke {H : Nat} {w : World} (g : Nat) (v : Int) : ∀ {l : List Mat} {V : List Value},MsN H w l V → ∃ l' : List Mat,l'.length = l.length ∧ ∀ (i : Nat) (m' : Mat),l'[i]? = some m' → ∃ m b C,l[i]? = some m ∧ Lik v m' m ∧ V[i * 4]? = some (.int .i64 m'.r) ∧ V[i * 4 + 1]? = some (.int .i64 m'.c) ∧ V[i * 4 + 2]? = some (.int .i64 m'.n) ∧ V[i * 4 + 3]? = some (.slice (some ⟨b,0,none⟩) m'.L.length C) ∧ Sl (w.setCell ⟨g,0,none⟩ (.int .i64 v)) (.slice (some ⟨b,0,none⟩) m'.L.length C) m'.L
 | [],_,h => ⟨[],rfl,fun i m' hi => by simp at hi⟩
 | x :: l,_,⟨b,C,V',e,hg,ho,h⟩ => by
  obtain ⟨l',h1,h2⟩:=MsN.poke g v h
  obtain ⟨L',h3,h4,h5⟩:=poke_sl ho g v
  subst e
  refine ⟨⟨x.r,x.c,x.n,L'⟩ :: l',by simp [h1],fun i m' hi => ?_⟩
  match i,hi with
  | 0,hi =>
   cases hi
   refine ⟨x,b,C,rfl,⟨h3,h4⟩,rfl,rfl,rfl,?_,?_⟩
   ·show some (Value.slice (some ⟨b,0,none⟩) x.L.length C) = _
    rw [h3]
   ·show Sl _ (.slice (some ⟨b,0,none⟩) L'.length C) L'
    rw [h3]; exact h5
  | i + 1,hi =>
   obtain ⟨m,b2,C2,k0,k1,k2,k3,k4,k5,k6⟩:=h2 i m' (by simpa using hi)
   refine ⟨m,b2,C2,by simpa using k0,k1,?_,?_,?_,?_,k6⟩
   ·rw [List.getElem?_append_right (by show 4 ≤ _; omega),show (i + 1) * 4 - (mcN x b C).length = i * 4 by show (i + 1) * 4 - 4 = _; omega]; exact k2
   ·rw [List.getElem?_append_right (by show 4 ≤ _; omega),show (i + 1) * 4 + 1 - (mcN x b C).length = i * 4 + 1 by show (i + 1) * 4 + 1 - 4 = _; omega]; exact k3
   ·rw [List.getElem?_append_right (by show 4 ≤ _; omega),show (i + 1) * 4 + 2 - (mcN x b C).length = i * 4 + 2 by show (i + 1) * 4 + 2 - 4 = _; omega]; exact k4
   ·rw [List.getElem?_append_right (by show 4 ≤ _; omega),show (i + 1) * 4 + 3 - (mcN x b C).length = i * 4 + 3 by show (i + 1) * 4 + 3 - 4 = _; omega]; exact k5
theorem own_not_s {w : World} {g c : Nat} {L : List Int} (h : Own w g c L) {G cap sz : Nat} {e : TypeId} (he : e ≠ 3) {V : List Value} (hO : OwnS w G cap sz e V) : G ≠ g:=by
 rintro rfl
 obtain ⟨cur,h1,-⟩:=h
 obtain ⟨cur2,h2,-⟩:=hO
 rw [h1] at h2
 simp at h2
 exact he h2.2.symm
theorem LnV.poke {H : Nat} {w : World} {lv : Value} {l : List Mat} (h : LnV H w lv l) {g c : Nat} {L : List Int} (hg : Own w g c L) (v : Int) : ∃ l' : List Mat,l'.length = l.length ∧ MlI (w.setCell ⟨g,0,none⟩ (.int .i64 v)) lv l' ∧ ∀ (i : Nat) (m' : Mat),l'[i]? = some m' → ∃ m,l[i]? = some m ∧ Lik v m' m:=by
 obtain ⟨G,C,V,rfl,-,hC,hV,hO⟩:=h
 obtain ⟨l',h1,h2⟩:=hV.poke g v
 have hl:=hV.len
 have hO2:=hO.setOther (p:=⟨g,0,none⟩) (own_not_s hg (by decide) hO) (.int .i64 v)
 refine ⟨l',h1,⟨some ⟨G,0,none⟩,C,by rw [h1],by omega,fun _ => ⟨G,0,rfl,fun i m' hi => ?_⟩⟩,fun i m' hi => ?_⟩
 ·obtain ⟨m,b,c2,k0,k1,k2,k3,k4,k5,k6⟩:=h2 i m' hi
  have hil:=(List.getElem?_eq_some_iff.1 hi).1
  have ap : ∀ j,j < 4 → (V ++ mk4 (-77))[i * 4 + j]? = V[i * 4 + j]?:=fun j hj => List.getElem?_append_left (by omega)
  rw [Nat.zero_add]
  exact ⟨_,_,hO2.cell _ _ ((ap 0 (by omega)).trans k2),hO2.cell _ _ ((ap 1 (by omega)).trans k3),hO2.cell _ _ ((ap 2 (by omega)).trans k4),hO2.cell _ _ ((ap 3 (by omega)).trans k5),k6⟩
 ·obtain ⟨m,b,c2,k0,k1,-⟩:=h2 i m' hi
  exact ⟨m,k0,k1⟩
theorem SnV.poke {H : Nat} {w : World} {g c : Nat} {L : List Int} (hg : Own w g c L) (v : Int) : ∀ {Q : List (List Mat)} {V : List Value},SnV H w Q V → ∃ Q' : List (List Mat),Q'.length = Q.length ∧ ∀ (i : Nat) (l' : List Mat),Q'[i]? = some l' → ∃ l u,Q[i]? = some l ∧ l'.length = l.length ∧ V[i]? = some u ∧ MlI (w.setCell ⟨g,0,none⟩ (.int .i64 v)) u l' ∧ ∀ (j : Nat) (m' : Mat),l'[j]? = some m' → ∃ m,l[j]? = some m ∧ Lik v m' m
 | [],_,h => ⟨[],rfl,fun i m' hi => by simp at hi⟩
 | x :: Q,_,⟨u,V',e,h,h2⟩ => by
  obtain ⟨Q',h1,h3⟩:=SnV.poke hg v h2
  obtain ⟨l',k1,k2,k3⟩:=h.poke hg v
  subst e
  refine ⟨l' :: Q',by simp [h1],fun i m' hi => ?_⟩
  match i,hi with
  | 0,hi => cases hi; exact ⟨x,u,rfl,k1,rfl,k2,k3⟩
  | i + 1,hi =>
   obtain ⟨l,u2,q0,q1,q2,q3⟩:=h3 i m' (by simpa using hi)
   exact ⟨l,u2,by simpa using q0,q1,by simpa using q2,q3⟩
theorem LnQ.poke {H : Nat} {w : World} {lv : Value} {Q : List (List Mat)} (h : LnQ H w lv Q) {g c : Nat} {L : List Int} (hg : Own w g c L) (v : Int) : ∃ Q' : List (List Mat),Q'.length = Q.length ∧ LlI (w.setCell ⟨g,0,none⟩ (.int .i64 v)) lv Q' ∧ ∀ (i : Nat) (l' : List Mat),Q'[i]? = some l' → ∃ l,Q[i]? = some l ∧ l'.length = l.length ∧ ∀ (j : Nat) (m' : Mat),l'[j]? = some m' → ∃ m,l[j]? = some m ∧ Lik v m' m:=by
 obtain ⟨G,C,V,K,rfl,-,hC,hV,hO,-⟩:=h
 obtain ⟨Q',h1,h2⟩:=hV.poke hg v
 have hO2:=hO.setOther (p:=⟨g,0,none⟩) (own_not_s hg (by decide) hO) (.int .i64 v)
 refine ⟨Q',h1,⟨some ⟨G,0,none⟩,C,by rw [h1],by omega,fun _ => ⟨G,0,rfl,fun i l' hi => ?_⟩⟩,fun i l' hi => ?_⟩
 ·obtain ⟨l,u,k0,k1,k2,k3,-⟩:=h2 i l' hi
  have hil:=(List.getElem?_eq_some_iff.1 k2).1
  rw [Nat.zero_add]
  exact ⟨u,hO2.cell _ _ ((List.getElem?_append_left hil).trans k2),k3⟩
 ·obtain ⟨l,u,k0,k1,-,-,k4⟩:=h2 i l' hi
  exact ⟨l,k0,k1,k4⟩
/-- The whole state. -/
theorem SnL.poke {H : Nat} {w : World} {vx : Value} {s : Sta} (h : SnL H w vx s) (hsm : Smal s) (hrg : SRg s) {g c : Nat} {L : List Int} (hg : Own w g c L) (v : Int) (hv : -9223372036854775808 ≤ v ∧ v ≤ 9223372036854775807) : ∃ s' : Sta,StI (w.setCell ⟨g,0,none⟩ (.int .i64 v)) vx s' ∧ Smal s' ∧ SRg s':=by
 obtain ⟨pv,qv,rfl,hp,hq⟩:=h
 obtain ⟨P',p1,p2,p3⟩:=hp.poke hg v
 obtain ⟨Q',q1,q2,q3⟩:=hq.poke hg v
 have hl : ∀ m' m,Lik v m' m → MRg m → MRg m':=fun m' m hk hm x hx => by
  rcases hk.mem x hx with rfl | h
  ·exact hv
  ·exact hm x h
 refine ⟨⟨s.a,s.b,s.d,P',Q',s.lo,s.ra⟩,⟨pv,qv,rfl,p2,q2⟩,⟨by show P'.length ≤ 40000; rw [p1]; exact hsm.p,by show Q'.length ≤ 40000; rw [q1]; exact hsm.q,fun i m' hi hil => ?_,fun i l' hi hil => ?_⟩,⟨hrg.lo,hrg.ra,fun m' hm => ?_,fun l' hl' m' hm => ?_⟩⟩
 ·obtain ⟨m,k0,k1⟩:=p3 i m' hi
  rw [k1.len]
  exact hsm.pm i m k0 (List.getElem?_eq_some_iff.1 k0).1
 ·obtain ⟨l,k0,k1,k2⟩:=q3 i l' hi
  have:=hsm.qm i l k0 (List.getElem?_eq_some_iff.1 k0).1
  refine ⟨by rw [k1]; exact this.1,fun j m' hj _ => ?_⟩
  obtain ⟨m,j0,j1⟩:=k2 j m' hj
  rw [j1.len]
  exact this.2 j m j0 (List.getElem?_eq_some_iff.1 j0).1
 ·obtain ⟨i,hi,rfl⟩:=List.getElem_of_mem hm
  obtain ⟨m,k0,k1⟩:=p3 i _ (List.getElem?_eq_getElem hi)
  exact hl _ m k1 (hrg.p m (List.mem_of_getElem? k0))
 ·obtain ⟨i,hi,rfl⟩:=List.getElem_of_mem hl'
  obtain ⟨l,k0,k1,k2⟩:=q3 i _ (List.getElem?_eq_getElem hi)
  obtain ⟨j,hj,rfl⟩:=List.getElem_of_mem hm
  obtain ⟨m,j0,j1⟩:=k2 j _ (List.getElem?_eq_getElem hj)
  exact hl _ m j1 (hrg.q l (List.mem_of_getElem? k0) m (List.mem_of_getElem? j0))
end Go.Proofs.Ytocjfdiimapojaa

namespace Go.Proofs.Ytocjfdiimapojaa
open Go.ChangeShapes Go.WideShapes Go.ChangeAt Go.RowKit
set_option maxHeartbeats 16000000
set_option maxRecDepth 100000
set_option linter.unusedVariables false
set_option linter.unusedSimpArgs false
/-- Bytes that were answered: none,or a block of their own with no room behind them. -/
def ExB (u : World) (bv : Value) (B : List Int) : Prop:=(B = [] ∧ bv = .slice none 0 0) ∨ ∃ g,bv = .slice (some ⟨g,0,none⟩) B.length B.length ∧ 0 < B.length ∧ OwnV u g B.length 5 (B.map (Value.int .u8))
theorem ExB.bn {u : World} {bv : Value} {B : List Int} (h : ExB u bv B) : BN 0 u bv B:=by
 rcases h with h | ⟨g,e,-,h⟩
 ·exact .inl h
 ·exact .inr ⟨g,_,e,Nat.zero_le _,h⟩
theorem ExB.kept {u u' : World} {bv : Value} {B : List Int} (h : ExB u bv B) (k : Kept u u') : ExB u' bv B:=by
 rcases h with h | ⟨g,e,h0,h⟩
 ·exact .inl h
 ·exact .inr ⟨g,e,h0,h.kept k⟩
/-- A state's bytes (none where it is not in form),and its error: what Write,the document's Write and Check tell. -/
structure Ans (s : Sta) (B : List Int) (er : Int) : Prop where
 byt : Byt B
 len : B.length ≤ 14000000
 w : ∀ v u,StI u v s → Calls Try.prog 10 #[v] u fun e w' => Kept u w' ∧ ∃ bv,e = .returned (.tuple #[bv,.int .i64 er]) ∧ ExB w' bv B ∧ ∀ b,blk bv b → u.heap.size ≤ b
 r : ∀ v u,StI u v s → Calls Try.prog 21 #[v] u fun e w' => Kept u w' ∧ ∃ cv,e = .returned (.tuple #[cv,.int .i64 er]) ∧ BN 0 w' cv B ∧ ∀ b,blk cv b → u.heap.size ≤ b
 c : ∀ v u,StI u v s → Calls Try.prog 14 #[v] u fun e w' => Kept u w' ∧ e = .returned (.int .i64 er)
theorem Smal.bn {s : Sta} (h : Smal s) : s.P.length ≤ 9223372036854775807 ∧ s.Q.length ≤ 9223372036854775807 ∧ (∀ l ∈ s.Q,l.length ≤ 9223372036854775807) ∧ (∀ m ∈ s.P,m.L.length ≤ 9223372036854775806) ∧ ∀ l ∈ s.Q,∀ m ∈ l,m.L.length ≤ 9223372036854775806:=by
 refine ⟨by have:=h.p; omega,by have:=h.q; omega,fun l hl => ?_,fun m hm => ?_,fun l hl m hm => ?_⟩
 ·obtain ⟨i,hi,rfl⟩:=List.getElem_of_mem hl
  have:=(h.qm i _ (List.getElem?_eq_getElem hi) hi).1
  omega
 ·obtain ⟨i,hi,rfl⟩:=List.getElem_of_mem hm
  have:=h.pm i _ (List.getElem?_eq_getElem hi) hi
  omega
 ·obtain ⟨i,hi,rfl⟩:=List.getElem_of_mem hl
  obtain ⟨j,hj,rfl⟩:=List.getElem_of_mem hm
  have:=(h.qm i _ (List.getElem?_eq_getElem hi) hi).2 j _ (List.getElem?_eq_getElem hj) hj
  omega
theorem ans_of {s : Sta} (hsm : Smal s) (hrg : SRg s) : ∃ B er,Ans s B er:=by
 obtain ⟨b1,b2,b3,b4,b5⟩:=hsm.bn
 by_cases hF : Frm s
 ·have hl : (enc s).length ≤ 14000000 ∧ 0 < (enc s).length:=by
   have h1:=enc_len hF
   have h2:=hF.sz
   omega
  refine ⟨enc s,0,byt_enc s,hl.1,fun v u h => ?_,fun v u h => ?_,fun v u h => ?_⟩
  ·refine (write_any v s b1 b2 u h).mono ?_
   rintro e w' ⟨k,⟨-,g,rfl,hg,ho⟩ | ⟨hn,-⟩⟩
   ·exact ⟨k,_,rfl,.inr ⟨g,rfl,hl.2,ho⟩,fun b hb => by have:=blk_slice hb; omega⟩
   ·exact absurd hF hn
  ·refine (rwrite_any v s b1 b2 b3 ⟨b4,b5⟩ hrg (fun _ => by omega) u h).mono ?_
   rintro e w' ⟨⟨-,v',rfl,hb,hb2⟩ | ⟨hn,-⟩,k⟩
   ·exact ⟨k,_,rfl,hb,hb2⟩
   ·exact absurd hF hn
  ·refine (checkf_any v s b1 b2 u h).mono ?_
   rintro e w' ⟨k,⟨-,rfl⟩ | ⟨hn,-⟩⟩
   ·exact ⟨k,rfl⟩
   ·exact absurd hF hn
 ·refine ⟨[],43,fun i hi => by simp at hi,by simp,fun v u h => ?_,fun v u h => ?_,fun v u h => ?_⟩
  ·refine (write_any v s b1 b2 u h).mono ?_
   rintro e w' ⟨k,⟨hn,-⟩ | ⟨-,rfl⟩⟩
   ·exact absurd hn hF
   ·exact ⟨k,_,rfl,.inl ⟨rfl,rfl⟩,fun b ⟨n,c,e⟩ => by cases e⟩
  ·refine (rwrite_any v s b1 b2 b3 ⟨b4,b5⟩ hrg (fun h => absurd h hF) u h).mono ?_
   rintro e w' ⟨⟨hn,-⟩ | ⟨-,rfl⟩,k⟩
   ·exact absurd hn hF
   ·exact ⟨k,_,rfl,.inl ⟨rfl,rfl⟩,fun b ⟨n,c,e⟩ => by cases e⟩
  ·refine (checkf_any v s b1 b2 u h).mono ?_
   rintro e w' ⟨k,⟨hn,-⟩ | ⟨-,rfl⟩⟩
   ·exact absurd hn hF
   ·exact ⟨k,rfl⟩
theorem bn_str0 (u : World) : (convert 22 9 (.slice none 0 0)).run Try.prog u = .ok (.string (SB [])) u:=by
 show _ = Result.ok (Value.string ⟨#[]⟩) u
 first | kernel_rfl | rfl
/-- Bytes as text. -/
theorem bn_str {H : Nat} {u : World} {v : Value} {B : List Int} (h : BN H u v B) (hB : Byt B) : (convert 22 9 v).run Try.prog u = .ok (.string (SB B)) u:=by
 rcases h with ⟨rfl,rfl⟩ | ⟨g,C,rfl,-,ho⟩
 ·exact bn_str0 u
 ·refine str_run B hB g 0 C u fun i hi => ?_
  rw [Nat.zero_add]
  refine ho.cell i _ ?_
  rw [List.getElem?_map,List.getElem?_eq_getElem hi,List.getD_eq_getElem?_getD,List.getElem?_eq_getElem hi]
  rfl
theorem lby_under : Try.prog.underlying 24 = some (.slice 22):=by kernel_rfl
theorem lby_info : (Try.prog.info? 22).map (fun i => (i.zero,i.size,i.bytes)) = some (some (.slice none 0 0),1,24):=by kernel_rfl
end Go.Proofs.Ytocjfdiimapojaa

namespace Go.Proofs.Ytocjfdiimapojaa
open Go.ChangeShapes Go.WideShapes Go.ChangeAt Go.RowKit
set_option maxHeartbeats 16000000
set_option maxRecDepth 100000
set_option linter.unusedVariables false
set_option linter.unusedSimpArgs false
theorem KX.shrink {X Y : Nat → Prop} {a b : World} (h : KX X a b) (k : ∀ i,i < a.heap.size → X i → Y i) : KX Y a b:=⟨h.os,h.tape,h.output,h.size,fun i hi hn => h.block i hi (fun hx => hn (k i hi hx)),h.frozen⟩
theorem BN.notOwn {H : Nat} {u : World} {v : Value} {B : List Int} (h : BN H u v B) {g c : Nat} {L : List Int} (ho : Own u g c L) : ¬ Go.Proofs.Ytocjfdiimapojaa.blk v g:=by
 rintro ⟨n,c2,e⟩
 rcases h with ⟨-,e2⟩ | ⟨g2,C,e2,-,cur,h1,-⟩
 ·rw [e] at e2; cases e2
 ·rw [e] at e2; cases e2
  obtain ⟨cur2,h2,-⟩:=ho
  rw [h1] at h2
  simp at h2
theorem ExB.kx {u u' : World} {bv : Value} {B : List Int} (h : ExB u bv B) {X : Nat → Prop} (k : KX X u u') (hX : ∀ b,X b → ¬ blk bv b) : ExB u' bv B:=by
 rcases h with h | ⟨g,rfl,h0,ho⟩
 ·exact .inl h
 ·refine .inr ⟨g,rfl,h0,?_⟩
  have hb:=k.block g ho.lt fun hx => hX g hx ⟨_,_,rfl⟩
  obtain ⟨cur,h1,r⟩:=ho
  exact ⟨cur,hb.trans h1,r⟩
theorem SnL.kx {H : Nat} {w w' : World} {v : Value} {s : Sta} {X : Nat → Prop} (h : SnL H w v s) (k : KX X w w') (hX : ∀ b,X b → b < H) : SnL H w' v s:=by
 obtain ⟨pv,qv,e,h1,h2⟩:=h
 exact ⟨pv,qv,e,h1.kx k hX,h2.kx k hX⟩
/-- One state has been written: what is kept of it. -/
def KpW (K H : Nat) (u : World) : Prop:=∃ B bv cv R1 C1 R2 C2,Byt B ∧ B.length ≤ 14000000 ∧ Bk u K [.slice (some ⟨R1,0,none⟩) 1 C1,.slice (some ⟨R2,0,none⟩) 1 C2,.slice none 0 0,.slice none 0 0] ∧ H ≤ R1 ∧ 1 ≤ C1 ∧ OwnS u R1 C1 1 22 [bv] ∧ H ≤ R2 ∧ 1 ≤ C2 ∧ OwnS u R2 C2 1 22 [cv] ∧ ExB u bv B ∧ (∀ b,blk bv b → H ≤ b) ∧ BN 0 u cv B
theorem KpW.kx {K H : Nat} {u u' : World} (h : KpW K H u) (k : Kept u u') : KpW K H u':=by
 obtain ⟨B,bv,cv,R1,C1,R2,C2,h1,h2,h3,h4,h5,h6,h7,h8,h9,h10,h11,h12⟩:=h
 exact ⟨B,bv,cv,R1,C1,R2,C2,h1,h2,h3.kept k,h4,h5,h6.kept k,h7,h8,h9.kept k,h10.kept k,h11,h12.kept k⟩
theorem KpW.poke {K H : Nat} {u : World} (h : KpW K H u) {g c : Nat} {L : List Int} (ho : Own u g c L) (hK : K ≠ g) (v : Value) : KpW K H (u.setCell ⟨g,0,none⟩ v):=by
 have k : KX (fun b => b = g) u (u.setCell ⟨g,0,none⟩ v):=((Grw.refl g u).setCell _ _).kx
 obtain ⟨B,bv,cv,R1,C1,R2,C2,h1,h2,h3,h4,h5,h6,h7,h8,h9,h10,h11,h12⟩:=h
 exact ⟨B,bv,cv,R1,C1,R2,C2,h1,h2,h3.kx k hK,h4,h5,h6.setOther (own_not_s ho (by decide) h6) v,h7,h8,h9.setOther (own_not_s ho (by decide) h9) v,h10.kx k (fun b hb => by subst hb; exact h10.bn.notOwn ho),h11,h12.kx k (fun b hb => by subst hb; exact h12.notOwn ho)⟩
end Go.Proofs.Ytocjfdiimapojaa

namespace Go.Proofs.Ytocjfdiimapojaa
open Go.ChangeShapes Go.WideShapes Go.ChangeAt Go.RowKit
set_option maxHeartbeats 16000000
set_option maxRecDepth 100000
set_option linter.unusedVariables false
set_option linter.unusedSimpArgs false
theorem zeroCells_u8 (n : Nat) : Builtin.zeroCells (Value.int .u8 0).cells n = (List.replicate n (Value.int .u8 0)).toArray:=by
 apply Array.ext
 ·simp [size_zeroCells,Value.cells]
 ·intro i h1 h2
  simp [Builtin.zeroCells,Value.cells,Nat.mod_one]
theorem int3u : Try.prog.underlying 3 = some (.int .i64):=by kernel_rfl
theorem bzeros_grow (w : World) (ty : TypeId) (base : Option Addr) (sLen sCap n : Nat) (olds : List Value) (hold : (Builtin.firstCells 1 sLen (.slice base sLen sCap)).run Try.prog w.drew = .ok olds.toArray w.drew) (hn : 0 < n) (hs : sLen + n < 100000000) (hg : sCap < sLen + n) :
  (Builtin.append_ #[22,3] ty #[.slice base sLen sCap,.int .i64 (n : Int)]).run Try.prog w = .ok (.slice (some ⟨w.heap.size,0,none⟩) (sLen + n) (grownCap w (sLen + n) sCap 5)) (w.drew.alloc (.cells ((olds ++ List.replicate n (Value.int .u8 0)).toArray ++ Builtin.zeroCells (Value.int .u8 0).cells (grownCap w (sLen + n) sCap 5 - (sLen + n))) 5)):=by
 obtain ⟨i,hi,hz,hsz,hb⟩:=info_parts (lb_info)
 have hw1 : IntKind.i64.wrap (n : Int) = (n : Int):=by rw [wrap_i64]; omega
 have e0 : ¬ ((n : Int) < 0):=by omega
 have e1 : ¬ (281474976710656 < (n : Int) * 1):=by omega
 have e1' : ¬ (281474976710656 < (n : Int)):=by omega
 have e2 : n ≠ 0:=by omega
 have hn' : ¬ (sLen + n ≤ sCap):=by omega
 have h63 : ¬ (9223372036854775807 < ((sLen : Int) + (n : Int))):=by omega
 have hgf : Builtin.nextslicecap (sLen + n) sCap * 1 ≤ 281474976710656:=growslice_fits hg (by omega)
 have h48 : ¬ (281474976710656 < Builtin.nextslicecap (sLen + n) sCap * 1):=by omega
 have h48' : ¬ (281474976710656 < Builtin.nextslicecap (sLen + n) sCap):=by omega
 simp [Builtin.append_,run_underlying lb_under,run_underlying int3u,sizeOf,typeInfo,hi,hsz,hb,hz,asInt,asIntOf,hw1,e0,e1,e1',e2,zeroValue,hn',h63,h48,h48',zeroCells_u8,Question.forced,hold,newRow,grownCap]
 refine congrArg (fun c => World.alloc _ (Obj.cells c 5)) ?_
 apply Array.ext'
 simp only [Array.toList_append,Array.toList_replicate,List.append_assoc,List.replicate_append_replicate]
/-- Bytes that were answered,grown: a new row. -/
theorem zgrow_b (w : World) (bv : Value) (B : List Int) (h : ExB w bv B) (hB : B.length ≤ 14000000) (n : Nat) (hn : 0 < n) (hn2 : n ≤ 1000) :
  ∃ C w',(∀ ty,(Builtin.append_ #[22,3] ty #[bv,.int .i64 (n : Int)]).run Try.prog w = .ok (.slice (some ⟨w.heap.size,0,none⟩) (B.length + n) C) w') ∧ Kept w w' ∧ (∃ x,w'.cell? ⟨w.heap.size,B.length + n - 1,none⟩ = some x) ∧ w'.frozen? ⟨w.heap.size,B.length + n - 1,none⟩ = false:=by
 have key : ∀ (base : Option Addr) (olds : List Value),olds.length = B.length → bv = .slice base B.length B.length → (Builtin.firstCells 1 B.length (.slice base B.length B.length)).run Try.prog w.drew = .ok olds.toArray w.drew → ∃ C w',(∀ ty,(Builtin.append_ #[22,3] ty #[bv,.int .i64 (n : Int)]).run Try.prog w = .ok (.slice (some ⟨w.heap.size,0,none⟩) (B.length + n) C) w') ∧ Kept w w' ∧ (∃ x,w'.cell? ⟨w.heap.size,B.length + n - 1,none⟩ = some x) ∧ w'.frozen? ⟨w.heap.size,B.length + n - 1,none⟩ = false:=fun base olds hl e hf => by
  subst e
  refine ⟨_,_,fun ty => bzeros_grow w ty base B.length B.length n olds hf hn (by omega) (by omega),(Kept.refl w).drew.alloc _ _,?_,?_⟩
  ·rw [show w.heap.size = w.drew.heap.size from rfl,cell_of_row _ w.drew.heap.size _ _ 5 (0,0) (heap_alloc_new w.drew _)]
   refine ⟨_,Array.getElem?_eq_getElem ?_⟩
   simp [hl]
   omega
  ·exact frozen_of_row _ w.drew.heap.size _ _ 5 (heap_alloc_new w.drew _)
 rcases h with ⟨rfl,rfl⟩ | ⟨g,rfl,h0,hO⟩
 ·exact key none [] rfl rfl (by simpa using run_firstCells_none (P:=Try.prog) w.drew 1 0 0 0)
 ·exact key (some ⟨g,0,none⟩) (B.map (Value.int .u8)) (List.length_map ..) rfl (run_firstCells_some (P:=Try.prog) w.drew 1 B.length ⟨g,0,none⟩ B.length B.length (B.map (Value.int .u8)) (by rw [List.length_map,Nat.mul_one]) (fun j u hu => by rw [Addr.add_lit,Nat.zero_add]; exact hO.cell j u hu))
/-- One list of bytes is kept: its bytes may have changed. -/
structure Qb (u : World) (bv : Value) (n : Nat) (wr : World) (V : List Int) : Prop where
 kx : KX (blk bv) u wr
 ex : ExB wr bv V
 len : V.length = n
theorem Qb.kept {u : World} {bv : Value} {n : Nat} {wr w' : World} {V : List Int} (h : Qb u bv n wr V) (k : Kept wr w') : Qb u bv n w' V:=⟨h.kx.trans (k.kx _),h.ex.kept k,h.len⟩
theorem Qb.cell {u : World} {bv : Value} {n : Nat} {wr : World} {V : List Int} (h : Qb u bv n wr V) {j : Nat} (hj : j < n) : ∃ g,bv = .slice (some ⟨g,0,none⟩) n n ∧ wr.cell? ⟨g,j,none⟩ = some (.int .u8 (V.getD j 0)) ∧ wr.frozen? ⟨g,j,none⟩ = false ∧ ∀ x,Qb u bv n (wr.setCell ⟨g,j,none⟩ (.int .u8 x)) (V.set j x):=by
 have hl:=h.len
 rcases h.ex with ⟨rfl,-⟩ | ⟨g,e,h0,hO⟩
 ·simp at hl; omega
 ·rw [hl] at e hO
  refine ⟨g,e,hO.cell j _ ?_,hO.free _,fun x => ⟨h.kx.trans ?_,.inr ⟨g,by rw [List.length_set,hl]; exact e,by rw [List.length_set]; omega,?_⟩,by rw [List.length_set]; exact hl⟩⟩
  ·rw [List.getElem?_map,List.getElem?_eq_getElem (by omega),List.getD_eq_getElem?_getD,List.getElem?_eq_getElem (by omega)]
   rfl
  ·exact ((Grw.refl g wr).setCell j _).kx.mono fun b hb => by subst hb; exact ⟨_,_,e⟩
  ·rw [List.length_set,hl,List.map_set]
   exact hO.set j _
end Go.Proofs.Ytocjfdiimapojaa
