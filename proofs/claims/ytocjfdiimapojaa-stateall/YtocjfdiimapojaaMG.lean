/- The laws of chapter 23: what was kept is apart (one state that was written,or none); StateWrites. Package state: written. Package state: Write,Check. Package state: Check. Two states that are one. -/
import Derived.Test.YtocjfdiimapojaaVM
import Derived.Test.YtocjfdiimapojaaMF
namespace Go.Proofs.Ytocjfdiimapojaa
open Go.ChangeShapes Go.WideShapes Go.ChangeAt Go.RowKit
set_option maxHeartbeats 16000000
set_option maxRecDepth 100000
set_option linter.unusedVariables false
set_option linter.unusedSimpArgs false
theorem shapes0 (K : Nat) (r1 r2 : Value) (u : World) (hk : Bk u K [r1,r2,.slice none 0 0,.slice none 0 0]) : Calls Try.prog 37 #[.pointer (some ⟨K,0,none⟩)] u fun e w' => e = .returned (.bool true) ∧ Kept u w':=by
 have HC:=hid (fun (w : World) (k : Kept u w) => (hk.kept k).c 2 _ rfl)
 have c2:=hk.c 2 _ rfl
 clear hk
 go_enter Try.func37,Try.ntmps37
 go_wp2_with fail
 go_loopw [3] (fun iv wr => iv = .int .i64 0 ∧ Kept u wr) (fun iv _ => 0)
 case atStart => exact ⟨rfl,Kept.refl u⟩
 case round =>
  obtain ⟨rfl,kr⟩:=hrel
  clear c2
  have c2:=HC.out _ kr
  go_wp2_with fail
  go_ret
  exact ⟨rfl,kr⟩
theorem lists0 (K : Nat) (r1 r2 : Value) (u : World) (hk : Bk u K [r1,r2,.slice none 0 0,.slice none 0 0]) : Calls Try.prog 19 #[.pointer (some ⟨K,0,none⟩)] u fun e w' => e = .returned (.bool true) ∧ Kept u w':=by
 have HC:=hid (fun (w : World) (k : Kept u w) => (hk.kept k).c 2 _ rfl)
 have HSh:=hid (fun (w : World) (k : Kept u w) => shapes0 K r1 r2 w (hk.kept k))
 have c2:=hk.c 2 _ rfl
 clear hk
 go_enter Try.func19,Try.ntmps19
 go_wp2_with fail
 go_loopw [3,4] (fun lv iv wr => lv = .slice none 0 0 ∧ iv = .int .i64 0 ∧ Kept u wr) (fun _ iv _ => 0)
 case atStart => exact ⟨rfl,rfl,Kept.refl u⟩
 case round =>
  obtain ⟨rfl,rfl,kr⟩:=hrel
  clear c2
  have c2:=HC.out _ kr
  go_wp2_with fail
  go_loopw [7] (fun rv wr => ∃ r : Int,(r = 0 ∨ r = 1 ∨ r = 2 ∨ r = 3) ∧ rv = .int .i64 r ∧ Kept u wr) (fun rv _ => 3 - (intOf rv).toNat)
  case atStart => exact ⟨0,.inl rfl,rfl,kr⟩
  case round =>
   clear c2 kr
   obtain ⟨r,hr,rfl,kr⟩:=hrel
   have c2:=HC.out _ kr
   have KR:=hid kr
   rcases hr with rfl | rfl | rfl | rfl
   ·skip
    go_wp2_with fail
    go_loopw [8] (fun iv wr => iv = .int .i64 0 ∧ Kept u wr) (fun iv _ => 0)
    case atStart => exact ⟨rfl,KR.out⟩
    case round =>
     clear c2 KR kr
     obtain ⟨rfl,kr⟩:=hrel
     have c2:=HC.out _ kr
     go_wp2_with fail
     go_loopw [12] (fun iv wr => iv = .int .i64 0 ∧ Kept u wr) (fun iv _ => 0)
     case atStart => exact ⟨rfl,kr⟩
     case round =>
      clear c2 kr
      obtain ⟨rfl,kr⟩:=hrel
      have c2:=HC.out _ kr
      go_wp2_with fail
      go_roundw
      case rel => exact ⟨1,by omega,rfl,kr⟩
      case measure => simp [intOf]
   ·skip
    go_wp2_with fail
    go_loopw [8] (fun iv wr => iv = .int .i64 0 ∧ Kept u wr) (fun iv _ => 0)
    case atStart => exact ⟨rfl,KR.out⟩
    case round =>
     clear c2 KR kr
     obtain ⟨rfl,kr⟩:=hrel
     have c2:=HC.out _ kr
     go_wp2_with fail
     go_loopw [12] (fun iv wr => iv = .int .i64 0 ∧ Kept u wr) (fun iv _ => 0)
     case atStart => exact ⟨rfl,kr⟩
     case round =>
      clear c2 kr
      obtain ⟨rfl,kr⟩:=hrel
      have c2:=HC.out _ kr
      go_wp2_with fail
      go_roundw
      case rel => exact ⟨2,by omega,rfl,kr⟩
      case measure => simp [intOf]
   ·skip
    go_wp2_with fail
    go_loopw [8] (fun iv wr => iv = .int .i64 0 ∧ Kept u wr) (fun iv _ => 0)
    case atStart => exact ⟨rfl,KR.out⟩
    case round =>
     clear c2 KR kr
     obtain ⟨rfl,kr⟩:=hrel
     have c2:=HC.out _ kr
     go_wp2_with fail
     go_loopw [12] (fun iv wr => iv = .int .i64 0 ∧ Kept u wr) (fun iv _ => 0)
     case atStart => exact ⟨rfl,kr⟩
     case round =>
      clear c2 kr
      obtain ⟨rfl,kr⟩:=hrel
      have c2:=HC.out _ kr
      go_wp2_with fail
      go_roundw
      case rel => exact ⟨3,by omega,rfl,kr⟩
      case measure => simp [intOf]
   ·skip
    go_wp2_with fail
    go_at_call 37
    refine (HSh.out _ kr).mono ?_
    rintro e w5 ⟨rfl,k5⟩
    go_wp2_with fail
    go_ret
    exact ⟨rfl,KR.out.trans k5⟩
theorem bytes0 (K : Nat) (r2 r3 r4 : Value) (u : World) (hk : Bk u K [.slice none 0 0,r2,r3,r4]) : Calls Try.prog 18 #[.pointer (some ⟨K,0,none⟩)] u fun e w' => e = .returned (.bool true) ∧ Kept u w':=by
 have HC:=hid (fun (w : World) (k : Kept u w) => (hk.kept k).c 0 _ rfl)
 have c2:=hk.c 0 _ rfl
 clear hk
 go_enter Try.func18,Try.ntmps18
 go_wp2_with fail
 go_loopw [3] (fun rv wr => ∃ r : Int,(r = 0 ∨ r = 1 ∨ r = 2 ∨ r = 3) ∧ rv = .int .i64 r ∧ Kept u wr) (fun rv _ => 3 - (intOf rv).toNat)
 case atStart => exact ⟨0,.inl rfl,rfl,Kept.refl u⟩
 case round =>
  clear c2
  obtain ⟨r,hr,rfl,kr⟩:=hrel
  have c2:=HC.out _ kr
  rcases hr with rfl | rfl | rfl | rfl
  ·skip
   have KR:=hid kr
   go_wp2_with fail
   go_loopw [4] (fun iv wr => iv = .int .i64 0 ∧ Kept u wr) (fun iv _ => 0)
   case atStart => exact ⟨rfl,KR.out⟩
   case round =>
    clear c2 KR kr
    obtain ⟨rfl,kr⟩:=hrel
    have c2:=HC.out _ kr
    go_wp2_with fail
    go_roundw
    case rel => exact ⟨1,by omega,rfl,kr⟩
    case measure => simp [intOf]
  ·skip
   have KR:=hid kr
   go_wp2_with fail
   go_loopw [4] (fun iv wr => iv = .int .i64 0 ∧ Kept u wr) (fun iv _ => 0)
   case atStart => exact ⟨rfl,KR.out⟩
   case round =>
    clear c2 KR kr
    obtain ⟨rfl,kr⟩:=hrel
    have c2:=HC.out _ kr
    go_wp2_with fail
    go_roundw
    case rel => exact ⟨2,by omega,rfl,kr⟩
    case measure => simp [intOf]
  ·skip
   have KR:=hid kr
   go_wp2_with fail
   go_loopw [4] (fun iv wr => iv = .int .i64 0 ∧ Kept u wr) (fun iv _ => 0)
   case atStart => exact ⟨rfl,KR.out⟩
   case round =>
    clear c2 KR kr
    obtain ⟨rfl,kr⟩:=hrel
    have c2:=HC.out _ kr
    go_wp2_with fail
    go_roundw
    case rel => exact ⟨3,by omega,rfl,kr⟩
    case measure => simp [intOf]
  ·skip
   go_wp2_with fail
   go_ret
   exact ⟨rfl,kr⟩
theorem apart0 (K : Nat) (u : World) (hk : Bk u K [.slice none 0 0,.slice none 0 0,.slice none 0 0,.slice none 0 0]) : Calls Try.prog 7 #[.pointer (some ⟨K,0,none⟩)] u fun e w' => e = .returned (.bool true) ∧ Kept u w':=by
 have HC:=hid (fun (w : World) (k : Kept u w) => (show w.cell? ⟨K,0,none⟩ = some (.slice none 0 0) ∧ w.cell? ⟨K,2,none⟩ = some (.slice none 0 0) from ⟨(hk.kept k).c 0 _ rfl,(hk.kept k).c 2 _ rfl⟩))
 have HBy:=hid (fun (w : World) (k : Kept u w) => bytes0 K _ _ _ w (hk.kept k))
 have HLi:=hid (fun (w : World) (k : Kept u w) => lists0 K _ _ w (hk.kept k))
 obtain ⟨c0,c2⟩:=HC.out u (Kept.refl u)
 clear hk
 go_enter Try.func7,Try.ntmps7
 go_wp2_with fail
 go_loopw [3] (fun iv wr => iv = .int .i64 0 ∧ Kept u wr) (fun iv _ => 0)
 case atStart => exact ⟨rfl,Kept.refl u⟩
 case round =>
  obtain ⟨rfl,kr⟩:=hrel
  clear c0 c2
  obtain ⟨c0,c2⟩:=HC.out _ kr
  go_wp2_with fail
  go_loopw [4] (fun iv wr => iv = .int .i64 0 ∧ Kept u wr) (fun iv _ => 0)
  case atStart => exact ⟨rfl,kr⟩
  case round =>
   clear c0 c2 kr
   obtain ⟨rfl,kr⟩:=hrel
   obtain ⟨c0,c2⟩:=HC.out _ kr
   go_wp2_with fail
   go_at_call 18
   refine (HBy.out _ kr).mono ?_
   rintro e w5 ⟨rfl,k5⟩
   have K5:=hid (kr.trans k5)
   clear k5 c0 c2
   go_wp2_with fail
   go_at_call 19
   refine (HLi.out _ K5.out).mono ?_
   rintro e w6 ⟨rfl,k6⟩
   go_wp2_with fail
   go_ret
   exact ⟨rfl,K5.out.trans k6⟩
end Go.Proofs.Ytocjfdiimapojaa
namespace Go.Proofs.Ytocjfdiimapojaa
open Go.ChangeShapes Go.WideShapes Go.ChangeAt Go.RowKit
set_option maxHeartbeats 16000000
set_option maxRecDepth 100000
set_option linter.unusedVariables false
set_option linter.unusedSimpArgs false
theorem written_any (v : Value) (s : Sta) (hF : Frm s) (w : World) (hS : StI w v s) : Calls Try.prog 26 #[v] w fun e w' => ∃ g,e = .returned (.slice (some ⟨g,0,none⟩) (enc s).length (enc s).length) ∧ w.heap.size ≤ g ∧ OwnV w' g (enc s).length 5 ((enc s).map (Value.int .u8)) ∧ Kept w w':=by
 have hel:=enc_len hF
 have hsz:=hF.sz
 obtain ⟨C,hC⟩ : ∃ C,(enc s).length = C:=⟨_,rfl⟩
 rw [hC] at hel
 have HZ : Hid (∀ u,Kept w u → Calls Try.prog 46 #[v] u fun e w' => e = .returned (.int .i64 (C : Int)) ∧ Kept u w'):=fun u ku => by rw [hel]; exact size_any v s hF u (hS.kept ku)
 obtain ⟨pv,qv,rfl,hP,hQ⟩:=hS
 have hC1 : C ≤ 14000000:=by omega
 have HN : Hid (∀ (Wb g : Nat) (k : Nat) (ki n : Int) (u : World) (V : List Int),(k : Int) = ki → k ≤ 8 → V.length + k ≤ C → WV u Wb g C V → Calls Try.prog 47 #[.pointer (some ⟨Wb,0,none⟩),.int .i64 n,.int .i64 ki] u fun e w' => e = .returned (.tuple #[]) ∧ KX (fun b => b = Wb ∨ b = g) u w' ∧ WV w' Wb g C (V ++ le k n)):=fun Wb g k ki n u V h1 h2 h3 h4 => wnumber_any k ki n h1 h2 Wb g C (by omega) V h3 u h4
 have HPm : Hid (∀ (Wb g : Nat) (u : World) (V : List Int),w.heap.size ≤ Wb → w.heap.size ≤ g → V.length + 2 + (wls s.P).length ≤ C → Kept w u → WV u Wb g C V → Calls Try.prog 48 #[.pointer (some ⟨Wb,0,none⟩),pv,.int .i64 2] u fun e w' => e = .returned (.tuple #[]) ∧ KX (fun b => b = Wb ∨ b = g) u w' ∧ WV w' Wb g C (V ++ le 2 s.P.length ++ wls s.P)):=fun Wb g u V h1 h2 h3 h4 h5 => wmatrices_any 2 2 rfl (by decide) pv s.P (by have:=hF.pl; omega) hF.p w hP Wb g C (by omega) h1 h2 V h3 u h4 h5
 obtain ⟨pa,pc,rfl,-,-⟩:=hP
 obtain ⟨qa,qc,rfl,hqc,hr⟩:=hQ
 have HR : Hid (∀ (i : Nat) (l : List Mat),s.Q[i]? = some l → ∃ B off la lc,qa = some ⟨B,off,none⟩ ∧ (∀ u,Kept w u → u.cell? ⟨B,off + i,none⟩ = some (.slice la l.length lc)) ∧ ∀ (Wb g : Nat) (u : World) (V : List Int),w.heap.size ≤ Wb → w.heap.size ≤ g → V.length + 1 + (wls l).length ≤ C → Kept w u → WV u Wb g C V → Calls Try.prog 48 #[.pointer (some ⟨Wb,0,none⟩),.slice la l.length lc,.int .i64 1] u fun e w' => e = .returned (.tuple #[]) ∧ KX (fun b => b = Wb ∨ b = g) u w' ∧ WV w' Wb g C (V ++ le 1 l.length ++ wls l)):=fun i l hi => by
  obtain ⟨B,off,e,h⟩:=hr (by intro e; rw [e] at hi; simp at hi)
  obtain ⟨lv,h1,h2⟩:=h i l hi
  have h3:=hF.q i l hi
  have h4:=fun (Wb g : Nat) (u : World) (V : List Int) (h5 : w.heap.size ≤ Wb) (h6 : w.heap.size ≤ g) (h7 : V.length + 1 + (wls l).length ≤ C) (h8 : Kept w u) (h9 : WV u Wb g C V) => wmatrices_any 1 1 rfl (by decide) lv l (by omega) h3.2 w h2 Wb g C (by omega) h5 h6 V h7 u h8 h9
  obtain ⟨la,lc,rfl,-,-⟩:=h2
  exact ⟨B,off,la,lc,e,fun u ku => (ku.below.cell (p:=⟨B,off + i,none⟩) (World.block_lt_of_cell? _ _ h1)).trans h1,h4⟩
 have hbyt:=byt_body s
 have hbl : (wbody s).length + 4 = C:=by rw [← hC]; unfold enc; rw [List.length_append,le_len]
 have HE:=hid (show enc s = wbody s ++ le 4 (sumB (wbody s)) from rfl)
 have HRM : Hid ((mkL ++ wbits 8 [s.a,s.b,s.d,s.lo,s.ra]).length = 44 ∧ 44 + (2 + (wls s.P).length) + 2 + (wqs s.Q).length + 4 = C):=by
  have h1 : (mkL ++ wbits 8 [s.a,s.b,s.d,s.lo,s.ra]).length = 44:=by rw [List.length_append,wbits_len]; rfl
  refine ⟨h1,?_⟩
  rw [← hbl]
  unfold wbody
  rw [List.length_append,List.length_append,List.length_append,h1,List.length_append,le_len,le_len]
 have HQS : Hid (∀ (i : Nat) (l : List Mat),s.Q[i]? = some l → (wqs (s.Q.take i)).length + (1 + (wls l).length) ≤ (wqs s.Q).length ∧ wqs (s.Q.take (i + 1)) = wqs (s.Q.take i) ++ (le 1 l.length ++ wls l)):=fun i l hi => by
  refine ⟨?_,wqs_step i l hi⟩
  have e : wqs s.Q = wqs (s.Q.take (i + 1)) ++ wqs (s.Q.drop (i + 1)):=by rw [← wqs_app,List.take_append_drop]
  rw [e,wqs_step i l hi,List.length_append,List.length_append,List.length_append,le_len]
  omega
 have hql:=hF.ql
 have HBody:=hid (show wbody s = mkL ++ wbits 8 [s.a,s.b,s.d,s.lo,s.ra] ++ (le 2 s.P.length ++ wls s.P) ++ le 2 s.Q.length ++ wqs s.Q from rfl)
 have HSum : Hid (∀ u ao,u.heap.size ≤ u.heap.size → ((wbody s) ≠ [] → ∃ b off,ao = some ⟨b,off,none⟩ ∧ b < u.heap.size ∧ BR u b off (wbody s)) → Calls Try.prog 15 #[.slice ao (wbody s).length C] u fun e w' => e = .returned (.int .i64 (sumB (wbody s))) ∧ Kept u w'):=fun u ao _ h => sum_any ao C (wbody s) hbyt (by omega) u h
 clear hF hel hsz hr hbyt
 obtain ⟨sa,sb,sd,P,Q,lo,ra⟩:=s
 dsimp only at *
 obtain ⟨n,hn⟩ : ∃ n,Q.length = n:=⟨_,rfl⟩
 obtain ⟨pl,hpl⟩ : ∃ pl,P.length = pl:=⟨_,rfl⟩
 obtain ⟨body,hbody⟩ : ∃ body,wbody ⟨sa,sb,sd,P,Q,lo,ra⟩ = body:=⟨_,rfl⟩
 obtain ⟨encs,hencs⟩ : ∃ encs,enc ⟨sa,sb,sd,P,Q,lo,ra⟩ = encs:=⟨_,rfl⟩
 rw [hbody] at HE HBody HSum hbl
 rw [hencs] at HE hC ⊢
 rw [hC]
 rw [hn] at HBody hqc hql HZ ⊢
 rw [hpl] at HPm HBody HZ ⊢
 have HNn:=hid hn
 have HQC:=hid (show n ≤ qc ∧ n ≤ 64 ∧ C ≤ 14000000 ∧ body.length + 4 = C from ⟨hqc,hql,hC1,hbl⟩)
 have HCl:=hid hC
 clear hn hpl hbody hencs hqc hql hC hbl
 obtain ⟨M,hM⟩ : ∃ M,w.heap.size = M:=⟨_,rfl⟩
 obtain ⟨W0,hW0⟩ : ∃ W0,w.alloc (.cells #[.int .i64 sa,.int .i64 sb,.int .i64 sd,.slice pa pl pc,.slice qa n qc,.int .i64 lo,.int .i64 ra] 35) = W0:=⟨_,rfl⟩
 have k0 : Kept w W0:=by rw [← hW0]; exact (Kept.refl w).alloc _ _
 have b0 : Bk W0 M [.int .i64 sa,.int .i64 sb,.int .i64 sd,.slice pa pl pc,.slice qa n qc,.int .i64 lo,.int .i64 ra]:=by rw [← hW0,← hM]; exact Bk.new w _ _
 have HM:=hid hM
 have e0:=b0.c 0 _ rfl
 have e1:=b0.c 1 _ rfl
 have e2:=b0.c 2 _ rfl
 have e3:=b0.c 3 _ rfl
 have e4:=b0.c 4 _ rfl
 have e5:=b0.c 5 _ rfl
 have e6:=b0.c 6 _ rfl
 have HZ0:=hid (HZ.out W0 k0)
 have HK0:=hid k0
 have HB0:=hid b0
 clear k0 b0 HZ
 go_enter Try.func26,Try.ntmps26
 go_wp2_with fail
 go_at_call 46
 refine HZ0.out.mono ?_
 rintro e w1 ⟨rfl,k1⟩
 clear e0 e1 e2 e3 e4 e5 e6 hW0 hM
 obtain ⟨g,hg⟩ : ∃ g,w1.heap.size = g:=⟨_,rfl⟩
 have hmk:=bmake_run C (by omega) w1
 have hom:=bown_made C (by omega) w1
 obtain ⟨W1,hW1⟩ : ∃ W1,w1.alloc (.cells (madeCells #[.int .u8 0] C) 5) = W1:=⟨_,rfl⟩
 rw [hW1,hg] at hmk hom
 obtain ⟨Wb,hWb⟩ : ∃ Wb,W1.heap.size = Wb:=⟨_,rfl⟩
 obtain ⟨W2,hW2⟩ : ∃ W2,W1.alloc (.cells #[.slice (some ⟨g,0,none⟩) 0 C] 85) = W2:=⟨_,rfl⟩
 have bw:=Bk.new W1 [.slice (some ⟨g,0,none⟩) 0 C] 85
 rw [show ([.slice (some ⟨g,0,none⟩) 0 C] : List Value).toArray = #[.slice (some ⟨g,0,none⟩) 0 C] from rfl,hW2,hWb] at bw
 have k12 : Kept w1 W1:=by rw [← hW1]; exact (Kept.refl w1).alloc _ _
 have k22 : Kept W1 W2:=by rw [← hW2]; exact (Kept.refl W1).alloc _ _
 have hgl : g < Wb:=by rw [← hWb,← hW1,← hg]; simp
 have wv2 : WV W2 Wb g C []:=⟨bw.c 0 _ rfl,bw.fz 0,hom.kept k22,by omega⟩
 have kW2 : Kept w W2:=(HK0.out.trans k1).trans (k12.trans k22)
 have hMg : M < g:=by rw [← hg]; exact Nat.lt_of_lt_of_le HB0.out.lt k1.below.size
 obtain ⟨w3,hrun,kx3,wv3,c3,f3⟩:=w_mark wv2 (by have:=HQC.out; have:=HRM.out.2; omega) (by omega)
 have HRun:=hid hrun
 have c2:=wv2.c
 rw [show ([] : List Int).length = 0 from rfl] at c2
 have HBk2:=hid ((HB0.out.kept k1).kept (k12.trans k22))
 have HH:=hid (show M < g ∧ g < Wb ∧ w.heap.size = M from ⟨hMg,hgl,HM.out⟩)
 have HkW:=hid kW2
 have hkx3:=hid kx3
 have hwv3:=hid wv3
 clear k1 hgl hom bw k12 k22 kW2 hMg hrun kx3 wv2 wv3
 clear hg hC1
 obtain ⟨W3,hW3⟩ : ∃ W3,w3.setCell ⟨Wb,0,none⟩ (.slice (some ⟨g,0,none⟩) 4 C) = W3:=⟨_,rfl⟩
 have X3 : KX (fun b => b = Wb ∨ b = g) W2 W3:=by rw [← hW3]; exact (hkx3.out.mono fun b hb => .inr hb).trans (((Grw.refl Wb w3).setCell 0 _).kx.mono fun b hb => .inl hb)
 have V3:=hid (show WV W3 Wb g C mkL by rw [← hW3]; exact hwv3.out)
 have b3:=HBk2.out.kx X3 (by have:=HH.out; omega)
 have K3 : Kept w W3:=kept_of_kx HkW.out X3 (by have:=HH.out; omega)
 obtain ⟨L5,hL5⟩ : ∃ L5,W3.heap.size = L5:=⟨_,rfl⟩
 obtain ⟨W4,hW4⟩ : ∃ W4,W3.alloc (.cells #[.int .i64 sa,.int .i64 sb,.int .i64 sd,.int .i64 lo,.int .i64 ra] 3) = W4:=⟨_,rfl⟩
 have k4 : Kept W3 W4:=by rw [← hW4]; exact (Kept.refl W3).alloc _ _
 have b5 : Bk W4 L5 [.int .i64 sa,.int .i64 sb,.int .i64 sd,.int .i64 lo,.int .i64 ra]:=by rw [← hW4,← hL5]; exact Bk.new W3 _ _
 have V4:=hid (V3.out.kept k4)
 have K4:=hid (K3.trans k4)
 have B4:=hid (b3.kept k4)
 have hL5x : Wb < L5 ∧ g < L5:=by rw [← hL5]; exact ⟨V3.out.lt,V3.out.o.lt⟩
 obtain ⟨f,hf⟩ : ∃ f : Nat → Int,∀ i,([sa,sb,sd,lo,ra] : List Int).getD i 0 = f i:=⟨_,fun _ => rfl⟩
 have HL5:=hid (show ∀ u (i : Nat),i < 5 → KX (fun b => b = Wb ∨ b = g) W4 u → u.cell? ⟨L5,i,none⟩ = some (.int .i64 (f i)) from fun u i hi ku => by
  have bb:=b5.kx ku (by omega)
  rw [← hf]
  obtain rfl | rfl | rfl | rfl | rfl : i = 0 ∨ i = 1 ∨ i = 2 ∨ i = 3 ∨ i = 4:=by omega
  all_goals exact bb.c _ _ rfl)
 have HF5:=hid (show ∀ i : Nat,i < 5 → wbits 8 ([sa,sb,sd,lo,ra].take (i + 1)) = wbits 8 ([sa,sb,sd,lo,ra].take i) ++ le 8 (f i) from fun i hi => by rw [wbits_step 8 _ i (by simpa using hi),hf])
 have x0:=b3.c 0 _ rfl
 have x1:=b3.c 1 _ rfl
 have x2:=b3.c 2 _ rfl
 have x3:=b3.c 3 _ rfl
 have x4:=b3.c 4 _ rfl
 have x5:=b3.c 5 _ rfl
 have x6:=b3.c 6 _ rfl
 have HKX:=hid (show ∀ u,KX (fun b => b = Wb ∨ b = g) W4 u → Kept w u from fun u ku => kept_of_kx K4.out ku (by have:=HH.out; omega))
 have HBM:=hid (show ∀ u,KX (fun b => b = Wb ∨ b = g) W4 u → Bk u M [.int .i64 sa,.int .i64 sb,.int .i64 sd,.slice pa pl pc,.slice qa n qc,.int .i64 lo,.int .i64 ra] from fun u ku => B4.out.kx ku (by have:=HH.out; omega))
 clear X3 b3 K3 k4 b5 hL5x hf hkx3 hwv3 HBk2 HkW V3 HB0 HK0
 go_wp2_with (first | (at_builtin; (try rw [hW2]); (try rw [hWb]); refine wpList_append_run2 rfl _ _ _ _ rfl _ _ rfl rfl _ _ (HRun.out _) ?_))
 clear x0 x1 x2 x3 x4 x5 x6 c2 c3 f3 hmk hW1 hW2 hWb hW3 hL5 hW4 HRun
 go_loopw [28] (fun iv wr => ∃ i : Nat,i ≤ 5 ∧ iv = .int .i64 (i : Int) ∧ KX (fun b => b = Wb ∨ b = g) W4 wr ∧ WV wr Wb g C (mkL ++ wbits 8 ([sa,sb,sd,lo,ra].take i))) (fun iv _ => 5 - (intOf iv).toNat)
 case atStart => exact ⟨0,by omega,rfl,(Kept.refl W4).kx _,by simpa [wbits] using V4.out⟩
 case round =>
  obtain ⟨i,hi,rfl,kx,wv⟩:=hrel
  by_cases hi5 : i < 5
  ·have c0:=HL5.out wr i hi5 kx
   have hbd : (0 : Int) ≤ (i : Int) ∧ (i : Int) < (5 : Int):=by omega
   have hbd2 : (i : Int) < 5:=by omega
   have z2 : IntKind.i64.wrap ((i : Int) + 1) = (i : Int) + 1:=by rw [wrap_i64]; omega
   have hroom : (mkL ++ wbits 8 ([sa,sb,sd,lo,ra].take i)).length + 8 ≤ C:=by
    have h1:=HRM.out.2
    rw [List.length_append,wbits_len,List.length_take,Nat.min_eq_left (by simp; omega)]
    have h2 : mkL.length = 4:=rfl
    omega
   have K:=hid (HN.out Wb g 8 8 (f i) wr _ rfl (by decide) hroom wv)
   have hst:=hid (HF5.out i hi5)
   have hkx:=hid kx
   have hi6:=hid hi5
   clear hroom kx wv hi hi5 HL5 HF5
   generalize f i = fi at *
   go_wp2_with (first | (go_at_call 47; refine K.out.mono ?_; rintro e w5 ⟨rfl,x5,v5⟩))
   go_roundw
   case rel => exact ⟨i + 1,by have:=hi6.out; omega,by go_num,hkx.out.trans x5,by rw [hst.out,← List.append_assoc]; exact v5⟩
   case measure => have:=hi6.out; simp [intOf]; omega
  ·obtain rfl : i = 5:=by omega
   rw [show ([sa,sb,sd,lo,ra] : List Int).take 5 = [sa,sb,sd,lo,ra] from rfl] at wv
   obtain ⟨Va,hVa⟩ : ∃ Va,mkL ++ wbits 8 [sa,sb,sd,lo,ra] = Va:=⟨_,rfl⟩
   rw [hVa] at wv HRM HBody
   have hM:=HH.out
   have KP:=hid (HPm.out Wb g wr Va (by omega) (by omega) (by have:=HRM.out; omega) (HKX.out wr kx) wv)
   have e3:=(HBM.out wr kx).c 3 _ rfl
   have hkx:=hid kx
   clear kx wv hVa hM HPm HL5 HF5
   go_wp2_with fail
   go_at_call 48
   refine KP.out.mono ?_
   rintro e w5 ⟨rfl,x5,v5⟩
   have X5:=hid (hkx.out.trans x5)
   have e4:=(HBM.out w5 X5.out).c 4 _ rfl
   have K9:=hid (HN.out Wb g 2 2 (n : Int) w5 _ rfl (by decide) (by have:=HRM.out; rw [List.length_append,List.length_append,le_len]; omega) v5)
   clear x5 v5 e3 KP hkx
   go_wp2_with fail
   go_at_call 47
   refine K9.out.mono ?_
   rintro e w6 ⟨rfl,x6,v6⟩
   have X6:=hid (X5.out.trans x6)
   have V6:=hid v6
   clear e4 x6 v6 K9 X5
   have e4:=(HBM.out w6 X6.out).c 4 _ rfl
   go_wp2_with fail
   go_loopw [45] (fun iv wr => ∃ i : Nat,i ≤ n ∧ iv = .int .i64 (i : Int) ∧ KX (fun b => b = Wb ∨ b = g) W4 wr ∧ WV wr Wb g C (Va ++ le 2 pl ++ wls P ++ le 2 n ++ wqs (Q.take i))) (fun iv _ => n - (intOf iv).toNat)
   case atStart => exact ⟨0,Nat.zero_le _,rfl,X6.out,by simpa [wqs] using V6.out⟩
   case round =>
    clear e4 X6 V6
    obtain ⟨i,hi,rfl,kx,wv⟩:=hrel
    by_cases hin : i < n
    ·obtain ⟨l,hl⟩ : ∃ l,Q[i]? = some l:=⟨_,List.getElem?_eq_getElem (by rw [HNn.out]; exact hin)⟩
     obtain ⟨B,off,la,lc,rfl,hc,hK⟩:=HR.out i l hl
     have c0:=hc wr (HKX.out wr kx)
     obtain ⟨h1,h2⟩:=HQS.out i l hl
     have hM:=HH.out
     have hbd : (0 : Int) ≤ (i : Int) ∧ (i : Int) < (n : Int):=by omega
     have hbd2 : (i : Int) < (n : Int):=by omega
     have z2 : IntKind.i64.wrap ((i : Int) + 1) = (i : Int) + 1:=by have:=HQC.out; rw [wrap_i64]; omega
     have hroom : (Va ++ le 2 pl ++ wls P ++ le 2 n ++ wqs (Q.take i)).length + 1 + (wls l).length ≤ C:=by
      have:=HRM.out
      rw [List.length_append,List.length_append,List.length_append,List.length_append,le_len,le_len]
      omega
     have K:=hid (hK Wb g wr _ (by omega) (by omega) hroom (HKX.out wr kx) wv)
     have hst:=hid h2
     have hkx:=hid kx
     have hi6:=hid hin
     clear hroom kx wv hi hin h1 h2 hM hK hc HR HQS hl
     go_wp2_with (first | (go_at_call 48; refine K.out.mono ?_; rintro e w7 ⟨rfl,x7,v7⟩))
     go_roundw
     case rel => exact ⟨i + 1,by have:=hi6.out; omega,by go_num,hkx.out.trans x7,by rw [hst.out]; simpa only [List.append_assoc] using v7⟩
     case measure => have:=hi6.out; simp [intOf]; omega
    ·obtain rfl : i = n:=by omega
     have hge : ¬ ((i : Int) < (i : Int)):=by omega
     have hb : Va ++ le 2 pl ++ wls P ++ le 2 i ++ wqs (Q.take i) = body:=by
      rw [HBody.out,List.take_of_length_le (by rw [HNn.out]; omega)]
      simp only [List.append_assoc]
     rw [hb] at wv
     have c0:=wv.c
     have HWV:=hid wv
     have HS:=hid (HSum.out wr (some ⟨g,0,none⟩) (Nat.le_refl _) (fun _ => ⟨g,0,rfl,wv.o.lt,fun j hj => by
      rw [Nat.zero_add]
      refine wv.o.cell j _ ?_
      rw [List.getElem?_map,List.getElem?_eq_getElem hj,List.getD_eq_getElem?_getD,List.getElem?_eq_getElem hj]
      rfl⟩))
     obtain ⟨bl,hbl⟩ : ∃ bl,body.length = bl:=⟨_,rfl⟩
     rw [hbl] at c0 HS
     have hkx:=hid kx
     clear kx wv hb hbl HR HQS
     go_wp2_with fail
     go_at_call 15
     refine HS.out.mono ?_
     rintro e w8 ⟨rfl,k8⟩
     have K8:=hid (HN.out Wb g 4 4 (sumB body) w8 body rfl (by decide) (by have:=HQC.out; omega) (HWV.out.kept k8))
     have X8:=hid (hkx.out.trans (k8.kx _))
     clear k8 c0
     go_wp2_with fail
     go_at_call 47
     refine K8.out.mono ?_
     rintro e w9 ⟨rfl,x9,v9⟩
     rw [← HE.out] at v9
     have c9:=v9.c
     rw [HCl.out] at c9
     have V9:=hid v9
     have X9:=hid (X8.out.trans x9)
     clear x9 v9
     go_wp2_with fail
     go_ret
     exact ⟨g,rfl,by have:=HH.out; omega,V9.out.o,HKX.out _ X9.out⟩
end Go.Proofs.Ytocjfdiimapojaa
namespace Go.Proofs.Ytocjfdiimapojaa
open Go.ChangeShapes Go.WideShapes Go.ChangeAt Go.RowKit
set_option maxHeartbeats 16000000
set_option maxRecDepth 100000
set_option linter.unusedVariables false
set_option linter.unusedSimpArgs false
/-- What Write tells. -/
def WrP (H : Nat) (s : Sta) (e : Ending) (w' : World) : Prop:=(Frm s ∧ ∃ g,e = .returned (.tuple #[.slice (some ⟨g,0,none⟩) (enc s).length (enc s).length,.int .i64 0]) ∧ H ≤ g ∧ OwnV w' g (enc s).length 5 ((enc s).map (Value.int .u8))) ∨ (¬ Frm s ∧ e = .returned (.tuple #[.slice none 0 0,.int .i64 43]))
theorem write_any (v : Value) (s : Sta) (hpn : s.P.length ≤ 9223372036854775807) (hqn : s.Q.length ≤ 9223372036854775807) (w : World) (hS : StI w v s) : Calls Try.prog 10 #[v] w fun e w' => Kept w w' ∧ WrP w.heap.size s e w':=by
 have hmf : ∀ (fn : Fn) (first cap : Array Value) (w : World),(Instr.makeFunc fn first cap).run Try.prog w = .ok (.func fn first cap) w:=fun _ _ _ _ => rfl
 have HC : Hid (∀ u,Kept w u → Calls Try.prog 25 #[v,.int .i64 16777216] u fun e w' => Kept u w' ∧ CkP (Frm s) e):=fun u ku => check_any5 v s hpn hqn u (hS.kept ku)
 have HW : Hid (∀ u,Kept w u → Frm s → Calls Try.prog 26 #[v] u fun e w' => ∃ g,e = .returned (.slice (some ⟨g,0,none⟩) (enc s).length (enc s).length) ∧ u.heap.size ≤ g ∧ OwnV w' g (enc s).length 5 ((enc s).map (Value.int .u8)) ∧ Kept u w'):=fun u ku hF => written_any v s hF u (hS.kept ku)
 obtain ⟨pv,qv,rfl,⟨pa,pc,rfl,-,-⟩,⟨qa,qc,rfl,-,-⟩⟩:=hS
 generalize s.P.length = pl at *
 generalize s.Q.length = ql at *
 generalize s.a = sa at *
 generalize s.b = sb at *
 generalize s.d = sd at *
 generalize s.lo = lo at *
 generalize s.ra = ra at *
 obtain ⟨M,hM⟩ : ∃ M,w.heap.size = M:=⟨_,rfl⟩
 obtain ⟨W0,hW0⟩ : ∃ W0,(w.alloc (.cells #[.int .i64 sa,.int .i64 sb,.int .i64 sd,.slice pa pl pc,.slice qa ql qc,.int .i64 lo,.int .i64 ra] 35)).alloc (.cells #[.int .i64 0] 41) = W0:=⟨_,rfl⟩
 have k0 : Kept w W0:=by rw [← hW0]; exact ((Kept.refl w).alloc _ _).alloc _ _
 have b0 : Bk W0 M [.int .i64 sa,.int .i64 sb,.int .i64 sd,.slice pa pl pc,.slice qa ql qc,.int .i64 lo,.int .i64 ra]:=by rw [← hW0,← hM]; exact (Bk.new w [.int .i64 sa,.int .i64 sb,.int .i64 sd,.slice pa pl pc,.slice qa ql qc,.int .i64 lo,.int .i64 ra] 35).kept ((Kept.refl _).alloc _ _)
 have be : Bk W0 (M + 1) [.int .i64 0]:=by
  have:=Bk.new (w.alloc (.cells #[.int .i64 sa,.int .i64 sb,.int .i64 sd,.slice pa pl pc,.slice qa ql qc,.int .i64 lo,.int .i64 ra] 35)) [.int .i64 0] 41
  rw [show (w.alloc (.cells #[.int .i64 sa,.int .i64 sb,.int .i64 sd,.slice pa pl pc,.slice qa ql qc,.int .i64 lo,.int .i64 ra] 35)).heap.size = M + 1 by rw [← hM]; simp] at this
  rw [← hW0]
  exact this
 have e0:=b0.c 0 _ rfl
 have e1:=b0.c 1 _ rfl
 have e2:=b0.c 2 _ rfl
 have e3:=b0.c 3 _ rfl
 have e4:=b0.c 4 _ rfl
 have e5:=b0.c 5 _ rfl
 have e6:=b0.c 6 _ rfl
 have HK0:=hid k0
 have HB:=hid b0
 have HE:=hid be
 have HM:=hid hM
 have HC0:=hid (HC.out W0 k0)
 clear k0 b0 be hpn hqn
 go_enter_defers Try.func10,Try.ntmps10
 go_wp2_with fail
 go_at_call 25
 refine HC0.out.mono ?_
 rintro e w1 ⟨k1,hck⟩
 have bE:=HE.out.kept k1
 have hMl:=HE.out.lt
 rcases hck with ⟨rfl,hFr⟩ | ⟨rfl,hno⟩
 ·have b1:=HB.out.kept k1
  clear e0 e1 e2 e3 e4 e5 e6 hW0 hM
  have e0:=b1.c 0 _ rfl
  have e1:=b1.c 1 _ rfl
  have e2:=b1.c 2 _ rfl
  have e3:=b1.c 3 _ rfl
  have e4:=b1.c 4 _ rfl
  have e5:=b1.c 5 _ rfl
  have e6:=b1.c 6 _ rfl
  have HWc:=hid (HW.out w1 (HK0.out.trans k1) hFr)
  have HF:=hid hFr
  have HK1:=hid (HK0.out.trans k1)
  have HE1:=hid bE
  clear b1 k1 hFr bE
  go_wp2_with fail
  go_at_call 26
  refine HWc.out.mono ?_
  rintro e w2 ⟨g,rfl,hg,ho,k2⟩
  have bE2:=HE1.out.kept k2
  have z0:=bE2.c 0 _ rfl
  have zf:=bE2.fz 0
  have HE2:=hid bE2
  have HG:=hid (show M + 2 ≤ g from by have:=HE1.out.lt; omega)
  have HO:=hid ho
  have HK2:=hid (HK1.out.trans k2)
  clear e0 e1 e2 e3 e4 e5 e6 k2 ho hg bE2
  go_wp2_with fail
  have y0:=HE2.out.set 0 (.int .i64 0)
  have kx0 : KX (fun b => b = M + 1) w2 (w2.setCell ⟨M + 1,0,none⟩ (.int .i64 0)):=((Grw.refl (M + 1) w2).setCell 0 _).kx
  refine leaves_cons (f:=23) (args:=#[.pointer (some ⟨M + 1,0,none⟩)]) (by simp) (by simp [go_sem]) ?_
  refine (wcatch_idle (M + 1) 0 _ (y0.c 0 _ rfl) (y0.fz 0)).mono ?_
  rintro e u' w'' ⟨rfl,rfl,kx,cE⟩
  simp only [settle,Leaves]
  refine ⟨.tuple #[.slice (some ⟨g,0,none⟩) (enc s).length (enc s).length,.int .i64 0],(by simp [results,Try.results10,go_sem,cE]),?_,.inl ⟨HF.out,g,rfl,by have:=HG.out; have:=HM.out; omega,?_⟩⟩
  ·exact kept_of_kx (kept_of_kx HK2.out kx0 (fun b hb => by have:=HM.out; omega)) kx (fun b hb => by have:=HM.out; omega)
  ·have hgx:=HG.out
   obtain ⟨cur,h1,r⟩:=HO.out
   refine ⟨cur,?_,r⟩
   have hl:=lt_of_block h1
   rw [kx.block g (Nat.lt_of_lt_of_le hl kx0.size) (by omega),kx0.block g hl (by omega)]
   exact h1
 ·clear e0 e1 e2 e3 e4 e5 e6 hW0 hM
  have HK1:=hid (HK0.out.trans k1)
  have HNO:=hid hno
  have HE1:=hid bE
  clear k1 hno bE
  go_wp2_with fail
  refine leaves_cons (f:=23) (args:=#[.pointer (some ⟨M + 1,0,none⟩)]) (by simp) (by simp [go_sem]) ?_
  refine (wcatch_up 43 0 [] (M + 1) 0 w1 (HE1.out.c 0 _ rfl) (HE1.out.fz 0)).mono ?_
  rintro e u' w'' ⟨rfl,rfl,kx,cE⟩
  simp only [settle,List.dropWhile_nil,Leaves]
  refine ⟨.tuple #[.slice none 0 0,.int .i64 43],(by simp [results,Try.results10,go_sem,cE]),?_,.inr ⟨HNO.out,rfl⟩⟩
  exact kept_of_kx HK1.out kx (fun b hb => by have:=HM.out; omega)
end Go.Proofs.Ytocjfdiimapojaa
namespace Go.Proofs.Ytocjfdiimapojaa
open Go.ChangeShapes Go.WideShapes Go.ChangeAt Go.RowKit
set_option maxHeartbeats 16000000
set_option maxRecDepth 100000
set_option linter.unusedVariables false
set_option linter.unusedSimpArgs false
theorem checkf_any (v : Value) (s : Sta) (hpn : s.P.length ≤ 9223372036854775807) (hqn : s.Q.length ≤ 9223372036854775807) (w : World) (hS : StI w v s) : Calls Try.prog 14 #[v] w fun e w' => Kept w w' ∧ ((Frm s ∧ e = .returned (.int .i64 0)) ∨ (¬ Frm s ∧ e = .returned (.int .i64 43))):=by
 have hmf : ∀ (fn : Fn) (first cap : Array Value) (w : World),(Instr.makeFunc fn first cap).run Try.prog w = .ok (.func fn first cap) w:=fun _ _ _ _ => rfl
 have HC : Hid (∀ u,Kept w u → Calls Try.prog 25 #[v,.int .i64 16777216] u fun e w' => Kept u w' ∧ CkP (Frm s) e):=fun u ku => check_any5 v s hpn hqn u (hS.kept ku)
 obtain ⟨pv,qv,rfl,⟨pa,pc,rfl,-,-⟩,⟨qa,qc,rfl,-,-⟩⟩:=hS
 generalize s.P.length = pl at *
 generalize s.Q.length = ql at *
 generalize s.a = sa at *
 generalize s.b = sb at *
 generalize s.d = sd at *
 generalize s.lo = lo at *
 generalize s.ra = ra at *
 obtain ⟨M,hM⟩ : ∃ M,w.heap.size = M:=⟨_,rfl⟩
 obtain ⟨W0,hW0⟩ : ∃ W0,(w.alloc (.cells #[.int .i64 sa,.int .i64 sb,.int .i64 sd,.slice pa pl pc,.slice qa ql qc,.int .i64 lo,.int .i64 ra] 35)).alloc (.cells #[.int .i64 0] 41) = W0:=⟨_,rfl⟩
 have k0 : Kept w W0:=by rw [← hW0]; exact ((Kept.refl w).alloc _ _).alloc _ _
 have b0 : Bk W0 M [.int .i64 sa,.int .i64 sb,.int .i64 sd,.slice pa pl pc,.slice qa ql qc,.int .i64 lo,.int .i64 ra]:=by rw [← hW0,← hM]; exact (Bk.new w [.int .i64 sa,.int .i64 sb,.int .i64 sd,.slice pa pl pc,.slice qa ql qc,.int .i64 lo,.int .i64 ra] 35).kept ((Kept.refl _).alloc _ _)
 have be : Bk W0 (M + 1) [.int .i64 0]:=by
  have:=Bk.new (w.alloc (.cells #[.int .i64 sa,.int .i64 sb,.int .i64 sd,.slice pa pl pc,.slice qa ql qc,.int .i64 lo,.int .i64 ra] 35)) [.int .i64 0] 41
  rw [show (w.alloc (.cells #[.int .i64 sa,.int .i64 sb,.int .i64 sd,.slice pa pl pc,.slice qa ql qc,.int .i64 lo,.int .i64 ra] 35)).heap.size = M + 1 by rw [← hM]; simp] at this
  rw [← hW0]
  exact this
 have e0:=b0.c 0 _ rfl
 have e1:=b0.c 1 _ rfl
 have e2:=b0.c 2 _ rfl
 have e3:=b0.c 3 _ rfl
 have e4:=b0.c 4 _ rfl
 have e5:=b0.c 5 _ rfl
 have e6:=b0.c 6 _ rfl
 have HK0:=hid k0
 have HB:=hid b0
 have HE:=hid be
 have HM:=hid hM
 have HC0:=hid (HC.out W0 k0)
 clear k0 b0 be hpn hqn
 go_enter_defers Try.func14,Try.ntmps14
 go_wp2_with fail
 go_at_call 25
 refine HC0.out.mono ?_
 rintro e w1 ⟨k1,hck⟩
 have bE:=HE.out.kept k1
 have hMl:=HE.out.lt
 rcases hck with ⟨rfl,hFr⟩ | ⟨rfl,hno⟩
 ·have z0:=bE.c 0 _ rfl
  have zf:=bE.fz 0
  have HF:=hid hFr
  have HK1:=hid (HK0.out.trans k1)
  have HE2:=hid bE
  clear e0 e1 e2 e3 e4 e5 e6 hW0 hM k1 hFr bE
  go_wp2_with fail
  have y0:=HE2.out.set 0 (.int .i64 0)
  have kx0 : KX (fun b => b = M + 1) w1 (w1.setCell ⟨M + 1,0,none⟩ (.int .i64 0)):=((Grw.refl (M + 1) w1).setCell 0 _).kx
  refine leaves_cons (f:=31) (args:=#[.pointer (some ⟨M + 1,0,none⟩)]) (by simp) (by simp [go_sem]) ?_
  refine (wcatch_idleC (M + 1) 0 _ (y0.c 0 _ rfl) (y0.fz 0)).mono ?_
  rintro e u' w'' ⟨rfl,rfl,kx,cE⟩
  simp only [settle,Leaves]
  refine ⟨.int .i64 0,(by simp [results,Try.results14,go_sem,cE]),?_,.inl ⟨HF.out,rfl⟩⟩
  exact kept_of_kx (kept_of_kx HK1.out kx0 (fun b hb => by have:=HM.out; omega)) kx (fun b hb => by have:=HM.out; omega)
 ·clear e0 e1 e2 e3 e4 e5 e6 hW0 hM
  have HK1:=hid (HK0.out.trans k1)
  have HNO:=hid hno
  have HE1:=hid bE
  clear k1 hno bE
  go_wp2_with fail
  refine leaves_cons (f:=31) (args:=#[.pointer (some ⟨M + 1,0,none⟩)]) (by simp) (by simp [go_sem]) ?_
  refine (wcatch_upC 43 0 [] (M + 1) 0 w1 (HE1.out.c 0 _ rfl) (HE1.out.fz 0)).mono ?_
  rintro e u' w'' ⟨rfl,rfl,kx,cE⟩
  simp only [settle,List.dropWhile_nil,Leaves]
  refine ⟨.int .i64 43,(by simp [results,Try.results14,go_sem,cE]),?_,.inr ⟨HNO.out,rfl⟩⟩
  exact kept_of_kx HK1.out kx (fun b hb => by have:=HM.out; omega)
end Go.Proofs.Ytocjfdiimapojaa
