/- AccAdds: the walk of adds. -/
import Derived.Test.YtoflafgbbjinpaaGreatDoorX46
namespace Go.Proofs.YtoflafgbbjinpaaGreatDoor
open Go.ChangeShapes Go.WideShapes Go.ChangeAt Go.RowKit
set_option linter.unusedVariables false
set_option linter.unusedSimpArgs false
set_option maxHeartbeats 16000000
set_option maxRecDepth 100000
theorem sl_one9 {u : World} {q : Nat} {b : Int} (hq : q < u.heap.size) (h0 : u.cell? ⟨q,0,none⟩ = some (.int .i64 b)) : Sl u (.slice (some ⟨q,0,none⟩) 1 1) [b]:=by
 refine ⟨_,1,rfl,by simp,by simp [maxLen],fun _ => ⟨q,0,rfl,hq,fun i hi => ?_⟩⟩
 have : i = 0:=by simp at hi; omega
 subst this
 simpa using h0
theorem hid {p : Prop} (h : p) : Hid p:=h
theorem VB.set' {u Y : World} {B : Nat} {v0 v1 v2 v3 v4 v5 y0 y1 y2 y3 y4 y5 : Value} (h : VB u B v0 v1 v2 v3 v4 v5) (e : Y = six u B y0 y1 y2 y3 y4 y5) : VB Y B y0 y1 y2 y3 y4 y5:=by
 rw [e]
 exact h.set _ _ _ _ _ _
theorem VB.other' {u Y : World} {B B' : Nat} {v0 v1 v2 v3 v4 v5 y0 y1 y2 y3 y4 y5 : Value} (h : VB u B v0 v1 v2 v3 v4 v5) (hne : B ≠ B') (e : Y = six u B' y0 y1 y2 y3 y4 y5) : VB Y B v0 v1 v2 v3 v4 v5:=by
 rw [e]
 exact h.other B' hne _ _ _ _ _ _
theorem rlp_six' {P : Nat → Prop} {u Y : World} {s : Value} {L : List Int} {B : Nat} {y0 y1 y2 y3 y4 y5 : Value} (h : RLp P u s L) (hq : ∀ c,P c → c ≠ B) (e : Y = six u B y0 y1 y2 y3 y4 y5) : RLp P Y s L:=by
 rw [e]
 exact rlp_six h B hq _ _ _ _ _ _
theorem lk_more (n : Int) (v : Bool) (x y : Int) : (lkE n v [x] ≠ 0 → lkE n v [x,y] ≠ 0) ∧ (lkE n true [x] ≠ 0 → lkE n v [x] ≠ 0):=by
 unfold lkE
 constructor
 ·intro h
  by_cases h1 : val 0 n = false
  ·rw [if_pos h1]; decide
  rw [if_neg h1] at h ⊢
  by_cases h2 : v = false
  ·rw [if_pos h2]; decide
  rw [if_neg h2] at h ⊢
  by_cases h3 : val x n = true
  ·rw [if_pos (by simp [h3])] at h; exact absurd rfl h
  ·rw [if_neg (by simp [h3])]; decide
 ·intro h
  by_cases h1 : val 0 n = false
  ·rw [if_pos h1]; decide
  rw [if_neg h1] at h ⊢
  by_cases h2 : v = false
  ·rw [if_pos h2]; decide
  rw [if_neg h2]
  rw [if_neg (by decide)] at h
  exact h
theorem adds_true (w0 w : World) (hT : Tab w0) (kb : Nat) (vL vW : Value) (E : List Ent) (hK : KeepAt w0 w kb vL vW E) (hE : E.length + 4 ≤ 300) (a : Nm) (ra : Rg a.mag) (la : a.mag.length ≤ 2100) (p m z : Bool) (x y n : Int) (x1 : -9223372036854775808 ≤ x) (x2 : x ≤ 9223372036854775807) (y1 : -9223372036854775808 ≤ y) (y2 : y ≤ 9223372036854775807) (q1 : Option Addr) (d1 : Nat) (hc1 : q1 = none → d1 = 0) (hr1 : Sl w0 (.slice q1 a.mag.length d1) a.mag) :
  Calls Tryz.prog 11 #[.pointer (some ⟨kb,0,none⟩),accV a.neg (.slice q1 a.mag.length d1) a.exp p m z,.int .i64 x,.int .i64 y,.int .i64 n] w fun e w' => e = .returned (.bool true) ∧ ∃ vL' vW' E',KeepAt w0 w' kb vL' vW' E' ∧ E'.length ≤ E.length + 4 ∧ GrwS (kb :: (blk vL ++ blk vW)) w w':=by
 obtain ⟨ro,oe,oP,oM,oZ,hOf,hOb,hOo⟩:=ofAcc_all n x x1 x2
 obtain ⟨rp,pe,pP,pM,pZ,hAd,hPb,hPo⟩:=addOne_all n x x1 x2 a ra (by omega) p m z
 obtain ⟨rq,qe,qP,qM,qZ,hPr,hQb,hQo⟩:=addProduct_all n x y x1 x2 y1 y2 a ra (by omega) p m z
 obtain ⟨rr,re,rP,rM,rZ,hTm,hRb,hRo⟩:=times_all n x x1 x2 a ra (by omega) p m z
 have HT : Hid (∀ u,Kept w0 u → Tab u):=fun u k => hT.kept k
 have HL1 : Hid (∀ u,Kept w0 u → Calls Tryz.prog 37 #[accV a.neg (.slice q1 a.mag.length d1) a.exp p m z] u fun e w' => (∃ g cap,e = .returned (.tuple #[.slice (some ⟨g,0,none⟩) (a.mag.length + 3) cap,accV a.neg (.slice (some ⟨g,0,none⟩) a.mag.length cap) a.exp p m z]) ∧ u.heap.size ≤ g ∧ Own w' g cap (a.mag ++ [-71,-72,-73])) ∧ Kept u w'):=fun u k => lent3 a.neg a.exp p m z a.mag (by omega) q1 d1 u (hr1.kept k)
 have HOF : Hid (∀ u,Kept w0 u → Calls Tryz.prog 38 #[.int .i64 x,.int .i64 n] u fun e w' => ∃ ua uc,e = .returned (.tuple #[accV ro.neg (.slice ua ro.mag.length uc) ro.exp oP oM oZ,.int .i64 oe]) ∧ Hid (Rw w' (.slice ua ro.mag.length uc) 3 (ints ro.mag)) ∧ Hid (∀ b ∈ blk (.slice ua ro.mag.length uc),u.heap.size ≤ b) ∧ Kept u w'):=fun u k => by
  have:=hOf u (HT.out u k)
  refine this.mono ?_
  rintro e w' ⟨un,ua,ul,uc,ux,rfl,hN,k2⟩
  obtain ⟨rfl,rfl,rfl,h1,h2,-⟩:=new_acc hN
  exact ⟨ua,uc,rfl,h1,h2,k2⟩
 have HAD : Hid (∀ u g c,Kept w0 u → Own u g c (a.mag ++ [-71,-72,-73]) → Calls Tryz.prog 28 #[accV a.neg (.slice (some ⟨g,0,none⟩) a.mag.length c) a.exp p m z,.int .i64 x,.int .i64 n] u fun e w' => ∃ ua uc,e = .returned (.tuple #[accV rp.neg (.slice ua rp.mag.length uc) rp.exp pP pM pZ,.int .i64 pe]) ∧ Hid (Rw w' (.slice ua rp.mag.length uc) 3 (ints rp.mag)) ∧ Hid (∀ b ∈ blk (.slice ua rp.mag.length uc),u.heap.size ≤ b) ∧ Kept u w'):=fun u g c k o1 => by
  have:=hAd u _ c (HT.out u k) (lent_sl o1)
  refine this.mono ?_
  rintro e w' ⟨un,ua,ul,uc,ux,rfl,hN,k2⟩
  obtain ⟨rfl,rfl,rfl,h1,h2,-⟩:=new_acc hN
  exact ⟨ua,uc,rfl,h1,h2,k2⟩
 have HPR : Hid (∀ u g c,Kept w0 u → Own u g c (a.mag ++ [-71,-72,-73]) → Calls Tryz.prog 19 #[accV a.neg (.slice (some ⟨g,0,none⟩) a.mag.length c) a.exp p m z,.int .i64 x,.int .i64 y,.int .i64 n] u fun e w' => ∃ ua uc,e = .returned (.tuple #[accV rq.neg (.slice ua rq.mag.length uc) rq.exp qP qM qZ,.int .i64 qe]) ∧ Hid (Rw w' (.slice ua rq.mag.length uc) 3 (ints rq.mag)) ∧ Hid (∀ b ∈ blk (.slice ua rq.mag.length uc),u.heap.size ≤ b) ∧ Kept u w'):=fun u g c k o1 => by
  have:=hPr u _ c (HT.out u k) (lent_sl o1)
  refine this.mono ?_
  rintro e w' ⟨un,ua,ul,uc,ux,rfl,hN,k2⟩
  obtain ⟨rfl,rfl,rfl,h1,h2,-⟩:=new_acc hN
  exact ⟨ua,uc,rfl,h1,h2,k2⟩
 have HTM : Hid (∀ u g c,Kept w0 u → Own u g c (a.mag ++ [-71,-72,-73]) → Calls Tryz.prog 31 #[accV a.neg (.slice (some ⟨g,0,none⟩) a.mag.length c) a.exp p m z,.int .i64 x,.int .i64 n] u fun e w' => ∃ ua uc,e = .returned (.tuple #[accV rr.neg (.slice ua rr.mag.length uc) rr.exp rP rM rZ,.int .i64 re]) ∧ Hid (Rw w' (.slice ua rr.mag.length uc) 3 (ints rr.mag)) ∧ Hid (∀ b ∈ blk (.slice ua rr.mag.length uc),u.heap.size ≤ b) ∧ Kept u w'):=fun u g c k o1 => by
  have:=hTm u _ c (HT.out u k) (lent_sl o1)
  refine this.mono ?_
  rintro e w' ⟨un,ua,ul,uc,ux,rfl,hN,k2⟩
  obtain ⟨rfl,rfl,rfl,h1,h2,-⟩:=new_acc hN
  exact ⟨ua,uc,rfl,h1,h2,k2⟩
 have HBK : Hid (∀ (u : World) (g cap : Nat),Kept w0 u → Own u g cap (a.mag ++ [-71,-72,-73]) → Calls Tryz.prog 41 #[.slice (some ⟨g,0,none⟩) (a.mag.length + 3) cap,.slice q1 a.mag.length d1] u fun e w' => e = .returned (.bool true) ∧ Grw g u w'):=fun u g cap k ho => back_any a.mag (by omega) _ g cap u (hr1.kept k) ho
 have KVa : Hid (∀ u,Kept w0 u → Calls Tryz.prog 39 #[accV a.neg (.slice q1 a.mag.length d1) a.exp p m z] u fun e w' => e = .returned (.bool (vld a)) ∧ Kept u w'):=fun u k => rvalid3 a.neg q1 a.mag.length d1 a.exp p m z (vld a) u (fun t kt => rvalid2_any a ra (by omega) _ t ⟨_,rfl,(hr1.kept k).kept kt⟩)
 have KVp : Hid (∀ u g c,Own u g c (a.mag ++ [-71,-72,-73]) → Calls Tryz.prog 40 #[accV a.neg (.slice (some ⟨g,0,none⟩) a.mag.length c) a.exp p m z] u fun e w' => e = .returned (.bool (vld a)) ∧ Kept u w'):=fun u g c o1 => avalid_any a.neg _ a.mag.length c a.exp p m z (vld a) u (fun t kt => xvalid_any a ra (by omega) _ t ⟨_,rfl,(lent_sl o1).kept kt⟩)
 have KF1 : Hid (∀ (v : Bool) u g,g < u.heap.size → u.cell? ⟨g,0,none⟩ = some (.int .i64 x) → Calls Tryz.prog 42 #[.int .i64 n,.bool v,.slice (some ⟨g,0,none⟩) 1 1] u fun e w' => e = .returned (.int .i64 (lkE n v [x])) ∧ Kept u w'):=fun v u g hg h0 => first3_all n v [x] (by intro d hd; simp at hd; subst hd; exact ⟨x1,x2⟩) (by simp) _ 1 u (sl_one9 hg h0)
 have KF2 : Hid (∀ u g,g < u.heap.size → u.cell? ⟨g,0,none⟩ = some (.int .i64 x) → u.cell? ⟨g,1,none⟩ = some (.int .i64 y) → Calls Tryz.prog 42 #[.int .i64 n,.bool (vld a),.slice (some ⟨g,0,none⟩) 2 2] u fun e w' => e = .returned (.int .i64 (lkE n (vld a) [x,y])) ∧ Kept u w'):=fun u g hg h0 h1 => first3_all n (vld a) [x,y] (by intro d hd; simp at hd; rcases hd with rfl | rfl; exact ⟨x1,x2⟩; exact ⟨y1,y2⟩) (by simp) _ 2 u (sl_two hg h0 h1)
 have KZ : Hid (∀ u,Calls Tryz.prog 44 #[] u fun e w' => e = .returned (accV false (.slice none 0 0) 0 false false false) ∧ Kept u w'):=fun u => rzero3 u
 have KUO : Hid (lkE n true [x] = 0 → ∀ u,Kept w0 u → Calls Tryz.prog 43 #[accV false (.slice none 0 0) 0 false false false,.int .i64 x,.int .i64 n] u fun e w' => ∃ va vc,e = .returned (accV (qOn n x (⟨false,[],0⟩ : Nm)).neg (.slice va (qOn n x (⟨false,[],0⟩ : Nm)).mag.length vc) (qOn n x (⟨false,[],0⟩ : Nm)).exp (fP n x (oneN n)) (fM n x (oneN n)) (fN n x (oneN n))) ∧ Hid (RLp (fun c => c < w0.heap.size ∨ u.heap.size ≤ c) w' (.slice va (qOn n x (⟨false,[],0⟩ : Nm)).mag.length vc) (qOn n x (⟨false,[],0⟩ : Nm)).mag) ∧ Kept u w'):=fun hk u k => by
  obtain ⟨hn,-,-⟩:=lk_ok hk
  have:=raddone_gen (fun c => c < w0.heap.size) n x hn x1 x2 (⟨false,[],0⟩ : Nm) vldz false false false none 0 u (fun c hc => Nat.lt_of_lt_of_le hc k.below.size) (RLp.nil _ u)
  simp only [Bool.false_or] at this
  exact this
 have KUA : Hid (lkE n (vld a) [x] = 0 → ∀ u,Kept w0 u → Calls Tryz.prog 43 #[accV a.neg (.slice q1 a.mag.length d1) a.exp p m z,.int .i64 x,.int .i64 n] u fun e w' => ∃ va vc,e = .returned (accV (qOn n x a).neg (.slice va (qOn n x a).mag.length vc) (qOn n x a).exp (p || fP n x (oneN n)) (m || fM n x (oneN n)) (z || fN n x (oneN n))) ∧ Hid (RLp (fun c => c < w0.heap.size ∨ u.heap.size ≤ c) w' (.slice va (qOn n x a).mag.length vc) (qOn n x a).mag) ∧ Kept u w'):=fun hk u k => by
  obtain ⟨hn,hv,-⟩:=lk_ok hk
  exact raddone_gen (fun c => c < w0.heap.size) n x hn x1 x2 a hv p m z q1 d1 u (fun c hc => Nat.lt_of_lt_of_le hc k.below.size) (sl_rlp hc1 hr1 u k)
 have KUT : Hid (lkE n (vld a) [x] = 0 → ∀ u,Kept w0 u → Calls Tryz.prog 45 #[accV a.neg (.slice q1 a.mag.length d1) a.exp p m z,.int .i64 x,.int .i64 n] u fun e w' => ∃ va vc,e = .returned (accV (qTm n x a).neg (.slice va (qTm n x a).mag.length vc) (qTm n x a).exp (tP n x a p m z) (tM n x a p m z) (tZ n x a p m z)) ∧ Hid (RLp (fun c => c < w0.heap.size ∨ u.heap.size ≤ c) w' (.slice va (qTm n x a).mag.length vc) (qTm n x a).mag) ∧ Kept u w'):=fun hk u k => by
  obtain ⟨hn,hv,-⟩:=lk_ok hk
  exact rtimes_gen (fun c => c < w0.heap.size) n x hn x1 x2 a hv p m z q1 d1 u (fun c hc => Nat.lt_of_lt_of_le hc k.below.size) (sl_rlp hc1 hr1 u k)
 have KUP : Hid (lkE n (vld a) [x,y] = 0 → ∀ u,Kept w0 u → Calls Tryz.prog 46 #[accV a.neg (.slice q1 a.mag.length d1) a.exp p m z,.int .i64 x,.int .i64 y,.int .i64 n] u fun e w' => ∃ va vc,e = .returned (accV (qPr n x y a).neg (.slice va (qPr n x y a).mag.length vc) (qPr n x y a).exp (p || fP n x y) (m || fM n x y) (z || fN n x y)) ∧ Hid (RLp (fun c => c < w0.heap.size ∨ u.heap.size ≤ c) w' (.slice va (qPr n x y a).mag.length vc) (qPr n x y a).mag) ∧ Kept u w'):=fun hk u k => by
  obtain ⟨hn,hv,-⟩:=lk_ok hk
  exact raddpair_gen (fun c => c < w0.heap.size) n x y hn x1 x2 y1 y2 a hv p m z q1 d1 u (fun c hc => Nat.lt_of_lt_of_le hc k.below.size) (sl_rlp hc1 hr1 u k)
 have HOK1 : Hid (lkE n true [x] = 0 → Rg (qOn n x (⟨false,[],0⟩ : Nm)).mag ∧ (qOn n x (⟨false,[],0⟩ : Nm)).mag.length < 10000000):=fun hk => qOn_ok n x (lk_ok hk).1 x1 x2 (⟨false,[],0⟩ : Nm) vldz
 have HOK2 : Hid (lkE n (vld a) [x] = 0 → Rg (qOn n x a).mag ∧ (qOn n x a).mag.length < 10000000):=fun hk => qOn_ok n x (lk_ok hk).1 x1 x2 a (lk_ok hk).2.1
 have HOK3 : Hid (lkE n (vld a) [x,y] = 0 → Rg (qPr n x y a).mag ∧ (qPr n x y a).mag.length < 10000000):=fun hk => qPr_ok n x y (lk_ok hk).1 x1 x2 y1 y2 a (lk_ok hk).2.1
 have HOK4 : Hid (lkE n (vld a) [x] = 0 → Rg (qTm n x a).mag ∧ (qTm n x a).mag.length < 10000000):=fun hk => qTm_ok n x (lk_ok hk).1 x1 x2 a (lk_ok hk).2.1
 have HLK : Hid ((lkE n (vld a) [x] ≠ 0 → lkE n (vld a) [x,y] ≠ 0) ∧ (lkE n true [x] ≠ 0 → lkE n (vld a) [x] ≠ 0)):=lk_more n (vld a) x y
 have HhOb:=hid (hOb)
 have HhOo:=hid (hOo)
 have HhPb:=hid (hPb)
 have HhPo:=hid (hPo)
 have HhQb:=hid (hQb)
 have HhQo:=hid (hQo)
 have HhRb:=hid (hRb)
 have HhRo:=hid (hRo)
 generalize qOn n x (⟨false,[],0⟩ : Nm) = Q1 at *
 generalize qOn n x a = Q2 at *
 generalize qPr n x y a = Q3 at *
 generalize qTm n x a = Q4 at *
 generalize tP n x a p m z = t1 at *
 generalize tM n x a p m z = t2 at *
 generalize tZ n x a p m z = t3 at *
 generalize fP n x (oneN n) = f1 at *
 generalize fM n x (oneN n) = f2 at *
 generalize fN n x (oneN n) = f3 at *
 generalize fP n x y = h1 at *
 generalize fM n x y = h2 at *
 generalize fN n x y = h3 at *
 obtain ⟨ei,hei⟩ : ∃ e,e = lkE n true [x]:=⟨_,rfl⟩
 obtain ⟨ej,hej⟩ : ∃ e,e = lkE n (vld a) [x]:=⟨_,rfl⟩
 obtain ⟨em,hem⟩ : ∃ e,e = lkE n (vld a) [x,y]:=⟨_,rfl⟩
 have KF1t : Hid (∀ u g,g < u.heap.size → u.cell? ⟨g,0,none⟩ = some (.int .i64 x) → Calls Tryz.prog 42 #[.int .i64 n,.bool true,.slice (some ⟨g,0,none⟩) 1 1] u fun e w' => e = .returned (.int .i64 ei) ∧ Kept u w'):=fun u g h0 h1 => by rw [hei]; exact KF1.out true u g h0 h1
 have KF1v : Hid (∀ u g,g < u.heap.size → u.cell? ⟨g,0,none⟩ = some (.int .i64 x) → Calls Tryz.prog 42 #[.int .i64 n,.bool (vld a),.slice (some ⟨g,0,none⟩) 1 1] u fun e w' => e = .returned (.int .i64 ej) ∧ Kept u w'):=fun u g h0 h1 => by rw [hej]; exact KF1.out (vld a) u g h0 h1
 rw [← hem] at KF2 HLK
 rw [← hej] at HLK
 rw [← hei] at HLK
 rw [← hei] at KUO HOK1 HhOb HhOo
 rw [← hej] at KUA KUT HOK2 HOK4 HhPb HhPo HhRb HhRo
 rw [← hem] at KUP HOK3 HhQb HhQo
 clear KF1 hei hej hem
 generalize vld a = va at *
 have HLt : Hid (∀ b ∈ blks kb vL vW E,b < w.heap.size):=hK.lt
 have HNw : Hid (∀ b ∈ blks kb vL vW E,w0.heap.size ≤ b):=hK.new
 have hw0 : w0.heap.size ≤ w.heap.size:=hK.kept.below.size
 obtain ⟨X0,hX⟩ : ∃ X,X = w.alloc (.cells #[.bool a.neg,.slice q1 a.mag.length d1,.int .i64 a.exp,.bool p,.bool m,.bool z] 26):=⟨_,rfl⟩
 have kk0 : Kept w X0:=by rw [hX]; exact (Kept.refl w).alloc _ _
 have hs0 : X0.heap.size = w.heap.size + 1:=by rw [hX]; simp
 obtain ⟨bA,hbA⟩ : ∃ n,n = w.heap.size:=⟨_,rfl⟩
 have TA0 : Hid (Hex X0 bA (.bool a.neg) (.slice q1 a.mag.length d1) (.int .i64 a.exp) (.bool p) (.bool m) (.bool z)):=by
  rw [hX,hbA]
  exact Hex.new w _ _ _ _ _ _ _
 have HK0 : Hid (KeepAt w0 X0 kb vL vW E):=hK.keptOn kk0
 have k0 : Hid (Kept w0 X0):=hK.kept.trans kk0
 have g0 : Hid (Kept w X0):=kk0
 clear hOf hAd hPr hTm hOb hOo hPb hPo hQb hQo hRb hRo hT hr1 hc1 hK kk0 ra
 go_enter Tryz.func11,Tryz.ntmps11
 go_upto_region 1 with fail
 rw [← hX,← hbA]
 have hb3 : w.heap.size ≤ bA ∧ bA < X0.heap.size:=by omega
 clear hX hbA
 obtain ⟨c0,c1,c2,c3,c4,c5⟩:=TA0.out.now
 go_wp2_with fail
 refine (HL1.out _ k0.out).mono ?_
 rintro e w1 ⟨⟨ga,ka,rfl,hg,hO⟩,hk⟩
 have hgl:=hO.lt
 clear c0 c1 c2 c3 c4 c5
 go_upto_region 2 with fail
 obtain ⟨X1,hX⟩ : ∃ X,X = w1.alloc (.cells #[.bool a.neg,.slice (some ⟨ga,0,none⟩) a.mag.length ka,.int .i64 a.exp,.bool p,.bool m,.bool z] 26):=⟨_,rfl⟩
 obtain ⟨pP',hp⟩ : ∃ p,p = w1.heap.size:=⟨_,rfl⟩
 have kX : Kept X0 X1:=by rw [hX]; exact hk.alloc _ _
 have kw : Kept w1 X1:=by rw [hX]; exact (Kept.refl _).alloc _ _
 have hsz1 : X1.heap.size = pP' + 1:=by rw [hX,hp]; simp
 have hmono1 : X0.heap.size ≤ pP':=by rw [hp]; exact hk.below.size
 have bg1 : X0.heap.size ≤ ga ∧ ga < pP':=⟨hg,by rw [hp]; exact hgl⟩
 have OA1 : Hid (Own X1 ga ka (a.mag ++ [-71,-72,-73])):=hO.kept kw
 have TP1 : Hid (Hex X1 pP' (.bool a.neg) (.slice (some ⟨ga,0,none⟩) a.mag.length ka) (.int .i64 a.exp) (.bool p) (.bool m) (.bool z)):=by rw [hX,hp]; exact Hex.new _ _ _ _ _ _ _ _
 have TA1:=hid (TA0.out.kept kX)
 have HK1:=hid (HK0.out.keptOn kX)
 have k1:=hid (k0.out.trans kX)
 have g1:=hid (g0.out.trans kX)
 clear TA0 HK0 k0 g0
 rw [← hX,← hp]
 clear hX hp hk kX kw hg hO hgl HL1
 go_wp2_with fail
 refine (HOF.out _ k1.out).mono ?_
 rintro e w2 ⟨sro,tro,rfl,hR,hB,hk⟩
 have hRl:=hR.out.lt
 go_upto_region 3 with fail
 obtain ⟨X2,hX⟩ : ∃ X,X = w2.alloc (.cells #[.bool ro.neg,.slice sro ro.mag.length tro,.int .i64 ro.exp,.bool oP,.bool oM,.bool oZ] 26):=⟨_,rfl⟩
 obtain ⟨bo,hp⟩ : ∃ p,p = w2.heap.size:=⟨_,rfl⟩
 have kX : Kept X1 X2:=by rw [hX]; exact hk.alloc _ _
 have kw : Kept w2 X2:=by rw [hX]; exact (Kept.refl _).alloc _ _
 have hsz2 : X2.heap.size = bo + 1:=by rw [hX,hp]; simp
 have hmono2 : X1.heap.size ≤ bo:=by rw [hp]; exact hk.below.size
 have BO : Hid (∀ b ∈ blk (.slice sro ro.mag.length tro),X1.heap.size ≤ b ∧ b < bo):=fun b hb => ⟨hB.out b hb,by rw [hp]; exact hRl b hb⟩
 have RO2 : Hid (Rw X2 (.slice sro ro.mag.length tro) 3 (ints ro.mag)):=hR.out.kept kw
 have Tro2 : Hid (Hex X2 bo (.bool ro.neg) (.slice sro ro.mag.length tro) (.int .i64 ro.exp) (.bool oP) (.bool oM) (.bool oZ)):=by rw [hX,hp]; exact Hex.new _ _ _ _ _ _ _ _
 have TA2:=hid (TA1.out.kept kX)
 have OA2:=hid (OA1.out.kept kX)
 have TP2:=hid (TP1.out.kept kX)
 have HK2:=hid (HK1.out.keptOn kX)
 have k2:=hid (k1.out.trans kX)
 have g2:=hid (g1.out.trans kX)
 clear TA1 OA1 TP1 HK1 k1 g1
 rw [← hX,← hp]
 clear hX hp hk kX kw hR hB hRl
 obtain ⟨c0,c1,c2,c3,c4,c5⟩:=TP2.out.now
 go_wp2_with fail
 refine (HAD.out _ ga ka k2.out OA2.out).mono ?_
 rintro e w3 ⟨srp,trp,rfl,hR,hB,hk⟩
 clear c0 c1 c2 c3 c4 c5
 have hRl:=hR.out.lt
 go_upto_region 4 with fail
 obtain ⟨X3,hX⟩ : ∃ X,X = w3.alloc (.cells #[.bool rp.neg,.slice srp rp.mag.length trp,.int .i64 rp.exp,.bool pP,.bool pM,.bool pZ] 26):=⟨_,rfl⟩
 obtain ⟨bp,hp⟩ : ∃ p,p = w3.heap.size:=⟨_,rfl⟩
 have kX : Kept X2 X3:=by rw [hX]; exact hk.alloc _ _
 have kw : Kept w3 X3:=by rw [hX]; exact (Kept.refl _).alloc _ _
 have hsz3 : X3.heap.size = bp + 1:=by rw [hX,hp]; simp
 have hmono3 : X2.heap.size ≤ bp:=by rw [hp]; exact hk.below.size
 have BP : Hid (∀ b ∈ blk (.slice srp rp.mag.length trp),X2.heap.size ≤ b ∧ b < bp):=fun b hb => ⟨hB.out b hb,by rw [hp]; exact hRl b hb⟩
 have RP3 : Hid (Rw X3 (.slice srp rp.mag.length trp) 3 (ints rp.mag)):=hR.out.kept kw
 have Trp3 : Hid (Hex X3 bp (.bool rp.neg) (.slice srp rp.mag.length trp) (.int .i64 rp.exp) (.bool pP) (.bool pM) (.bool pZ)):=by rw [hX,hp]; exact Hex.new _ _ _ _ _ _ _ _
 have TA3:=hid (TA2.out.kept kX)
 have OA3:=hid (OA2.out.kept kX)
 have TP3:=hid (TP2.out.kept kX)
 have RO3:=hid (RO2.out.kept kX)
 have Tro3:=hid (Tro2.out.kept kX)
 have HK3:=hid (HK2.out.keptOn kX)
 have k3:=hid (k2.out.trans kX)
 have g3:=hid (g2.out.trans kX)
 clear TA2 OA2 TP2 RO2 Tro2 HK2 k2 g2
 rw [← hX,← hp]
 clear hX hp hk kX kw hR hB hRl
 obtain ⟨c0,c1,c2,c3,c4,c5⟩:=TP3.out.now
 go_wp2_with fail
 refine (HPR.out _ ga ka k3.out OA3.out).mono ?_
 rintro e w4 ⟨srq,trq,rfl,hR,hB,hk⟩
 clear c0 c1 c2 c3 c4 c5
 have hRl:=hR.out.lt
 go_upto_region 5 with fail
 obtain ⟨X4,hX⟩ : ∃ X,X = w4.alloc (.cells #[.bool rq.neg,.slice srq rq.mag.length trq,.int .i64 rq.exp,.bool qP,.bool qM,.bool qZ] 26):=⟨_,rfl⟩
 obtain ⟨bq,hp⟩ : ∃ p,p = w4.heap.size:=⟨_,rfl⟩
 have kX : Kept X3 X4:=by rw [hX]; exact hk.alloc _ _
 have kw : Kept w4 X4:=by rw [hX]; exact (Kept.refl _).alloc _ _
 have hsz4 : X4.heap.size = bq + 1:=by rw [hX,hp]; simp
 have hmono4 : X3.heap.size ≤ bq:=by rw [hp]; exact hk.below.size
 have BQ : Hid (∀ b ∈ blk (.slice srq rq.mag.length trq),X3.heap.size ≤ b ∧ b < bq):=fun b hb => ⟨hB.out b hb,by rw [hp]; exact hRl b hb⟩
 have RQ4 : Hid (Rw X4 (.slice srq rq.mag.length trq) 3 (ints rq.mag)):=hR.out.kept kw
 have Trq4 : Hid (Hex X4 bq (.bool rq.neg) (.slice srq rq.mag.length trq) (.int .i64 rq.exp) (.bool qP) (.bool qM) (.bool qZ)):=by rw [hX,hp]; exact Hex.new _ _ _ _ _ _ _ _
 have TA4:=hid (TA3.out.kept kX)
 have OA4:=hid (OA3.out.kept kX)
 have TP4:=hid (TP3.out.kept kX)
 have RO4:=hid (RO3.out.kept kX)
 have Tro4:=hid (Tro3.out.kept kX)
 have RP4:=hid (RP3.out.kept kX)
 have Trp4:=hid (Trp3.out.kept kX)
 have HK4:=hid (HK3.out.keptOn kX)
 have k4:=hid (k3.out.trans kX)
 have g4:=hid (g3.out.trans kX)
 clear TA3 OA3 TP3 RO3 Tro3 RP3 Trp3 HK3 k3 g3
 rw [← hX,← hp]
 clear hX hp hk kX kw hR hB hRl
 obtain ⟨c0,c1,c2,c3,c4,c5⟩:=TP4.out.now
 go_wp2_with fail
 refine (HTM.out _ ga ka k4.out OA4.out).mono ?_
 rintro e w5 ⟨srr,trr,rfl,hR,hB,hk⟩
 clear c0 c1 c2 c3 c4 c5
 have hRl:=hR.out.lt
 go_upto_region 6 with fail
 obtain ⟨X5,hX⟩ : ∃ X,X = w5.alloc (.cells #[.bool rr.neg,.slice srr rr.mag.length trr,.int .i64 rr.exp,.bool rP,.bool rM,.bool rZ] 26):=⟨_,rfl⟩
 obtain ⟨br,hp⟩ : ∃ p,p = w5.heap.size:=⟨_,rfl⟩
 have kX : Kept X4 X5:=by rw [hX]; exact hk.alloc _ _
 have kw : Kept w5 X5:=by rw [hX]; exact (Kept.refl _).alloc _ _
 have hsz5 : X5.heap.size = br + 1:=by rw [hX,hp]; simp
 have hmono5 : X4.heap.size ≤ br:=by rw [hp]; exact hk.below.size
 have BR : Hid (∀ b ∈ blk (.slice srr rr.mag.length trr),X4.heap.size ≤ b ∧ b < br):=fun b hb => ⟨hB.out b hb,by rw [hp]; exact hRl b hb⟩
 have RR5 : Hid (Rw X5 (.slice srr rr.mag.length trr) 3 (ints rr.mag)):=hR.out.kept kw
 have Trr5 : Hid (Hex X5 br (.bool rr.neg) (.slice srr rr.mag.length trr) (.int .i64 rr.exp) (.bool rP) (.bool rM) (.bool rZ)):=by rw [hX,hp]; exact Hex.new _ _ _ _ _ _ _ _
 have TA5:=hid (TA4.out.kept kX)
 have OA5:=hid (OA4.out.kept kX)
 have TP5:=hid (TP4.out.kept kX)
 have RO5:=hid (RO4.out.kept kX)
 have Tro5:=hid (Tro4.out.kept kX)
 have RP5:=hid (RP4.out.kept kX)
 have Trp5:=hid (Trp4.out.kept kX)
 have RQ5:=hid (RQ4.out.kept kX)
 have Trq5:=hid (Trq4.out.kept kX)
 have HK5:=hid (HK4.out.keptOn kX)
 have k5:=hid (k4.out.trans kX)
 have g5:=hid (g4.out.trans kX)
 clear TA4 OA4 TP4 RO4 Tro4 RP4 Trp4 RQ4 Trq4 HK4 k4 g4
 rw [← hX,← hp]
 clear hX hp hk kX kw hR hB hRl
 obtain ⟨c0,c1,c2,c3,c4,c5⟩:=TA5.out.now
 go_wp2_with fail
 refine (KVa.out _ k5.out).mono ?_
 rintro e X6 ⟨rfl,hk⟩
 clear c0 c1 c2 c3 c4 c5
 have hmono6 : X5.heap.size ≤ X6.heap.size:=hk.below.size
 have TA6:=hid (TA5.out.kept hk)
 have OA6:=hid (OA5.out.kept hk)
 have TP6:=hid (TP5.out.kept hk)
 have RO6:=hid (RO5.out.kept hk)
 have Tro6:=hid (Tro5.out.kept hk)
 have RP6:=hid (RP5.out.kept hk)
 have Trp6:=hid (Trp5.out.kept hk)
 have RQ6:=hid (RQ5.out.kept hk)
 have Trq6:=hid (Trq5.out.kept hk)
 have RR6:=hid (RR5.out.kept hk)
 have Trr6:=hid (Trr5.out.kept hk)
 have HK6:=hid (HK5.out.keptOn hk)
 have k6:=hid (k5.out.trans hk)
 have g6:=hid (g5.out.trans hk)
 clear TA5 OA5 TP5 RO5 Tro5 RP5 Trp5 RQ5 Trq5 RR5 Trr5 HK5 k5 g5
 clear hk KVa HOF HAD HPR HTM
 obtain ⟨c0,c1,c2,c3,c4,c5⟩:=TP6.out.now
 have evv : (va != va) = false:=by cases va <;> rfl
 go_wp2_with fail
 refine (KVp.out _ ga ka OA6.out).mono ?_
 rintro e X7 ⟨rfl,hk⟩
 clear c0 c1 c2 c3 c4 c5
 have hmono7 : X6.heap.size ≤ X7.heap.size:=hk.below.size
 have TA7:=hid (TA6.out.kept hk)
 have OA7:=hid (OA6.out.kept hk)
 have RO7:=hid (RO6.out.kept hk)
 have Tro7:=hid (Tro6.out.kept hk)
 have RP7:=hid (RP6.out.kept hk)
 have Trp7:=hid (Trp6.out.kept hk)
 have RQ7:=hid (RQ6.out.kept hk)
 have Trq7:=hid (Trq6.out.kept hk)
 have RR7:=hid (RR6.out.kept hk)
 have Trr7:=hid (Trr6.out.kept hk)
 have HK7:=hid (HK6.out.keptOn hk)
 have k7:=hid (k6.out.trans hk)
 have g7:=hid (g6.out.trans hk)
 clear TA6 OA6 TP6 RO6 Tro6 RP6 Trp6 RQ6 Trq6 RR6 Trr6 HK6 k6 g6
 clear hk KVp
 obtain ⟨c0,c1,c2,c3,c4,c5⟩:=TA7.out.now
 go_wp2_with fail
 refine (HBK.out _ ga ka k7.out OA7.out).mono ?_
 rintro e X8 ⟨rfl,hG8⟩
 have G8 : GrwS [ga] X7 X8:=hG8.toS
 have GW8 : GrwS (kb :: (blk vL ++ blk vW)) w X8:=(g7.out.toS _).then G8 (fun i hi => .inr (by simp at hi; omega))
 have K8 : Kept w0 X8:=k7.out.grwS (fun i hi => by simp at hi; omega) G8
 have hmono8 : X7.heap.size ≤ X8.heap.size:=G8.size
 clear c0 c1 c2 c3 c4 c5
 have TA8:=hid (TA7.out.grw G8 (by simp; omega))
 have RO8:=hid (RO7.out.grwS G8 (fun b hb h => by have:=BO.out b hb; simp at h; omega))
 have Tro8:=hid (Tro7.out.grw G8 (by simp; omega))
 have RP8:=hid (RP7.out.grwS G8 (fun b hb h => by have:=BP.out b hb; simp at h; omega))
 have Trp8:=hid (Trp7.out.grw G8 (by simp; omega))
 have RQ8:=hid (RQ7.out.grwS G8 (fun b hb h => by have:=BQ.out b hb; simp at h; omega))
 have Trq8:=hid (Trq7.out.grw G8 (by simp; omega))
 have RR8:=hid (RR7.out.grwS G8 (fun b hb h => by have:=BR.out b hb; simp at h; omega))
 have Trr8:=hid (Trr7.out.grw G8 (by simp; omega))
 have HK8:=hid (HK7.out.grwS G8 (fun b hb h => by have:=HLt.out b hb; simp at h; omega) (fun b hb => by simp at hb; omega))
 clear TA7 OA7 RO7 Tro7 RP7 Trp7 RQ7 Trq7 RR7 Trr7 HK7
 clear HBK hG8 G8 k7 g7 evv
 go_wp2_with fail
 refine (KF1t.out _ _ (by simp) (by simp [go_sem])).mono ?_
 rintro e y1w ⟨rfl,i1⟩
 have j1 : Kept X8 y1w:=((Kept.refl X8).alloc _ _).trans i1
 clear i1
 go_wp2_with fail
 refine (KF1v.out _ _ (by simp) (by simp [go_sem])).mono ?_
 rintro e y2w ⟨rfl,i2⟩
 have j2 : Kept X8 y2w:=(j1.alloc _ _).trans i2
 clear i2 j1
 go_wp2_with fail
 refine (KF2.out _ _ (by simp) (by simp [go_sem]) (by simp [go_sem])).mono ?_
 rintro e y3w ⟨rfl,i3⟩
 have j3 : Kept X8 y3w:=(j2.alloc _ _).trans i3
 clear i3 j2 KF1t KF1v KF2
 go_upto_region 13 with fail
 obtain ⟨Y4,hY4⟩ : ∃ Y,Y = (((y3w.alloc (.cells #[.bool false,.slice none 0 0,.int .i64 0,.bool false,.bool false,.bool false] 26)).alloc (.cells #[.bool false,.slice none 0 0,.int .i64 0,.bool false,.bool false,.bool false] 26)).alloc (.cells #[.bool false,.slice none 0 0,.int .i64 0,.bool false,.bool false,.bool false] 26)).alloc (.cells #[.bool false,.slice none 0 0,.int .i64 0,.bool false,.bool false,.bool false] 26):=⟨_,rfl⟩
 obtain ⟨bU,hbU⟩ : ∃ n,n = y3w.heap.size:=⟨_,rfl⟩
 obtain ⟨bV,hbV⟩ : ∃ n,n = y3w.heap.size + 1:=⟨_,rfl⟩
 obtain ⟨bS,hbS⟩ : ∃ n,n = y3w.heap.size + 1 + 1:=⟨_,rfl⟩
 obtain ⟨bT,hbT⟩ : ∃ n,n = y3w.heap.size + 1 + 1 + 1:=⟨_,rfl⟩
 have hs4 : Y4.heap.size = y3w.heap.size + 4:=by rw [hY4]; simp
 have hm4 : X8.heap.size ≤ y3w.heap.size:=j3.below.size
 have kY4 : Kept X8 Y4:=by rw [hY4]; exact (((j3.alloc _ _).alloc _ _).alloc _ _).alloc _ _
 have VU4 : Hid (VB Y4 bU (.bool false) (.slice none 0 0) (.int .i64 0) (.bool false) (.bool false) (.bool false)):=by
  have hlt : bU < Y4.heap.size:=by omega
  refine ⟨?_,?_,?_,?_,?_,?_,fun o => ?_,hlt⟩
  all_goals (rw [hY4,hbU]; simp [go_sem])
 have VV4 : Hid (VB Y4 bV (.bool false) (.slice none 0 0) (.int .i64 0) (.bool false) (.bool false) (.bool false)):=by
  have hlt : bV < Y4.heap.size:=by omega
  refine ⟨?_,?_,?_,?_,?_,?_,fun o => ?_,hlt⟩
  all_goals (rw [hY4,hbV]; simp [go_sem])
 have VS4 : Hid (VB Y4 bS (.bool false) (.slice none 0 0) (.int .i64 0) (.bool false) (.bool false) (.bool false)):=by
  have hlt : bS < Y4.heap.size:=by omega
  refine ⟨?_,?_,?_,?_,?_,?_,fun o => ?_,hlt⟩
  all_goals (rw [hY4,hbS]; simp [go_sem])
 have VT4 : Hid (VB Y4 bT (.bool false) (.slice none 0 0) (.int .i64 0) (.bool false) (.bool false) (.bool false)):=by
  have hlt : bT < Y4.heap.size:=by omega
  refine ⟨?_,?_,?_,?_,?_,?_,fun o => ?_,hlt⟩
  all_goals (rw [hY4,hbT]; simp [go_sem])
 rw [← hY4,← hbT,← hbS,← hbV,← hbU]
 have hb4 : X8.heap.size ≤ bU ∧ bU < bV ∧ bV < bS ∧ bS < bT ∧ bT < Y4.heap.size:=by omega
 clear hY4 hbU hbV hbS hbT hs4 hm4 j3
 obtain ⟨hlk1,hlk2⟩:=HLK.out
 clear HLK
 by_cases hi0 : ei = 0
 ·by_cases hj0 : ej = 0
  ·by_cases hm0 : em = 0
   ·have bi : (ei == 0) = true:=by simpa using hi0
    have bj : (ej == 0) = true:=by simpa using hj0
    have bm : (em == 0) = true:=by simpa using hm0
    subst hi0 hj0 hm0
    have hi0 : (0 : Int) = 0:=rfl
    have hj0 : (0 : Int) = 0:=rfl
    have hm0 : (0 : Int) = 0:=rfl
    clear hlk1 hlk2
    go_wp2_with fail
    refine (KZ.out _).mono ?_
    rintro e yz ⟨rfl,iz⟩
    have kz9 : Kept X8 yz:=kY4.trans iz
    have hzz : Y4.heap.size ≤ yz.heap.size:=iz.below.size
    go_wp2_with fail
    refine (KUO.out hi0 _ (K8.trans kz9)).mono ?_
    rintro e yy5 ⟨aVU,cVU,rfl,hsVU,i5'⟩
    have i5:=iz.trans i5'
    have jj5 : Kept X8 yy5:=kY4.trans i5
    have VUy:=VU4.out.kept i5
    have VVy:=VV4.out.kept i5
    have VSy:=VS4.out.kept i5
    have VTy:=VT4.out.kept i5
    obtain ⟨g0,g1,g2,g3,g4,g5,g6,g7⟩:=VUy
    go_upto_region 15 with fail
    have VUy : VB yy5 bU (.bool false) (.slice none 0 0) (.int .i64 0) (.bool false) (.bool false) (.bool false):=⟨g0,g1,g2,g3,g4,g5,g6,g7⟩
    clear g0 g1 g2 g3 g4 g5 g6 g7
    obtain ⟨Y5,hY⟩ : ∃ Y,Y = Go.Proofs.YtoflafgbbjinpaaGreatDoor.six yy5 bU (.bool Q1.neg) (.slice aVU Q1.mag.length cVU) (.int .i64 Q1.exp) (.bool f1) (.bool f2) (.bool f3):=⟨_,rfl⟩
    have e4:=hY
    unfold Go.Proofs.YtoflafgbbjinpaaGreatDoor.six at e4
    rw [← e4]
    have kY5 : Kept X8 Y5:=by rw [hY]; exact kept_six1 bU (by omega) jj5 _ _ _ _ _ _
    have hz5 : Y4.heap.size ≤ Y5.heap.size:=by have:=i5.below.size; rw [hY]; simp; omega
    have VU5:=hid (VUy.set' hY)
    have VV5:=hid (VVy.other' (by omega) hY)
    have VS5:=hid (VSy.other' (by omega) hY)
    have VT5:=hid (VTy.other' (by omega) hY)
    have WVU5:=hid (rlp_six' (hsVU.out.imp (Q:=(fun c => c < w0.heap.size ∨ Y4.heap.size ≤ c)) (fun c h => h.elim .inl (fun h => .inr (by omega)))) (fun c h => by rcases h with h | h <;> omega) hY)
    clear hY e4 VU4 VV4 VS4 VT4 VUy VVy VSy VTy i5 i5' jj5 hsVU iz
    obtain ⟨c0,c1,c2,c3,c4,c5⟩:=(TA8.out.kept kY5).now
    go_wp2_with fail
    refine (KUA.out hj0 _ (K8.trans kY5)).mono ?_
    rintro e yy6 ⟨aVV,cVV,rfl,hsVV,i6'⟩
    clear c0 c1 c2 c3 c4 c5
    have i6:=i6'
    have jj6 : Kept X8 yy6:=kY5.trans i6
    have VUy:=VU5.out.kept i6
    have VVy:=VV5.out.kept i6
    have VSy:=VS5.out.kept i6
    have VTy:=VT5.out.kept i6
    obtain ⟨g0,g1,g2,g3,g4,g5,g6,g7⟩:=VVy
    go_upto_region 17 with fail
    have VVy : VB yy6 bV (.bool false) (.slice none 0 0) (.int .i64 0) (.bool false) (.bool false) (.bool false):=⟨g0,g1,g2,g3,g4,g5,g6,g7⟩
    clear g0 g1 g2 g3 g4 g5 g6 g7
    obtain ⟨Y6,hY⟩ : ∃ Y,Y = Go.Proofs.YtoflafgbbjinpaaGreatDoor.six yy6 bV (.bool Q2.neg) (.slice aVV Q2.mag.length cVV) (.int .i64 Q2.exp) (.bool (p || f1)) (.bool (m || f2)) (.bool (z || f3)):=⟨_,rfl⟩
    have e4:=hY
    unfold Go.Proofs.YtoflafgbbjinpaaGreatDoor.six at e4
    rw [← e4]
    have kY6 : Kept X8 Y6:=by rw [hY]; exact kept_six1 bV (by omega) jj6 _ _ _ _ _ _
    have hz6 : Y5.heap.size ≤ Y6.heap.size:=by have:=i6.below.size; rw [hY]; simp; omega
    have VU6:=hid (VUy.other' (by omega) hY)
    have VV6:=hid (VVy.set' hY)
    have VS6:=hid (VSy.other' (by omega) hY)
    have VT6:=hid (VTy.other' (by omega) hY)
    have WVU6:=hid (rlp_six' (WVU5.out.kept i6) (fun c h => by rcases h with h | h <;> omega) hY)
    have WVV6:=hid (rlp_six' (hsVV.out.imp (Q:=(fun c => c < w0.heap.size ∨ Y4.heap.size ≤ c)) (fun c h => h.elim .inl (fun h => .inr (by omega)))) (fun c h => by rcases h with h | h <;> omega) hY)
    clear hY e4 VU5 VV5 VS5 VT5 WVU5 VUy VVy VSy VTy i6 i6' jj6 hsVV
    obtain ⟨c0,c1,c2,c3,c4,c5⟩:=(TA8.out.kept kY6).now
    go_wp2_with fail
    refine (KUT.out hj0 _ (K8.trans kY6)).mono ?_
    rintro e yy7 ⟨aVT,cVT,rfl,hsVT,i7'⟩
    clear c0 c1 c2 c3 c4 c5
    have i7:=i7'
    have jj7 : Kept X8 yy7:=kY6.trans i7
    have VUy:=VU6.out.kept i7
    have VVy:=VV6.out.kept i7
    have VSy:=VS6.out.kept i7
    have VTy:=VT6.out.kept i7
    obtain ⟨g0,g1,g2,g3,g4,g5,g6,g7⟩:=VTy
    go_upto_region 18 with fail
    have VTy : VB yy7 bT (.bool false) (.slice none 0 0) (.int .i64 0) (.bool false) (.bool false) (.bool false):=⟨g0,g1,g2,g3,g4,g5,g6,g7⟩
    clear g0 g1 g2 g3 g4 g5 g6 g7
    obtain ⟨Y7,hY⟩ : ∃ Y,Y = Go.Proofs.YtoflafgbbjinpaaGreatDoor.six yy7 bT (.bool Q4.neg) (.slice aVT Q4.mag.length cVT) (.int .i64 Q4.exp) (.bool t1) (.bool t2) (.bool t3):=⟨_,rfl⟩
    have e4:=hY
    unfold Go.Proofs.YtoflafgbbjinpaaGreatDoor.six at e4
    rw [← e4]
    have kY7 : Kept X8 Y7:=by rw [hY]; exact kept_six1 bT (by omega) jj7 _ _ _ _ _ _
    have hz7 : Y6.heap.size ≤ Y7.heap.size:=by have:=i7.below.size; rw [hY]; simp; omega
    have VU7:=hid (VUy.other' (by omega) hY)
    have VV7:=hid (VVy.other' (by omega) hY)
    have VS7:=hid (VSy.other' (by omega) hY)
    have VT7:=hid (VTy.set' hY)
    have WVU7:=hid (rlp_six' (WVU6.out.kept i7) (fun c h => by rcases h with h | h <;> omega) hY)
    have WVV7:=hid (rlp_six' (WVV6.out.kept i7) (fun c h => by rcases h with h | h <;> omega) hY)
    have WVT7:=hid (rlp_six' (hsVT.out.imp (Q:=(fun c => c < w0.heap.size ∨ Y4.heap.size ≤ c)) (fun c h => h.elim .inl (fun h => .inr (by omega)))) (fun c h => by rcases h with h | h <;> omega) hY)
    clear hY e4 VU6 VV6 VS6 VT6 WVU6 WVV6 VUy VVy VSy VTy i7 i7' jj7 hsVT
    obtain ⟨c0,c1,c2,c3,c4,c5⟩:=(TA8.out.kept kY7).now
    go_wp2_with fail
    refine (KUP.out hm0 _ (K8.trans kY7)).mono ?_
    rintro e yy8 ⟨aVS,cVS,rfl,hsVS,i8'⟩
    clear c0 c1 c2 c3 c4 c5
    have i8:=i8'
    have jj8 : Kept X8 yy8:=kY7.trans i8
    have VUy:=VU7.out.kept i8
    have VVy:=VV7.out.kept i8
    have VSy:=VS7.out.kept i8
    have VTy:=VT7.out.kept i8
    obtain ⟨g0,g1,g2,g3,g4,g5,g6,g7⟩:=VSy
    go_upto_region 20 with fail
    have VSy : VB yy8 bS (.bool false) (.slice none 0 0) (.int .i64 0) (.bool false) (.bool false) (.bool false):=⟨g0,g1,g2,g3,g4,g5,g6,g7⟩
    clear g0 g1 g2 g3 g4 g5 g6 g7
    obtain ⟨Y8,hY⟩ : ∃ Y,Y = Go.Proofs.YtoflafgbbjinpaaGreatDoor.six yy8 bS (.bool Q3.neg) (.slice aVS Q3.mag.length cVS) (.int .i64 Q3.exp) (.bool (p || h1)) (.bool (m || h2)) (.bool (z || h3)):=⟨_,rfl⟩
    have e4:=hY
    unfold Go.Proofs.YtoflafgbbjinpaaGreatDoor.six at e4
    rw [← e4]
    have kY8 : Kept X8 Y8:=by rw [hY]; exact kept_six1 bS (by omega) jj8 _ _ _ _ _ _
    have hz8 : Y7.heap.size ≤ Y8.heap.size:=by have:=i8.below.size; rw [hY]; simp; omega
    have VU8:=hid (VUy.other' (by omega) hY)
    have VV8:=hid (VVy.other' (by omega) hY)
    have VS8:=hid (VSy.set' hY)
    have VT8:=hid (VTy.other' (by omega) hY)
    have WVU8:=hid (rlp_six' (WVU7.out.kept i8) (fun c h => by rcases h with h | h <;> omega) hY)
    have WVV8:=hid (rlp_six' (WVV7.out.kept i8) (fun c h => by rcases h with h | h <;> omega) hY)
    have WVT8:=hid (rlp_six' (WVT7.out.kept i8) (fun c h => by rcases h with h | h <;> omega) hY)
    have WVS8:=hid (rlp_six' (hsVS.out.imp (Q:=(fun c => c < w0.heap.size ∨ Y4.heap.size ≤ c)) (fun c h => h.elim .inl (fun h => .inr (by omega)))) (fun c h => by rcases h with h | h <;> omega) hY)
    clear hY e4 VU7 VV7 VS7 VT7 WVU7 WVV7 WVT7 VUy VVy VSy VTy i8 i8' jj8 hsVS
    go_upto_region 20 with fail
    have k8y : Kept X8 Y8:=kY8
    have HKy : Hid (KeepAt w0 Y8 kb vL vW E):=HK8.out.keptOn k8y
    have F0 : Hid (Frn w0 Y8 kb vL vW E [] E.length Y8):=Frn.start HKy.out
    have HIN : Hid (∀ c,c ∈ kb :: (blk vL ++ blk vW) → w0.heap.size ≤ c ∧ c < w.heap.size):=fun c hc => ⟨HNw.out c (head_blks hc),HLt.out c (head_blks hc)⟩
    have h48 : Y4.heap.size ≤ Y8.heap.size:=by omega
    have G19 : GrwS (kb :: (blk vL ++ blk vW)) Y8 Y8:=F0.out.grw
    obtain ⟨c0,c1,c2,c3,c4,c5⟩:=((Tro8.out.kept k8y).grw G19 (fun h => by have:=HIN.out _ h; omega)).now
    obtain ⟨g0,g1,g2,g3,g4,g5,-,-⟩:=VU8.out.grwS G19 (fun h => by have:=HIN.out _ h; omega)
    go_wp2_with fail
    have hf1 : E.length < 300:=by omega
    refine (is3_at w0 Y8 kb vL vW E _ _ Y8 _ F0.out (Kept.refl _) hf1 ro oe oP oM oZ sro tro (RO8.out.kept k8y) (fun b hb h => by have:=HLt.out b h; have:=BO.out b hb; omega) (fun b hb h => by cases h) (fun b hb => by have:=BO.out b hb; omega) Q1 aVU cVU f1 f2 f3 ((WVU8.out.low.imp (fun c h => ⟨h.2,fun hm => by have:=HIN.out _ hm; have:=h.1; omega⟩)).grwS G19 (fun c h => h.2)) (HOK1.out hi0).1 (HOK1.out hi0).2 0 (.inr ⟨rfl,HhOo.out hi0⟩)).mono ?_
    rintro e uz1 ⟨rfl,F1'⟩
    clear c0 c1 c2 c3 c4 c5 g0 g1 g2 g3 g4 g5
    have F1:=hid (F1')
    clear F1'
    have G29 : GrwS (kb :: (blk vL ++ blk vW)) Y8 uz1:=F1.out.grw
    obtain ⟨c0,c1,c2,c3,c4,c5⟩:=((Trp8.out.kept k8y).grw G29 (fun h => by have:=HIN.out _ h; omega)).now
    obtain ⟨g0,g1,g2,g3,g4,g5,-,-⟩:=VV8.out.grwS G29 (fun h => by have:=HIN.out _ h; omega)
    go_wp2_with fail
    have hf2 : E.length + 1 < 300:=by omega
    refine (is3_at w0 Y8 kb vL vW E _ _ uz1 _ F1.out (Kept.refl _) hf2 rp pe pP pM pZ srp trp (RP8.out.kept k8y) (fun b hb h => by have:=HLt.out b h; have:=BP.out b hb; omega) (fun b hb h => by have q1:=BP.out b hb; have q2:=BO.out b (by simpa using h); omega) (fun b hb => by have:=BP.out b hb; omega) Q2 aVV cVV (p || f1) (m || f2) (z || f3) ((WVV8.out.low.imp (fun c h => ⟨h.2,fun hm => by have:=HIN.out _ hm; have:=h.1; omega⟩)).grwS G29 (fun c h => h.2)) (HOK2.out hj0).1 (HOK2.out hj0).2 0 (.inr ⟨rfl,HhPo.out hj0⟩)).mono ?_
    rintro e uz2 ⟨rfl,F2'⟩
    clear c0 c1 c2 c3 c4 c5 g0 g1 g2 g3 g4 g5
    have F2:=hid (F2')
    clear F2'
    have G39 : GrwS (kb :: (blk vL ++ blk vW)) Y8 uz2:=F2.out.grw
    obtain ⟨c0,c1,c2,c3,c4,c5⟩:=((Trq8.out.kept k8y).grw G39 (fun h => by have:=HIN.out _ h; omega)).now
    obtain ⟨g0,g1,g2,g3,g4,g5,-,-⟩:=VS8.out.grwS G39 (fun h => by have:=HIN.out _ h; omega)
    go_wp2_with fail
    have hf3 : E.length + 2 < 300:=by omega
    refine (is3_at w0 Y8 kb vL vW E _ _ uz2 _ F2.out (Kept.refl _) hf3 rq qe qP qM qZ srq trq (RQ8.out.kept k8y) (fun b hb h => by have:=HLt.out b h; have:=BQ.out b hb; omega) (fun b hb h => by have q1:=BQ.out b hb; simp only [List.mem_append,List.not_mem_nil,false_or] at h; rcases h with h | h; (have q2:=BO.out b h; omega); (have q2:=BP.out b h; omega)) (fun b hb => by have:=BQ.out b hb; omega) Q3 aVS cVS (p || h1) (m || h2) (z || h3) ((WVS8.out.low.imp (fun c h => ⟨h.2,fun hm => by have:=HIN.out _ hm; have:=h.1; omega⟩)).grwS G39 (fun c h => h.2)) (HOK3.out hm0).1 (HOK3.out hm0).2 0 (.inr ⟨rfl,HhQo.out hm0⟩)).mono ?_
    rintro e uz3 ⟨rfl,F3'⟩
    clear c0 c1 c2 c3 c4 c5 g0 g1 g2 g3 g4 g5
    have F3:=hid (F3')
    clear F3'
    have G49 : GrwS (kb :: (blk vL ++ blk vW)) Y8 uz3:=F3.out.grw
    obtain ⟨c0,c1,c2,c3,c4,c5⟩:=((Trr8.out.kept k8y).grw G49 (fun h => by have:=HIN.out _ h; omega)).now
    obtain ⟨g0,g1,g2,g3,g4,g5,-,-⟩:=VT8.out.grwS G49 (fun h => by have:=HIN.out _ h; omega)
    go_wp2_with fail
    have hf4 : E.length + 3 < 300:=by omega
    refine (is3_at w0 Y8 kb vL vW E _ _ uz3 _ F3.out (Kept.refl _) hf4 rr re rP rM rZ srr trr (RR8.out.kept k8y) (fun b hb h => by have:=HLt.out b h; have:=BR.out b hb; omega) (fun b hb h => by have q1:=BR.out b hb; simp only [List.mem_append,List.not_mem_nil,false_or] at h; rcases h with (h | h) | h; (have q2:=BO.out b h; omega); (have q2:=BP.out b h; omega); (have q2:=BQ.out b h; omega)) (fun b hb => by have:=BR.out b hb; omega) Q4 aVT cVT t1 t2 t3 ((WVT8.out.low.imp (fun c h => ⟨h.2,fun hm => by have:=HIN.out _ hm; have:=h.1; omega⟩)).grwS G49 (fun c h => h.2)) (HOK4.out hj0).1 (HOK4.out hj0).2 0 (.inr ⟨rfl,HhRo.out hj0⟩)).mono ?_
    rintro e uz4 ⟨rfl,F4'⟩
    clear c0 c1 c2 c3 c4 c5 g0 g1 g2 g3 g4 g5
    have F4:=hid (F4')
    clear F4'
    go_wp2_with fail
    go_ret
    obtain ⟨vL',vW',E',q1',q2',q3',-⟩:=F4.out
    exact ⟨rfl,vL',vW',E',q1',by omega,GW8.then ((k8y.toS _).trans q3') (fun i hi => .inl hi)⟩
   ·have bm : (em == 0) = false:=by simpa using hm0
    subst hi0 hj0
    have hi0 : (0 : Int) = 0:=rfl
    have hj0 : (0 : Int) = 0:=rfl
    clear hlk1 hlk2
    go_wp2_with fail
    refine (KZ.out _).mono ?_
    rintro e yz ⟨rfl,iz⟩
    have kz9 : Kept X8 yz:=kY4.trans iz
    have hzz : Y4.heap.size ≤ yz.heap.size:=iz.below.size
    go_wp2_with fail
    refine (KUO.out hi0 _ (K8.trans kz9)).mono ?_
    rintro e yy5 ⟨aVU,cVU,rfl,hsVU,i5'⟩
    have i5:=iz.trans i5'
    have jj5 : Kept X8 yy5:=kY4.trans i5
    have VUy:=VU4.out.kept i5
    have VVy:=VV4.out.kept i5
    have VSy:=VS4.out.kept i5
    have VTy:=VT4.out.kept i5
    obtain ⟨g0,g1,g2,g3,g4,g5,g6,g7⟩:=VUy
    go_upto_region 15 with fail
    have VUy : VB yy5 bU (.bool false) (.slice none 0 0) (.int .i64 0) (.bool false) (.bool false) (.bool false):=⟨g0,g1,g2,g3,g4,g5,g6,g7⟩
    clear g0 g1 g2 g3 g4 g5 g6 g7
    obtain ⟨Y5,hY⟩ : ∃ Y,Y = Go.Proofs.YtoflafgbbjinpaaGreatDoor.six yy5 bU (.bool Q1.neg) (.slice aVU Q1.mag.length cVU) (.int .i64 Q1.exp) (.bool f1) (.bool f2) (.bool f3):=⟨_,rfl⟩
    have e4:=hY
    unfold Go.Proofs.YtoflafgbbjinpaaGreatDoor.six at e4
    rw [← e4]
    have kY5 : Kept X8 Y5:=by rw [hY]; exact kept_six1 bU (by omega) jj5 _ _ _ _ _ _
    have hz5 : Y4.heap.size ≤ Y5.heap.size:=by have:=i5.below.size; rw [hY]; simp; omega
    have VU5:=hid (VUy.set' hY)
    have VV5:=hid (VVy.other' (by omega) hY)
    have VS5:=hid (VSy.other' (by omega) hY)
    have VT5:=hid (VTy.other' (by omega) hY)
    have WVU5:=hid (rlp_six' (hsVU.out.imp (Q:=(fun c => c < w0.heap.size ∨ Y4.heap.size ≤ c)) (fun c h => h.elim .inl (fun h => .inr (by omega)))) (fun c h => by rcases h with h | h <;> omega) hY)
    clear hY e4 VU4 VV4 VS4 VT4 VUy VVy VSy VTy i5 i5' jj5 hsVU iz
    obtain ⟨c0,c1,c2,c3,c4,c5⟩:=(TA8.out.kept kY5).now
    go_wp2_with fail
    refine (KUA.out hj0 _ (K8.trans kY5)).mono ?_
    rintro e yy6 ⟨aVV,cVV,rfl,hsVV,i6'⟩
    clear c0 c1 c2 c3 c4 c5
    have i6:=i6'
    have jj6 : Kept X8 yy6:=kY5.trans i6
    have VUy:=VU5.out.kept i6
    have VVy:=VV5.out.kept i6
    have VSy:=VS5.out.kept i6
    have VTy:=VT5.out.kept i6
    obtain ⟨g0,g1,g2,g3,g4,g5,g6,g7⟩:=VVy
    go_upto_region 17 with fail
    have VVy : VB yy6 bV (.bool false) (.slice none 0 0) (.int .i64 0) (.bool false) (.bool false) (.bool false):=⟨g0,g1,g2,g3,g4,g5,g6,g7⟩
    clear g0 g1 g2 g3 g4 g5 g6 g7
    obtain ⟨Y6,hY⟩ : ∃ Y,Y = Go.Proofs.YtoflafgbbjinpaaGreatDoor.six yy6 bV (.bool Q2.neg) (.slice aVV Q2.mag.length cVV) (.int .i64 Q2.exp) (.bool (p || f1)) (.bool (m || f2)) (.bool (z || f3)):=⟨_,rfl⟩
    have e4:=hY
    unfold Go.Proofs.YtoflafgbbjinpaaGreatDoor.six at e4
    rw [← e4]
    have kY6 : Kept X8 Y6:=by rw [hY]; exact kept_six1 bV (by omega) jj6 _ _ _ _ _ _
    have hz6 : Y5.heap.size ≤ Y6.heap.size:=by have:=i6.below.size; rw [hY]; simp; omega
    have VU6:=hid (VUy.other' (by omega) hY)
    have VV6:=hid (VVy.set' hY)
    have VS6:=hid (VSy.other' (by omega) hY)
    have VT6:=hid (VTy.other' (by omega) hY)
    have WVU6:=hid (rlp_six' (WVU5.out.kept i6) (fun c h => by rcases h with h | h <;> omega) hY)
    have WVV6:=hid (rlp_six' (hsVV.out.imp (Q:=(fun c => c < w0.heap.size ∨ Y4.heap.size ≤ c)) (fun c h => h.elim .inl (fun h => .inr (by omega)))) (fun c h => by rcases h with h | h <;> omega) hY)
    clear hY e4 VU5 VV5 VS5 VT5 WVU5 VUy VVy VSy VTy i6 i6' jj6 hsVV
    obtain ⟨c0,c1,c2,c3,c4,c5⟩:=(TA8.out.kept kY6).now
    go_wp2_with fail
    refine (KUT.out hj0 _ (K8.trans kY6)).mono ?_
    rintro e yy7 ⟨aVT,cVT,rfl,hsVT,i7'⟩
    clear c0 c1 c2 c3 c4 c5
    have i7:=i7'
    have jj7 : Kept X8 yy7:=kY6.trans i7
    have VUy:=VU6.out.kept i7
    have VVy:=VV6.out.kept i7
    have VSy:=VS6.out.kept i7
    have VTy:=VT6.out.kept i7
    obtain ⟨g0,g1,g2,g3,g4,g5,g6,g7⟩:=VTy
    go_upto_region 18 with fail
    have VTy : VB yy7 bT (.bool false) (.slice none 0 0) (.int .i64 0) (.bool false) (.bool false) (.bool false):=⟨g0,g1,g2,g3,g4,g5,g6,g7⟩
    clear g0 g1 g2 g3 g4 g5 g6 g7
    obtain ⟨Y7,hY⟩ : ∃ Y,Y = Go.Proofs.YtoflafgbbjinpaaGreatDoor.six yy7 bT (.bool Q4.neg) (.slice aVT Q4.mag.length cVT) (.int .i64 Q4.exp) (.bool t1) (.bool t2) (.bool t3):=⟨_,rfl⟩
    have e4:=hY
    unfold Go.Proofs.YtoflafgbbjinpaaGreatDoor.six at e4
    rw [← e4]
    have kY7 : Kept X8 Y7:=by rw [hY]; exact kept_six1 bT (by omega) jj7 _ _ _ _ _ _
    have hz7 : Y6.heap.size ≤ Y7.heap.size:=by have:=i7.below.size; rw [hY]; simp; omega
    have VU7:=hid (VUy.other' (by omega) hY)
    have VV7:=hid (VVy.other' (by omega) hY)
    have VS7:=hid (VSy.other' (by omega) hY)
    have VT7:=hid (VTy.set' hY)
    have WVU7:=hid (rlp_six' (WVU6.out.kept i7) (fun c h => by rcases h with h | h <;> omega) hY)
    have WVV7:=hid (rlp_six' (WVV6.out.kept i7) (fun c h => by rcases h with h | h <;> omega) hY)
    have WVT7:=hid (rlp_six' (hsVT.out.imp (Q:=(fun c => c < w0.heap.size ∨ Y4.heap.size ≤ c)) (fun c h => h.elim .inl (fun h => .inr (by omega)))) (fun c h => by rcases h with h | h <;> omega) hY)
    clear hY e4 VU6 VV6 VS6 VT6 WVU6 WVV6 VUy VVy VSy VTy i7 i7' jj7 hsVT
    go_upto_region 20 with fail
    have k8y : Kept X8 Y7:=kY7
    have HKy : Hid (KeepAt w0 Y7 kb vL vW E):=HK8.out.keptOn k8y
    have F0 : Hid (Frn w0 Y7 kb vL vW E [] E.length Y7):=Frn.start HKy.out
    have HIN : Hid (∀ c,c ∈ kb :: (blk vL ++ blk vW) → w0.heap.size ≤ c ∧ c < w.heap.size):=fun c hc => ⟨HNw.out c (head_blks hc),HLt.out c (head_blks hc)⟩
    have h48 : Y4.heap.size ≤ Y7.heap.size:=by omega
    have G19 : GrwS (kb :: (blk vL ++ blk vW)) Y7 Y7:=F0.out.grw
    obtain ⟨c0,c1,c2,c3,c4,c5⟩:=((Tro8.out.kept k8y).grw G19 (fun h => by have:=HIN.out _ h; omega)).now
    obtain ⟨g0,g1,g2,g3,g4,g5,-,-⟩:=VU7.out.grwS G19 (fun h => by have:=HIN.out _ h; omega)
    go_wp2_with fail
    have hf1 : E.length < 300:=by omega
    refine (is3_at w0 Y7 kb vL vW E _ _ Y7 _ F0.out (Kept.refl _) hf1 ro oe oP oM oZ sro tro (RO8.out.kept k8y) (fun b hb h => by have:=HLt.out b h; have:=BO.out b hb; omega) (fun b hb h => by cases h) (fun b hb => by have:=BO.out b hb; omega) Q1 aVU cVU f1 f2 f3 ((WVU7.out.low.imp (fun c h => ⟨h.2,fun hm => by have:=HIN.out _ hm; have:=h.1; omega⟩)).grwS G19 (fun c h => h.2)) (HOK1.out hi0).1 (HOK1.out hi0).2 0 (.inr ⟨rfl,HhOo.out hi0⟩)).mono ?_
    rintro e uz1 ⟨rfl,F1'⟩
    clear c0 c1 c2 c3 c4 c5 g0 g1 g2 g3 g4 g5
    have F1:=hid (F1')
    clear F1'
    have G29 : GrwS (kb :: (blk vL ++ blk vW)) Y7 uz1:=F1.out.grw
    obtain ⟨c0,c1,c2,c3,c4,c5⟩:=((Trp8.out.kept k8y).grw G29 (fun h => by have:=HIN.out _ h; omega)).now
    obtain ⟨g0,g1,g2,g3,g4,g5,-,-⟩:=VV7.out.grwS G29 (fun h => by have:=HIN.out _ h; omega)
    go_wp2_with fail
    have hf2 : E.length + 1 < 300:=by omega
    refine (is3_at w0 Y7 kb vL vW E _ _ uz1 _ F1.out (Kept.refl _) hf2 rp pe pP pM pZ srp trp (RP8.out.kept k8y) (fun b hb h => by have:=HLt.out b h; have:=BP.out b hb; omega) (fun b hb h => by have q1:=BP.out b hb; have q2:=BO.out b (by simpa using h); omega) (fun b hb => by have:=BP.out b hb; omega) Q2 aVV cVV (p || f1) (m || f2) (z || f3) ((WVV7.out.low.imp (fun c h => ⟨h.2,fun hm => by have:=HIN.out _ hm; have:=h.1; omega⟩)).grwS G29 (fun c h => h.2)) (HOK2.out hj0).1 (HOK2.out hj0).2 0 (.inr ⟨rfl,HhPo.out hj0⟩)).mono ?_
    rintro e uz2 ⟨rfl,F2'⟩
    clear c0 c1 c2 c3 c4 c5 g0 g1 g2 g3 g4 g5
    have F2:=hid (F2')
    clear F2'
    have G39 : GrwS (kb :: (blk vL ++ blk vW)) Y7 uz2:=F2.out.grw
    obtain ⟨c0,c1,c2,c3,c4,c5⟩:=((Trq8.out.kept k8y).grw G39 (fun h => by have:=HIN.out _ h; omega)).now
    obtain ⟨g0,g1,g2,g3,g4,g5,-,-⟩:=VS7.out.grwS G39 (fun h => by have:=HIN.out _ h; omega)
    go_wp2_with fail
    have hf3 : E.length + 2 < 300:=by omega
    refine (is3_at w0 Y7 kb vL vW E _ _ uz2 _ F2.out (Kept.refl _) hf3 rq qe qP qM qZ srq trq (RQ8.out.kept k8y) (fun b hb h => by have:=HLt.out b h; have:=BQ.out b hb; omega) (fun b hb h => by have q1:=BQ.out b hb; simp only [List.mem_append,List.not_mem_nil,false_or] at h; rcases h with h | h; (have q2:=BO.out b h; omega); (have q2:=BP.out b h; omega)) (fun b hb => by have:=BQ.out b hb; omega) (⟨false,[],0⟩ : Nm) none 0 false false false (RLp.nil _ _) (by intro d hd; cases hd) (by simp) em (.inl ⟨hm0,HhQb.out hm0⟩)).mono ?_
    rintro e uz3 ⟨rfl,F3'⟩
    clear c0 c1 c2 c3 c4 c5 g0 g1 g2 g3 g4 g5
    have F3:=hid (F3')
    clear F3'
    have G49 : GrwS (kb :: (blk vL ++ blk vW)) Y7 uz3:=F3.out.grw
    obtain ⟨c0,c1,c2,c3,c4,c5⟩:=((Trr8.out.kept k8y).grw G49 (fun h => by have:=HIN.out _ h; omega)).now
    obtain ⟨g0,g1,g2,g3,g4,g5,-,-⟩:=VT7.out.grwS G49 (fun h => by have:=HIN.out _ h; omega)
    go_wp2_with fail
    have hf4 : E.length + 3 < 300:=by omega
    refine (is3_at w0 Y7 kb vL vW E _ _ uz3 _ F3.out (Kept.refl _) hf4 rr re rP rM rZ srr trr (RR8.out.kept k8y) (fun b hb h => by have:=HLt.out b h; have:=BR.out b hb; omega) (fun b hb h => by have q1:=BR.out b hb; simp only [List.mem_append,List.not_mem_nil,false_or] at h; rcases h with (h | h) | h; (have q2:=BO.out b h; omega); (have q2:=BP.out b h; omega); (have q2:=BQ.out b h; omega)) (fun b hb => by have:=BR.out b hb; omega) Q4 aVT cVT t1 t2 t3 ((WVT7.out.low.imp (fun c h => ⟨h.2,fun hm => by have:=HIN.out _ hm; have:=h.1; omega⟩)).grwS G49 (fun c h => h.2)) (HOK4.out hj0).1 (HOK4.out hj0).2 0 (.inr ⟨rfl,HhRo.out hj0⟩)).mono ?_
    rintro e uz4 ⟨rfl,F4'⟩
    clear c0 c1 c2 c3 c4 c5 g0 g1 g2 g3 g4 g5
    have F4:=hid (F4')
    clear F4'
    go_wp2_with fail
    go_ret
    obtain ⟨vL',vW',E',q1',q2',q3',-⟩:=F4.out
    exact ⟨rfl,vL',vW',E',q1',by omega,GW8.then ((k8y.toS _).trans q3') (fun i hi => .inl hi)⟩
  ·have hm0 : em ≠ 0:=hlk1 hj0
   have bj : (ej == 0) = false:=by simpa using hj0
   have bm : (em == 0) = false:=by simpa using hm0
   subst hi0
   have hi0 : (0 : Int) = 0:=rfl
   clear hlk1 hlk2
   go_wp2_with fail
   refine (KZ.out _).mono ?_
   rintro e yz ⟨rfl,iz⟩
   have kz9 : Kept X8 yz:=kY4.trans iz
   have hzz : Y4.heap.size ≤ yz.heap.size:=iz.below.size
   go_wp2_with fail
   refine (KUO.out hi0 _ (K8.trans kz9)).mono ?_
   rintro e yy5 ⟨aVU,cVU,rfl,hsVU,i5'⟩
   have i5:=iz.trans i5'
   have jj5 : Kept X8 yy5:=kY4.trans i5
   have VUy:=VU4.out.kept i5
   have VVy:=VV4.out.kept i5
   have VSy:=VS4.out.kept i5
   have VTy:=VT4.out.kept i5
   obtain ⟨g0,g1,g2,g3,g4,g5,g6,g7⟩:=VUy
   go_upto_region 15 with fail
   have VUy : VB yy5 bU (.bool false) (.slice none 0 0) (.int .i64 0) (.bool false) (.bool false) (.bool false):=⟨g0,g1,g2,g3,g4,g5,g6,g7⟩
   clear g0 g1 g2 g3 g4 g5 g6 g7
   obtain ⟨Y5,hY⟩ : ∃ Y,Y = Go.Proofs.YtoflafgbbjinpaaGreatDoor.six yy5 bU (.bool Q1.neg) (.slice aVU Q1.mag.length cVU) (.int .i64 Q1.exp) (.bool f1) (.bool f2) (.bool f3):=⟨_,rfl⟩
   have e4:=hY
   unfold Go.Proofs.YtoflafgbbjinpaaGreatDoor.six at e4
   rw [← e4]
   have kY5 : Kept X8 Y5:=by rw [hY]; exact kept_six1 bU (by omega) jj5 _ _ _ _ _ _
   have hz5 : Y4.heap.size ≤ Y5.heap.size:=by have:=i5.below.size; rw [hY]; simp; omega
   have VU5:=hid (VUy.set' hY)
   have VV5:=hid (VVy.other' (by omega) hY)
   have VS5:=hid (VSy.other' (by omega) hY)
   have VT5:=hid (VTy.other' (by omega) hY)
   have WVU5:=hid (rlp_six' (hsVU.out.imp (Q:=(fun c => c < w0.heap.size ∨ Y4.heap.size ≤ c)) (fun c h => h.elim .inl (fun h => .inr (by omega)))) (fun c h => by rcases h with h | h <;> omega) hY)
   clear hY e4 VU4 VV4 VS4 VT4 VUy VVy VSy VTy i5 i5' jj5 hsVU iz
   go_upto_region 20 with fail
   have k8y : Kept X8 Y5:=kY5
   have HKy : Hid (KeepAt w0 Y5 kb vL vW E):=HK8.out.keptOn k8y
   have F0 : Hid (Frn w0 Y5 kb vL vW E [] E.length Y5):=Frn.start HKy.out
   have HIN : Hid (∀ c,c ∈ kb :: (blk vL ++ blk vW) → w0.heap.size ≤ c ∧ c < w.heap.size):=fun c hc => ⟨HNw.out c (head_blks hc),HLt.out c (head_blks hc)⟩
   have h48 : Y4.heap.size ≤ Y5.heap.size:=by omega
   have G19 : GrwS (kb :: (blk vL ++ blk vW)) Y5 Y5:=F0.out.grw
   obtain ⟨c0,c1,c2,c3,c4,c5⟩:=((Tro8.out.kept k8y).grw G19 (fun h => by have:=HIN.out _ h; omega)).now
   obtain ⟨g0,g1,g2,g3,g4,g5,-,-⟩:=VU5.out.grwS G19 (fun h => by have:=HIN.out _ h; omega)
   go_wp2_with fail
   have hf1 : E.length < 300:=by omega
   refine (is3_at w0 Y5 kb vL vW E _ _ Y5 _ F0.out (Kept.refl _) hf1 ro oe oP oM oZ sro tro (RO8.out.kept k8y) (fun b hb h => by have:=HLt.out b h; have:=BO.out b hb; omega) (fun b hb h => by cases h) (fun b hb => by have:=BO.out b hb; omega) Q1 aVU cVU f1 f2 f3 ((WVU5.out.low.imp (fun c h => ⟨h.2,fun hm => by have:=HIN.out _ hm; have:=h.1; omega⟩)).grwS G19 (fun c h => h.2)) (HOK1.out hi0).1 (HOK1.out hi0).2 0 (.inr ⟨rfl,HhOo.out hi0⟩)).mono ?_
   rintro e uz1 ⟨rfl,F1'⟩
   clear c0 c1 c2 c3 c4 c5 g0 g1 g2 g3 g4 g5
   have F1:=hid (F1')
   clear F1'
   have G29 : GrwS (kb :: (blk vL ++ blk vW)) Y5 uz1:=F1.out.grw
   obtain ⟨c0,c1,c2,c3,c4,c5⟩:=((Trp8.out.kept k8y).grw G29 (fun h => by have:=HIN.out _ h; omega)).now
   obtain ⟨g0,g1,g2,g3,g4,g5,-,-⟩:=VV5.out.grwS G29 (fun h => by have:=HIN.out _ h; omega)
   go_wp2_with fail
   have hf2 : E.length + 1 < 300:=by omega
   refine (is3_at w0 Y5 kb vL vW E _ _ uz1 _ F1.out (Kept.refl _) hf2 rp pe pP pM pZ srp trp (RP8.out.kept k8y) (fun b hb h => by have:=HLt.out b h; have:=BP.out b hb; omega) (fun b hb h => by have q1:=BP.out b hb; have q2:=BO.out b (by simpa using h); omega) (fun b hb => by have:=BP.out b hb; omega) (⟨false,[],0⟩ : Nm) none 0 false false false (RLp.nil _ _) (by intro d hd; cases hd) (by simp) ej (.inl ⟨hj0,HhPb.out hj0⟩)).mono ?_
   rintro e uz2 ⟨rfl,F2'⟩
   clear c0 c1 c2 c3 c4 c5 g0 g1 g2 g3 g4 g5
   have F2:=hid (F2')
   clear F2'
   have G39 : GrwS (kb :: (blk vL ++ blk vW)) Y5 uz2:=F2.out.grw
   obtain ⟨c0,c1,c2,c3,c4,c5⟩:=((Trq8.out.kept k8y).grw G39 (fun h => by have:=HIN.out _ h; omega)).now
   obtain ⟨g0,g1,g2,g3,g4,g5,-,-⟩:=VS5.out.grwS G39 (fun h => by have:=HIN.out _ h; omega)
   go_wp2_with fail
   have hf3 : E.length + 2 < 300:=by omega
   refine (is3_at w0 Y5 kb vL vW E _ _ uz2 _ F2.out (Kept.refl _) hf3 rq qe qP qM qZ srq trq (RQ8.out.kept k8y) (fun b hb h => by have:=HLt.out b h; have:=BQ.out b hb; omega) (fun b hb h => by have q1:=BQ.out b hb; simp only [List.mem_append,List.not_mem_nil,false_or] at h; rcases h with h | h; (have q2:=BO.out b h; omega); (have q2:=BP.out b h; omega)) (fun b hb => by have:=BQ.out b hb; omega) (⟨false,[],0⟩ : Nm) none 0 false false false (RLp.nil _ _) (by intro d hd; cases hd) (by simp) em (.inl ⟨hm0,HhQb.out hm0⟩)).mono ?_
   rintro e uz3 ⟨rfl,F3'⟩
   clear c0 c1 c2 c3 c4 c5 g0 g1 g2 g3 g4 g5
   have F3:=hid (F3')
   clear F3'
   have G49 : GrwS (kb :: (blk vL ++ blk vW)) Y5 uz3:=F3.out.grw
   obtain ⟨c0,c1,c2,c3,c4,c5⟩:=((Trr8.out.kept k8y).grw G49 (fun h => by have:=HIN.out _ h; omega)).now
   obtain ⟨g0,g1,g2,g3,g4,g5,-,-⟩:=VT5.out.grwS G49 (fun h => by have:=HIN.out _ h; omega)
   go_wp2_with fail
   have hf4 : E.length + 3 < 300:=by omega
   refine (is3_at w0 Y5 kb vL vW E _ _ uz3 _ F3.out (Kept.refl _) hf4 rr re rP rM rZ srr trr (RR8.out.kept k8y) (fun b hb h => by have:=HLt.out b h; have:=BR.out b hb; omega) (fun b hb h => by have q1:=BR.out b hb; simp only [List.mem_append,List.not_mem_nil,false_or] at h; rcases h with (h | h) | h; (have q2:=BO.out b h; omega); (have q2:=BP.out b h; omega); (have q2:=BQ.out b h; omega)) (fun b hb => by have:=BR.out b hb; omega) (⟨false,[],0⟩ : Nm) none 0 false false false (RLp.nil _ _) (by intro d hd; cases hd) (by simp) ej (.inl ⟨hj0,HhRb.out hj0⟩)).mono ?_
   rintro e uz4 ⟨rfl,F4'⟩
   clear c0 c1 c2 c3 c4 c5 g0 g1 g2 g3 g4 g5
   have F4:=hid (F4')
   clear F4'
   go_wp2_with fail
   go_ret
   obtain ⟨vL',vW',E',q1',q2',q3',-⟩:=F4.out
   exact ⟨rfl,vL',vW',E',q1',by omega,GW8.then ((k8y.toS _).trans q3') (fun i hi => .inl hi)⟩
 ·have hj0 : ej ≠ 0:=hlk2 hi0
  have hm0 : em ≠ 0:=hlk1 hj0
  have bi : (ei == 0) = false:=by simpa using hi0
  have bj : (ej == 0) = false:=by simpa using hj0
  have bm : (em == 0) = false:=by simpa using hm0
  clear hlk1 hlk2
  go_upto_region 20 with fail
  have k8y : Kept X8 Y4:=kY4
  have HKy : Hid (KeepAt w0 Y4 kb vL vW E):=HK8.out.keptOn k8y
  have F0 : Hid (Frn w0 Y4 kb vL vW E [] E.length Y4):=Frn.start HKy.out
  have HIN : Hid (∀ c,c ∈ kb :: (blk vL ++ blk vW) → w0.heap.size ≤ c ∧ c < w.heap.size):=fun c hc => ⟨HNw.out c (head_blks hc),HLt.out c (head_blks hc)⟩
  have h48 : Y4.heap.size ≤ Y4.heap.size:=by omega
  have G19 : GrwS (kb :: (blk vL ++ blk vW)) Y4 Y4:=F0.out.grw
  obtain ⟨c0,c1,c2,c3,c4,c5⟩:=((Tro8.out.kept k8y).grw G19 (fun h => by have:=HIN.out _ h; omega)).now
  obtain ⟨g0,g1,g2,g3,g4,g5,-,-⟩:=VU4.out.grwS G19 (fun h => by have:=HIN.out _ h; omega)
  go_wp2_with fail
  have hf1 : E.length < 300:=by omega
  refine (is3_at w0 Y4 kb vL vW E _ _ Y4 _ F0.out (Kept.refl _) hf1 ro oe oP oM oZ sro tro (RO8.out.kept k8y) (fun b hb h => by have:=HLt.out b h; have:=BO.out b hb; omega) (fun b hb h => by cases h) (fun b hb => by have:=BO.out b hb; omega) (⟨false,[],0⟩ : Nm) none 0 false false false (RLp.nil _ _) (by intro d hd; cases hd) (by simp) ei (.inl ⟨hi0,HhOb.out hi0⟩)).mono ?_
  rintro e uz1 ⟨rfl,F1'⟩
  clear c0 c1 c2 c3 c4 c5 g0 g1 g2 g3 g4 g5
  have F1:=hid (F1')
  clear F1'
  have G29 : GrwS (kb :: (blk vL ++ blk vW)) Y4 uz1:=F1.out.grw
  obtain ⟨c0,c1,c2,c3,c4,c5⟩:=((Trp8.out.kept k8y).grw G29 (fun h => by have:=HIN.out _ h; omega)).now
  obtain ⟨g0,g1,g2,g3,g4,g5,-,-⟩:=VV4.out.grwS G29 (fun h => by have:=HIN.out _ h; omega)
  go_wp2_with fail
  have hf2 : E.length + 1 < 300:=by omega
  refine (is3_at w0 Y4 kb vL vW E _ _ uz1 _ F1.out (Kept.refl _) hf2 rp pe pP pM pZ srp trp (RP8.out.kept k8y) (fun b hb h => by have:=HLt.out b h; have:=BP.out b hb; omega) (fun b hb h => by have q1:=BP.out b hb; have q2:=BO.out b (by simpa using h); omega) (fun b hb => by have:=BP.out b hb; omega) (⟨false,[],0⟩ : Nm) none 0 false false false (RLp.nil _ _) (by intro d hd; cases hd) (by simp) ej (.inl ⟨hj0,HhPb.out hj0⟩)).mono ?_
  rintro e uz2 ⟨rfl,F2'⟩
  clear c0 c1 c2 c3 c4 c5 g0 g1 g2 g3 g4 g5
  have F2:=hid (F2')
  clear F2'
  have G39 : GrwS (kb :: (blk vL ++ blk vW)) Y4 uz2:=F2.out.grw
  obtain ⟨c0,c1,c2,c3,c4,c5⟩:=((Trq8.out.kept k8y).grw G39 (fun h => by have:=HIN.out _ h; omega)).now
  obtain ⟨g0,g1,g2,g3,g4,g5,-,-⟩:=VS4.out.grwS G39 (fun h => by have:=HIN.out _ h; omega)
  go_wp2_with fail
  have hf3 : E.length + 2 < 300:=by omega
  refine (is3_at w0 Y4 kb vL vW E _ _ uz2 _ F2.out (Kept.refl _) hf3 rq qe qP qM qZ srq trq (RQ8.out.kept k8y) (fun b hb h => by have:=HLt.out b h; have:=BQ.out b hb; omega) (fun b hb h => by have q1:=BQ.out b hb; simp only [List.mem_append,List.not_mem_nil,false_or] at h; rcases h with h | h; (have q2:=BO.out b h; omega); (have q2:=BP.out b h; omega)) (fun b hb => by have:=BQ.out b hb; omega) (⟨false,[],0⟩ : Nm) none 0 false false false (RLp.nil _ _) (by intro d hd; cases hd) (by simp) em (.inl ⟨hm0,HhQb.out hm0⟩)).mono ?_
  rintro e uz3 ⟨rfl,F3'⟩
  clear c0 c1 c2 c3 c4 c5 g0 g1 g2 g3 g4 g5
  have F3:=hid (F3')
  clear F3'
  have G49 : GrwS (kb :: (blk vL ++ blk vW)) Y4 uz3:=F3.out.grw
  obtain ⟨c0,c1,c2,c3,c4,c5⟩:=((Trr8.out.kept k8y).grw G49 (fun h => by have:=HIN.out _ h; omega)).now
  obtain ⟨g0,g1,g2,g3,g4,g5,-,-⟩:=VT4.out.grwS G49 (fun h => by have:=HIN.out _ h; omega)
  go_wp2_with fail
  have hf4 : E.length + 3 < 300:=by omega
  refine (is3_at w0 Y4 kb vL vW E _ _ uz3 _ F3.out (Kept.refl _) hf4 rr re rP rM rZ srr trr (RR8.out.kept k8y) (fun b hb h => by have:=HLt.out b h; have:=BR.out b hb; omega) (fun b hb h => by have q1:=BR.out b hb; simp only [List.mem_append,List.not_mem_nil,false_or] at h; rcases h with (h | h) | h; (have q2:=BO.out b h; omega); (have q2:=BP.out b h; omega); (have q2:=BQ.out b h; omega)) (fun b hb => by have:=BR.out b hb; omega) (⟨false,[],0⟩ : Nm) none 0 false false false (RLp.nil _ _) (by intro d hd; cases hd) (by simp) ej (.inl ⟨hj0,HhRb.out hj0⟩)).mono ?_
  rintro e uz4 ⟨rfl,F4'⟩
  clear c0 c1 c2 c3 c4 c5 g0 g1 g2 g3 g4 g5
  have F4:=hid (F4')
  clear F4'
  go_wp2_with fail
  go_ret
  obtain ⟨vL',vW',E',q1',q2',q3',-⟩:=F4.out
  exact ⟨rfl,vL',vW',E',q1',by omega,GW8.then ((k8y.toS _).trans q3') (fun i hi => .inl hi)⟩
end Go.Proofs.YtoflafgbbjinpaaGreatDoor
