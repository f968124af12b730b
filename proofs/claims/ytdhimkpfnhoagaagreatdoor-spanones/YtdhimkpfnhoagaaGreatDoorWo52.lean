/- SpanOnes. How arguments are read: exact numbers,lists of ints; and that they read behind the call as before. How an interval is read. -/
import Derived.Test.YtdhimkpfnhoagaaGreatDoorWo49
import Derived.Test.YtdhimkpfnhoagaaGreatDoorWo50
import Derived.Test.YtdhimkpfnhoagaaGreatDoorWo51
import Derived.Test.YtdhimkpfnhoagaaGreatDoorWo16
import Derived.Test.YtdhimkpfnhoagaaGreatDoorWo37
import Derived.Test.YtdhimkpfnhoagaaGreatDoorWo05
import Derived.ProofKit
import Derived.OpenShut
import Derived.Carry
import Derived.Lib.SmallJoins
import Derived.ChangeSlices
namespace Go.Proofs.YtdhimkpfnhoagaaGreatDoor
open Go.ChangeShapes Go.WideShapes Go.ChangeAt Go.RowKit Ieee
set_option linter.unusedVariables false
set_option linter.unusedSimpArgs false
set_option maxHeartbeats 16000000
set_option maxRecDepth 100000
theorem spanOnes_walk (lo hi b n : Int) (xn : Bool) (ao : Option Addr) (xl xc : Nat) (xx : Int) (t1 t2 t3 : Bool) (h1 : decide ((xl : Int) > 300) = t1) (h2 : decide (xx > 100000) = t2) (h3 : decide (xx < -100000) = t3) (w : World)
  (KA : Hid (∀ u,Kept w u → Calls Tryz.prog 8 #[] u fun e w' => e = .returned (.bool true) ∧ Kept u w'))
  (KO : Hid ((t1 || t2 || t3) = false → ∀ u,Kept w u → Calls Tryz.prog 9 #[.agg #[.int .i64 lo,.int .i64 hi],.int .i64 b,.agg #[.bool xn,.slice ao xl xc,.int .i64 xx],.int .i64 n] u fun e w' => e = .returned (.bool true) ∧ Kept u w')) :
  Calls Tryz.prog 3 #[.agg #[.int .i64 lo,.int .i64 hi],.int .i64 b,.agg #[.bool xn,.slice ao xl xc,.int .i64 xx],.int .i64 n] w fun e w' => e = .returned (.bool true) ∧ Kept w w':=by
 have h1' : decide ((300 : Int) < (xl : Int)) = t1:=h1
 have h2' : decide (100000 < xx) = t2:=h2
 obtain ⟨X,hX⟩ : ∃ X,X = (w.alloc (.cells #[.int .i64 lo,.int .i64 hi] 23)).alloc (.cells #[.bool xn,.slice ao xl xc,.int .i64 xx] 26):=⟨_,rfl⟩
 have hK : Kept w X:=by rw [hX]; exact ((Kept.refl w).alloc _ _).alloc _ _
 have hXs : X.heap.size = w.heap.size + 2:=by rw [hX]; simp
 have hP0 : P2 X (w.heap.size) (.int .i64 lo) (.int .i64 hi):=by
  rw [hX]
  have:=((P2.new (w) (.int .i64 lo) (.int .i64 hi) 23).alloc #[.bool xn,.slice ao xl xc,.int .i64 xx] 26)
  simpa using this
 have hP1 : P3 X (w.heap.size + 1) (.bool xn) (.slice ao xl xc) (.int .i64 xx):=by
  rw [hX]
  have:=(P3.new (w.alloc (.cells #[.int .i64 lo,.int .i64 hi] 23)) (.bool xn) (.slice ao xl xc) (.int .i64 xx) 26)
  simpa using this
 obtain ⟨B0,hB0⟩ : ∃ B,B = w.heap.size:=⟨_,rfl⟩
 obtain ⟨B1,hB1⟩ : ∃ B,B = B0 + 1:=⟨_,rfl⟩
 rw [← hB0] at hP0
 rw [← hB0,← hB1] at hP1
 have oB : Hid (w.heap.size ≤ B0 ∧ B0 < X.heap.size ∧ w.heap.size ≤ B1 ∧ B1 < X.heap.size):=(show _ ∧ _ ∧ _ ∧ _ from by omega)
 have oX : Hid (w.heap.size ≤ X.heap.size):=hK.below.size
 go_enter Tryz.func3,Tryz.ntmps3
 go_upto_region 1 with fail
 rw [← hX,← hB0,← hB1]
 clear hX hXs hB0 hB1
 go_wp2_with fail
 refine (KA.out _ hK).mono ?_
 rintro e w1 ⟨rfl,k1⟩
 obtain ⟨p0,p1,pf⟩:=hP0.kept k1
 obtain ⟨q0,q1,q2⟩:=hP1.kept k1
 have kw:=hK.trans k1
 cases t1
 ·cases t2
  ·cases t3
   ·go_wp2_with fail
    refine (KO.out rfl _ kw).mono ?_
    rintro e w2 ⟨rfl,k2⟩
    go_wp2_with fail
    go_ret
    exact ⟨rfl,kw.trans k2⟩
   ·go_wp2_with fail
    go_ret
    exact ⟨rfl,kw⟩
  ·go_wp2_with fail
   go_ret
   exact ⟨rfl,kw⟩
 ·go_wp2_with fail
  go_ret
  exact ⟨rfl,kw⟩
/-- a list that was lent -/
def Lnt (L : List Int) (G yc : Nat) (u : World) : Prop:=Own u G yc (L ++ [-71,-72,-73])
theorem Lnt.sl {L : List Int} {G yc : Nat} {u : World} (h : Lnt L G yc u) : Sl u (.slice (some ⟨G,0,none⟩) L.length yc) L:=by
 have:=Own.slTake h L.length (by simp)
 rw [List.take_left'  rfl] at this
 exact this
theorem sp_if (c : Prop) [Decidable c] (a b : Int) : (if c then sp2 a b else sp2 0 0) = sp2 (if c then a else 0) (if c then b else 0):=by
 split <;> rfl
theorem spanOnes_at (lo hi b n : Int) (h1 : RB lo) (h2 : RB hi) (h3 : RB b) (x : Nm) (hR : Rg x.mag) (hl : x.mag.length < 1000000) (ao : Option Addr) (c : Nat) (hc : ao = none → c = 0) (w : World) (hT : Tab w) (h : Sl w (.slice ao x.mag.length c) x.mag) : Calls Tryz.prog 9 #[.agg #[.int .i64 lo,.int .i64 hi],.int .i64 b,.agg #[.bool x.neg,.slice ao x.mag.length c,.int .i64 x.exp],.int .i64 n] w fun e w' => e = .returned (.bool true) ∧ Kept w w':=by
 have hWd : ∀ ok,(fs5 n ok = 0 ↔ (n = 64 ∨ n = 32) ∧ ok = true):=fun ok => by
  unfold fs5
  by_cases hn : n = 64 ∨ n = 32
  ·rw [if_pos hn]; cases ok <;> simp [hn]
  ·rw [if_neg hn]; simp [hn]
 have hvn : vsp lo hi n = true → n = 64 ∨ n = 32:=fun hv => isnum_wid _ _ (vsp_num _ _ _ hv).1
 have hfs : fs5 n (vsp lo hi n) = opE lo hi n:=by
  unfold fs5 opE
  rfl
 have hfin : decide (cls b n < 3) = true → (n = 64 ∨ n = 32) → fin b n = true:=fun g hn => by
  unfold fin
  rw [decide_eq_true_eq]
  exact ⟨hn,of_decide_eq_true g⟩
 -- what the errors are
 obtain ⟨og,hog⟩ : ∃ q,q = nmE b n:=⟨_,rfl⟩
 obtain ⟨ah,hah⟩ : ∃ q,q = FE n 1 (vld x):=⟨_,rfl⟩
 obtain ⟨ij,hij⟩ : ∃ q,q = (if vsp lo hi n = true then FE n 1 (vld x) else opE lo hi n):=⟨_,rfl⟩
 obtain ⟨jj,hjj⟩ : ∃ q,q = (if opE lo hi n = 0 then nmE b n else opE lo hi n):=⟨_,rfl⟩
 have hij0 : ij = 0 ↔ vsp lo hi n = true ∧ vld x = true:=by
  rw [hij]
  have h0:=opE_zero lo hi n
  have h1:=fe_zero n (vld x)
  constructor
  ·intro g
   split at g
   ·next hv => exact ⟨hv,(h1.1 g).2⟩
   ·next hv => exact absurd (h0.1 g) hv
  ·rintro ⟨hv,hx⟩
   rw [if_pos hv]
   exact h1.2 ⟨hvn hv,hx⟩
 have hnm : nmE b n = 0 ↔ fin b n = true:=by
  unfold nmE
  by_cases hn : n = 64 ∨ n = 32
  ·rw [if_pos hn]; split <;> simp_all
  ·rw [if_neg hn]
   have : fin b n = false:=by unfold fin; simp [hn]
   simp [this]
 have hjj0 : jj = 0 ↔ vsp lo hi n = true ∧ fin b n = true:=by
  rw [hjj]
  have h0:=opE_zero lo hi n
  constructor
  ·intro g
   split at g
   ·next hv => exact ⟨h0.1 hv,hnm.1 g⟩
   ·next hv => exact absurd g hv
  ·rintro ⟨hv,hx⟩
   rw [if_pos (h0.2 hv)]
   exact hnm.2 hx
 have finN : fin b n = true → isnum b n = true ∧ cls b n < 3 ∧ (n = 64 ∨ n = 32):=fun g => by
  unfold fin at g
  rw [decide_eq_true_eq] at g
  refine ⟨?_,g.2,g.1⟩
  unfold isnum
  rw [decide_eq_true_eq]
  exact ⟨g.1,by omega⟩
 have hx60 : x.mag.length < 60000000:=by omega
 have h0:=opE_zero lo hi n
 have hf0:=fe_zero n (vld x)
 have dij : decide (ij = 0) = (vsp lo hi n && vld x):=by
  rw [Bool.eq_iff_iff,decide_eq_true_eq,Bool.and_eq_true]
  exact hij0
 have djj : decide (jj = 0) = (vsp lo hi n && fin b n):=by
  rw [Bool.eq_iff_iff,decide_eq_true_eq,Bool.and_eq_true]
  exact hjj0
 have dee : decide (opE lo hi n = 0) = vsp lo hi n:=by
  rw [Bool.eq_iff_iff,decide_eq_true_eq]
  exact h0
 have hcase : opE lo hi n = 3 ∧ fs5 n true = 3 ∧ og = 3 ∧ ah = 3 ∧ ij = 3 ∧ jj = 3 ∨ opE lo hi n = 1 ∧ fs5 n true = 0 ∧ og = 0 ∧ ah = 0 ∧ ij = 1 ∧ jj = 1 ∧ decide (cls b n < 3) = true ∧ vld x = true ∨ opE lo hi n = 1 ∧ fs5 n true = 0 ∧ og = 0 ∧ ah = 7 ∧ ij = 1 ∧ jj = 1 ∧ decide (cls b n < 3) = true ∧ vld x = false ∨ opE lo hi n = 1 ∧ fs5 n true = 0 ∧ og = 6 ∧ ah = 0 ∧ ij = 1 ∧ jj = 1 ∧ decide (cls b n < 3) = false ∧ vld x = true ∨ opE lo hi n = 1 ∧ fs5 n true = 0 ∧ og = 6 ∧ ah = 7 ∧ ij = 1 ∧ jj = 1 ∧ decide (cls b n < 3) = false ∧ vld x = false ∨ opE lo hi n = 0 ∧ fs5 n true = 0 ∧ og = 0 ∧ ah = 0 ∧ ij = 0 ∧ jj = 0 ∧ decide (cls b n < 3) = true ∧ vld x = true ∨ opE lo hi n = 0 ∧ fs5 n true = 0 ∧ og = 0 ∧ ah = 7 ∧ ij = 7 ∧ jj = 0 ∧ decide (cls b n < 3) = true ∧ vld x = false ∨ opE lo hi n = 0 ∧ fs5 n true = 0 ∧ og = 6 ∧ ah = 0 ∧ ij = 0 ∧ jj = 6 ∧ decide (cls b n < 3) = false ∧ vld x = true ∨ opE lo hi n = 0 ∧ fs5 n true = 0 ∧ og = 6 ∧ ah = 7 ∧ ij = 7 ∧ jj = 6 ∧ decide (cls b n < 3) = false ∧ vld x = false:=by
  rw [hog,hah,hij,hjj]
  by_cases hn : n = 64 ∨ n = 32
  ·have e1 : opE lo hi n = if vsp lo hi n = true then 0 else 1:=by unfold opE; rw [if_pos hn]
   have e2 : nmE b n = if decide (cls b n < 3) = true then 0 else 6:=by
    unfold nmE fin
    rw [if_pos hn]
    simp [hn]
   have e3 : FE n 1 (vld x) = if vld x = true then 0 else 7:=by unfold FE; rw [if_pos hn,if_neg (by decide)]
   have e4 : fs5 n true = 0:=by unfold fs5; rw [if_pos hn,if_pos rfl]
   rw [e1,e2,e3,e4]
   generalize decide (cls b n < 3) = q1
   generalize vsp lo hi n = q2
   generalize vld x = q3
   cases q1 <;> cases q2 <;> cases q3 <;> simp
  ·have hv : vsp lo hi n = false:=by
    cases hv : vsp lo hi n
    ·rfl
    ·exact absurd (hvn hv) hn
   left
   have e1 : opE lo hi n = 3:=by unfold opE; rw [if_neg hn]
   have e2 : nmE b n = 3:=by unfold nmE; rw [if_neg hn]
   have e3 : FE n 1 (vld x) = 3:=by unfold FE; rw [if_neg hn]
   have e4 : fs5 n true = 3:=by unfold fs5; rw [if_neg hn]
   rw [hv,e1,e2,e3,e4]
   decide
 have exB : fin b n = true → ∀ u,Calls Tryz.prog 44 #[.int .i64 b,.int .i64 n] u fun e w' => ∃ v,e = .returned v ∧ RNp Top w' v (ofN b n) ∧ Kept u w':=fun g u => by
  obtain ⟨-,hc3,hn⟩:=finN g
  refine (rexact2_any b n h3.1 h3.2 hn hc3 u).mono ?_
  rintro e w' ⟨⟨v,rfl,hv⟩,k⟩
  rw [← (ofN_nrm b n hn hc3).2] at hv
  exact ⟨v,rfl,hv.imp (fun _ _ => trivial),k⟩
 refine ones_walk lo hi b n x.neg ao x.mag.length c x.exp (vsp lo hi n) (opE lo hi n) (fs5 n true) og ah ij jj (decide (cls b n < 3)) (vld x) (if vsp lo hi n = true then pz n (-keyOf hi n) else 0) (if vsp lo hi n = true then pz n (-keyOf lo n) else 0) (opE lo hi n) (if nmE b n = 0 then pz n (keyOf b n) else 0) (if nmE b n = 0 then pz n (keyOf b n) else 0) og (if FE n 1 (vld x) = 0 then pz n (kyN n 1 x) else 0) (if FE n 1 (vld x) = 0 then pz n (kyN n 2 x) else 0) ah ij jj (opE lo hi n) (vsp lo hi n && vld x && decide (keyOf lo n ≤ kyN n 1 x ∧ kyN n 2 x ≤ keyOf hi n)) (vsp lo hi n && fin b n && decide (keyOf lo n ≤ keyOf b n ∧ keyOf b n ≤ keyOf hi n)) (vsp lo hi n && decide (keyOf lo n = keyOf hi n)) (pz n (-keyOf hi n)) (pz n (-keyOf lo n)) (pz n (keyOf b n)) (pz n (keyOf b n)) (pz n (kyN n 1 x)) (pz n (kyN n 2 x)) (decide (keyOf lo n ≤ kyN n 1 x ∧ kyN n 2 x ≤ keyOf hi n)) (decide (keyOf lo n ≤ keyOf b n ∧ keyOf b n ≤ keyOf hi n)) (decide (keyOf lo n = keyOf hi n)) (Lnt x.mag) (fun G yc u u' g k => Own.kept g k) w (fun G yc u g => Own.lt g) (fun u v => RNp Top u v (ofN b n)) rfl rfl rfl (by rw [dij]) (by rw [djj]) (by rw [dee]) hcase
  (fun u k => ?_) (fun u k => rvalid5 lo hi n h1 h2 u) (fun u q r g => ?_) (fun u k => ?_) (fun u k => ?_) (fun u G yc k g => ?_) (fun u G yc k g => ?_) (fun u k => ?_) (fun u k => spoint5 lo hi n h1 h2 u) (fun u k => svalid_any lo hi n h1 h2 u) (fun u G yc k g => ?_) (fun u => rfinite_any b n h3.1 h3.2 u) (fun u k => ?_) (fun g u k => ?_) (fun g u k => ?_) (fun g u k => ?_) (fun u p1 p2 pe q r1 r2 g => ?_) (fun g u k => ?_) (fun g u k => ?_) (fun g u v k hvv => ?_) (fun g u k => ?_)
 ·refine (lentNum_any x.neg x.exp x.mag (by omega) ao c u (h.kept k)).mono ?_
  rintro e w' ⟨⟨G,yc,rfl,hG,hO⟩,kk⟩
  exact ⟨G,yc,rfl,hG,hO,kk⟩
 ·rcases g with ⟨rfl,rfl⟩ | ⟨rfl,rfl⟩
  ·rw [← hfs]
   exact first5 n _ u
  ·exact first5 n _ u
 ·cases hv : vsp lo hi n
  ·rw [if_neg (by simp),if_neg (by simp)]
   exact neg5_no lo hi n h1 h2 hv u
  ·rw [if_pos rfl,if_pos rfl,h0.2 hv]
   exact neg5_ok lo hi n h1 h2 hv u
 ·have:=sof5 b n h3 u
  rw [sp_if,← hog] at this
  rw [← hog]
  exact this
 ·have:=saround5 n x hR hx60 (some ⟨G,0,none⟩) yc u (hT.kept k) g.sl
  rw [sp_if,← hah] at this
  rw [← hah]
  exact this
 ·have:=shas5 lo hi n h1 h2 x hR hx60 (some ⟨G,0,none⟩) yc u (hT.kept k) g.sl
  rw [← hij] at this
  exact this
 ·have:=holds5_any lo hi b n h1 h2 h3 u
  rw [← hjj] at this
  exact this
 ·exact back_any x.mag (by omega) _ G yc u (h.kept k) g
 ·exact rvalid2_any x hR (by omega) _ u ⟨_,rfl,h.kept k⟩
 ·have hv:=h0.1 g
  obtain ⟨i1,i2,-⟩:=vsp_num _ _ _ hv
  exact rneg5 lo hi n h1 h2 i1 i2 u
 ·have hf:=hnm.1 (by rw [← hog]; exact g)
  exact rpoint5 b n h3 (finN hf).1 u
 ·obtain ⟨hn,hv⟩:=hf0.1 (by rw [← hah]; exact g)
  exact raround5 n hn x hv ao c hc u (h.kept k)
 ·rcases g with ⟨rfl,rfl,rfl,rfl,rfl,rfl⟩ | ⟨rfl,rfl,g3,g4,rfl,rfl⟩ | ⟨rfl,rfl,g3,g4,rfl,rfl⟩
  ·by_cases he : opE lo hi n = 0
   ·rw [if_pos he,if_pos he,if_pos (h0.1 he),if_pos (h0.1 he),he]
    exact is5_ok _ _ u
   ·rw [if_neg he,if_neg he,if_neg (fun g => he (h0.2 g)),if_neg (fun g => he (h0.2 g))]
    exact is5_bad _ (by simpa using he) _ _ u
  ·rw [g3,g4,← hog]
   by_cases he : og = 0
   ·rw [if_pos he,he]
    exact is5_ok _ _ u
   ·rw [if_neg he]
    exact is5_bad _ (by simpa using he) _ _ u
  ·rw [g3,g4,← hah]
   by_cases he : ah = 0
   ·rw [if_pos he,if_pos he,he]
    exact is5_ok _ _ u
   ·rw [if_neg he,if_neg he]
    exact is5_bad _ (by simpa using he) _ _ u
 ·exact exB (hjj0.1 g).2 u
 ·exact rhas5 lo hi n h1 h2 (hij0.1 g).1 x (hij0.1 g).2 ao c hc u (h.kept k)
 ·obtain ⟨hv,hf⟩:=hjj0.1 g
  obtain ⟨ib,hcl,hn⟩:=finN hf
  obtain ⟨ao2,c2,rfl,hr2⟩:=RNp.shape hvv
  obtain ⟨lb,-⟩:=of_both_lies b n hn h3 hcl
  obtain ⟨ka1,ka2⟩:=of_ky b n hn h3 hcl
  obtain ⟨a',c',e',hc2,hs2,-⟩:=hr2
  cases e'
  have:=rhas5 lo hi n h1 h2 hv (ofN b n) lb.ok ao2 c2 hc2 u hs2
  rw [ka1,ka2] at this
  exact this
 ·exact rsingle5 lo hi n h1 h2 (h0.1 g) u
theorem spanOnes_true (w : World) (hT : Tab w) (lo hi b n : Int) (h1 : RB lo) (h2 : RB hi) (h3 : RB b) (x : Nm) (hR : Rg x.mag) (ao : Option Addr) (c : Nat) (hc : ao = none → c = 0) (h : Sl w (.slice ao x.mag.length c) x.mag) : Calls Tryz.prog 3 #[.agg #[.int .i64 lo,.int .i64 hi],.int .i64 b,.agg #[.bool x.neg,.slice ao x.mag.length c,.int .i64 x.exp],.int .i64 n] w fun e w' => e = .returned (.bool true) ∧ Kept w w':=by
 refine spanOnes_walk lo hi b n x.neg ao x.mag.length c x.exp _ _ _ rfl rfl rfl w (fun u k => alive5 u (hT.kept k)) (fun g u k => spanOnes_at lo hi b n h1 h2 h3 x hR ?_ ao c hc u (hT.kept k) (h.kept k))
 simp only [Bool.or_eq_false_iff,decide_eq_false_iff_not] at g
 omega
end Go.Proofs.YtdhimkpfnhoagaaGreatDoor
namespace Go.Proofs.YtdhimkpfnhoagaaGreatDoor
open Go.ChangeShapes Go.WideShapes Go.ChangeAt Go.RowKit Go.Joins
set_option linter.unusedVariables false
set_option linter.unusedSimpArgs false
set_option maxHeartbeats 16000000
set_option maxRecDepth 100000
theorem laid_out : laidOutB Tryz.prog = true:=by kernel_rfl
theorem cells_num : Tryz.prog.cellsOf 26 = 3:=by kernel_rfl
theorem cells_int : Tryz.prog.cellsOf 3 = 1:=by kernel_rfl
theorem wf_rng (n : Int) (h : (Lit.int .i64 n).wf = true) : -9223372036854775808 ≤ n ∧ n ≤ 9223372036854775807:=by
 have e1 : IntKind.i64.min = -9223372036854775808:=rfl
 have e2 : IntKind.i64.max = 9223372036854775807:=rfl
 simp [Lit.wf] at h
 omega
section
variable {H : Type} {enc : TypeId × Value → H} {W : World}
theorem open_lst {fuel : Nat} {cs : List Value} {x : DataW H × List MemPlace} (h : DataW.trod enc Tryz.prog W 0 (fun _ => true) true fuel 24 cs = some x) :
  ∃ (L : List Int) (ar : Option Addr) (cr : Nat),cs = [.slice ar L.length cr] ∧ (ar = none → cr = 0) ∧ Rg L ∧ Sl W (.slice ar L.length cr) L:=by
 rcases open_ints Tryz.underlying24 Tryz.underlying3 cells_int h with ⟨rfl,-⟩ | ⟨a,len,cap,zs,rfl,-,hl,hm,hz,-,hcell,hwf⟩
 ·exact ⟨[],none,0,rfl,fun _ => rfl,fun d hd => (by cases hd),none,0,rfl,Nat.le_refl _,by simp [maxLen],fun h => absurd rfl h⟩
 ·have hlen : (zs.take len).length = len:=by
   rw [List.length_take,hz]
   simp
   omega
  refine ⟨zs.take len,some a,cap,by rw [hlen],fun h => (by cases h),fun d hd => wf_rng d (hwf d (List.mem_of_mem_take hd)),some a,cap,by rw [hlen],by rw [hlen]; exact hl,hm,fun hne => ?_⟩
  have hpos : 0 < len:=by
   rcases Nat.eq_zero_or_pos len with h0 | h0
   ·subst h0; simp at hne
   ·exact h0
  have hzl : len ≤ zs.length:=by rw [hz]; simp; omega
  have h0:=hcell 0 (by omega)
  have hs:=World.cell?_spot h0
  have hb:=World.block_lt_of_cell? W _ h0
  obtain ⟨ab,ao,asp⟩:=a
  simp [Addr.add] at hs hb
  subst hs
  refine ⟨ab,ao,rfl,hb,fun i hi => ?_⟩
  rw [hlen] at hi
  have:=hcell i (by omega)
  rw [Addr.add_lit] at this
  rw [this,List.getD_eq_getElem?_getD,List.getD_eq_getElem?_getD,List.getElem?_take,if_pos hi]
theorem open_num {b0 : Nat} {v : Value} {d : DataW H} {p : List MemPlace} (hv : Value.okWide Tryz.prog W .any b0 26 v) (h : DataW.Trod enc Tryz.prog W 0 (fun _ => true) true 26 v d p) :
  ∃ (ng : Bool) (L : List Int) (x : Int) (ar : Option Addr) (cr : Nat),v = .agg #[.bool ng,.slice ar L.length cr,.int .i64 x] ∧ (ar = none → cr = 0) ∧ Rg L ∧ Sl W (.slice ar L.length cr) L ∧ (Lit.int .i64 x).wf = true:=by
 obtain ⟨v0,v1,v2,y0,y1,y2,n,rfl,-,-,h0,h1,h2⟩:=open_agg3 Tryz.underlying26 (by kernel_rfl) cells_num hv h
 obtain ⟨ng,e0,-⟩:=DataW.trod_bool Tryz.underlying4 h0
 obtain ⟨L,ar,cr,e1,hc,hR,hS⟩:=open_lst h1
 obtain ⟨x,e2,-,wx⟩:=DataW.trod_int Tryz.underlying3 h2
 simp only [List.cons.injEq,and_true] at e0 e1 e2
 subst e0 e1 e2
 exact ⟨ng,L,x,ar,cr,rfl,hc,hR,hS,wx⟩
theorem trodAll_stays {W' : World} {sp : Nat → Bool} : ∀ {ts : List TypeId} {vs : List Value} {ds : List (DataW H)} {p : List MemPlace},(∀ t ∈ ts,Tryz.prog.readableRec t = true ∧ t < Tryz.prog.types.size) → DataW.TrodAll enc Tryz.prog W 0 (fun _ => true) true ts vs ds p → (∀ x ∈ p,W.sameAt W' x) → (∀ x ∈ p,sp x.block = true) → DataW.TrodAll enc Tryz.prog W' 0 sp true ts vs ds p
 | [],_,_,_,_,h,_,_ => by
  obtain ⟨rfl,rfl,rfl⟩:=trodAll_nil h
  exact trodAll_mk0
 | t :: ts,_,_,_,hr,h,hs,hp => by
  obtain ⟨v,vs1,d,ds1,a,b,rfl,rfl,rfl,h1,h2⟩:=trodAll_cons h
  obtain ⟨r1,r2⟩:=hr t (by simp)
  exact trodAll_cons_mk (WideElems.Trod_stays laid_out r1 r2 h1 (fun x hx => hs x (by simp [hx])) (fun x hx => hp x (by simp [hx]))) (trodAll_stays (fun t' ht' => hr t' (by simp [ht'])) h2 (fun x hx => hs x (by simp [hx])) (fun x hx => hp x (by simp [hx])))
end
theorem cells_span : Tryz.prog.cellsOf 23 = 2:=by kernel_rfl
section
variable {H : Type} {enc : TypeId × Value → H} {W : World}
theorem open_span {b0 : Nat} {v : Value} {d : DataW H} {p : List MemPlace} (hv : Value.okWide Tryz.prog W .any b0 23 v) (h : DataW.Trod enc Tryz.prog W 0 (fun _ => true) true 23 v d p) :
  ∃ (a b : Int),v = .agg #[.int .i64 a,.int .i64 b] ∧ (-9223372036854775808 ≤ a ∧ a ≤ 9223372036854775807) ∧ (-9223372036854775808 ≤ b ∧ b ≤ 9223372036854775807):=by
 obtain ⟨v0,v1,y0,y1,n,rfl,-,-,h0,h1⟩:=open_agg2 Tryz.underlying23 (by kernel_rfl) cells_span hv h
 obtain ⟨a,e0,-,wa⟩:=DataW.trod_int Tryz.underlying3 h0
 obtain ⟨b,e1,-,wb⟩:=DataW.trod_int Tryz.underlying3 h1
 simp only [List.cons.injEq,and_true] at e0 e1
 subst e0 e1
 exact ⟨a,b,rfl,wf_rng a wa,wf_rng b wb⟩
end
end Go.Proofs.YtdhimkpfnhoagaaGreatDoor
