/- The document's reader: a matrix. -/
import Derived.Test.YtocjfdiimapojaaMJ
namespace Go.Proofs.Ytocjfdiimapojaa
open Go.ChangeShapes Go.WideShapes Go.ChangeAt Go.RowKit
set_option maxHeartbeats 16000000
set_option maxRecDepth 100000
set_option linter.unusedVariables false
set_option linter.unusedSimpArgs false
theorem pnum_congr {k : Nat} {f g : Int → Bool} (B : List Int) (q : Nat) (h : f (numv k B q) = g (numv k B q)) : pnum k f B q = pnum k g B q:=by
 unfold pnum
 rw [h]
theorem ckS_betw {r c n : Int} (hn : n = 64 ∨ n = 32) (hr : 1 ≤ r) : (ckS r c n == 0) = betw 1 (Int.tdiv 4096 r) c:=by
 have hq : Int.tdiv 4096 r = 4096 / r:=Int.tdiv_eq_ediv_of_nonneg (by decide)
 by_cases hc : 1 ≤ c
 ·have h1 : (c ≤ 4096 / r) ↔ (r ≤ 4096 / c):=by
   rw [Int.le_ediv_iff_mul_le (by omega),Int.le_ediv_iff_mul_le (by omega),Int.mul_comm]
  unfold ckS ckR betw
  rw [if_neg (fun h => h hn),if_neg (by omega),hq,Int.tdiv_eq_ediv_of_nonneg (by decide)]
  by_cases h2 : r ≤ 4096 / c
  ·rw [if_neg (by omega),decide_eq_true (show 1 ≤ c ∧ c ≤ 4096 / r from ⟨hc,h1.2 h2⟩)]; rfl
  ·rw [if_pos (by omega),decide_eq_false (show ¬ (1 ≤ c ∧ c ≤ 4096 / r) from fun h => h2 (h1.1 h.2))]; rfl
 ·unfold ckS betw
  rw [if_neg (fun h => h hn),if_pos (by omega),decide_eq_false (fun h => hc h.1)]; rfl
theorem KX.shrinkR {X Y : Nat → Prop} {a b : World} (h : KX X a b) (k : ∀ i,i < a.heap.size → X i → Y i) : KX Y a b:=⟨h.os,h.tape,h.output,h.size,fun i hi hn => h.block i hi (fun hx => hn (k i hi hx)),h.frozen⟩
/-- Any matrix value. -/
def AnyM (_ : World) (v : Value) : Prop:=∃ r c n ao l cp,v = .agg #[.int .i64 r,.int .i64 c,.int .i64 n,.slice ao l cp]
/-- A matrix that was read: its bits lie in a block of their own. -/
def RdM (H : Nat) (m : Mat) (w : World) (v : Value) : Prop:=∃ g C,v = .agg #[.int .i64 m.r,.int .i64 m.c,.int .i64 m.n,.slice (some ⟨g,0,none⟩) m.L.length C] ∧ H ≤ g ∧ OwnS w g C 1 3 (m.L.map (Value.int .i64))
theorem RdP.no {α : Type} {R : Nat} {ao : Option Addr} {B : List Int} {cap : Nat} {pl er p : Int} {x : Res α} {P : α → World → Value → Prop} {N : World → Value → Prop} {e : Ending} {w' : World} (hx : x = .no er p) (h : er ≠ 0 ∧ ∃ v,e = .returned v ∧ N w' v ∧ ∃ q2,RQ w' R ao B cap q2 er p) : RdP R ao B cap pl x P N e w':=by rw [hx]; exact h
theorem bits_app (H : Nat) (w : World) (av : Option Addr) (j c : Nat) (acc : List Int) (hM : MS 1 3 H w (.slice av j c) j (acc.map (Value.int .i64))) (hH : H ≤ w.heap.size) (hj : j < 10000000) (x : Int) :
  ∃ av2 c2 w',(∀ ty,(Builtin.append_ #[52,52] ty #[.slice av j c,.slice (some ⟨w.heap.size,0,none⟩) 1 1]).run Try.prog (w.alloc (.cells #[.int .i64 x] 3)) = .ok (.slice av2 (j + 1) c2) w') ∧ MS 1 3 H w' (.slice av2 (j + 1) c2) (j + 1) ((acc ++ [x]).map (Value.int .i64)) ∧ KX (fun b => H ≤ b) w w':=by
 obtain ⟨v',w',hr,hm,hk⟩:=app_elemx 52 3 li_under (.int .i64 0) 1 8 int_info rfl (by decide) H w _ j _ hM [.int .i64 x] rfl (fun u hu => by rw [List.mem_singleton.1 hu]; rfl) hH hj
 obtain ⟨av2,c2,rfl⟩:=hm.form
 refine ⟨av2,c2,w',hr,by rw [List.map_append]; exact hm,hk.mono fun b ⟨n,c3,e⟩ => ?_⟩
 rcases hM with ⟨-,-,e2⟩ | ⟨g2,cap,e2,hg2,-⟩
 ·rw [e] at e2; cases e2
 ·rw [e] at e2; cases e2; exact hg2
theorem pel_ok {n : Int} {kk : Nat} (hn : n = 64 ∨ n = 32) (hk : (Int.tdiv n 8).toNat = kk) (B : List Int) (q : Nat) : (q + kk ≤ B.length → cls (numv kk B q) n < 3 → pel n B q = .ok (numv kk B q) (q + kk)) ∧ (q + kk ≤ B.length → ¬ cls (numv kk B q) n < 3 → pel n B q = .no 51 q) ∧ (B.length < q + kk → pel n B q = .no 50 B.length):=by
 unfold pel pnum
 rw [hk]
 refine ⟨fun h1 h2 => ?_,fun h1 h2 => ?_,fun h1 => ?_⟩
 ·rw [if_pos h1,if_pos (by show fin (numv kk B q) n = true; rw [fin_val _ _ hn]; exact decide_eq_true h2)]
 ·rw [if_pos h1,if_neg (by show ¬ fin (numv kk B q) n = true; rw [fin_val _ _ hn]; simpa using h2)]
 ·rw [if_neg (by omega)]
theorem numv_rng (k : Nat) (B : List Int) (q : Nat) : -9223372036854775808 ≤ numv k B q ∧ numv k B q ≤ 9223372036854775807:=by
 unfold numv
 rw [wrap_i64]
 omega
theorem rrmat_any (R : Nat) (ao : Option Addr) (B : List Int) (cap q : Nat) (pl : Int) (hB : Byt B) (hlen : B.length ≤ 100000000) (u : World) (h : RQ u R ao B cap q 0 pl) : Calls Try.prog 35 #[.pointer (some ⟨R,0,none⟩)] u fun x w' => KX (fun b => b = R) u w' ∧ RdP R ao B cap pl (pmat B q) (RdM u.heap.size) AnyM x w':=by
 have hRl:=h.bk.lt
 obtain ⟨M,hM⟩ : ∃ M,u.heap.size = M:=⟨_,rfl⟩
 rw [hM] at hRl ⊢
 have HX : Hid (∀ X,X = pmat B q → X = (pnum 1 (fun n => val 0 n) B q).andTo fun n q1 => (pnum 2 (fun r => decide (r > 0)) B q1).andTo fun r q2 => (pnum 2 (fun c => ckS r c n == 0) B q2).andTo fun c q3 => (prep (r * c).toNat (pel n) B q3).andTo fun L q4 => .ok ⟨r,c,n,L⟩ q4):=fun X hX => hX
 obtain ⟨X,hXe⟩ : ∃ X,X = pmat B q:=⟨_,rfl⟩
 have hX:=HX.out X hXe
 rw [← hXe]
 clear HX hXe
 obtain ⟨W0,hW0⟩ : ∃ W0,u.alloc (.cells #[.int .i64 0,.int .i64 0,.int .i64 0,.slice none 0 0] 54) = W0:=⟨_,rfl⟩
 have k0 : Kept u W0:=by rw [← hW0]; exact (Kept.refl u).alloc _ _
 have bz : Bk W0 M [.int .i64 0,.int .i64 0,.int .i64 0,.slice none 0 0]:=by rw [← hW0,← hM]; exact Bk.new u _ _
 have h0:=h.kept k0
 have HG1:=hid (rget_any R ao B cap q pl hB hlen 1 (by decide) (by decide) W0 h0)
 have HBZ:=hid bz
 have HK0:=hid k0
 have HAo : Hid (B ≠ [] → ∀ b off,ao = some ⟨b,off,none⟩ → b < M):=fun hne b off e => by
  obtain ⟨b2,off2,e2,-,h2,-⟩:=h.rd hne
  rw [e] at e2; cases e2; omega
 have HM:=hid (show u.heap.size = M ∧ R < M from ⟨hM,hRl⟩)
 have HBy:=hid hB
 have HLen:=hid hlen
 have c1:=h0.bk.c 1 _ rfl
 clear bz k0 h0 h hB hlen hRl
 have hX1:=hid hX
 clear hX
 have HZ:=hid (show ∀ (q2 : Nat) (er p : Int) (w : World),er ≠ 0 → KX (fun b => b = R) W0 w → RQ w R ao B cap q2 er p → X = .no er p → KX (fun b => b = R) u (((((w.setCell ⟨M,0,none⟩ (.int .i64 0)).setCell ⟨M,1,none⟩ (.int .i64 0)).setCell ⟨M,2,none⟩ (.int .i64 0)).setCell ⟨M,3,none⟩ (.slice none 0 0))) ∧ RdP R ao B cap pl X (RdM M) AnyM (.returned (.agg #[.int .i64 0,.int .i64 0,.int .i64 0,.slice none 0 0])) ((((w.setCell ⟨M,0,none⟩ (.int .i64 0)).setCell ⟨M,1,none⟩ (.int .i64 0)).setCell ⟨M,2,none⟩ (.int .i64 0)).setCell ⟨M,3,none⟩ (.slice none 0 0)) from fun q2 er p w her kx hr hx => by
  have ks : KX (fun b => b = M) w ((((w.setCell ⟨M,0,none⟩ (.int .i64 0)).setCell ⟨M,1,none⟩ (.int .i64 0)).setCell ⟨M,2,none⟩ (.int .i64 0)).setCell ⟨M,3,none⟩ (.slice none 0 0)):=(((((Grw.refl M w).setCell 0 _).setCell 1 _).setCell 2 _).setCell 3 _).kx
  refine ⟨((((HK0.out.kx _).trans kx).mono (Y:=fun b => b = R ∨ b = M) fun b hb => .inl hb).trans (ks.mono fun b hb => .inr hb)).shrinkR fun i hi hx => hx.resolve_right (by have:=HM.out.1; omega),RdP.no hx ⟨her,_,rfl,⟨_,_,_,_,_,_,rfl⟩,q2,hr.kx ks (by have:=HM.out.2; omega) (fun hne b off e hb => by have:=HAo.out hne b off e; omega)⟩⟩)
 go_enter Try.func35,Try.ntmps35
 go_wp2_with fail
 (try rw [hW0])
 go_at_call 32
 refine HG1.out.mono ?_
 rintro e w1 ⟨kx1,hg⟩
 have KX1:=hid kx1
 clear c1 kx1 hW0 hM
 rcases (show _ ∨ _ from hg) with ⟨hle,rfl,hr⟩ | ⟨hlt,rfl,hr⟩
 case inr =>
  have hx : X = .no 50 B.length:=by rw [hX1.out]; unfold pnum; rw [if_neg (by omega)]; rfl
  have HXn:=hid hx
  clear hg hlt hx
  have c2:=hr.bk.c 2 _ rfl
  have HWe:=hid (rwant_err R ao B cap _ _ _ (by decide) 2 1 65535 w1 hr)
  have HR:=hid hr
  clear hr
  go_wp2_with fail
  go_at_call 34
  refine HWe.out.mono ?_
  rintro e w2 ⟨rfl,k2⟩
  obtain ⟨W3,hW3⟩ : ∃ W3,w2.alloc (.cells #[.int .i64 0,.int .i64 0,.int .i64 0,.slice none 0 0] 54) = W3:=⟨_,rfl⟩
  have k3 : Kept w1 W3:=by rw [← hW3]; exact k2.trans ((Kept.refl w2).alloc _ _)
  have HW3:=hid hW3
  have HR3:=hid (HR.out.kept k3)
  have KX3:=hid (KX1.out.trans (k3.kx _))
  clear c2
  have c2 : (w2.alloc (.cells #[.int .i64 0,.int .i64 0,.int .i64 0,.slice none 0 0] 54)).cell? ⟨R,2,none⟩ = some (.int .i64 50):=by rw [hW3]; exact HR3.out.bk.c 2 _ rfl
  have m0 : (w2.alloc (.cells #[.int .i64 0,.int .i64 0,.int .i64 0,.slice none 0 0] 54)).cell? ⟨M,0,none⟩ = some (.int .i64 0) ∧ (w2.alloc (.cells #[.int .i64 0,.int .i64 0,.int .i64 0,.slice none 0 0] 54)).cell? ⟨M,1,none⟩ = some (.int .i64 0) ∧ (w2.alloc (.cells #[.int .i64 0,.int .i64 0,.int .i64 0,.slice none 0 0] 54)).cell? ⟨M,2,none⟩ = some (.int .i64 0) ∧ (w2.alloc (.cells #[.int .i64 0,.int .i64 0,.int .i64 0,.slice none 0 0] 54)).cell? ⟨M,3,none⟩ = some (.slice none 0 0) ∧ ∀ o,(w2.alloc (.cells #[.int .i64 0,.int .i64 0,.int .i64 0,.slice none 0 0] 54)).frozen? ⟨M,o,none⟩ = false:=by
   rw [hW3]
   have b:=HBZ.out.kx KX3.out (by have:=HM.out.2; omega)
   exact ⟨b.c 0 _ rfl,b.c 1 _ rfl,b.c 2 _ rfl,b.c 3 _ rfl,b.fz⟩
  obtain ⟨m0,m1,m2,m3,mf⟩:=m0
  clear k2 k3 hW3
  go_wp2_with fail
  refine bodyPost_ret (v:=.agg #[.int .i64 0,.int .i64 0,.int .i64 0,.slice none 0 0]) (by simp [results,Try.results35,go_sem,m0,m1,m2,m3]) rfl ?_
  rw [HW3.out]
  exact HZ.out _ _ _ W3 (by decide) KX3.out HR3.out HXn.out
 obtain ⟨n,hn⟩ : ∃ n,numv 1 B q = n:=⟨_,rfl⟩
 have hX2 : X = (if val 0 n = true then (Res.ok n (q + 1) : Res Int) else .no 51 q).andTo fun n q1 => (pnum 2 (fun r => decide (r > 0)) B q1).andTo fun r q2 => (pnum 2 (fun c => ckS r c n == 0) B q2).andTo fun c q3 => (prep (r * c).toNat (pel n) B q3).andTo fun L q4 => .ok ⟨r,c,n,L⟩ q4:=by
  rw [hX1.out]
  congr 1
  unfold pnum
  rw [if_pos hle,hn]
 rw [hn]
 by_cases hnv : n = 64 ∨ n = 32
 case neg =>
  have hx : X = .no 51 (q : Int):=by rw [hX2,if_neg (by rw [val_0]; simpa using hnv)]; rfl
  have HXn:=hid hx
  have n1 : ¬ n = 32:=fun e => hnv (.inr e)
  have n2 : ¬ n = 64:=fun e => hnv (.inl e)
  have d1 : (n == 32) = false:=by simpa using n1
  have d2 : (n == 64) = false:=by simpa using n2
  have d3 : (n != 32) = true:=by simpa using n1
  have d4 : (n != 64) = true:=by simpa using n2
  have c2:=hr.bk.c 2 _ rfl
  have HBd:=hid (rbad_any R ao B cap (q + 1) 0 pl 51 (q : Int) w1 hr)
  clear hg hle hx hX2 hr hnv hn
  go_wp2_with fail
  go_at_call 33
  refine HBd.out.mono ?_
  rintro e w1b ⟨rfl,kxb,hr,-⟩
  have hr:=hr (by first | rfl | trivial)
  have KX1:=hid (KX1.out.trans kxb)
  clear kxb c2 n1 n2 d1 d2 d3 d4
  have c2:=hr.bk.c 2 _ rfl
  have HWe:=hid (rwant_err R ao B cap _ _ _ (by decide) 2 1 65535 w1b hr)
  have HR:=hid hr
  clear hr
  go_wp2_with fail
  go_at_call 34
  refine HWe.out.mono ?_
  rintro e w2 ⟨rfl,k2⟩
  obtain ⟨W3,hW3⟩ : ∃ W3,w2.alloc (.cells #[.int .i64 0,.int .i64 0,.int .i64 n,.slice none 0 0] 54) = W3:=⟨_,rfl⟩
  have k3 : Kept w1b W3:=by rw [← hW3]; exact k2.trans ((Kept.refl w2).alloc _ _)
  have HW3:=hid hW3
  have HR3:=hid (HR.out.kept k3)
  have KX3:=hid (KX1.out.trans (k3.kx _))
  clear c2
  have c2 : (w2.alloc (.cells #[.int .i64 0,.int .i64 0,.int .i64 n,.slice none 0 0] 54)).cell? ⟨R,2,none⟩ = some (.int .i64 51):=by rw [hW3]; exact HR3.out.bk.c 2 _ rfl
  have m0 : (w2.alloc (.cells #[.int .i64 0,.int .i64 0,.int .i64 n,.slice none 0 0] 54)).cell? ⟨M,0,none⟩ = some (.int .i64 0) ∧ (w2.alloc (.cells #[.int .i64 0,.int .i64 0,.int .i64 n,.slice none 0 0] 54)).cell? ⟨M,1,none⟩ = some (.int .i64 0) ∧ (w2.alloc (.cells #[.int .i64 0,.int .i64 0,.int .i64 n,.slice none 0 0] 54)).cell? ⟨M,2,none⟩ = some (.int .i64 0) ∧ (w2.alloc (.cells #[.int .i64 0,.int .i64 0,.int .i64 n,.slice none 0 0] 54)).cell? ⟨M,3,none⟩ = some (.slice none 0 0) ∧ ∀ o,(w2.alloc (.cells #[.int .i64 0,.int .i64 0,.int .i64 n,.slice none 0 0] 54)).frozen? ⟨M,o,none⟩ = false:=by
   rw [hW3]
   have b:=HBZ.out.kx KX3.out (by have:=HM.out.2; omega)
   exact ⟨b.c 0 _ rfl,b.c 1 _ rfl,b.c 2 _ rfl,b.c 3 _ rfl,b.fz⟩
  obtain ⟨m0,m1,m2,m3,mf⟩:=m0
  clear k2 k3 hW3
  go_wp2_with fail
  refine bodyPost_ret (v:=.agg #[.int .i64 0,.int .i64 0,.int .i64 0,.slice none 0 0]) (by simp [results,Try.results35,go_sem,m0,m1,m2,m3]) rfl ?_
  rw [HW3.out]
  exact HZ.out _ _ _ W3 (by decide) KX3.out HR3.out HXn.out
 have HX2:=hid (show X = (pnum 2 (fun r => decide (r > 0)) B (q + 1)).andTo fun r q2 => (pnum 2 (fun c => ckS r c n == 0) B q2).andTo fun c q3 => (prep (r * c).toNat (pel n) B q3).andTo fun L q4 => .ok ⟨r,c,n,L⟩ q4 by rw [hX2,if_pos (by rw [val_0]; simpa using hnv)]; rfl)
 have HNv:=hid hnv
 have dn : (n != 32 && n != 64) = false:=by rcases hnv with e | e <;> simp [e]
 have c2:=hr.bk.c 2 _ rfl
 have HW:=hid (rwant_any R ao B cap (q + 1) pl HBy.out HLen.out 2 (by decide) (by decide) 1 65535 w1 hr)
 rw [pnum_congr (g:=fun r => decide (r > 0)) B (q + 1) (by
  have:=un_nn 2 B (q + 1) HBy.out
  have e2 : (256 : Int) ^ 2 = 65536:=by decide
  unfold betw numv
  rw [wrap_i64]
  by_cases h0 : un 2 B (q + 1) > 0
  ·rw [decide_eq_true (by omega),decide_eq_true (by omega)]
  ·rw [decide_eq_false (by omega),decide_eq_false (by omega)])] at HW
 clear hg hle hX2 hr hnv hn
 have HXr:=hid (show ∀ er p,pnum 2 (fun r => decide (r > 0)) B (q + 1) = .no er p → X = .no er p from fun er p hh => by rw [HX2.out,hh]; rfl)
 rcases HNv.out with e64 | e64
 ·skip
  subst e64
  clear dn HNv
  go_wp2_with fail
  go_at_call 34
  refine HW.out.mono ?_
  rintro e w2 ⟨kx2,hrd⟩
  have KX2:=hid (KX1.out.trans kx2)
  clear kx2 c2 HW
  rcases hx1 : pnum 2 (fun r => decide (r > 0)) B (q + 1) with ⟨er,p⟩ | ⟨r,q2⟩
  ·rw [hx1] at hrd
   obtain ⟨her,v,rfl,rfl,q9,hr⟩:=hrd
   have HXn:=hid (HXr.out er p hx1)
   have hern : (er == 0) = false:=by simpa using her
   have hern2 : (er != 0) = true:=by simpa using her
   have HEr:=hid her
   clear hx1 her HXr HX2
   obtain ⟨W3,hW3⟩ : ∃ W3,w2.alloc (.cells #[.int .i64 0,.int .i64 0,.int .i64 64,.slice none 0 0] 54) = W3:=⟨_,rfl⟩
   have k3 : Kept w2 W3:=by rw [← hW3]; exact (Kept.refl w2).alloc _ _
   have HR3:=hid (hr.kept k3)
   have KX3:=hid (KX2.out.trans (k3.kx _))
   have HW3:=hid hW3
   have c2 : (w2.alloc (.cells #[.int .i64 0,.int .i64 0,.int .i64 64,.slice none 0 0] 54)).cell? ⟨R,2,none⟩ = some (.int .i64 er):=by rw [hW3]; exact HR3.out.bk.c 2 _ rfl
   have mm : (w2.alloc (.cells #[.int .i64 0,.int .i64 0,.int .i64 64,.slice none 0 0] 54)).cell? ⟨M,0,none⟩ = some (.int .i64 0) ∧ (w2.alloc (.cells #[.int .i64 0,.int .i64 0,.int .i64 64,.slice none 0 0] 54)).cell? ⟨M,1,none⟩ = some (.int .i64 0) ∧ (w2.alloc (.cells #[.int .i64 0,.int .i64 0,.int .i64 64,.slice none 0 0] 54)).cell? ⟨M,2,none⟩ = some (.int .i64 0) ∧ (w2.alloc (.cells #[.int .i64 0,.int .i64 0,.int .i64 64,.slice none 0 0] 54)).cell? ⟨M,3,none⟩ = some (.slice none 0 0) ∧ ∀ o,(w2.alloc (.cells #[.int .i64 0,.int .i64 0,.int .i64 64,.slice none 0 0] 54)).frozen? ⟨M,o,none⟩ = false:=by
    rw [hW3]
    have b:=HBZ.out.kx KX3.out (by have:=HM.out.2; omega)
    exact ⟨b.c 0 _ rfl,b.c 1 _ rfl,b.c 2 _ rfl,b.c 3 _ rfl,b.fz⟩
   obtain ⟨m0,m1,m2,m3,mf⟩:=mm
   clear k3 hr hW3
   go_wp2_with fail
   refine bodyPost_ret (v:=.agg #[.int .i64 0,.int .i64 0,.int .i64 0,.slice none 0 0]) (by simp [results,Try.results35,go_sem,m0,m1,m2,m3]) rfl ?_
   rw [HW3.out]
   exact HZ.out _ _ _ W3 HEr.out KX3.out HR3.out HXn.out
  ·rw [hx1] at hrd
   obtain ⟨v,rfl,rfl,hr⟩:=hrd
   have HX3:=hid (show X = (pnum 2 (fun c => ckS r c 64 == 0) B q2).andTo fun c q3 => (prep (r * c).toNat (pel 64) B q3).andTo fun L q4 => .ok ⟨r,c,64,L⟩ q4 by rw [HX2.out,hx1]; rfl)
   have hr1 : 1 ≤ r:=by have h9:=(pnum_ok hx1).2.1; simp at h9; omega
   have hr2 : r ≤ 65535:=by
    have h9:=(pnum_ok hx1).1
    have h8:=un_nn 2 B (q + 1) HBy.out
    have e2 : (256 : Int) ^ 2 = 65536:=by decide
    rw [h9]
    unfold numv
    rw [wrap_i64]
    omega
   clear hx1 HXr HX2
   obtain ⟨M5,hM5⟩ : ∃ M5,w2.heap.size = M5:=⟨_,rfl⟩
   obtain ⟨hi,hhi⟩ : ∃ hi,Int.tdiv 4096 r = hi:=⟨_,rfl⟩
   have hdv : 4096 / r = hi:=by rw [← hhi,Int.tdiv_eq_ediv_of_nonneg (by decide)]
   have hhr : 0 ≤ hi ∧ hi ≤ 4096:=by
    rw [← hdv]
    exact ⟨Int.ediv_nonneg (by decide) (by omega),Int.ediv_le_self _ (by decide)⟩
   have zhi : IntKind.i64.wrap hi = hi:=by rw [wrap_i64]; omega
   have r0 : (r == 0) = false:=by simp; omega
   have r00 : ¬ r = 0:=by omega
   have rm1 : ¬ r = -1:=by omega
   obtain ⟨W3,hW3⟩ : ∃ W3,(w2.alloc (.cells #[.int .i64 r,.int .i64 0,.int .i64 64,.slice none 0 0] 54)) = W3:=⟨_,rfl⟩
   have k3 : Kept w2 W3:=by rw [← hW3]; exact (Kept.refl w2).alloc _ _
   have b5 : Bk W3 M5 [.int .i64 r,.int .i64 0,.int .i64 64,.slice none 0 0]:=by rw [← hW3,← hM5]; exact Bk.new w2 _ _
   have HR3:=hid (hr.kept k3)
   have KX3:=hid (KX2.out.trans (k3.kx _))
   have HW3:=hid hW3
   have HB5:=hid b5
   have hM5M : M < M5:=by have:=(HBZ.out.kx KX2.out (by have:=HM.out.2; omega)).lt; omega
   have HMM:=hid hM5M
   have c2 : (w2.alloc (.cells #[.int .i64 r,.int .i64 0,.int .i64 64,.slice none 0 0] 54)).cell? ⟨R,2,none⟩ = some (.int .i64 0):=by rw [hW3]; exact HR3.out.bk.c 2 _ rfl
   have b0 : (w2.alloc (.cells #[.int .i64 r,.int .i64 0,.int .i64 64,.slice none 0 0] 54)).cell? ⟨M5,0,none⟩ = some (.int .i64 r):=by rw [hW3]; exact b5.c 0 _ rfl
   have HW4:=hid (rwant_any R ao B cap q2 pl HBy.out HLen.out 2 (by decide) (by decide) 1 hi (w2.alloc (.cells #[.int .i64 r,.int .i64 0,.int .i64 64,.slice none 0 0] 54)) (by rw [hW3]; exact HR3.out))
   rw [pnum_congr (g:=fun c => ckS r c 64 == 0) B q2 (by rw [ckS_betw (by decide) hr1,hhi])] at HW4
   clear k3 b5 hr hW3 hdv hhr hM5M hr2
   go_wp2_with fail
   go_at_call 34
   refine HW4.out.mono ?_
   rintro e w4 ⟨kx4,hrd⟩
   rw [HW3.out] at kx4
   have KX4:=hid (KX3.out.trans kx4)
   have hb5:=HB5.out.kx kx4 (by have:=HMM.out; have:=HM.out.2; omega)
   have HBZ4:=hid (HBZ.out.kx KX4.out (by have:=HM.out.2; omega))
   clear kx4 c2 b0 HW4
   rcases hx2 : pnum 2 (fun c => ckS r c 64 == 0) B q2 with ⟨er,p⟩ | ⟨c,q3⟩
   ·rw [hx2] at hrd
    obtain ⟨her,v,rfl,rfl,q9,hr⟩:=hrd
    have HXn:=hid (show X = .no er p by rw [HX3.out,hx2]; rfl)
    have hern : (er == 0) = false:=by simpa using her
    have HEr:=hid her
    obtain ⟨w5,hw5⟩ : ∃ w5,w4.setCell ⟨M5,1,none⟩ (.int .i64 0) = w5:=⟨_,rfl⟩
    have ks5 : KX (fun b => b = M5) w4 w5:=by rw [← hw5]; exact ((Grw.refl M5 w4).setCell _ _).kx
    have hb55 : Bk w5 M5 [.int .i64 r,.int .i64 0,.int .i64 64,.slice none 0 0]:=by rw [← hw5]; exact hb5.set 1 _
    have HR5:=hid (hr.kx ks5 (by have:=HMM.out; have:=HM.out.2; omega) (fun hne b off e hb => by have:=HAo.out hne b off e; have:=HMM.out; omega))
    have hz5:=HBZ4.out.kx ks5 (by have:=HMM.out; omega)
    have KX5:=hid (((KX4.out.mono (Y:=fun b => b = R ∨ M ≤ b) fun b hb => .inl hb).trans (ks5.mono fun b hb => .inr (by have:=HMM.out; omega))))
    have c2:=HR5.out.bk.c 2 _ rfl
    obtain ⟨a0,a1,a2,a3⟩ : _ ∧ _ ∧ _ ∧ _:=⟨hb55.c 0 _ rfl,hb55.c 1 _ rfl,hb55.c 2 _ rfl,hb55.c 3 _ rfl⟩
    obtain ⟨m0,m1,m2,m3,mf⟩ : _ ∧ _ ∧ _ ∧ _ ∧ _:=⟨hz5.c 0 _ rfl,hz5.c 1 _ rfl,hz5.c 2 _ rfl,hz5.c 3 _ rfl,hz5.fz⟩
    have e1:=hb5.c 1 _ rfl
    have ef:=hb5.fz
    have HK5:=hid hb55
    have HZ5:=hid hz5
    clear hx2 her HX3 hb5 hb55 hz5 hr ks5
    go_wp2_with fail
    (try rw [hw5])
    clear a0 a1 a2 a3 m0 m1 m2 m3 mf c2 e1 ef hw5
    go_loopw [6] (fun iv wr => iv = .int .i64 0 ∧ Kept w5 wr) (fun iv _ => 0)
    case atStart => exact ⟨rfl,Kept.refl _⟩
    case round =>
     obtain ⟨rfl,kr⟩:=hrel
     have HRr:=hid (HR5.out.kept kr)
     have KXr:=hid (KX5.out.trans (kr.kx _))
     have c2:=HRr.out.bk.c 2 _ rfl
     have hb:=HK5.out.kept kr
     have hz:=HZ5.out.kept kr
     obtain ⟨a0,a1,a2,a3⟩ : _ ∧ _ ∧ _ ∧ _:=⟨hb.c 0 _ rfl,hb.c 1 _ rfl,hb.c 2 _ rfl,hb.c 3 _ rfl⟩
     obtain ⟨m0,m1,m2,m3,mf⟩ : _ ∧ _ ∧ _ ∧ _ ∧ _:=⟨hz.c 0 _ rfl,hz.c 1 _ rfl,hz.c 2 _ rfl,hz.c 3 _ rfl,hz.fz⟩
     clear hb hz kr
     go_wp2_with fail
     refine bodyPost_ret (v:=.agg #[.int .i64 r,.int .i64 0,.int .i64 64,(.slice none 0 0)]) (by simp [results,Try.results35,go_sem,m0,m1,m2,m3]) rfl ?_
     have ksf : KX (fun b => b = M) wr ((((wr.setCell ⟨M,0,none⟩ (.int .i64 r)).setCell ⟨M,1,none⟩ (.int .i64 0)).setCell ⟨M,2,none⟩ (.int .i64 64)).setCell ⟨M,3,none⟩ (.slice none 0 0)):=(((((Grw.refl M wr).setCell 0 _).setCell 1 _).setCell 2 _).setCell 3 _).kx
     refine ⟨(((HK0.out.kx _).trans KXr.out).trans (ksf.mono (Y:=fun b => b = R ∨ M ≤ b) fun b hb => .inr (by omega))).shrinkR fun i hi hx => hx.resolve_right (by have:=HM.out.1; omega),RdP.no HXn.out ⟨HEr.out,_,rfl,⟨_,_,_,_,_,_,rfl⟩,_,HRr.out.kx ksf (by have:=HM.out.2; omega) (fun hne b off e hb => by have:=HAo.out hne b off e; omega)⟩⟩
   ·rw [hx2] at hrd
    obtain ⟨v,rfl,rfl,hr⟩:=hrd
    have hok:=ckS_ok (show ckS r c 64 = 0 by have:=(pnum_ok hx2).2.1; simpa using this)
    obtain ⟨N,hN⟩ : ∃ N : Nat,r * c = (N : Int):=Int.eq_ofNat_of_zero_le (Int.mul_nonneg (by omega) (by omega))
    have hN2 : N ≤ 4096:=by have:=hok.2.2.2; omega
    have HXX:=hid (show X = (prep N (pel 64) B q3).andTo fun L q4 => .ok ⟨r,c,64,L⟩ q4 by rw [HX3.out,hx2,Res.andTo_ok,hN,Int.toNat_natCast])
    have zN : IntKind.i64.wrap (N : Int) = (N : Int):=by rw [wrap_i64]; omega
    obtain ⟨w5,hw5⟩ : ∃ w5,w4.setCell ⟨M5,1,none⟩ (.int .i64 c) = w5:=⟨_,rfl⟩
    have ks5 : KX (fun b => b = M5) w4 w5:=by rw [← hw5]; exact ((Grw.refl M5 w4).setCell _ _).kx
    have hb55 : Bk w5 M5 [.int .i64 r,.int .i64 c,.int .i64 64,.slice none 0 0]:=by rw [← hw5]; exact hb5.set 1 _
    have HR5:=hid (hr.kx ks5 (by have:=HMM.out; have:=HM.out.2; omega) (fun hne b off e hb => by have:=HAo.out hne b off e; have:=HMM.out; omega))
    have HZ5:=hid (HBZ4.out.kx ks5 (by have:=HMM.out; omega))
    have KX5:=hid (((KX4.out.mono (Y:=fun b => b = R ∨ M ≤ b) fun b hb => .inl hb).trans (ks5.mono fun b hb => .inr (by have:=HMM.out; omega))))
    have HK5:=hid hb55
    have HN2:=hid hN2
    have HNe:=hid hN
    have HOk:=hid hok.2.2.1
    have e1:=hb5.c 1 _ rfl
    have ef:=hb5.fz
    clear hx2 HX3 hb5 hb55 hr ks5 hok hN2
    go_wp2_with fail
    (try rw [hw5])
    clear e1 ef hw5
    go_loopw [6] (fun iv wr => ∃ j : Nat,j ≤ N ∧ iv = .int .i64 (j : Int) ∧ KX (fun b => b = R ∨ M ≤ b) W0 wr ∧ Bk wr M [.int .i64 0,.int .i64 0,.int .i64 0,.slice none 0 0] ∧ ((∃ (acc : List Int) (qj : Nat) (av : Value),acc.length = j ∧ RQ wr R ao B cap qj 0 pl ∧ Bk wr M5 [.int .i64 r,.int .i64 c,.int .i64 64,av] ∧ MS 1 3 (M5 + 1) wr av j (acc.map (Value.int .i64)) ∧ prep N (pel 64) B q3 = (prep (N - j) (pel 64) B qj).andTo fun l q => .ok (acc ++ l) q) ∨ (∃ (er p : Int) (qj : Nat) (av : Option Addr) (l cp : Nat),er ≠ 0 ∧ X = .no er p ∧ RQ wr R ao B cap qj er p ∧ Bk wr M5 [.int .i64 r,.int .i64 c,.int .i64 64,.slice av l cp]))) (fun iv _ => N - (intOf iv).toNat)
    case atStart => exact ⟨0,Nat.zero_le _,rfl,KX5.out,HZ5.out,.inl ⟨[],q3,_,rfl,HR5.out,HK5.out,.inl ⟨rfl,rfl,rfl⟩,by rw [Nat.sub_zero]; cases prep N (pel 64) B q3 <;> rfl⟩⟩
    case round =>
     clear HR5 HZ5 KX5 HK5
     obtain ⟨j,hj,rfl,kxr,hz,hst⟩:=hrel
     have KXr:=hid kxr
     have HZr:=hid hz
     obtain ⟨m0,m1,m2,m3,mf⟩ : _ ∧ _ ∧ _ ∧ _ ∧ _:=⟨hz.c 0 _ rfl,hz.c 1 _ rfl,hz.c 2 _ rfl,hz.c 3 _ rfl,hz.fz⟩
     clear kxr hz
     rcases hst with ⟨acc,qj,av,hal,hr,hb,hM,hp⟩ | ⟨er,p,qj,av,l,cp,her,hxe,hr,hb⟩
     case inr =>
      have hern : (er == 0) = false:=by simpa using her
      have HXn:=hid hxe
      have HEr:=hid her
      have HRr:=hid hr
      have c2:=hr.bk.c 2 _ rfl
      obtain ⟨a0,a1,a2,a3⟩ : _ ∧ _ ∧ _ ∧ _:=⟨hb.c 0 _ rfl,hb.c 1 _ rfl,hb.c 2 _ rfl,hb.c 3 _ rfl⟩
      clear hb hr her hxe
      go_wp2_with fail
      refine bodyPost_ret (v:=.agg #[.int .i64 r,.int .i64 c,.int .i64 64,(.slice av l cp)]) (by simp [results,Try.results35,go_sem,m0,m1,m2,m3]) rfl ?_
      have ksf : KX (fun b => b = M) wr ((((wr.setCell ⟨M,0,none⟩ (.int .i64 r)).setCell ⟨M,1,none⟩ (.int .i64 c)).setCell ⟨M,2,none⟩ (.int .i64 64)).setCell ⟨M,3,none⟩ (.slice av l cp)):=(((((Grw.refl M wr).setCell 0 _).setCell 1 _).setCell 2 _).setCell 3 _).kx
      refine ⟨(((HK0.out.kx _).trans KXr.out).trans (ksf.mono (Y:=fun b => b = R ∨ M ≤ b) fun b hb => .inr (by omega))).shrinkR fun i hi hx => hx.resolve_right (by have:=HM.out.1; omega),RdP.no HXn.out ⟨HEr.out,_,rfl,⟨_,_,_,_,_,_,rfl⟩,_,HRr.out.kx ksf (by have:=HM.out.2; omega) (fun hne b off e hb => by have:=HAo.out hne b off e; omega)⟩⟩
     obtain ⟨av1,av2,rfl⟩:=hM.form
     have c1:=hr.bk.c 1 _ rfl
     have c2:=hr.bk.c 2 _ rfl
     obtain ⟨a0,a1,a2,a3⟩ : _ ∧ _ ∧ _ ∧ _:=⟨hb.c 0 _ rfl,hb.c 1 _ rfl,hb.c 2 _ rfl,hb.c 3 _ rfl⟩
     have HRr:=hid hr
     have HBr:=hid hb
     have HMr:=hid hM
     have HPr:=hid hp
     have HAl:=hid hal
     clear hr hb hM hp hal
     have hrc : r * c = (N : Int):=HNe.out
     by_cases hjN : j < N
     ·have d1 : decide ((j : Int) < (N : Int)) = true:=decide_eq_true (by omega)
      have d2 : decide (j < N) = true:=decide_eq_true hjN
      have z9 : IntKind.i64.wrap ((j : Int) + 1) = (j : Int) + 1:=by have:=HN2.out; rw [wrap_i64]; omega
      have HG:=hid (rget_any R ao B cap qj pl HBy.out HLen.out 8 (by decide) (by decide) wr HRr.out)
      have HII:=hid hjN
      have hps:=hid (prep_step _ B N j q3 qj hjN acc HPr.out)
      clear hjN hj
      go_wp2_with fail
      go_at_call 32
      refine HG.out.mono ?_
      rintro e w6 ⟨kx6,hg⟩
      have hRM : R < M:=HM.out.2
      have hbX:=HBr.out.kx kx6 (by have:=HMM.out; omega)
      have hzX:=HZr.out.kx kx6 (by omega)
      have hMX:=hid (show MS 1 3 (M5 + 1) w6 (.slice av1 j av2) j (acc.map (Value.int .i64)) from HMr.out.on fun b hb hl => kx6.block b hl (by have:=HMM.out; omega))
      have kxX:=KXr.out.trans (kx6.mono (Y:=fun b => b = R ∨ M ≤ b) fun b hb => .inl hb)
      have HJ:=hid (show j < N from HII.out)
      have HPe:=hid (pel_ok (n:=64) (kk:=8) (by decide) (by decide) B qj)
      clear c1 c2 a0 a1 a2 a3 m0 m1 m2 m3 mf HG kx6
      rcases (show _ ∨ _ from hg) with ⟨hle,rfl,hrX⟩ | ⟨hlt,rfl,hrX⟩
      ·obtain ⟨bv,hbv⟩ : ∃ bv,numv 8 B qj = bv:=⟨_,rfl⟩
       have hrg:=numv_rng 8 B qj
       have HP2:=hid HPe.out.1
       have HP3:=hid HPe.out.2.1
       rw [hbv] at hrg HP2 HP3
       rw [hbv]
       have HFi:=hid (rfinite_any bv 64 hrg.1 hrg.2 w6)
       have c2:=hrX.bk.c 2 _ rfl
       have HLe:=hid hle
       have HR6:=hid hrX
       have HB6:=hid hbX
       have HZ6:=hid hzX
       have HK6:=hid kxX
       clear hg hrX hbX hzX kxX hrg hbv hle HPe
       go_wp2_with fail
       go_at_call 56
       refine HFi.out.mono ?_
       rintro e w7 ⟨rfl,k7⟩
       have hbX:=HB6.out.kept k7
       have hzX:=HZ6.out.kept k7
       have hrX:=HR6.out.kept k7
       have kxX:=HK6.out.trans (k7.kx _)
       have hM7:=hid (hMX.out.kept k7)
       clear k7 c2
       by_cases hfi : cls bv 64 < 3
       ·have dfi : decide (cls bv 64 < 3) = true:=decide_eq_true hfi
        rw [dfi]
        have hpe:=HP2.out HLe.out hfi
        have HPn:=hid (show prep N (pel 64) B q3 = (prep (N - (j + 1)) (pel 64) B (qj + 8)).andTo fun l q => .ok ((acc ++ [bv]) ++ l) q by rw [hps.out,hpe]; rfl)
        have c2:=hrX.bk.c 2 _ rfl
        have hMX:=hM7.out
        clear hfi dfi hpe
        obtain ⟨av3,av4,w8,hrun,hM8,k8⟩:=bits_app (M5 + 1) w7 av1 j av2 acc hMX (by have:=hbX.lt; omega) (by have:=HN2.out; have:=HJ.out; omega) (bv)
        have hb8:=hbX.kx k8 (by omega)
        obtain ⟨w9,hw9⟩ : ∃ w9,w8.setCell ⟨M5,3,none⟩ (.slice av3 (j + 1) av4) = w9:=⟨_,rfl⟩
        have ks9 : KX (fun b => b = M5) w8 w9:=by rw [← hw9]; exact ((Grw.refl M5 w8).setCell _ _).kx
        have HB9 : Hid (Bk w9 M5 [.int .i64 r,.int .i64 c,.int .i64 64,.slice av3 (j + 1) av4]):=by rw [← hw9]; exact hb8.set 3 _
        have HZ9:=hid ((hzX.kx k8 (by have:=HMM.out; omega)).kx ks9 (by have:=HMM.out; omega))
        have HR9:=hid ((hrX.kx k8 (by have:=HMM.out; have:=HM.out.2; omega) (fun hne b off e hb => by have:=HAo.out hne b off e; have:=HMM.out; omega)).kx ks9 (by have:=HMM.out; have:=HM.out.2; omega) (fun hne b off e hb => by have:=HAo.out hne b off e; have:=HMM.out; omega))
        have HX9:=hid ((kxX.trans (k8.mono fun b hb => .inr (by have:=HMM.out; omega))).trans (ks9.mono fun b hb => .inr (by have:=HMM.out; omega)))
        have HM9:=hid (show MS 1 3 (M5 + 1) w9 (.slice av3 (j + 1) av4) (j + 1) ((acc ++ [bv]).map (Value.int .i64)) from hM8.on fun b hb hl => ks9.block b hl (by omega))
        have a3:=hbX.c 3 _ rfl
        have g3:=hb8.c 3 _ rfl
        have gf:=hb8.fz
        have HRun:=hid hrun
        clear hrun hM8 k8 ks9 hb8 hbX hzX hMX hrX kxX
        go_wp2_with (first | (at_builtin; refine wpList_append_run rfl _ _ _ rfl _ _ rfl rfl _ _ (HRun.out _) ?_; clear HRun))
        (try rw [hw9])
        go_roundw
        case rel => exact ⟨j + 1,by have:=HJ.out; omega,by go_num,HX9.out,HZ9.out,.inl ⟨acc ++ [bv],qj + 8,_,by rw [List.length_append,HAl.out]; rfl,HR9.out,HB9.out,HM9.out,HPn.out⟩⟩
        case measure => have:=HJ.out; simp [intOf]; omega
       ·have dfi : decide (cls bv 64 < 3) = false:=decide_eq_false hfi
        rw [dfi]
        have hpe:=HP3.out HLe.out (by omega)
        have HXn:=hid (show X = .no 51 (qj : Int) by rw [HXX.out,hps.out,hpe]; rfl)
        have HBd:=hid (rbad_any R ao B cap (qj + 8) 0 pl 51 (qj : Int) w7 hrX)
        have HB7:=hid hbX
        have HZ7:=hid hzX
        have HK7:=hid kxX
        clear hfi dfi hpe hrX hbX hzX kxX
        go_wp2_with fail
        go_at_call 33
        refine HBd.out.mono ?_
        rintro e w7b ⟨rfl,kxb,hrX,-⟩
        have hrX:=hrX (by first | rfl | trivial)
        have hbX:=HB7.out.kx kxb (by have:=HMM.out; omega)
        have hzX:=HZ7.out.kx kxb (by omega)
        have hMX:=(show MS 1 3 (M5 + 1) w7b (.slice av1 j av2) j (acc.map (Value.int .i64)) from hM7.out.on fun b hb hl => kxb.block b hl (by have:=HMM.out; omega))
        have kxX:=HK7.out.trans (kxb.mono (Y:=fun b => b = R ∨ M ≤ b) fun b hb => .inl hb)
        clear kxb
        obtain ⟨av3,av4,w8,hrun,hM8,k8⟩:=bits_app (M5 + 1) w7b av1 j av2 acc hMX (by have:=hbX.lt; omega) (by have:=HN2.out; have:=HJ.out; omega) (bv)
        have hb8:=hbX.kx k8 (by omega)
        obtain ⟨w9,hw9⟩ : ∃ w9,w8.setCell ⟨M5,3,none⟩ (.slice av3 (j + 1) av4) = w9:=⟨_,rfl⟩
        have ks9 : KX (fun b => b = M5) w8 w9:=by rw [← hw9]; exact ((Grw.refl M5 w8).setCell _ _).kx
        have HB9 : Hid (Bk w9 M5 [.int .i64 r,.int .i64 c,.int .i64 64,.slice av3 (j + 1) av4]):=by rw [← hw9]; exact hb8.set 3 _
        have HZ9:=hid ((hzX.kx k8 (by have:=HMM.out; omega)).kx ks9 (by have:=HMM.out; omega))
        have HR9:=hid ((hrX.kx k8 (by have:=HMM.out; have:=HM.out.2; omega) (fun hne b off e hb => by have:=HAo.out hne b off e; have:=HMM.out; omega)).kx ks9 (by have:=HMM.out; have:=HM.out.2; omega) (fun hne b off e hb => by have:=HAo.out hne b off e; have:=HMM.out; omega))
        have HX9:=hid ((kxX.trans (k8.mono fun b hb => .inr (by have:=HMM.out; omega))).trans (ks9.mono fun b hb => .inr (by have:=HMM.out; omega)))
        have HM9:=hid (show MS 1 3 (M5 + 1) w9 (.slice av3 (j + 1) av4) (j + 1) ((acc ++ [bv]).map (Value.int .i64)) from hM8.on fun b hb hl => ks9.block b hl (by omega))
        have a3:=hbX.c 3 _ rfl
        have g3:=hb8.c 3 _ rfl
        have gf:=hb8.fz
        have HRun:=hid hrun
        clear hrun hM8 k8 ks9 hb8 hbX hzX hMX hrX kxX
        go_wp2_with (first | (at_builtin; refine wpList_append_run rfl _ _ _ rfl _ _ rfl rfl _ _ (HRun.out _) ?_; clear HRun))
        (try rw [hw9])
        go_roundw
        case rel => exact ⟨j + 1,by have:=HJ.out; omega,by go_num,HX9.out,HZ9.out,.inr ⟨51,_,_,_,_,_,by decide,HXn.out,HR9.out,HB9.out⟩⟩
        case measure => have:=HJ.out; simp [intOf]; omega
      ·have hpe:=HPe.out.2.2 hlt
       have HXn:=hid (show X = .no 50 (B.length : Int) by rw [HXX.out,hps.out,hpe]; rfl)
       have c2:=hrX.bk.c 2 _ rfl
       have hMX:=hMX.out
       clear hg hlt hpe HPe
       obtain ⟨av3,av4,w8,hrun,hM8,k8⟩:=bits_app (M5 + 1) w6 av1 j av2 acc hMX (by have:=hbX.lt; omega) (by have:=HN2.out; have:=HJ.out; omega) (0)
       have hb8:=hbX.kx k8 (by omega)
       obtain ⟨w9,hw9⟩ : ∃ w9,w8.setCell ⟨M5,3,none⟩ (.slice av3 (j + 1) av4) = w9:=⟨_,rfl⟩
       have ks9 : KX (fun b => b = M5) w8 w9:=by rw [← hw9]; exact ((Grw.refl M5 w8).setCell _ _).kx
       have HB9 : Hid (Bk w9 M5 [.int .i64 r,.int .i64 c,.int .i64 64,.slice av3 (j + 1) av4]):=by rw [← hw9]; exact hb8.set 3 _
       have HZ9:=hid ((hzX.kx k8 (by have:=HMM.out; omega)).kx ks9 (by have:=HMM.out; omega))
       have HR9:=hid ((hrX.kx k8 (by have:=HMM.out; have:=HM.out.2; omega) (fun hne b off e hb => by have:=HAo.out hne b off e; have:=HMM.out; omega)).kx ks9 (by have:=HMM.out; have:=HM.out.2; omega) (fun hne b off e hb => by have:=HAo.out hne b off e; have:=HMM.out; omega))
       have HX9:=hid ((kxX.trans (k8.mono fun b hb => .inr (by have:=HMM.out; omega))).trans (ks9.mono fun b hb => .inr (by have:=HMM.out; omega)))
       have HM9:=hid (show MS 1 3 (M5 + 1) w9 (.slice av3 (j + 1) av4) (j + 1) ((acc ++ [0]).map (Value.int .i64)) from hM8.on fun b hb hl => ks9.block b hl (by omega))
       have a3:=hbX.c 3 _ rfl
       have g3:=hb8.c 3 _ rfl
       have gf:=hb8.fz
       have HRun:=hid hrun
       clear hrun hM8 k8 ks9 hb8 hbX hzX hMX hrX kxX
       go_wp2_with (first | (at_builtin; refine wpList_append_run rfl _ _ _ rfl _ _ rfl rfl _ _ (HRun.out _) ?_; clear HRun))
       (try rw [hw9])
       go_roundw
       case rel => exact ⟨j + 1,by have:=HJ.out; omega,by go_num,HX9.out,HZ9.out,.inr ⟨50,_,_,_,_,_,by decide,HXn.out,HR9.out,HB9.out⟩⟩
       case measure => have:=HJ.out; simp [intOf]; omega
     ·have hjN2 : j = N:=by omega
      subst hjN2
      have d1 : decide ((j : Int) < (j : Int)) = false:=decide_eq_false (by omega)
      have d2 : decide (j < j) = false:=decide_eq_false (by omega)
      have hXe : X = .ok ⟨r,c,64,acc⟩ qj:=by
       rw [HXX.out,HPr.out,Nat.sub_self]
       simp [prep,ppure,Res.andTo]
      have HXe:=hid hXe
      obtain ⟨g,hav,hgM⟩ : ∃ g,av1 = some ⟨g,0,none⟩ ∧ M5 + 1 ≤ g:=by
       rcases HMr.out with ⟨h0,-,-⟩ | ⟨g,cap2,e,hg,-⟩
       ·have : 1 ≤ r * c:=by
         have h1 : r * 1 ≤ r * c:=Int.mul_le_mul_of_nonneg_left (by have:=HOk.out; omega) (by omega)
         omega
        omega
       ·injection e with e1; exact ⟨g,e1,hg⟩
      subst hav
      clear hXe hjN hj
      go_wp2_with fail
      refine bodyPost_ret (v:=.agg #[.int .i64 r,.int .i64 c,.int .i64 64,.slice (some ⟨g,0,none⟩) j av2]) (by simp [results,Try.results35,go_sem,m0,m1,m2,m3]) rfl ?_
      have ksf : KX (fun b => b = M) wr ((((wr.setCell ⟨M,0,none⟩ (.int .i64 r)).setCell ⟨M,1,none⟩ (.int .i64 c)).setCell ⟨M,2,none⟩ (.int .i64 64)).setCell ⟨M,3,none⟩ (.slice (some ⟨g,0,none⟩) j av2)):=(((((Grw.refl M wr).setCell 0 _).setCell 1 _).setCell 2 _).setCell 3 _).kx
      refine ⟨(((HK0.out.kx _).trans KXr.out).trans (ksf.mono (Y:=fun b => b = R ∨ M ≤ b) fun b hb => .inr (by omega))).shrinkR fun i hi hx => hx.resolve_right (by have:=HM.out.1; omega),?_⟩
      rw [HXe.out]
      refine ⟨_,rfl,⟨g,av2,by rw [HAl.out],by have:=HMM.out; omega,?_⟩,HRr.out.kx ksf (by have:=HM.out.2; omega) (fun hne b off e hb => by have:=HAo.out hne b off e; omega)⟩
      rcases HMr.out with ⟨h0,h1,h2⟩ | ⟨g2,cap2,e,hg,hl2,hc2,hO⟩
      ·cases h2
      ·cases e
       exact hO.on (ksf.block g hO.lt (by have:=HMM.out; omega))
 ·skip
  subst e64
  clear dn HNv
  go_wp2_with fail
  go_at_call 34
  refine HW.out.mono ?_
  rintro e w2 ⟨kx2,hrd⟩
  have KX2:=hid (KX1.out.trans kx2)
  clear kx2 c2 HW
  rcases hx1 : pnum 2 (fun r => decide (r > 0)) B (q + 1) with ⟨er,p⟩ | ⟨r,q2⟩
  ·rw [hx1] at hrd
   obtain ⟨her,v,rfl,rfl,q9,hr⟩:=hrd
   have HXn:=hid (HXr.out er p hx1)
   have hern : (er == 0) = false:=by simpa using her
   have hern2 : (er != 0) = true:=by simpa using her
   have HEr:=hid her
   clear hx1 her HXr HX2
   obtain ⟨W3,hW3⟩ : ∃ W3,w2.alloc (.cells #[.int .i64 0,.int .i64 0,.int .i64 32,.slice none 0 0] 54) = W3:=⟨_,rfl⟩
   have k3 : Kept w2 W3:=by rw [← hW3]; exact (Kept.refl w2).alloc _ _
   have HR3:=hid (hr.kept k3)
   have KX3:=hid (KX2.out.trans (k3.kx _))
   have HW3:=hid hW3
   have c2 : (w2.alloc (.cells #[.int .i64 0,.int .i64 0,.int .i64 32,.slice none 0 0] 54)).cell? ⟨R,2,none⟩ = some (.int .i64 er):=by rw [hW3]; exact HR3.out.bk.c 2 _ rfl
   have mm : (w2.alloc (.cells #[.int .i64 0,.int .i64 0,.int .i64 32,.slice none 0 0] 54)).cell? ⟨M,0,none⟩ = some (.int .i64 0) ∧ (w2.alloc (.cells #[.int .i64 0,.int .i64 0,.int .i64 32,.slice none 0 0] 54)).cell? ⟨M,1,none⟩ = some (.int .i64 0) ∧ (w2.alloc (.cells #[.int .i64 0,.int .i64 0,.int .i64 32,.slice none 0 0] 54)).cell? ⟨M,2,none⟩ = some (.int .i64 0) ∧ (w2.alloc (.cells #[.int .i64 0,.int .i64 0,.int .i64 32,.slice none 0 0] 54)).cell? ⟨M,3,none⟩ = some (.slice none 0 0) ∧ ∀ o,(w2.alloc (.cells #[.int .i64 0,.int .i64 0,.int .i64 32,.slice none 0 0] 54)).frozen? ⟨M,o,none⟩ = false:=by
    rw [hW3]
    have b:=HBZ.out.kx KX3.out (by have:=HM.out.2; omega)
    exact ⟨b.c 0 _ rfl,b.c 1 _ rfl,b.c 2 _ rfl,b.c 3 _ rfl,b.fz⟩
   obtain ⟨m0,m1,m2,m3,mf⟩:=mm
   clear k3 hr hW3
   go_wp2_with fail
   refine bodyPost_ret (v:=.agg #[.int .i64 0,.int .i64 0,.int .i64 0,.slice none 0 0]) (by simp [results,Try.results35,go_sem,m0,m1,m2,m3]) rfl ?_
   rw [HW3.out]
   exact HZ.out _ _ _ W3 HEr.out KX3.out HR3.out HXn.out
  ·rw [hx1] at hrd
   obtain ⟨v,rfl,rfl,hr⟩:=hrd
   have HX3:=hid (show X = (pnum 2 (fun c => ckS r c 32 == 0) B q2).andTo fun c q3 => (prep (r * c).toNat (pel 32) B q3).andTo fun L q4 => .ok ⟨r,c,32,L⟩ q4 by rw [HX2.out,hx1]; rfl)
   have hr1 : 1 ≤ r:=by have h9:=(pnum_ok hx1).2.1; simp at h9; omega
   have hr2 : r ≤ 65535:=by
    have h9:=(pnum_ok hx1).1
    have h8:=un_nn 2 B (q + 1) HBy.out
    have e2 : (256 : Int) ^ 2 = 65536:=by decide
    rw [h9]
    unfold numv
    rw [wrap_i64]
    omega
   clear hx1 HXr HX2
   obtain ⟨M5,hM5⟩ : ∃ M5,w2.heap.size = M5:=⟨_,rfl⟩
   obtain ⟨hi,hhi⟩ : ∃ hi,Int.tdiv 4096 r = hi:=⟨_,rfl⟩
   have hdv : 4096 / r = hi:=by rw [← hhi,Int.tdiv_eq_ediv_of_nonneg (by decide)]
   have hhr : 0 ≤ hi ∧ hi ≤ 4096:=by
    rw [← hdv]
    exact ⟨Int.ediv_nonneg (by decide) (by omega),Int.ediv_le_self _ (by decide)⟩
   have zhi : IntKind.i64.wrap hi = hi:=by rw [wrap_i64]; omega
   have r0 : (r == 0) = false:=by simp; omega
   have r00 : ¬ r = 0:=by omega
   have rm1 : ¬ r = -1:=by omega
   obtain ⟨W3,hW3⟩ : ∃ W3,(w2.alloc (.cells #[.int .i64 r,.int .i64 0,.int .i64 32,.slice none 0 0] 54)) = W3:=⟨_,rfl⟩
   have k3 : Kept w2 W3:=by rw [← hW3]; exact (Kept.refl w2).alloc _ _
   have b5 : Bk W3 M5 [.int .i64 r,.int .i64 0,.int .i64 32,.slice none 0 0]:=by rw [← hW3,← hM5]; exact Bk.new w2 _ _
   have HR3:=hid (hr.kept k3)
   have KX3:=hid (KX2.out.trans (k3.kx _))
   have HW3:=hid hW3
   have HB5:=hid b5
   have hM5M : M < M5:=by have:=(HBZ.out.kx KX2.out (by have:=HM.out.2; omega)).lt; omega
   have HMM:=hid hM5M
   have c2 : (w2.alloc (.cells #[.int .i64 r,.int .i64 0,.int .i64 32,.slice none 0 0] 54)).cell? ⟨R,2,none⟩ = some (.int .i64 0):=by rw [hW3]; exact HR3.out.bk.c 2 _ rfl
   have b0 : (w2.alloc (.cells #[.int .i64 r,.int .i64 0,.int .i64 32,.slice none 0 0] 54)).cell? ⟨M5,0,none⟩ = some (.int .i64 r):=by rw [hW3]; exact b5.c 0 _ rfl
   have HW4:=hid (rwant_any R ao B cap q2 pl HBy.out HLen.out 2 (by decide) (by decide) 1 hi (w2.alloc (.cells #[.int .i64 r,.int .i64 0,.int .i64 32,.slice none 0 0] 54)) (by rw [hW3]; exact HR3.out))
   rw [pnum_congr (g:=fun c => ckS r c 32 == 0) B q2 (by rw [ckS_betw (by decide) hr1,hhi])] at HW4
   clear k3 b5 hr hW3 hdv hhr hM5M hr2
   go_wp2_with fail
   go_at_call 34
   refine HW4.out.mono ?_
   rintro e w4 ⟨kx4,hrd⟩
   rw [HW3.out] at kx4
   have KX4:=hid (KX3.out.trans kx4)
   have hb5:=HB5.out.kx kx4 (by have:=HMM.out; have:=HM.out.2; omega)
   have HBZ4:=hid (HBZ.out.kx KX4.out (by have:=HM.out.2; omega))
   clear kx4 c2 b0 HW4
   rcases hx2 : pnum 2 (fun c => ckS r c 32 == 0) B q2 with ⟨er,p⟩ | ⟨c,q3⟩
   ·rw [hx2] at hrd
    obtain ⟨her,v,rfl,rfl,q9,hr⟩:=hrd
    have HXn:=hid (show X = .no er p by rw [HX3.out,hx2]; rfl)
    have hern : (er == 0) = false:=by simpa using her
    have HEr:=hid her
    obtain ⟨w5,hw5⟩ : ∃ w5,w4.setCell ⟨M5,1,none⟩ (.int .i64 0) = w5:=⟨_,rfl⟩
    have ks5 : KX (fun b => b = M5) w4 w5:=by rw [← hw5]; exact ((Grw.refl M5 w4).setCell _ _).kx
    have hb55 : Bk w5 M5 [.int .i64 r,.int .i64 0,.int .i64 32,.slice none 0 0]:=by rw [← hw5]; exact hb5.set 1 _
    have HR5:=hid (hr.kx ks5 (by have:=HMM.out; have:=HM.out.2; omega) (fun hne b off e hb => by have:=HAo.out hne b off e; have:=HMM.out; omega))
    have hz5:=HBZ4.out.kx ks5 (by have:=HMM.out; omega)
    have KX5:=hid (((KX4.out.mono (Y:=fun b => b = R ∨ M ≤ b) fun b hb => .inl hb).trans (ks5.mono fun b hb => .inr (by have:=HMM.out; omega))))
    have c2:=HR5.out.bk.c 2 _ rfl
    obtain ⟨a0,a1,a2,a3⟩ : _ ∧ _ ∧ _ ∧ _:=⟨hb55.c 0 _ rfl,hb55.c 1 _ rfl,hb55.c 2 _ rfl,hb55.c 3 _ rfl⟩
    obtain ⟨m0,m1,m2,m3,mf⟩ : _ ∧ _ ∧ _ ∧ _ ∧ _:=⟨hz5.c 0 _ rfl,hz5.c 1 _ rfl,hz5.c 2 _ rfl,hz5.c 3 _ rfl,hz5.fz⟩
    have e1:=hb5.c 1 _ rfl
    have ef:=hb5.fz
    have HK5:=hid hb55
    have HZ5:=hid hz5
    clear hx2 her HX3 hb5 hb55 hz5 hr ks5
    go_wp2_with fail
    (try rw [hw5])
    clear a0 a1 a2 a3 m0 m1 m2 m3 mf c2 e1 ef hw5
    go_loopw [6] (fun iv wr => iv = .int .i64 0 ∧ Kept w5 wr) (fun iv _ => 0)
    case atStart => exact ⟨rfl,Kept.refl _⟩
    case round =>
     obtain ⟨rfl,kr⟩:=hrel
     have HRr:=hid (HR5.out.kept kr)
     have KXr:=hid (KX5.out.trans (kr.kx _))
     have c2:=HRr.out.bk.c 2 _ rfl
     have hb:=HK5.out.kept kr
     have hz:=HZ5.out.kept kr
     obtain ⟨a0,a1,a2,a3⟩ : _ ∧ _ ∧ _ ∧ _:=⟨hb.c 0 _ rfl,hb.c 1 _ rfl,hb.c 2 _ rfl,hb.c 3 _ rfl⟩
     obtain ⟨m0,m1,m2,m3,mf⟩ : _ ∧ _ ∧ _ ∧ _ ∧ _:=⟨hz.c 0 _ rfl,hz.c 1 _ rfl,hz.c 2 _ rfl,hz.c 3 _ rfl,hz.fz⟩
     clear hb hz kr
     go_wp2_with fail
     refine bodyPost_ret (v:=.agg #[.int .i64 r,.int .i64 0,.int .i64 32,(.slice none 0 0)]) (by simp [results,Try.results35,go_sem,m0,m1,m2,m3]) rfl ?_
     have ksf : KX (fun b => b = M) wr ((((wr.setCell ⟨M,0,none⟩ (.int .i64 r)).setCell ⟨M,1,none⟩ (.int .i64 0)).setCell ⟨M,2,none⟩ (.int .i64 32)).setCell ⟨M,3,none⟩ (.slice none 0 0)):=(((((Grw.refl M wr).setCell 0 _).setCell 1 _).setCell 2 _).setCell 3 _).kx
     refine ⟨(((HK0.out.kx _).trans KXr.out).trans (ksf.mono (Y:=fun b => b = R ∨ M ≤ b) fun b hb => .inr (by omega))).shrinkR fun i hi hx => hx.resolve_right (by have:=HM.out.1; omega),RdP.no HXn.out ⟨HEr.out,_,rfl,⟨_,_,_,_,_,_,rfl⟩,_,HRr.out.kx ksf (by have:=HM.out.2; omega) (fun hne b off e hb => by have:=HAo.out hne b off e; omega)⟩⟩
   ·rw [hx2] at hrd
    obtain ⟨v,rfl,rfl,hr⟩:=hrd
    have hok:=ckS_ok (show ckS r c 32 = 0 by have:=(pnum_ok hx2).2.1; simpa using this)
    obtain ⟨N,hN⟩ : ∃ N : Nat,r * c = (N : Int):=Int.eq_ofNat_of_zero_le (Int.mul_nonneg (by omega) (by omega))
    have hN2 : N ≤ 4096:=by have:=hok.2.2.2; omega
    have HXX:=hid (show X = (prep N (pel 32) B q3).andTo fun L q4 => .ok ⟨r,c,32,L⟩ q4 by rw [HX3.out,hx2,Res.andTo_ok,hN,Int.toNat_natCast])
    have zN : IntKind.i64.wrap (N : Int) = (N : Int):=by rw [wrap_i64]; omega
    obtain ⟨w5,hw5⟩ : ∃ w5,w4.setCell ⟨M5,1,none⟩ (.int .i64 c) = w5:=⟨_,rfl⟩
    have ks5 : KX (fun b => b = M5) w4 w5:=by rw [← hw5]; exact ((Grw.refl M5 w4).setCell _ _).kx
    have hb55 : Bk w5 M5 [.int .i64 r,.int .i64 c,.int .i64 32,.slice none 0 0]:=by rw [← hw5]; exact hb5.set 1 _
    have HR5:=hid (hr.kx ks5 (by have:=HMM.out; have:=HM.out.2; omega) (fun hne b off e hb => by have:=HAo.out hne b off e; have:=HMM.out; omega))
    have HZ5:=hid (HBZ4.out.kx ks5 (by have:=HMM.out; omega))
    have KX5:=hid (((KX4.out.mono (Y:=fun b => b = R ∨ M ≤ b) fun b hb => .inl hb).trans (ks5.mono fun b hb => .inr (by have:=HMM.out; omega))))
    have HK5:=hid hb55
    have HN2:=hid hN2
    have HNe:=hid hN
    have HOk:=hid hok.2.2.1
    have e1:=hb5.c 1 _ rfl
    have ef:=hb5.fz
    clear hx2 HX3 hb5 hb55 hr ks5 hok hN2
    go_wp2_with fail
    (try rw [hw5])
    clear e1 ef hw5
    go_loopw [6] (fun iv wr => ∃ j : Nat,j ≤ N ∧ iv = .int .i64 (j : Int) ∧ KX (fun b => b = R ∨ M ≤ b) W0 wr ∧ Bk wr M [.int .i64 0,.int .i64 0,.int .i64 0,.slice none 0 0] ∧ ((∃ (acc : List Int) (qj : Nat) (av : Value),acc.length = j ∧ RQ wr R ao B cap qj 0 pl ∧ Bk wr M5 [.int .i64 r,.int .i64 c,.int .i64 32,av] ∧ MS 1 3 (M5 + 1) wr av j (acc.map (Value.int .i64)) ∧ prep N (pel 32) B q3 = (prep (N - j) (pel 32) B qj).andTo fun l q => .ok (acc ++ l) q) ∨ (∃ (er p : Int) (qj : Nat) (av : Option Addr) (l cp : Nat),er ≠ 0 ∧ X = .no er p ∧ RQ wr R ao B cap qj er p ∧ Bk wr M5 [.int .i64 r,.int .i64 c,.int .i64 32,.slice av l cp]))) (fun iv _ => N - (intOf iv).toNat)
    case atStart => exact ⟨0,Nat.zero_le _,rfl,KX5.out,HZ5.out,.inl ⟨[],q3,_,rfl,HR5.out,HK5.out,.inl ⟨rfl,rfl,rfl⟩,by rw [Nat.sub_zero]; cases prep N (pel 32) B q3 <;> rfl⟩⟩
    case round =>
     clear HR5 HZ5 KX5 HK5
     obtain ⟨j,hj,rfl,kxr,hz,hst⟩:=hrel
     have KXr:=hid kxr
     have HZr:=hid hz
     obtain ⟨m0,m1,m2,m3,mf⟩ : _ ∧ _ ∧ _ ∧ _ ∧ _:=⟨hz.c 0 _ rfl,hz.c 1 _ rfl,hz.c 2 _ rfl,hz.c 3 _ rfl,hz.fz⟩
     clear kxr hz
     rcases hst with ⟨acc,qj,av,hal,hr,hb,hM,hp⟩ | ⟨er,p,qj,av,l,cp,her,hxe,hr,hb⟩
     case inr =>
      have hern : (er == 0) = false:=by simpa using her
      have HXn:=hid hxe
      have HEr:=hid her
      have HRr:=hid hr
      have c2:=hr.bk.c 2 _ rfl
      obtain ⟨a0,a1,a2,a3⟩ : _ ∧ _ ∧ _ ∧ _:=⟨hb.c 0 _ rfl,hb.c 1 _ rfl,hb.c 2 _ rfl,hb.c 3 _ rfl⟩
      clear hb hr her hxe
      go_wp2_with fail
      refine bodyPost_ret (v:=.agg #[.int .i64 r,.int .i64 c,.int .i64 32,(.slice av l cp)]) (by simp [results,Try.results35,go_sem,m0,m1,m2,m3]) rfl ?_
      have ksf : KX (fun b => b = M) wr ((((wr.setCell ⟨M,0,none⟩ (.int .i64 r)).setCell ⟨M,1,none⟩ (.int .i64 c)).setCell ⟨M,2,none⟩ (.int .i64 32)).setCell ⟨M,3,none⟩ (.slice av l cp)):=(((((Grw.refl M wr).setCell 0 _).setCell 1 _).setCell 2 _).setCell 3 _).kx
      refine ⟨(((HK0.out.kx _).trans KXr.out).trans (ksf.mono (Y:=fun b => b = R ∨ M ≤ b) fun b hb => .inr (by omega))).shrinkR fun i hi hx => hx.resolve_right (by have:=HM.out.1; omega),RdP.no HXn.out ⟨HEr.out,_,rfl,⟨_,_,_,_,_,_,rfl⟩,_,HRr.out.kx ksf (by have:=HM.out.2; omega) (fun hne b off e hb => by have:=HAo.out hne b off e; omega)⟩⟩
     obtain ⟨av1,av2,rfl⟩:=hM.form
     have c1:=hr.bk.c 1 _ rfl
     have c2:=hr.bk.c 2 _ rfl
     obtain ⟨a0,a1,a2,a3⟩ : _ ∧ _ ∧ _ ∧ _:=⟨hb.c 0 _ rfl,hb.c 1 _ rfl,hb.c 2 _ rfl,hb.c 3 _ rfl⟩
     have HRr:=hid hr
     have HBr:=hid hb
     have HMr:=hid hM
     have HPr:=hid hp
     have HAl:=hid hal
     clear hr hb hM hp hal
     have hrc : r * c = (N : Int):=HNe.out
     by_cases hjN : j < N
     ·have d1 : decide ((j : Int) < (N : Int)) = true:=decide_eq_true (by omega)
      have d2 : decide (j < N) = true:=decide_eq_true hjN
      have z9 : IntKind.i64.wrap ((j : Int) + 1) = (j : Int) + 1:=by have:=HN2.out; rw [wrap_i64]; omega
      have HG:=hid (rget_any R ao B cap qj pl HBy.out HLen.out 4 (by decide) (by decide) wr HRr.out)
      have HII:=hid hjN
      have hps:=hid (prep_step _ B N j q3 qj hjN acc HPr.out)
      clear hjN hj
      go_wp2_with fail
      go_at_call 32
      refine HG.out.mono ?_
      rintro e w6 ⟨kx6,hg⟩
      have hRM : R < M:=HM.out.2
      have hbX:=HBr.out.kx kx6 (by have:=HMM.out; omega)
      have hzX:=HZr.out.kx kx6 (by omega)
      have hMX:=hid (show MS 1 3 (M5 + 1) w6 (.slice av1 j av2) j (acc.map (Value.int .i64)) from HMr.out.on fun b hb hl => kx6.block b hl (by have:=HMM.out; omega))
      have kxX:=KXr.out.trans (kx6.mono (Y:=fun b => b = R ∨ M ≤ b) fun b hb => .inl hb)
      have HJ:=hid (show j < N from HII.out)
      have HPe:=hid (pel_ok (n:=32) (kk:=4) (by decide) (by decide) B qj)
      clear c1 c2 a0 a1 a2 a3 m0 m1 m2 m3 mf HG kx6
      rcases (show _ ∨ _ from hg) with ⟨hle,rfl,hrX⟩ | ⟨hlt,rfl,hrX⟩
      ·obtain ⟨bv,hbv⟩ : ∃ bv,numv 4 B qj = bv:=⟨_,rfl⟩
       have hrg:=numv_rng 4 B qj
       have HP2:=hid HPe.out.1
       have HP3:=hid HPe.out.2.1
       rw [hbv] at hrg HP2 HP3
       rw [hbv]
       have HFi:=hid (rfinite_any bv 32 hrg.1 hrg.2 w6)
       have c2:=hrX.bk.c 2 _ rfl
       have HLe:=hid hle
       have HR6:=hid hrX
       have HB6:=hid hbX
       have HZ6:=hid hzX
       have HK6:=hid kxX
       clear hg hrX hbX hzX kxX hrg hbv hle HPe
       go_wp2_with fail
       go_at_call 56
       refine HFi.out.mono ?_
       rintro e w7 ⟨rfl,k7⟩
       have hbX:=HB6.out.kept k7
       have hzX:=HZ6.out.kept k7
       have hrX:=HR6.out.kept k7
       have kxX:=HK6.out.trans (k7.kx _)
       have hM7:=hid (hMX.out.kept k7)
       clear k7 c2
       by_cases hfi : cls bv 32 < 3
       ·have dfi : decide (cls bv 32 < 3) = true:=decide_eq_true hfi
        rw [dfi]
        have hpe:=HP2.out HLe.out hfi
        have HPn:=hid (show prep N (pel 32) B q3 = (prep (N - (j + 1)) (pel 32) B (qj + 4)).andTo fun l q => .ok ((acc ++ [bv]) ++ l) q by rw [hps.out,hpe]; rfl)
        have c2:=hrX.bk.c 2 _ rfl
        have hMX:=hM7.out
        clear hfi dfi hpe
        obtain ⟨av3,av4,w8,hrun,hM8,k8⟩:=bits_app (M5 + 1) w7 av1 j av2 acc hMX (by have:=hbX.lt; omega) (by have:=HN2.out; have:=HJ.out; omega) (bv)
        have hb8:=hbX.kx k8 (by omega)
        obtain ⟨w9,hw9⟩ : ∃ w9,w8.setCell ⟨M5,3,none⟩ (.slice av3 (j + 1) av4) = w9:=⟨_,rfl⟩
        have ks9 : KX (fun b => b = M5) w8 w9:=by rw [← hw9]; exact ((Grw.refl M5 w8).setCell _ _).kx
        have HB9 : Hid (Bk w9 M5 [.int .i64 r,.int .i64 c,.int .i64 32,.slice av3 (j + 1) av4]):=by rw [← hw9]; exact hb8.set 3 _
        have HZ9:=hid ((hzX.kx k8 (by have:=HMM.out; omega)).kx ks9 (by have:=HMM.out; omega))
        have HR9:=hid ((hrX.kx k8 (by have:=HMM.out; have:=HM.out.2; omega) (fun hne b off e hb => by have:=HAo.out hne b off e; have:=HMM.out; omega)).kx ks9 (by have:=HMM.out; have:=HM.out.2; omega) (fun hne b off e hb => by have:=HAo.out hne b off e; have:=HMM.out; omega))
        have HX9:=hid ((kxX.trans (k8.mono fun b hb => .inr (by have:=HMM.out; omega))).trans (ks9.mono fun b hb => .inr (by have:=HMM.out; omega)))
        have HM9:=hid (show MS 1 3 (M5 + 1) w9 (.slice av3 (j + 1) av4) (j + 1) ((acc ++ [bv]).map (Value.int .i64)) from hM8.on fun b hb hl => ks9.block b hl (by omega))
        have a3:=hbX.c 3 _ rfl
        have g3:=hb8.c 3 _ rfl
        have gf:=hb8.fz
        have HRun:=hid hrun
        clear hrun hM8 k8 ks9 hb8 hbX hzX hMX hrX kxX
        go_wp2_with (first | (at_builtin; refine wpList_append_run rfl _ _ _ rfl _ _ rfl rfl _ _ (HRun.out _) ?_; clear HRun))
        (try rw [hw9])
        go_roundw
        case rel => exact ⟨j + 1,by have:=HJ.out; omega,by go_num,HX9.out,HZ9.out,.inl ⟨acc ++ [bv],qj + 4,_,by rw [List.length_append,HAl.out]; rfl,HR9.out,HB9.out,HM9.out,HPn.out⟩⟩
        case measure => have:=HJ.out; simp [intOf]; omega
       ·have dfi : decide (cls bv 32 < 3) = false:=decide_eq_false hfi
        rw [dfi]
        have hpe:=HP3.out HLe.out (by omega)
        have HXn:=hid (show X = .no 51 (qj : Int) by rw [HXX.out,hps.out,hpe]; rfl)
        have HBd:=hid (rbad_any R ao B cap (qj + 4) 0 pl 51 (qj : Int) w7 hrX)
        have HB7:=hid hbX
        have HZ7:=hid hzX
        have HK7:=hid kxX
        clear hfi dfi hpe hrX hbX hzX kxX
        go_wp2_with fail
        go_at_call 33
        refine HBd.out.mono ?_
        rintro e w7b ⟨rfl,kxb,hrX,-⟩
        have hrX:=hrX (by first | rfl | trivial)
        have hbX:=HB7.out.kx kxb (by have:=HMM.out; omega)
        have hzX:=HZ7.out.kx kxb (by omega)
        have hMX:=(show MS 1 3 (M5 + 1) w7b (.slice av1 j av2) j (acc.map (Value.int .i64)) from hM7.out.on fun b hb hl => kxb.block b hl (by have:=HMM.out; omega))
        have kxX:=HK7.out.trans (kxb.mono (Y:=fun b => b = R ∨ M ≤ b) fun b hb => .inl hb)
        clear kxb
        obtain ⟨av3,av4,w8,hrun,hM8,k8⟩:=bits_app (M5 + 1) w7b av1 j av2 acc hMX (by have:=hbX.lt; omega) (by have:=HN2.out; have:=HJ.out; omega) (bv)
        have hb8:=hbX.kx k8 (by omega)
        obtain ⟨w9,hw9⟩ : ∃ w9,w8.setCell ⟨M5,3,none⟩ (.slice av3 (j + 1) av4) = w9:=⟨_,rfl⟩
        have ks9 : KX (fun b => b = M5) w8 w9:=by rw [← hw9]; exact ((Grw.refl M5 w8).setCell _ _).kx
        have HB9 : Hid (Bk w9 M5 [.int .i64 r,.int .i64 c,.int .i64 32,.slice av3 (j + 1) av4]):=by rw [← hw9]; exact hb8.set 3 _
        have HZ9:=hid ((hzX.kx k8 (by have:=HMM.out; omega)).kx ks9 (by have:=HMM.out; omega))
        have HR9:=hid ((hrX.kx k8 (by have:=HMM.out; have:=HM.out.2; omega) (fun hne b off e hb => by have:=HAo.out hne b off e; have:=HMM.out; omega)).kx ks9 (by have:=HMM.out; have:=HM.out.2; omega) (fun hne b off e hb => by have:=HAo.out hne b off e; have:=HMM.out; omega))
        have HX9:=hid ((kxX.trans (k8.mono fun b hb => .inr (by have:=HMM.out; omega))).trans (ks9.mono fun b hb => .inr (by have:=HMM.out; omega)))
        have HM9:=hid (show MS 1 3 (M5 + 1) w9 (.slice av3 (j + 1) av4) (j + 1) ((acc ++ [bv]).map (Value.int .i64)) from hM8.on fun b hb hl => ks9.block b hl (by omega))
        have a3:=hbX.c 3 _ rfl
        have g3:=hb8.c 3 _ rfl
        have gf:=hb8.fz
        have HRun:=hid hrun
        clear hrun hM8 k8 ks9 hb8 hbX hzX hMX hrX kxX
        go_wp2_with (first | (at_builtin; refine wpList_append_run rfl _ _ _ rfl _ _ rfl rfl _ _ (HRun.out _) ?_; clear HRun))
        (try rw [hw9])
        go_roundw
        case rel => exact ⟨j + 1,by have:=HJ.out; omega,by go_num,HX9.out,HZ9.out,.inr ⟨51,_,_,_,_,_,by decide,HXn.out,HR9.out,HB9.out⟩⟩
        case measure => have:=HJ.out; simp [intOf]; omega
      ·have hpe:=HPe.out.2.2 hlt
       have HXn:=hid (show X = .no 50 (B.length : Int) by rw [HXX.out,hps.out,hpe]; rfl)
       have c2:=hrX.bk.c 2 _ rfl
       have hMX:=hMX.out
       clear hg hlt hpe HPe
       obtain ⟨av3,av4,w8,hrun,hM8,k8⟩:=bits_app (M5 + 1) w6 av1 j av2 acc hMX (by have:=hbX.lt; omega) (by have:=HN2.out; have:=HJ.out; omega) (0)
       have hb8:=hbX.kx k8 (by omega)
       obtain ⟨w9,hw9⟩ : ∃ w9,w8.setCell ⟨M5,3,none⟩ (.slice av3 (j + 1) av4) = w9:=⟨_,rfl⟩
       have ks9 : KX (fun b => b = M5) w8 w9:=by rw [← hw9]; exact ((Grw.refl M5 w8).setCell _ _).kx
       have HB9 : Hid (Bk w9 M5 [.int .i64 r,.int .i64 c,.int .i64 32,.slice av3 (j + 1) av4]):=by rw [← hw9]; exact hb8.set 3 _
       have HZ9:=hid ((hzX.kx k8 (by have:=HMM.out; omega)).kx ks9 (by have:=HMM.out; omega))
       have HR9:=hid ((hrX.kx k8 (by have:=HMM.out; have:=HM.out.2; omega) (fun hne b off e hb => by have:=HAo.out hne b off e; have:=HMM.out; omega)).kx ks9 (by have:=HMM.out; have:=HM.out.2; omega) (fun hne b off e hb => by have:=HAo.out hne b off e; have:=HMM.out; omega))
       have HX9:=hid ((kxX.trans (k8.mono fun b hb => .inr (by have:=HMM.out; omega))).trans (ks9.mono fun b hb => .inr (by have:=HMM.out; omega)))
       have HM9:=hid (show MS 1 3 (M5 + 1) w9 (.slice av3 (j + 1) av4) (j + 1) ((acc ++ [0]).map (Value.int .i64)) from hM8.on fun b hb hl => ks9.block b hl (by omega))
       have a3:=hbX.c 3 _ rfl
       have g3:=hb8.c 3 _ rfl
       have gf:=hb8.fz
       have HRun:=hid hrun
       clear hrun hM8 k8 ks9 hb8 hbX hzX hMX hrX kxX
       go_wp2_with (first | (at_builtin; refine wpList_append_run rfl _ _ _ rfl _ _ rfl rfl _ _ (HRun.out _) ?_; clear HRun))
       (try rw [hw9])
       go_roundw
       case rel => exact ⟨j + 1,by have:=HJ.out; omega,by go_num,HX9.out,HZ9.out,.inr ⟨50,_,_,_,_,_,by decide,HXn.out,HR9.out,HB9.out⟩⟩
       case measure => have:=HJ.out; simp [intOf]; omega
     ·have hjN2 : j = N:=by omega
      subst hjN2
      have d1 : decide ((j : Int) < (j : Int)) = false:=decide_eq_false (by omega)
      have d2 : decide (j < j) = false:=decide_eq_false (by omega)
      have hXe : X = .ok ⟨r,c,32,acc⟩ qj:=by
       rw [HXX.out,HPr.out,Nat.sub_self]
       simp [prep,ppure,Res.andTo]
      have HXe:=hid hXe
      obtain ⟨g,hav,hgM⟩ : ∃ g,av1 = some ⟨g,0,none⟩ ∧ M5 + 1 ≤ g:=by
       rcases HMr.out with ⟨h0,-,-⟩ | ⟨g,cap2,e,hg,-⟩
       ·have : 1 ≤ r * c:=by
         have h1 : r * 1 ≤ r * c:=Int.mul_le_mul_of_nonneg_left (by have:=HOk.out; omega) (by omega)
         omega
        omega
       ·injection e with e1; exact ⟨g,e1,hg⟩
      subst hav
      clear hXe hjN hj
      go_wp2_with fail
      refine bodyPost_ret (v:=.agg #[.int .i64 r,.int .i64 c,.int .i64 32,.slice (some ⟨g,0,none⟩) j av2]) (by simp [results,Try.results35,go_sem,m0,m1,m2,m3]) rfl ?_
      have ksf : KX (fun b => b = M) wr ((((wr.setCell ⟨M,0,none⟩ (.int .i64 r)).setCell ⟨M,1,none⟩ (.int .i64 c)).setCell ⟨M,2,none⟩ (.int .i64 32)).setCell ⟨M,3,none⟩ (.slice (some ⟨g,0,none⟩) j av2)):=(((((Grw.refl M wr).setCell 0 _).setCell 1 _).setCell 2 _).setCell 3 _).kx
      refine ⟨(((HK0.out.kx _).trans KXr.out).trans (ksf.mono (Y:=fun b => b = R ∨ M ≤ b) fun b hb => .inr (by omega))).shrinkR fun i hi hx => hx.resolve_right (by have:=HM.out.1; omega),?_⟩
      rw [HXe.out]
      refine ⟨_,rfl,⟨g,av2,by rw [HAl.out],by have:=HMM.out; omega,?_⟩,HRr.out.kx ksf (by have:=HM.out.2; omega) (fun hne b off e hb => by have:=HAo.out hne b off e; omega)⟩
      rcases HMr.out with ⟨h0,h1,h2⟩ | ⟨g2,cap2,e,hg,hl2,hc2,hO⟩
      ·cases h2
      ·cases e
       exact hO.on (ksf.block g hO.lt (by have:=HMM.out; omega))
end Go.Proofs.Ytocjfdiimapojaa
