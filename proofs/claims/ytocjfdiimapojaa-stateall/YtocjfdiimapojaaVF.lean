/- Package state: a reader takes a matrix. -/
import Derived.Test.YtocjfdiimapojaaVD0
import Derived.Test.YtocjfdiimapojaaVD1
import Derived.Test.YtocjfdiimapojaaVD2
import Derived.Test.YtocjfdiimapojaaVE
namespace Go.Proofs.Ytocjfdiimapojaa
open Go.ChangeShapes Go.WideShapes Go.ChangeAt Go.RowKit
set_option maxHeartbeats 16000000
set_option maxRecDepth 100000
set_option linter.unusedVariables false
set_option linter.unusedSimpArgs false
theorem hid {p : Prop} (h : p) : Hid p:=h
abbrev IntV : World → Value → Int → Prop:=fun _ v n => v = .int .i64 n
theorem numv_len (k : Nat) (g : Int → Bool) (B : List Int) (q : Nat) : (∃ p,pnum k g B q = .no 50 B.length ∧ B.length < q + k ∧ p = 0) ∨ (q + k ≤ B.length ∧ ((g (numv k B q) = true ∧ pnum k g B q = .ok (numv k B q) (q + k)) ∨ (g (numv k B q) = false ∧ pnum k g B q = .no 51 q))):=by
 unfold pnum
 by_cases h : q + k ≤ B.length
 ·right
  refine ⟨h,?_⟩
  rw [if_pos h]
  cases hg : g (numv k B q) <;> simp
 ·left
  rw [if_neg h]
  exact ⟨0,rfl,by omega,rfl⟩
theorem number_any0 (k q cap R K : Nat) (ao : Option Addr) (B : List Int) (hk1 : 1 ≤ k) (hk : k ≤ 8) (g : Int → Bool) (w : World) (kk : Int) (hkk : (k : Int) = kk) (hR : RV w R ao B cap q) (hB : Byt B)
  (hcall : ∀ (x : Int) (wx : World),(callFunc K #[.int .i64 x]).run Try.prog wx = .ok (.enter K #[.int .i64 x]) wx)
  (HC : ∀ u,Kept w u → Calls Try.prog K #[.int .i64 (numv k B q)] u fun e w' => e = .returned (.bool (g (numv k B q))) ∧ Kept u w') :
  Calls Try.prog 49 #[.pointer (some ⟨R,0,none⟩),.int .i64 kk,.func (.func K) #[] #[]] w (Gv R ao B cap w (pnum k g B q) IntV):=by
 subst hkk
 rcases numv_len k g B q with ⟨-,e,hl,-⟩ | ⟨hl,⟨hg,e⟩ | ⟨hg,e⟩⟩
 ·rw [e]
  refine (number_end k q cap R K ao B #[] hk w hR hl).mono ?_
  rintro e w' ⟨rfl,kk⟩
  exact ⟨rfl,kk.toGrw R⟩
 ·rw [e]
  refine (number_ok0 k q cap R K ao B hk1 hk w hR hl hB hcall (by rw [hg] at HC; exact HC)).mono ?_
  rintro e w' ⟨rfl,kk,hv⟩
  exact ⟨_,rfl,kk,hv,rfl⟩
 ·rw [e]
  refine (number_bad0 k q cap R K ao B hk1 hk w hR hl hB hcall (by rw [hg] at HC; exact HC)).mono ?_
  rintro e w' ⟨rfl,kk⟩
  exact ⟨rfl,kk.toGrw R⟩
theorem number_any1 (k q cap R K : Nat) (ao : Option Addr) (B : List Int) (c1 : Addr) (hk1 : 1 ≤ k) (hk : k ≤ 8) (g : Int → Bool) (w : World) (kk : Int) (hkk : (k : Int) = kk) (hR : RV w R ao B cap q) (hB : Byt B)
  (hcall : ∀ (x : Int) (wx : World),(callFunc K #[.int .i64 x,.pointer (some c1)]).run Try.prog wx = .ok (.enter K #[.int .i64 x,.pointer (some c1)]) wx)
  (HC : ∀ u,Kept w u → Calls Try.prog K #[.int .i64 (numv k B q),.pointer (some c1)] u fun e w' => e = .returned (.bool (g (numv k B q))) ∧ Kept u w') :
  Calls Try.prog 49 #[.pointer (some ⟨R,0,none⟩),.int .i64 kk,.func (.func K) #[] #[.pointer (some c1)]] w (Gv R ao B cap w (pnum k g B q) IntV):=by
 subst hkk
 rcases numv_len k g B q with ⟨-,e,hl,-⟩ | ⟨hl,⟨hg,e⟩ | ⟨hg,e⟩⟩
 ·rw [e]
  refine (number_end k q cap R K ao B #[.pointer (some c1)] hk w hR hl).mono ?_
  rintro e w' ⟨rfl,kk⟩
  exact ⟨rfl,kk.toGrw R⟩
 ·rw [e]
  refine (number_ok1 k q cap R K ao B c1 hk1 hk w hR hl hB hcall (by rw [hg] at HC; exact HC)).mono ?_
  rintro e w' ⟨rfl,kk,hv⟩
  exact ⟨_,rfl,kk,hv,rfl⟩
 ·rw [e]
  refine (number_bad1 k q cap R K ao B c1 hk1 hk w hR hl hB hcall (by rw [hg] at HC; exact HC)).mono ?_
  rintro e w' ⟨rfl,kk⟩
  exact ⟨rfl,kk.toGrw R⟩
theorem number_any2 (k q cap R K : Nat) (ao : Option Addr) (B : List Int) (c1 c2 : Addr) (hk1 : 1 ≤ k) (hk : k ≤ 8) (g : Int → Bool) (w : World) (kk : Int) (hkk : (k : Int) = kk) (hR : RV w R ao B cap q) (hB : Byt B)
  (hcall : ∀ (x : Int) (wx : World),(callFunc K #[.int .i64 x,.pointer (some c1),.pointer (some c2)]).run Try.prog wx = .ok (.enter K #[.int .i64 x,.pointer (some c1),.pointer (some c2)]) wx)
  (HC : ∀ u,Kept w u → Calls Try.prog K #[.int .i64 (numv k B q),.pointer (some c1),.pointer (some c2)] u fun e w' => e = .returned (.bool (g (numv k B q))) ∧ Kept u w') :
  Calls Try.prog 49 #[.pointer (some ⟨R,0,none⟩),.int .i64 kk,.func (.func K) #[] #[.pointer (some c1),.pointer (some c2)]] w (Gv R ao B cap w (pnum k g B q) IntV):=by
 subst hkk
 rcases numv_len k g B q with ⟨-,e,hl,-⟩ | ⟨hl,⟨hg,e⟩ | ⟨hg,e⟩⟩
 ·rw [e]
  refine (number_end k q cap R K ao B #[.pointer (some c1),.pointer (some c2)] hk w hR hl).mono ?_
  rintro e w' ⟨rfl,kk⟩
  exact ⟨rfl,kk.toGrw R⟩
 ·rw [e]
  refine (number_ok2 k q cap R K ao B c1 c2 hk1 hk w hR hl hB hcall (by rw [hg] at HC; exact HC)).mono ?_
  rintro e w' ⟨rfl,kk,hv⟩
  exact ⟨_,rfl,kk,hv,rfl⟩
 ·rw [e]
  refine (number_bad2 k q cap R K ao B c1 c2 hk1 hk w hR hl hB hcall (by rw [hg] at HC; exact HC)).mono ?_
  rintro e w' ⟨rfl,kk⟩
  exact ⟨rfl,kk.toGrw R⟩
theorem numv_val (n : Int) (hn : val 0 n = true) (B : List Int) (hB : Byt B) (q : Nat) : val (numv (Int.tdiv n 8).toNat B q) n = true ∧ 1 ≤ (Int.tdiv n 8).toNat ∧ (Int.tdiv n 8).toNat ≤ 8:=by
 rw [val_0,decide_eq_true_eq] at hn
 rcases hn with rfl | rfl
 ·exact ⟨by simp [val],by decide,by decide⟩
 ·refine ⟨?_,by decide,by decide⟩
  have h:=un_rng 4 B q hB
  have e : (Int.tdiv 32 8).toNat = 4:=by decide
  have e2 : (256 : Int) ^ 4 = 4294967296:=by decide
  rw [e]
  unfold val numv
  rw [wrap_i64,decide_eq_true_eq]
  omega
theorem numv_small (B : List Int) (hB : Byt B) (q : Nat) : 0 ≤ numv 2 B q ∧ numv 2 B q ≤ 65535:=by
 have h:=un_rng 2 B q hB
 have e2 : (256 : Int) ^ 2 = 65536:=by decide
 unfold numv
 rw [wrap_i64]
 omega
/-- A matrix that was read: its list is new. -/
def MatV (H : Nat) (w : World) (v : Value) (m : Mat) : Prop:=∃ g,v = .agg #[.int .i64 m.r,.int .i64 m.c,.int .i64 m.n,.slice (some ⟨g,0,none⟩) m.L.length m.L.length] ∧ H ≤ g ∧ Own w g m.L.length m.L
theorem RV.grw {u u' : World} {R g : Nat} {ao : Option Addr} {B : List Int} {cap q : Nat} (h : RV u R ao B cap q) (hg : u.heap.size ≤ g) (k : Grw g u u') : RV u' R ao B cap q:=h.kept ((Kept.refl u).grw hg k)
theorem prep_step {α : Type} (p : Ps α) (B : List Int) (N j q0 q1 : Nat) (hj : j < N) (acc : List α) (h : prep N p B q0 = (prep (N - j) p B q1).andTo fun l qq => .ok (acc ++ l) qq) :
  prep N p B q0 = (p B q1).andTo fun a q2 => (prep (N - (j + 1)) p B q2).andTo fun l qq => .ok ((acc ++ [a]) ++ l) qq:=by
 rw [h,show N - j = (N - (j + 1)) + 1 by omega]
 show ((p B q1).andTo _).andTo _ = _
 rw [Res.andTo_andTo]
 congr 1
 funext a q2
 show ((prep (N - (j + 1)) p B q2).andTo _).andTo _ = _
 rw [Res.andTo_andTo]
 congr 1
 funext l q3
 show Res.ok (acc ++ a :: l) q3 = _
 rw [List.append_assoc]
 rfl
theorem pnum_ok {k : Nat} {g : Int → Bool} {B : List Int} {q : Nat} {n : Int} {q1 : Nat} (h : pnum k g B q = .ok n q1) : n = numv k B q ∧ g n = true ∧ q1 = q + k ∧ q + k ≤ B.length:=by
 rcases numv_len k g B q with ⟨-,e,-⟩ | ⟨hl,⟨hg,e⟩ | ⟨hg,e⟩⟩
 ·rw [e] at h; cases h
 ·rw [e] at h; cases h; exact ⟨rfl,hg,rfl,hl⟩
 ·rw [e] at h; cases h
theorem gv_no {α : Type} {R : Nat} {ao : Option Addr} {B : List Int} {cap : Nat} {w : World} {er p : Int} {V : World → Value → α → Prop} {e : Ending} {w' : World} (h : Gv R ao B cap w (.no er p) V e w') : e = PN er p ∧ Grw R w w':=h
theorem gv_ok {α : Type} {R : Nat} {ao : Option Addr} {B : List Int} {cap : Nat} {w : World} {a : α} {q : Nat} {V : World → Value → α → Prop} {e : Ending} {w' : World} (h : Gv R ao B cap w (.ok a q) V e w') : ∃ v,e = .returned v ∧ Grw R w w' ∧ RV w' R ao B cap q ∧ V w' v a:=h
theorem Grw.cellk {g : Nat} {a b : World} (h : Grw g a b) (D o : Nat) (hD : D < a.heap.size) (hne : D ≠ g) : b.cell? ⟨D,o,none⟩ = a.cell? ⟨D,o,none⟩:=h.cellx D o hD hne
/-- one cell of a variable -/
structure IC (u : World) (D : Nat) (x : Int) : Prop where
 c : u.cell? ⟨D,0,none⟩ = some (.int .i64 x)
theorem IC.lt {u : World} {D : Nat} {x : Int} (h : IC u D x) : D < u.heap.size:=World.block_lt_of_cell? _ _ h.c
theorem IC.new (u : World) (x : Int) : IC (u.alloc (.cells #[.int .i64 x] 3)) u.heap.size x:=⟨by simp [go_sem]⟩
theorem IC.kept {u u' : World} {D : Nat} {x : Int} (h : IC u D x) (k : Kept u u') : IC u' D x:=⟨(k.below.cell (p:=⟨D,0,none⟩) h.lt).trans h.c⟩
theorem IC.grw {u u' : World} {D g : Nat} {x : Int} (h : IC u D x) (k : Grw g u u') (hne : D ≠ g) : IC u' D x:=⟨(k.cellk D 0 h.lt hne).trans h.c⟩
theorem M4.grw {w w' : World} {B g : Nat} {r c n s : Value} (h : M4 w B r c n s) (k : Grw g w w') (hne : B ≠ g) : M4 w' B r c n s :=
 ⟨(k.cellk B 0 h.lt hne).trans h.c0,(k.cellk B 1 h.lt hne).trans h.c1,(k.cellk B 2 h.lt hne).trans h.c2,(k.cellk B 3 h.lt hne).trans h.c3⟩
theorem IC.kx {u u' : World} {D : Nat} {x : Int} {X : Nat → Prop} (h : IC u D x) (k : KX X u u') (hne : ¬ X D) : IC u' D x:=by
 have e:=k.block D h.lt hne
 refine ⟨?_⟩
 rw [← h.c]
 exact World.cell?_of_block e
theorem rmatrix_any (q cap R : Nat) (ao : Option Addr) (B : List Int) (w : World) (hR : RV w R ao B cap q) (hB : Byt B) :
  Calls Try.prog 64 #[.pointer (some ⟨R,0,none⟩)] w (Gv R ao B cap w (pmat B q) (MatV w.heap.size)):=by
 have hmf : ∀ (fn : Fn) (first cap : Array Value) (w : World),(Instr.makeFunc fn first cap).run Try.prog w = .ok (.func fn first cap) w:=fun _ _ _ _ => rfl
 obtain ⟨M0,hM0⟩ : ∃ M0,w.heap.size = M0:=⟨_,rfl⟩
 have hRl:=hR.lt
 obtain ⟨W0,hW0⟩ : ∃ W0,(w.alloc (.cells #[.int .i64 0,.int .i64 0,.int .i64 0,.slice none 0 0] 54)) = W0:=⟨_,rfl⟩
 have k0 : Kept w W0:=by rw [← hW0]; exact (Kept.refl w).alloc _ _
 have m0 : M4 W0 M0 (.int .i64 0) (.int .i64 0) (.int .i64 0) (.slice none 0 0):=by rw [← hW0,← hM0]; exact M4.new w _ _ _ _ _
 have hM0l : R < M0:=by omega
 have HK1:=hid (number_any0 1 q cap R 74 ao B (by decide) (by decide) (fun n => val 0 n) W0 1 rfl (hR.kept k0) hB (fun x wx => rfl) (fun u _ => rmat1_any _ u))
 obtain ⟨X,hX⟩ : ∃ X,pmat B q = X:=⟨_,rfl⟩
 rw [hX]
 replace hX : ((pnum 1 (fun n => val 0 n) B q).andTo fun n q => (pnum 2 (fun r => decide (r > 0)) B q).andTo fun r q => (pnum 2 (fun c => ckS r c n == 0) B q).andTo fun c q => (prep (r * c).toNat (pel n) B q).andTo fun L q => .ok ⟨r,c,n,L⟩ q) = X:=hX
 have hfz0 : ∀ o,W0.frozen? ⟨M0,o,none⟩ = false:=fun o => by rw [← hW0,← hM0]; simp [go_sem]
 rcases hx1 : pnum 1 (fun n => val 0 n) B q with ⟨er,pl⟩ | ⟨n,q1⟩
 ·rw [hx1] at HK1
  rw [hx1,Res.andTo_no] at hX
  subst hX
  clear hx1
  go_enter Try.func64,Try.ntmps64
  go_wp2_with fail
  go_at_call 49
  refine HK1.out.mono ?_
  intro e w1 h1
  obtain ⟨rfl,g1⟩:=gv_no h1
  go_wp2_with fail
  exact ⟨rfl,rfl,(k0.toGrw R).trans g1⟩
 obtain ⟨en,hn,rfl,hl1⟩:=pnum_ok hx1
 clear en
 rw [hx1] at HK1
 rw [hx1,Res.andTo_ok] at hX
 go_enter Try.func64,Try.ntmps64
 go_wp2_with fail
 go_at_call 49
 refine HK1.out.mono ?_
 intro e w1 h1
 obtain ⟨v,rfl,g1,r1,ev⟩:=gv_ok h1
 obtain rfl : v = .int .i64 n:=ev
 clear h1 HK1 hx1
 obtain ⟨D,hD⟩ : ∃ D,w1.heap.size = D:=⟨_,rfl⟩
 obtain ⟨W1,hW1⟩ : ∃ W1,w1.alloc (.cells #[.int .i64 n] 3) = W1:=⟨_,rfl⟩
 have k1 : Kept w1 W1:=by rw [← hW1]; exact (Kept.refl w1).alloc _ _
 have i1 : IC W1 D n:=by rw [← hW1,← hD]; exact IC.new w1 n
 have hDl : M0 < D:=by
  have:=g1.size
  have e2 : W0.heap.size = M0 + 1:=by rw [← hW0,← hM0]; simp
  omega
 have g2 : Grw R w W1:=((k0.toGrw R).trans g1).trans (k1.toGrw R)
 have m1 : M4 W1 M0 (.int .i64 0) (.int .i64 0) (.int .i64 0) (.slice none 0 0):=(m0.grw g1 (by omega)).bl k1.bl
 have r2:=r1.kept k1
 have HK2:=hid (number_any0 2 (q + 1) cap R 75 ao B (by decide) (by decide) (fun r => decide (r > 0)) W1 2 rfl r2 hB (fun x wx => rfl) (fun u _ => rmat2_any _ u))
 rcases hx1 : pnum 2 (fun r => decide (r > 0)) B (q + 1) with ⟨er,pl⟩ | ⟨r,q2⟩
 ·rw [hx1] at HK2
  rw [hx1,Res.andTo_no] at hX
  subst hX
  clear hx1
  go_wp2_with fail
  go_at_call 49
  refine HK2.out.mono ?_
  intro e w2 h1
  obtain ⟨rfl,g3⟩:=gv_no h1
  go_wp2_with fail
  exact ⟨rfl,rfl,g2.trans g3⟩
 obtain ⟨er1,hr,rfl,hl2⟩:=pnum_ok hx1
 have hrs:=numv_small B hB (q + 1)
 rw [← er1] at hrs
 clear er1
 rw [decide_eq_true_eq] at hr
 rw [hx1] at HK2
 rw [hx1,Res.andTo_ok] at hX
 go_wp2_with fail
 go_at_call 49
 refine HK2.out.mono ?_
 intro e w2 h1
 obtain ⟨v,rfl,g3,r3,ev⟩:=gv_ok h1
 obtain rfl : v = .int .i64 r:=ev
 clear h1 HK2 hx1
 obtain ⟨E,hE⟩ : ∃ E,w2.heap.size = E:=⟨_,rfl⟩
 obtain ⟨W2,hW2⟩ : ∃ W2,w2.alloc (.cells #[.int .i64 r] 3) = W2:=⟨_,rfl⟩
 have k2 : Kept w2 W2:=by rw [← hW2]; exact (Kept.refl w2).alloc _ _
 have i2 : IC W2 E r:=by rw [← hW2,← hE]; exact IC.new w2 r
 have hEl : D < E:=by
  have:=g3.size
  have e2 : W1.heap.size = D + 1:=by rw [← hW1,← hD]; simp
  omega
 have g4 : Grw R w W2:=(g2.trans g3).trans (k2.toGrw R)
 have m2 : M4 W2 M0 (.int .i64 0) (.int .i64 0) (.int .i64 0) (.slice none 0 0):=(m1.grw g3 (by omega)).bl k2.bl
 have i3 : IC W2 D n:=(i1.grw g3 (by omega)).kept k2
 have r4:=r3.kept k2
 have HK3:=hid (number_any2 2 (q + 1 + 2) cap R 76 ao B ⟨E,0,none⟩ ⟨D,0,none⟩ (by decide) (by decide) (fun c => ckS r c n == 0) W2 2 rfl r4 hB (fun x wx => rfl) (fun u ku => rmat3_any _ r n E D u (i2.kept ku).c (i3.kept ku).c))
 have hfz2 : ∀ o,W2.frozen? ⟨M0,o,none⟩ = false:=fun o => (k2.frozen _).trans ((g3.frozen _).trans ((k1.frozen _).trans ((g1.frozen _).trans (hfz0 o))))
 clear k1 k2 m0 m1 r1 r2 r3 i1 g2 g3 g1 k0 hfz0
 rcases hx1 : pnum 2 (fun c => ckS r c n == 0) B (q + 1 + 2) with ⟨er,pl⟩ | ⟨c,q2⟩
 ·rw [hx1] at HK3
  rw [hx1,Res.andTo_no] at hX
  subst hX
  clear hx1
  go_wp2_with fail
  go_at_call 49
  refine HK3.out.mono ?_
  intro e w2 h1
  obtain ⟨rfl,g3⟩:=gv_no h1
  go_wp2_with fail
  exact ⟨rfl,rfl,g4.trans g3⟩
 obtain ⟨er1,hc,rfl,hl3⟩:=pnum_ok hx1
 clear er1
 rw [beq_iff_eq] at hc
 obtain ⟨hn2,hr1,hc1,hrc⟩:=ckS_ok hc
 rw [hx1] at HK3
 rw [hx1,Res.andTo_ok] at hX
 go_wp2_with fail
 go_at_call 49
 refine HK3.out.mono ?_
 intro e w3 h1
 obtain ⟨v,rfl,g5,r5,ev⟩:=gv_ok h1
 obtain rfl : v = .int .i64 c:=ev
 clear h1 HK3 hx1
 obtain ⟨N,hN⟩ : ∃ N : Nat,r * c = (N : Int):=Int.eq_ofNat_of_zero_le (Int.mul_nonneg (by omega) (by omega))
 have hN1 : 1 ≤ N:=by have:=(le_of_mul hr1 hc1).1; omega
 have hN2 : N ≤ 4096:=by omega
 rw [hN,show ((N : Nat) : Int).toNat = N from Int.toNat_natCast N] at hX
 have HX:=hid hX
 clear hX
 have z1 : IntKind.i64.wrap (r * c) = (N : Int):=by rw [hN,wrap_i64]; omega
 have i4:=i2.grw g5 (by omega)
 have i5:=i3.grw g5 (by omega)
 have c4:=i4.c
 have c5:=i5.c
 have hmk:=tmake_run N N (Nat.le_refl _) (by omega) w3
 obtain ⟨G,hG⟩ : ∃ G,w3.heap.size = G:=⟨_,rfl⟩
 obtain ⟨W4,hW4⟩ : ∃ W4,w3.alloc (.cells (madeCells #[.int .i64 0] N) 3) = W4:=⟨_,rfl⟩
 have ho:=town_made N N (Nat.le_refl _) (by omega) w3
 rw [hW4,hG] at hmk ho
 have k4 : Kept w3 W4:=by rw [← hW4]; exact (Kept.refl w3).alloc _ _
 have hGl : E < G:=by have:=i4.lt; omega
 go_wp2_with fail
 obtain ⟨i6,i7⟩ : IC W4 D n ∧ IC W4 E r:=⟨i5.kept k4,i4.kept k4⟩
 have r6:=r5.kept k4
 have hnv:=numv_val n hn B hB
 obtain ⟨kk,hkk⟩ : ∃ kk,(Int.tdiv n 8).toNat = kk:=⟨_,rfl⟩
 have hkt : Int.tdiv n 8 = (kk : Int):=by
  rw [val_0,decide_eq_true_eq] at hn
  rcases hn with rfl | rfl
  ·rw [← hkk]; rfl
  ·rw [← hkk]; rfl
 rw [hkk] at hnv
 have hkw : wrap64 (kk : Int) = (kk : Int):=by have:=(hnv 0).2.2; unfold wrap64; omega
 have hpel : pel n = pnum kk (fun b => fin b n):=by rw [← hkk]; rfl
 have g6 : Grw R w W4:=(g4.trans g5).trans (k4.toGrw R)
 have m6 : M4 W4 M0 (.int .i64 0) (.int .i64 0) (.int .i64 0) (.slice none 0 0):=(m2.grw g5 (by omega)).bl k4.bl
 have hfz4 : ∀ o,W4.frozen? ⟨M0,o,none⟩ = false:=fun o => (k4.frozen _).trans ((g5.frozen _).trans (hfz2 o))
 have HI : Hid (∀ u,KX (fun b => b = R ∨ b = G) W4 u → IC u D n ∧ IC u E r):=fun u ku => ⟨i6.kx ku (by omega),i7.kx ku (by omega)⟩
 obtain ⟨q4,hq4⟩ : ∃ q4,q + 1 + 2 + 2 = q4:=⟨_,rfl⟩
 rw [hq4] at HX r6
 rw [hpel] at HX
 have HN : Hid (∀ qq u,RV u R ao B cap qq → IC u D n → Calls Try.prog 49 #[.pointer (some ⟨R,0,none⟩),.int .i64 (kk : Int),.func (.func 77) #[] #[.pointer (some ⟨D,0,none⟩)]] u (Gv R ao B cap u (pnum kk (fun b => fin b n) B qq) IntV)):=fun qq u hr hi =>
  number_any1 kk qq cap R 77 ao B ⟨D,0,none⟩ (hnv qq).2.1 (hnv qq).2.2 (fun b => fin b n) u (kk : Int) rfl hr hB (fun x wx => rfl) (fun u2 k2 => rmat4_any _ n (hnv qq).1 D u2 (hi.kept k2).c)
 have HH : Hid (R < M0 ∧ M0 < D ∧ D < E ∧ E < G ∧ N ≤ 4096):=⟨hM0l,hDl,hEl,hGl,hN2⟩
 have HC5 : Hid (1 ≤ r ∧ 1 ≤ c ∧ r * c = N):=⟨hr1,hc1,hN⟩
 have hr6:=hid r6
 have HFF:=hid (show Grw R w W4 ∧ M4 W4 M0 (.int .i64 0) (.int .i64 0) (.int .i64 0) (.slice none 0 0) ∧ (∀ o,W4.frozen? ⟨M0,o,none⟩ = false) ∧ w.heap.size = M0 ∧ IC W4 D n ∧ IC W4 E r from ⟨g6,m6,hfz4,hM0,i6,i7⟩)
 have ho0:=hid ho
 have hkx0:=hid (show KX (fun b => b = R ∨ b = G) W4 W4 from (Kept.refl W4).kx _)
 clear hmk hW4 hG hW0 hW1 hW2 hM0 hD hE m6 m2 g6 g5 g4 k4 r6 r5 r4 i2 i3 i4 i5 i6 i7 c4 c5 ho z1 hn hn2 hnv hkk hpel hfz4 hfz2 hq4 hR hRl hrs hc hrc hl1 hl2 hl3 hr hM0l hDl hEl hGl hr1 hc1 hN hN1 hN2 hmf
 have hmf : ∀ (fn : Fn) (first cap : Array Value) (w : World),(Instr.makeFunc fn first cap).run Try.prog w = .ok (.func fn first cap) w:=fun _ _ _ _ => rfl
 go_loopw [21] (fun iv wr => ∃ (j : Nat) (acc : List Int) (q1 : Nat),j ≤ N ∧ acc.length = j ∧ iv = .int .i64 (j : Int) ∧ KX (fun b => b = R ∨ b = G) W4 wr ∧ RV wr R ao B cap q1 ∧ Own wr G N (acc ++ List.replicate (N - j) 0) ∧ (prep N (pnum kk (fun b => fin b n)) B q4 = (prep (N - j) (pnum kk (fun b => fin b n)) B q1).andTo fun l qq => .ok (acc ++ l) qq)) (fun iv _ => N - (intOf iv).toNat)
 case atStart =>
  refine ⟨0,[],q4,Nat.zero_le _,rfl,rfl,hkx0.out,hr6.out,ho0.out,?_⟩
  rw [Nat.sub_zero]
  cases prep N (pnum kk (fun b => fin b n)) B q4 <;> rfl
 case round =>
  obtain ⟨j,acc,q1,hj,hal,rfl,kx,rv,ow,hp⟩:=hrel
  obtain ⟨i6,i7⟩:=HI.out _ kx
  have c6:=i6.c
  obtain ⟨h1,h2,h3,h4,h5⟩:=HH.out
  by_cases hjn : j < N
  ·have HNj:=hid (HN.out q1 wr rv i6)
   have hps:=hid (prep_step _ B N j q4 q1 hjn acc hp)
   have z2 : IntKind.i64.wrap ((j : Int) + 1) = (j : Int) + 1:=by rw [wrap_i64]; omega
   have hbd : (0 : Int) ≤ (j : Int) ∧ (j : Int) < (N : Int):=by omega
   have hbd2 : (j : Int) < (N : Int):=by omega
   have hkx:=hid kx
   have how:=hid ow
   clear hp h1 h2 h3 h4 h5 kx ow i6 i7 rv
   rcases hx : pnum kk (fun b => fin b n) B q1 with ⟨er,pl⟩ | ⟨x,q2⟩
   ·rw [hx] at HNj hps
    have hXe : X = .no er pl:=by rw [← HX.out,hps.out]; rfl
    subst hXe
    go_wp2_with fail
    go_at_call 49
    refine HNj.out.mono ?_
    intro e w5 h1
    obtain ⟨rfl,g5⟩:=gv_no h1
    go_wp2_with fail
    obtain ⟨f1,f2,f3,f4,f5,f6⟩:=HFF.out
    obtain ⟨h1,h2,h3,h4,h5⟩:=HH.out
    exact ⟨rfl,rfl,((f1.kx.mono fun b hb => .inl hb).trans (hkx.out.trans (g5.kx.mono fun b hb => .inl hb))).grw fun i hi hx => hx.resolve_right (by omega)⟩
   ·rw [hx] at HNj hps
    clear hx
    go_wp2_with fail
    go_at_call 49
    refine HNj.out.mono ?_
    intro e w5 h1
    obtain ⟨v,rfl,g5,r5,ev⟩:=gv_ok h1
    obtain rfl : v = .int .i64 x:=ev
    clear h1
    have hkx5 : KX (fun b => b = R ∨ b = G) W4 w5:=hkx.out.trans (g5.kx.mono fun b hb => .inl hb)
    have ow5:=how.out.grw g5 (by have:=HH.out; omega)
    have hce:=ow5.cell j (by simp; omega)
    have hfr:=ow5.free j
    have ow6:=ow5.set j x
    have hsz : (acc ++ List.replicate (N - j) 0).set j x = (acc ++ [x]) ++ List.replicate (N - (j + 1)) 0:=by
     rw [List.set_append_right _ _ (by omega),hal,Nat.sub_self,show N - j = (N - (j + 1)) + 1 by omega,List.replicate_succ,List.set_cons_zero,List.append_assoc]
     rfl
    rw [hsz] at ow6
    have hw6:=hid (show KX (fun b => b = R ∨ b = G) W4 (w5.setCell ⟨G,j,none⟩ (.int .i64 x)) from hkx5.trans (((Grw.refl G w5).setCell j _).kx.mono fun b hb => .inr hb))
    have ow7:=hid ow6
    have r7:=hid (r5.other (p:=⟨G,j,none⟩) (by show R < G; have:=HH.out; omega) (.int .i64 x))
    clear hkx5 ow5 ow6 hsz g5 r5
    go_wp2_with fail
    go_roundw
    case rel => exact ⟨j + 1,acc ++ [x],q2,by omega,by simp; omega,by go_num,hw6.out,r7.out,ow7.out,hps.out⟩
    case measure => simp [intOf]; omega
  ·obtain rfl : j = N:=by omega
   rw [Nat.sub_self] at hp ow
   have hXe : X = .ok ⟨r,c,n,acc⟩ q1:=by rw [← HX.out,hp]; simp [prep,ppure,Res.andTo]
   subst hXe
   have c7:=i7.c
   obtain ⟨f1,f2,f3,f4,f5,f6⟩:=HFF.out
   have fz : ∀ o,wr.frozen? ⟨M0,o,none⟩ = false:=fun o => (kx.frozen _).trans (f3 o)
   have m7 : M4 wr M0 (.int .i64 0) (.int .i64 0) (.int .i64 0) (.slice none 0 0):=by
    have e:=kx.block M0 f2.lt (by omega)
    exact ⟨(World.cell?_of_block e).trans f2.c0,(World.cell?_of_block e).trans f2.c1,(World.cell?_of_block e).trans f2.c2,(World.cell?_of_block e).trans f2.c3⟩
   obtain ⟨d0,d1,d2,d3⟩:=m7
   have m8:=res4 wr M0 _ _ _ _ ⟨d0,d1,d2,d3⟩ (.int .i64 r) (.int .i64 c) (.int .i64 n) (.slice (some ⟨G,0,none⟩) j j)
   have hgf : Grw R w wr:=((f1.kx.mono fun b hb => .inl hb).trans kx).grw fun i hi hx => hx.resolve_right (by omega)
   have HE:=hid (show (M4 ((((wr.setCell ⟨M0,0,none⟩ (.int .i64 r)).setCell ⟨M0,1,none⟩ (.int .i64 c)).setCell ⟨M0,2,none⟩ (.int .i64 n)).setCell ⟨M0,3,none⟩ (.slice (some ⟨G,0,none⟩) j j)) M0 (.int .i64 r) (.int .i64 c) (.int .i64 n) (.slice (some ⟨G,0,none⟩) j j)) ∧ Grw R w wr ∧ RV wr R ao B cap q1 ∧ Own wr G j acc ∧ w.heap.size = M0 ∧ acc.length = j from ⟨m8,hgf,rv,by simpa using ow,f4,hal⟩)
   clear m8 hgf f1 f2 f3 f4 f5 f6 kx rv ow hp i6 i7 h1 h2 h3 h4 h5 hal
   go_wp2_with fail
   obtain ⟨m8,hgf,rv,ow,hM,hal⟩:=HE.out
   obtain ⟨h1,h2,h3,h4,h5⟩:=HH.out
   refine bodyPost_ret (v:=.agg #[.int .i64 r,.int .i64 c,.int .i64 n,.slice (some ⟨G,0,none⟩) j j]) (by simp [results,Try.results64,go_sem,d0,d1,d2,d3]) rfl ?_
   refine ⟨_,rfl,?_,(((rv.other (p:=⟨M0,0,none⟩) h1 _).other (p:=⟨M0,1,none⟩) h1 _).other (p:=⟨M0,2,none⟩) h1 _).other (p:=⟨M0,3,none⟩) h1 _,⟨G,by rw [hal],by omega,?_⟩⟩
   ·exact (((((hgf.kx.mono (Y:=fun b => b = R ∨ b = M0) fun b hb => .inl hb).trans ((((((Grw.refl M0 wr).setCell 0 _).setCell 1 _).setCell 2 _).setCell 3 _).kx.mono fun b hb => .inr hb)))).grw fun i hi hx => hx.resolve_right (by omega))
   ·rw [hal]
    exact (own_v.2 (((((own_v.1 ow).setOther (p:=⟨M0,0,none⟩) (by show G ≠ M0; omega) _).setOther (p:=⟨M0,1,none⟩) (by show G ≠ M0; omega) _).setOther (p:=⟨M0,2,none⟩) (by show G ≠ M0; omega) _).setOther (p:=⟨M0,3,none⟩) (by show G ≠ M0; omega) _))
end Go.Proofs.Ytocjfdiimapojaa
