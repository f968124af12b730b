/- Package state: a writer puts a number. Package state: states that are handed in; checkMatrices. Package state: how many bytes a list of matrices,a state has. Package state: a writer puts a list of matrices. Package state: size; check. Package state: check. Package state: the bytes of a state. -/
import Derived.Test.YtocjfdiimapojaaVM
import Derived.Lib.AppendStr
namespace Go.Proofs.Ytocjfdiimapojaa
open Go.ChangeShapes Go.WideShapes Go.ChangeAt Go.RowKit
set_option maxHeartbeats 16000000
set_option maxRecDepth 100000
set_option linter.unusedVariables false
set_option linter.unusedSimpArgs false
/-- The lowest k bytes of a number. -/
def le : Nat → Int → List Int
 | 0,_ => []
 | k + 1,n => le k n ++ [n / 2 ^ (8 * k) % 256]
theorem le_len (k : Nat) (n : Int) : (le k n).length = k:=by
 induction k with
 | zero => rfl
 | succ k ih => simp [le,ih]
theorem lb_under : Try.prog.underlying 22 = some (.slice 5):=by kernel_rfl
theorem lb_info : (Try.prog.info? 5).map (fun i => (i.zero,i.size,i.bytes)) = some (some (.int .u8 0),1,1):=by kernel_rfl
/-- A writer in its variable: what it has put,and its room. -/
structure WV (u : World) (Wb g C : Nat) (V : List Int) : Prop where
 c : u.cell? ⟨Wb,0,none⟩ = some (.slice (some ⟨g,0,none⟩) V.length C)
 fz : u.frozen? ⟨Wb,0,none⟩ = false
 o : OwnV u g C 5 (V.map (Value.int .u8))
 ne : Wb ≠ g
theorem WV.lt {u : World} {Wb g C : Nat} {V : List Int} (h : WV u Wb g C V) : Wb < u.heap.size:=World.block_lt_of_cell? _ _ h.c
theorem WV.kept {u u' : World} {Wb g C : Nat} {V : List Int} (h : WV u Wb g C V) (k : Kept u u') : WV u' Wb g C V :=
 ⟨(k.below.cell (p:=⟨Wb,0,none⟩) h.lt).trans h.c,(k.frozen _).trans h.fz,h.o.kept k,h.ne⟩
/-- One byte more: where there is room. -/
theorem w_put {u : World} {Wb g C : Nat} {V : List Int} (h : WV u Wb g C V) (hr : V.length < C) (x : Int) (hC : C ≤ 100000000) :
  ∃ w',(∀ ty,(Builtin.append_ #[22,22] ty #[.slice (some ⟨g,0,none⟩) V.length C,.slice (some ⟨u.heap.size,0,none⟩) 1 1]).run Try.prog (u.alloc (.cells #[.int .u8 x] 5)) = .ok (.slice (some ⟨g,0,none⟩) (V.length + 1) C) w') ∧ KX (fun b => b = g) u w' ∧ WV (w'.setCell ⟨Wb,0,none⟩ (.slice (some ⟨g,0,none⟩) (V.length + 1) C)) Wb g C (V ++ [x]) ∧ w'.cell? ⟨Wb,0,none⟩ = some (.slice (some ⟨g,0,none⟩) V.length C) ∧ w'.frozen? ⟨Wb,0,none⟩ = false:=by
 obtain ⟨i,hi,hz2,hs,hb⟩:=info_parts lb_info
 have hK : Kept u (u.alloc (.cells #[.int .u8 x] 5)):=(Kept.refl _).alloc _ _
 obtain ⟨w,hw⟩ : ∃ w,w = u.alloc (.cells #[.int .u8 x] 5):=⟨_,rfl⟩
 have hcell : ∀ j y,([Value.int .u8 x] : List Value)[j]? = some y → w.cell? ((⟨u.heap.size,0,none⟩ : Addr).add j) = some y:=fun j y hj => by
  rw [hw,Addr.add_lit,Nat.zero_add]
  rw [cell_of_row (u.alloc (.cells #[.int .u8 x] 5)) u.heap.size j #[.int .u8 x] 5 (0,0) (heap_alloc_new u _)]
  simpa using hj
 have hS : Src Try.prog i.size 22 (.slice (some ⟨u.heap.size,0,none⟩) 1 1) 1 [Value.int .u8 x] w:=Src.ofSlice w lb_under ⟨u.heap.size,0,none⟩ 1 1 [Value.int .u8 x] (by rw [hs]; simp) hcell (fun y hy => by
  rw [List.mem_singleton] at hy
  rw [hy]; rfl)
 rw [← hw] at hK ⊢
 have hO:=h.o.kept hK
 have hl : (V.map (Value.int .u8)).length = V.length:=List.length_map ..
 have hG:=(Grw.refl g w).setCells [Value.int .u8 x] V.length
 have hO2 : OwnV (w.setCells g V.length [Value.int .u8 x]) g C 5 ((V ++ [x]).map (Value.int .u8)):=by
  have:=hO.pushes [Value.int .u8 x] (by rw [hl]; simp; omega)
  rw [hl] at this
  rw [List.map_append]
  exact this
 have hc : (w.setCells g V.length [Value.int .u8 x]).cell? ⟨Wb,0,none⟩ = some (.slice (some ⟨g,0,none⟩) V.length C):=by
  have hb:=hG.kx.block Wb (Nat.lt_of_lt_of_le h.lt hK.below.size) h.ne
  exact (World.cell?_of_block hb).trans ((h.kept hK).c)
 have hf : (w.setCells g V.length [Value.int .u8 x]).frozen? ⟨Wb,0,none⟩ = false:=(hG.frozen _).trans ((h.kept hK).fz)
 refine ⟨w.setCells g V.length [Value.int .u8 x],fun ty => ?_,(hK.kx _).trans hG.kx,⟨?_,(World.frozen?_setCell _ _ _ _).trans hf,hO2.setOther (by show g ≠ Wb; exact fun e => h.ne e.symm) _,h.ne⟩,hc,hf⟩
 ·have:=run_append_room_src w 22 22 ty 5 i lb_under hi g 0 V.length C (.slice (some ⟨u.heap.size,0,none⟩) 1 1) 1 [Value.int .u8 x] hS (by omega) (fun j hj => hO.some _ (by simp at hj; rw [hs]; omega)) (fun j hj => hO.free _)
  rw [this,hs]
  simp
 ·rw [World.cell?_setCell_same _ _ _ (by rw [hc])]
  simp
theorem wnumber_any (k : Nat) (ki n : Int) (hki : (k : Int) = ki) (hk : k ≤ 8) (Wb g C : Nat) (hC : C ≤ 100000000) (V : List Int) (hr : V.length + k ≤ C) (w : World) (hW : WV w Wb g C V) :
  Calls Try.prog 47 #[.pointer (some ⟨Wb,0,none⟩),.int .i64 n,.int .i64 ki] w fun e w' => e = .returned (.tuple #[]) ∧ KX (fun b => b = Wb ∨ b = g) w w' ∧ WV w' Wb g C (V ++ le k n):=by
 subst hki
 have HK:=hid (show k ≤ 8 ∧ V.length + k ≤ C from ⟨hk,hr⟩)
 have HW:=hid hW
 clear hk hr hW
 go_enter Try.func47,Try.ntmps47
 go_wp2_with fail
 go_loopw [8] (fun iv wr => ∃ i : Nat,i ≤ k ∧ iv = .int .i64 (i : Int) ∧ KX (fun b => b = Wb ∨ b = g) w wr ∧ WV wr Wb g C (V ++ le i n)) (fun iv _ => k - (intOf iv).toNat)
 case atStart => exact ⟨0,Nat.zero_le _,rfl,(Kept.refl w).kx _,by simpa [le] using HW.out⟩
 case round =>
  obtain ⟨i,hi,rfl,kx,wv⟩:=hrel
  by_cases hik : i < k
  ·have hbd2 : (i : Int) < (k : Int):=by omega
   have z2 : IntKind.i64.wrap ((i : Int) + 1) = (i : Int) + 1:=by have:=HK.out; rw [wrap_i64]; omega
   obtain ⟨s8,hs8⟩ : ∃ s8 : Int,s8 = 8 * (i : Int):=⟨_,rfl⟩
   have z3 : IntKind.i64.wrap (8 * (i : Int)) = s8:=by have:=HK.out; rw [wrap_i64]; omega
   obtain ⟨y,hy⟩ : ∃ y : Int,n / 2 ^ (8 * i) = y:=⟨_,rfl⟩
   have z4 : Op.shift .shr .i64 n .i64 s8 = pure (.int .i64 y):=by
    have:=HK.out
    rw [shift_shr_any .i64 .i64 n s8 (by omega),hs8,show (8 * (i : Int)).toNat = 8 * i by omega,Nat.min_eq_left (by show 8 * i ≤ 64; omega),hy]
   obtain ⟨x,hx⟩ : ∃ x : Int,y % 256 = x:=⟨_,rfl⟩
   have z5 : IntKind.u8.wrap y = x:=by rw [IntKind.wrap_u8]; exact hx
   have hle : (V ++ le (i + 1) n) = (V ++ le i n) ++ [x]:=by rw [← hx,← hy,List.append_assoc]; rfl
   have hll : (V ++ le i n).length = V.length + i:=by rw [List.length_append,le_len]
   have wvd:=wv.kept (Kept.refl wr).drew
   obtain ⟨w6,hrun,k6,wv6,c6,f6⟩:=w_put wvd (by rw [hll]; have:=HK.out; omega) x hC
   have hkx:=hid (kx.trans ((((Kept.refl wr).drew.kx _).trans (k6.mono fun b hb => .inr hb))))
   have hwv6:=hid wv6
   have c0:=wv.c
   have f0:=wv.fz
   have hcd:=hid wvd.c
   have hne:=wv.ne
   have HLE:=hid hle
   obtain ⟨Ln,hLn⟩ : ∃ Ln,(V ++ le i n).length = Ln:=⟨_,rfl⟩
   rw [hLn] at hrun c6 c0
   have HLn:=hid hLn
   have HR:=hid hrun
   have hik2:=hid hik
   have hi2:=hid hi
   have hws : w6.setCell ⟨Wb,0,none⟩ (.slice (some ⟨g,0,none⟩) (Ln + 1) C) = w6.setCell ⟨Wb,0,none⟩ (.slice (some ⟨g,0,none⟩) (Ln + 1) C):=rfl
   clear hle hll wvd k6 wv6 kx wv hs8 hy hx hLn hrun hws hik hi
   go_wp2_with fail
   refine wp_region_late [12,13,14] (fun u => u.cell? ⟨Wb,0,none⟩ = some (.slice (some ⟨g,0,none⟩) Ln C)) (by kernel_rfl) (show wr.drew.cell? _ = _ from c0) (fun hHeld => ?_)
   refine tkD (i:=0) (v:=?_) rfl hHeld ?_
   (try simp only [Act.put,zA,zB,zC,zD,zE,zF])
   refine tkD (i:=1) (v:=?_) rfl hHeld ?_
   (try simp only [Act.put,zA,zB,zC,zD,zE,zF])
   refine tkD (i:=2) (v:=?_) rfl hHeld ?_
   (try simp only [Act.put,zA,zB,zC,zD,zE,zF])
   refine tkD (i:=3) (v:=?_) rfl hHeld ?_
   (try simp only [Act.put,zA,zB,zC,zD,zE,zF])
   refine tkD (i:=4) (v:=?_) rfl hHeld ?_
   (try simp only [Act.put,zA,zB,zC,zD,zE,zF])
   refine tkD (i:=5) (v:=?_) rfl hHeld ?_
   (try simp only [Act.put,zA,zB,zC,zD,zE,zF])
   refine tkD (i:=6) (v:=?_) rfl hHeld ?_
   (try simp only [Act.put,zA,zB,zC,zD,zE,zF])
   refine tkD (i:=7) (v:=?_) rfl hHeld ?_
   (try simp only [Act.put,zA,zB,zC,zD,zE,zF])
   refine tkD (i:=8) (v:=?_) rfl hHeld ?_
   (try simp only [Act.put,zA,zB,zC,zD,zE,zF])
   refine tkD (i:=9) (v:=?_) rfl hHeld ?_
   (try simp only [Act.put,zA,zB,zC,zD,zE,zF])
   refine wpAnyD_step (i:=10) (by kernel_rfl) rfl (fun K hK9 => ?_)
   go_simp
   refine hK9.out _ _ (show (World.alloc _ _).cell? _ = _ from (World.cell?_alloc_some _ _ _ (by show (wr.drew.cell? _).isSome = true; rw [show wr.drew.cell? ⟨Wb,0,none⟩ = _ from c0]; rfl)).trans c0) (fun hHeld3 => ?_)
   clear hK9 K
   (try simp only [Act.put,zA,zB,zC,zD,zE,zF])
   refine wpAnyD_step (i:=11) (by kernel_rfl) rfl (fun K hK9 => ?_)
   rw [if_pos (by rfl)]
   refine oper_append_run _ _ _ rfl _ _ rfl rfl _ _ (HR.out _) ?_
   refine hK9.out _ _ (c6) (fun hHeld4 => ?_)
   clear hK9 K
   (try simp only [Act.put,zA,zB,zC,zD,zE,zF])
   refine wpAnyD_late (i:=12) (by kernel_rfl) rfl rfl (fun K hK9 => ?_)
   go_simp
   refine hK9.out _ _ ?_
   clear hK9 K
   (try simp only [Act.put,zA,zB,zC,zD,zE,zF])
   refine wpAnyD_late (i:=13) (by kernel_rfl) rfl rfl (fun K hK9 => ?_)
   go_simp
   refine hK9.out _ _ ?_
   clear hK9 K
   (try simp only [Act.put,zA,zB,zC,zD,zE,zF])
   refine wpAnyD_late (i:=14) (by kernel_rfl) rfl rfl (fun K hK9 => ?_)
   go_simp
   refine hK9.out _ _ ?_
   clear hK9 K
   (try simp only [Act.put,zA,zB,zC,zD,zE,zF])
   refine wpAnyD_done (by kernel_rfl) ?_ _
   (try simp only [Act.put,zA,zB,zC,zD,zE,zF])
   go_wp2_with fail
   go_roundw
   case rel =>
    have e9:=HLn.out
    subst e9
    exact ⟨i + 1,by have:=hik2.out; omega,by go_num,hkx.out.trans (((Grw.refl Wb w6).setCell 0 _).kx.mono fun b hb => .inl hb),by rw [HLE.out]; exact hwv6.out⟩
   case measure => have:=hik2.out; simp [intOf]; omega
  ·obtain rfl : i = k:=by omega
   have hge : ¬ ((i : Int) < (i : Int)):=by omega
   go_wp2_with fail
   go_end0
   exact ⟨rfl,kx,wv⟩
end Go.Proofs.Ytocjfdiimapojaa
namespace Go.Proofs.Ytocjfdiimapojaa
open Go.ChangeShapes Go.WideShapes Go.ChangeAt Go.RowKit
set_option maxHeartbeats 16000000
set_option maxRecDepth 100000
set_option linter.unusedVariables false
set_option linter.unusedSimpArgs false
/-- A matrix's cells,somewhere in a list of matrices. -/
structure MC (w : World) (B o : Nat) (a : Option Addr) (cp : Nat) (m : Mat) : Prop where
 c0 : w.cell? ⟨B,o,none⟩ = some (.int .i64 m.r)
 c1 : w.cell? ⟨B,o + 1,none⟩ = some (.int .i64 m.c)
 c2 : w.cell? ⟨B,o + 2,none⟩ = some (.int .i64 m.n)
 c3 : w.cell? ⟨B,o + 3,none⟩ = some (.slice a m.L.length cp)
 sl : Sl w (.slice a m.L.length cp) m.L
theorem MC.kept {w w' : World} {B o : Nat} {a : Option Addr} {cp : Nat} {m : Mat} (h : MC w B o a cp m) (k : Kept w w') : MC w' B o a cp m:=by
 have hB:=World.block_lt_of_cell? _ _ h.c0
 exact ⟨(k.below.cell (p:=⟨B,o,none⟩) hB).trans h.c0,(k.below.cell (p:=⟨B,o + 1,none⟩) hB).trans h.c1,(k.below.cell (p:=⟨B,o + 2,none⟩) hB).trans h.c2,(k.below.cell (p:=⟨B,o + 3,none⟩) hB).trans h.c3,h.sl.kept k⟩
/-- A list of matrices that can be read. -/
def MlI (w : World) (v : Value) (l : List Mat) : Prop:=∃ ao cap,v = .slice ao l.length cap ∧ l.length ≤ cap ∧ (l ≠ [] → ∃ B off,ao = some ⟨B,off,none⟩ ∧ ∀ i m,l[i]? = some m → ∃ a cp,MC w B (off + i * 4) a cp m)
theorem MlI.kept {w w' : World} {v : Value} {l : List Mat} (h : MlI w v l) (k : Kept w w') : MlI w' v l:=by
 obtain ⟨ao,cap,e,hc,hr⟩:=h
 refine ⟨ao,cap,e,hc,fun hne => ?_⟩
 obtain ⟨B,off,e2,hr⟩:=hr hne
 refine ⟨B,off,e2,fun i m hi => ?_⟩
 obtain ⟨a,cp,h⟩:=hr i m hi
 exact ⟨a,cp,h.kept k⟩
/-- A list of lists. -/
def LlI (w : World) (v : Value) (Q : List (List Mat)) : Prop:=∃ ao cap,v = .slice ao Q.length cap ∧ Q.length ≤ cap ∧ (Q ≠ [] → ∃ B off,ao = some ⟨B,off,none⟩ ∧ ∀ i l,Q[i]? = some l → ∃ lv,w.cell? ⟨B,off + i,none⟩ = some lv ∧ MlI w lv l)
theorem LlI.kept {w w' : World} {v : Value} {Q : List (List Mat)} (h : LlI w v Q) (k : Kept w w') : LlI w' v Q:=by
 obtain ⟨ao,cap,e,hc,hr⟩:=h
 refine ⟨ao,cap,e,hc,fun hne => ?_⟩
 obtain ⟨B,off,e2,hr⟩:=hr hne
 refine ⟨B,off,e2,fun i l hi => ?_⟩
 obtain ⟨lv,h1,h2⟩:=hr i l hi
 exact ⟨lv,(k.below.cell (p:=⟨B,off + i,none⟩) (World.block_lt_of_cell? _ _ h1)).trans h1,h2.kept k⟩
/-- A state that can be read. -/
def StI (w : World) (v : Value) (s : Sta) : Prop:=∃ pv qv,v = .agg #[.int .i64 s.a,.int .i64 s.b,.int .i64 s.d,pv,qv,.int .i64 s.lo,.int .i64 s.ra] ∧ MlI w pv s.P ∧ LlI w qv s.Q
theorem StI.kept {w w' : World} {v : Value} {s : Sta} (h : StI w v s) (k : Kept w w') : StI w' v s:=by
 obtain ⟨pv,qv,e,h1,h2⟩:=h
 exact ⟨pv,qv,e,h1.kept k,h2.kept k⟩
/-- A matrix in form,all of it finite. -/
def matOk (m : Mat) : Prop:=ckM m.r m.c m.n m.L = 0 ∧ ∀ i,i < m.L.length → fin (m.L.getD i 0) m.n = true
def Oks (l : List Mat) : Prop:=∀ (i : Nat) (m : Mat),l[i]? = some m → matOk m
/-- What a check tells. -/
def CkP (p : Prop) (e : Ending) : Prop:=(e = .returned (.tuple #[]) ∧ p) ∨ (e = PN 43 0 ∧ ¬ p)
theorem checkMatrices_any (v : Value) (l : List Mat) (hlen : l.length ≤ 9223372036854775807) (w : World) (hL : MlI w v l) : Calls Try.prog 45 #[v] w fun e w' => Kept w w' ∧ CkP (Oks l) e:=by
 obtain ⟨ao,cap,rfl,hlc,hr⟩:=hL
 have HR : Hid (∀ u,Kept w u → ∀ i m,l[i]? = some m → ∃ B off a cp,ao = some ⟨B,off,none⟩ ∧ MC u B (off + i * 4) a cp m):=fun u ku i m hi => by
  obtain ⟨B,off,e,h⟩:=hr (by intro e; rw [e] at hi; simp at hi)
  obtain ⟨a,cp,hm⟩:=h i m hi
  exact ⟨B,off,a,cp,e,hm.kept ku⟩
 obtain ⟨n,hn⟩ : ∃ n,l.length = n:=⟨_,rfl⟩
 rw [hn] at hlen hlc ⊢
 have HN:=hid hn
 have HLC:=hid (show n ≤ cap ∧ n ≤ 9223372036854775807 from ⟨hlc,hlen⟩)
 clear hn hr hlc hlen
 go_enter Try.func45,Try.ntmps45
 go_wp2_with fail
 go_loopw [8] (fun iv wr => ∃ i : Nat,i ≤ n ∧ iv = .int .i64 (i : Int) ∧ Kept w wr ∧ ∀ (x : Nat) (m : Mat),x < i → l[x]? = some m → matOk m) (fun iv _ => n - (intOf iv).toNat)
 case atStart => exact ⟨0,Nat.zero_le _,rfl,Kept.refl w,fun x m hx => by omega⟩
 case round =>
  obtain ⟨i,hi,rfl,kr,hall⟩:=hrel
  have HA:=hid hall
  clear hall
  by_cases hin : i < n
  ·obtain ⟨m,hm⟩ : ∃ m,l[i]? = some m:=⟨_,List.getElem?_eq_getElem (by rw [HN.out]; exact hin)⟩
   obtain ⟨B,off,a,cp,rfl,mc⟩:=HR.out wr kr i m hm
   have hbd : (0 : Int) ≤ (i : Int) ∧ (i : Int) < (n : Int):=by omega
   have hbd2 : (i : Int) < (n : Int):=by omega
   have z2 : IntKind.i64.wrap ((i : Int) + 1) = (i : Int) + 1:=by have:=HLC.out; rw [wrap_i64]; omega
   obtain ⟨c0,c1,c2,c3,sl⟩:=mc
   obtain ⟨r,c,nn,L⟩:=m
   dsimp only at c0 c1 c2 c3 sl
   obtain ⟨D,hD⟩ : ∃ D,wr.heap.size = D:=⟨_,rfl⟩
   obtain ⟨W1,hW1⟩ : ∃ W1,wr.alloc (.cells #[.int .i64 r,.int .i64 c,.int .i64 nn,.slice a L.length cp] 54) = W1:=⟨_,rfl⟩
   have k1 : Kept wr W1:=by rw [← hW1]; exact (Kept.refl wr).alloc _ _
   have b1 : Bk W1 D [.int .i64 r,.int .i64 c,.int .i64 nn,.slice a L.length cp]:=by rw [← hW1,← hD]; exact Bk.new wr _ _
   have d0:=b1.c 0 _ rfl
   have d1:=b1.c 1 _ rfl
   have d2:=b1.c 2 _ rfl
   have d3:=b1.c 3 _ rfl
   have HC:=hid (check_any r c nn a cp L W1 (sl.kept k1))
   have HK1:=hid (kr.trans k1)
   have HM:=hid hm
   clear hm k1 HR
   have HB:=hid (show ∀ u,Kept W1 u → Bk u D [.int .i64 r,.int .i64 c,.int .i64 nn,.slice a L.length cp] from fun u ku => b1.kept ku)
   have HSl:=hid (show ∀ u,Kept wr u → Sl u (.slice a L.length cp) L from fun u ku => sl.kept ku)
   have HWK:=hid (show Kept wr W1 by rw [← hW1]; exact (Kept.refl wr).alloc _ _)
   have HII:=hid (show i < n ∧ True from ⟨hin,trivial⟩)
   clear sl b1 kr
   by_cases hck : ckM r c nn L = 0
   ·rw [hck] at HC
    obtain ⟨hk1,hk2,hk3⟩:=ckM_ok hck
    have HV:=hid hk3
    have hL1 : L.length ≤ 4096:=by have:=(ckS_ok hk1).2.2.2; omega
    have HL1:=hid hL1
    clear hk1 hk2 hk3 hL1
    obtain ⟨N,hN⟩ : ∃ N,L.length = N:=⟨_,rfl⟩
    obtain ⟨f,hf⟩ : ∃ f : Nat → Int,∀ i,L.getD i 0 = f i:=⟨_,fun _ => rfl⟩
    have HRd : Hid (∀ u j,Kept wr u → j < N → ∃ b off,a = some ⟨b,off,none⟩ ∧ u.cell? ⟨b,off + j,none⟩ = some (.int .i64 (f j))):=fun u j ku hj => by
     obtain ⟨ao',cap',e,-,-,hr⟩:=HSl.out u ku
     cases e
     obtain ⟨b,off,e2,-,hrd⟩:=hr (by intro e; rw [e] at hN; simp at hN; omega)
     exact ⟨b,off,e2,by rw [← hf]; exact hrd j (by omega)⟩
    have HF : Hid (∀ j u,j < N → Calls Try.prog 62 #[.int .i64 (f j),.int .i64 nn] u fun e w' => e = .returned (.bool (fin (f j) nn)) ∧ Kept u w'):=fun j u hj => by
     have:=HV.out j (by omega)
     rw [hf] at this
     exact isFinite_any _ nn this u
    have HOk : Hid ((∀ x,x < N → fin (f x) nn = true) → matOk ⟨r,c,nn,L⟩):=fun h => ⟨hck,fun x hx => by
     show fin (L.getD x 0) nn = true
     rw [hf]; exact h x (by rw [← hN]; exact hx)⟩
    have HNo : Hid (∀ x,x < N → fin (f x) nn = false → ¬ matOk ⟨r,c,nn,L⟩):=fun x hx hf2 h => by
     have h3 : fin (L.getD x 0) nn = true:=h.2 x (by show x < L.length; rw [hN]; exact hx)
     rw [hf,hf2] at h3
     cases h3
    rw [hN] at d3 HB HC
    have HN2:=hid hN
    clear hf hck hN HSl HV
    go_wp2_with (first | (go_at_call 61; refine HC.out.mono ?_; rintro e w5 ⟨rfl,k5⟩; obtain ⟨d0,d1,d2,d3⟩ : _ ∧ _ ∧ _ ∧ _:=⟨(HB.out _ k5).c 0 _ rfl,(HB.out _ k5).c 1 _ rfl,(HB.out _ k5).c 2 _ rfl,(HB.out _ k5).c 3 _ rfl⟩) | (go_at_call 43; refine (wantForm_ok _).mono ?_; rintro e w6 ⟨rfl,k6⟩; obtain ⟨d0,d1,d2,d3⟩ : _ ∧ _ ∧ _ ∧ _:=⟨(HB.out _ (k5.trans k6)).c 0 _ rfl,(HB.out _ (k5.trans k6)).c 1 _ rfl,(HB.out _ (k5.trans k6)).c 2 _ rfl,(HB.out _ (k5.trans k6)).c 3 _ rfl⟩))
    have k7:=hid (k5.trans k6)
    clear k5 k6 d0 d1 d2 d3 c0 c1 c2 c3
    go_loopw [19] (fun jv wr2 => ∃ j : Nat,j ≤ N ∧ jv = .int .i64 (j : Int) ∧ Kept W1 wr2 ∧ ∀ x,x < j → fin (f x) nn = true) (fun jv _ => N - (intOf jv).toNat)
    case atStart => exact ⟨0,Nat.zero_le _,rfl,k7.out,fun x hx => by omega⟩
    case round =>
     obtain ⟨j,hj,rfl,kr,hal2⟩:=hrel
     have HA2:=hid hal2
     clear hal2
     by_cases hjn : j < N
     ·obtain ⟨b,off2,rfl,e0⟩:=HRd.out wr j (HWK.out.trans kr) hjn
      have d2:=(HB.out _ kr).c 2 _ rfl
      have hb1 : (0 : Int) ≤ (j : Int) ∧ (j : Int) < (N : Int):=by omega
      have hb2 : (j : Int) < (N : Int):=by omega
      have z3 : IntKind.i64.wrap ((j : Int) + 1) = (j : Int) + 1:=by have:=HL1.out; have:=HN2.out; rw [wrap_i64]; omega
      have HFj:=hid (HF.out j wr hjn)
      have HKR:=hid kr
      clear kr HRd hi
      cases hfb : fin (f j) nn with
      | true =>
       rw [hfb] at HFj
       have HA3:=hid (show ∀ x,x < j + 1 → fin (f x) nn = true from fun x hx => (Nat.lt_succ_iff_lt_or_eq.1 hx).elim (fun h => HA2.out x h) (fun h => by rw [h]; exact hfb))
       clear hfb
       generalize f j = fj at *
       go_wp2_with (first | (go_at_call 62; refine HFj.out.mono ?_; rintro e w5 ⟨rfl,k5⟩) | (go_at_call 43; refine (wantForm_ok _).mono ?_; rintro e w6 ⟨rfl,k6⟩))
       go_roundw
       case rel => exact ⟨j + 1,by omega,by go_num,(HKR.out.trans k5).trans k6,HA3.out⟩
       case measure => simp [intOf]; omega
      | false =>
       rw [hfb] at HFj
       have HNO:=hid (HNo.out j hjn hfb)
       clear hfb
       generalize f j = fj at *
       go_wp2_with (first | (go_at_call 62; refine HFj.out.mono ?_; rintro e w5 ⟨rfl,k5⟩) | (go_at_call 43; refine (wantForm_no _).mono ?_; rintro e w6 ⟨rfl,k6⟩))
       refine ⟨rfl,?_,.inr ⟨rfl,fun h => HNO.out (h i _ HM.out)⟩⟩
       exact HK1.out.trans ((HKR.out.trans k5).trans k6)
     ·obtain rfl : j = N:=by omega
      have hge : ¬ ((j : Int) < (j : Int)):=by omega
      have HKR:=hid kr
      have HOK:=hid (HOk.out HA2.out)
      clear kr
      go_wp2_with fail
      go_roundw
      case rel => exact ⟨i + 1,by have:=HII.out.1; omega,by go_num,HK1.out.trans HKR.out,fun x m hx hm2 => (Nat.lt_succ_iff_lt_or_eq.1 hx).elim (fun h => HA.out x m h hm2) (fun h => by subst h; have e:=HM.out; rw [e] at hm2; cases hm2; exact HOK.out)⟩
      case measure => simp [intOf]; omega
   ·have hckb : (ckM r c nn L == 0) = false:=by simpa using hck
    have HNO:=hid (show ¬ matOk ⟨r,c,nn,L⟩ from fun h => hck h.1)
    clear hck
    generalize ckM r c nn L = ck at *
    go_wp2_with (first | (go_at_call 61; refine HC.out.mono ?_; rintro e w5 ⟨rfl,k5⟩) | (go_at_call 43; refine (wantForm_no _).mono ?_; rintro e w6 ⟨rfl,k6⟩))
    exact ⟨rfl,HK1.out.trans (k5.trans k6),.inr ⟨rfl,fun h => HNO.out (h i _ HM.out)⟩⟩
  ·obtain rfl : i = n:=by omega
   have hge : ¬ ((i : Int) < (i : Int)):=by omega
   go_wp2_with fail
   go_end0
   exact ⟨kr,.inl ⟨rfl,fun x m hx => HA.out x m (by have:=(List.getElem?_eq_some_iff.1 hx).1; have:=HN.out; omega) hx⟩⟩
end Go.Proofs.Ytocjfdiimapojaa
namespace Go.Proofs.Ytocjfdiimapojaa
open Go.ChangeShapes Go.WideShapes Go.ChangeAt Go.RowKit
set_option maxHeartbeats 16000000
set_option maxRecDepth 100000
set_option linter.unusedVariables false
set_option linter.unusedSimpArgs false
def szM (m : Mat) : Int:=5 + Int.tdiv ((m.L.length : Int) * m.n) 8
def szl : List Mat → Int
 | [] => 0
 | m :: l => szM m + szl l
theorem szl_app (l k : List Mat) : szl (l ++ k) = szl l + szl k:=by
 induction l with
 | nil => simp [szl]
 | cons a l ih => show szM a + szl (l ++ k) = szM a + szl l + szl k; rw [ih]; omega
theorem szM_rng {m : Mat} (h : matOk m) : 5 ≤ szM m ∧ szM m ≤ 40000 ∧ (m.n = 64 ∨ m.n = 32) ∧ m.L.length ≤ 4096 ∧ 1 ≤ m.L.length ∧ 1 ≤ m.r ∧ 1 ≤ m.c ∧ m.r ≤ 4096 ∧ m.c ≤ 4096 ∧ szM m = 5 + (m.L.length : Int) * (Int.tdiv m.n 8):=by
 obtain ⟨h1,h2,h3⟩:=ckM_ok h.1
 obtain ⟨h4,h5,h6,h7⟩:=ckS_ok h1
 have h8:=le_of_mul h5 h6
 unfold szM
 have hl : (m.L.length : Int) ≤ 4096:=by omega
 have hl1 : 1 ≤ (m.L.length : Int):=by omega
 rcases h4 with e | e
 ·rw [e,show Int.tdiv 64 8 = 8 from rfl,Int.tdiv_eq_ediv_of_nonneg (by omega)]
  omega
 ·rw [e,show Int.tdiv 32 8 = 4 from rfl,Int.tdiv_eq_ediv_of_nonneg (by omega)]
  omega
theorem szl_rng {l : List Mat} (h : Oks l) : 0 ≤ szl l ∧ szl l ≤ 40000 * l.length:=by
 induction l with
 | nil => simp [szl]
 | cons a l ih =>
  have h1:=szM_rng (h 0 a rfl)
  have h2:=ih (fun i m hi => h (i + 1) m (by simpa using hi))
  show 0 ≤ szM a + szl l ∧ szM a + szl l ≤ 40000 * ((l.length + 1 : Nat) : Int)
  omega
theorem Oks.take {l : List Mat} (h : Oks l) (n : Nat) : Oks (l.take n):=fun i m hi => by
 rw [List.getElem?_take] at hi
 split at hi
 ·exact h i m hi
 ·cases hi
theorem szl_step {l : List Mat} (i : Nat) (m : Mat) (h : l[i]? = some m) : szl (l.take (i + 1)) = szl (l.take i) + szM m:=by
 obtain ⟨hi,rfl⟩:=List.getElem?_eq_some_iff.1 h
 rw [List.take_succ_eq_append_getElem hi,szl_app]
 simp [szl]
theorem sizeOf_any (v : Value) (l : List Mat) (hlen : l.length ≤ 100) (hok : Oks l) (w : World) (hL : MlI w v l) : Calls Try.prog 63 #[v] w fun e w' => e = .returned (.int .i64 (szl l)) ∧ Kept w w':=by
 obtain ⟨ao,cap,rfl,hlc,hr⟩:=hL
 have HR : Hid (∀ u,Kept w u → ∀ i m,l[i]? = some m → ∃ B off a cp,ao = some ⟨B,off,none⟩ ∧ MC u B (off + i * 4) a cp m):=fun u ku i m hi => by
  obtain ⟨B,off,e,h⟩:=hr (by intro e; rw [e] at hi; simp at hi)
  obtain ⟨a,cp,hm⟩:=h i m hi
  exact ⟨B,off,a,cp,e,hm.kept ku⟩
 obtain ⟨f,hf⟩ : ∃ f : Nat → Int,∀ i,szl (l.take i) = f i:=⟨_,fun _ => rfl⟩
 have h0 : f 0 = 0:=by rw [← hf]; rfl
 have hN : szl l = f l.length:=by rw [← hf,List.take_length]
 have HF : Hid (∀ i m,l[i]? = some m → f (i + 1) = f i + szM m ∧ 0 ≤ f i ∧ f i ≤ 4000000 ∧ matOk m):=fun i m hi => by
  rw [← hf,← hf,szl_step i m hi]
  have h1:=szl_rng (hok.take i)
  have h2 : (l.take i).length ≤ 100:=by rw [List.length_take]; omega
  exact ⟨rfl,h1.1,by omega,hok i m hi⟩
 rw [hN]
 clear hN hf
 obtain ⟨n,hn⟩ : ∃ n,l.length = n:=⟨_,rfl⟩
 rw [hn] at hlen hlc ⊢
 have HN:=hid hn
 have HLC:=hid (show n ≤ cap ∧ n ≤ 100 from ⟨hlc,hlen⟩)
 clear hn hr hlc hlen
 go_enter Try.func63,Try.ntmps63
 go_wp2_with fail
 go_loopw [3,8] (fun sv iv wr => ∃ i : Nat,i ≤ n ∧ sv = .int .i64 (f i) ∧ iv = .int .i64 (i : Int) ∧ Kept w wr) (fun _ iv _ => n - (intOf iv).toNat)
 case atStart => exact ⟨0,Nat.zero_le _,by rw [h0],rfl,Kept.refl w⟩
 case round =>
  obtain ⟨i,hi,rfl,rfl,kr⟩:=hrel
  by_cases hin : i < n
  ·obtain ⟨m,hm⟩ : ∃ m,l[i]? = some m:=⟨_,List.getElem?_eq_getElem (by rw [HN.out]; exact hin)⟩
   obtain ⟨B,off,a,cp,rfl,mc⟩:=HR.out wr kr i m hm
   obtain ⟨hs,hf0,hf1,hmo⟩:=HF.out i m hm
   obtain ⟨s1,s2,s3,s4,s5,-⟩:=szM_rng hmo
   have hbd : (0 : Int) ≤ (i : Int) ∧ (i : Int) < (n : Int):=by omega
   have hbd2 : (i : Int) < (n : Int):=by omega
   have z2 : IntKind.i64.wrap ((i : Int) + 1) = (i : Int) + 1:=by have:=HLC.out; rw [wrap_i64]; omega
   obtain ⟨c0,c1,c2,c3,sl⟩:=mc
   unfold szM at hs s1 s2
   obtain ⟨r,c,nn,L⟩:=m
   dsimp only at c0 c1 c2 c3 sl hs s1 s2 s3 s4 s5
   obtain ⟨N,hN⟩ : ∃ N,L.length = N:=⟨_,rfl⟩
   rw [hN] at c3 hs s1 s2 s4 s5
   obtain ⟨K,hK⟩ : ∃ K,(N : Int) * nn = K:=⟨_,rfl⟩
   have hK0 : 0 ≤ K ∧ K ≤ 300000:=by rcases s3 with e | e <;> subst e <;> omega
   have zK : IntKind.i64.wrap ((N : Int) * nn) = K:=by rw [hK,wrap_i64]; omega
   rw [hK] at hs s1 s2
   obtain ⟨E,hE⟩ : ∃ E,Int.tdiv K 8 = E:=⟨_,rfl⟩
   rw [hE] at hs s1 s2
   have zE : wrap64 E = E:=by unfold wrap64; omega
   have z5 : IntKind.i64.wrap (5 + E) = 5 + E:=by rw [wrap_i64]; omega
   have z6 : IntKind.i64.wrap (f i + (5 + E)) = f (i + 1):=by rw [hs,wrap_i64]; omega
   have hin2:=hid hin
   clear hs s1 s2 s3 s4 s5 hN hK hK0 hf0 hf1 hmo hm sl HR HF
   obtain ⟨f2,hf2⟩ : ∃ f2,f (i + 1) = f2:=⟨_,rfl⟩
   rw [hf2] at z6
   have HF2:=hid hf2
   clear hf2
   go_wp2_with fail
   go_roundw
   case rel => exact ⟨i + 1,by omega,by rw [HF2.out],by go_num,kr.alloc _ _⟩
   case measure => simp [intOf]; omega
  ·obtain rfl : i = n:=by omega
   have hge : ¬ ((i : Int) < (i : Int)):=by omega
   go_wp2_with fail
   go_ret
   exact ⟨rfl,kr⟩
end Go.Proofs.Ytocjfdiimapojaa
namespace Go.Proofs.Ytocjfdiimapojaa
open Go.ChangeShapes Go.WideShapes Go.ChangeAt Go.RowKit
set_option maxHeartbeats 16000000
set_option maxRecDepth 100000
set_option linter.unusedVariables false
set_option linter.unusedSimpArgs false
def wbits (k : Nat) : List Int → List Int
 | [] => []
 | b :: L => le k b ++ wbits k L
def wm (m : Mat) : List Int:=le 1 m.n ++ le 2 m.r ++ le 2 m.c ++ wbits (Int.tdiv m.n 8).toNat m.L
def wls : List Mat → List Int
 | [] => []
 | m :: l => wm m ++ wls l
theorem wbits_app (k : Nat) (L M : List Int) : wbits k (L ++ M) = wbits k L ++ wbits k M:=by
 induction L with
 | nil => rfl
 | cons a L ih => show le k a ++ wbits k (L ++ M) = le k a ++ wbits k L ++ wbits k M; rw [ih,List.append_assoc]
theorem wbits_len (k : Nat) (L : List Int) : (wbits k L).length = k * L.length:=by
 induction L with
 | nil => rfl
 | cons a L ih => show (le k a ++ wbits k L).length = k * (L.length + 1); rw [List.length_append,le_len,ih,Nat.mul_succ]; omega
theorem wbits_step (k : Nat) (L : List Int) (j : Nat) (hj : j < L.length) : wbits k (L.take (j + 1)) = wbits k (L.take j) ++ le k (L.getD j 0):=by
 have e : L.getD j 0 = L[j]:=by simp [List.getD_eq_getElem?_getD,List.getElem?_eq_getElem hj]
 rw [List.take_succ_eq_append_getElem hj,wbits_app,e]
 simp [wbits]
theorem wls_app (l k : List Mat) : wls (l ++ k) = wls l ++ wls k:=by
 induction l with
 | nil => rfl
 | cons a l ih => show wm a ++ wls (l ++ k) = wm a ++ wls l ++ wls k; rw [ih,List.append_assoc]
theorem wls_step {l : List Mat} (i : Nat) (m : Mat) (h : l[i]? = some m) : wls (l.take (i + 1)) = wls (l.take i) ++ wm m:=by
 obtain ⟨hi,rfl⟩:=List.getElem?_eq_some_iff.1 h
 rw [List.take_succ_eq_append_getElem hi,wls_app]
 simp [wls]
theorem wm_len {m : Mat} (h : matOk m) : ((wm m).length : Int) = szM m:=by
 obtain ⟨-,-,s3,-,-,-,-,-,-,s⟩:=szM_rng h
 rw [s]
 unfold wm
 rw [List.length_append,List.length_append,List.length_append,le_len,le_len,le_len,wbits_len]
 rcases s3 with e | e
 ·rw [e,show (Int.tdiv 64 8).toNat = 8 from rfl,show Int.tdiv 64 8 = 8 from rfl]; omega
 ·rw [e,show (Int.tdiv 32 8).toNat = 4 from rfl,show Int.tdiv 32 8 = 4 from rfl]; omega
theorem wls_len {l : List Mat} (h : Oks l) : ((wls l).length : Int) = szl l:=by
 induction l with
 | nil => rfl
 | cons a l ih =>
  have h1:=wm_len (h 0 a rfl)
  have h2:=ih (fun i m hi => h (i + 1) m (by simpa using hi))
  show ((wm a ++ wls l).length : Int) = szM a + szl l
  rw [List.length_append]
  omega
theorem wls_room {l : List Mat} (i : Nat) (m : Mat) (h : l[i]? = some m) : (wls (l.take i)).length + (wm m).length ≤ (wls l).length:=by
 have e : wls l = wls (l.take (i + 1)) ++ wls (l.drop (i + 1)):=by rw [← wls_app,List.take_append_drop]
 rw [e,wls_step i m h,List.length_append,List.length_append]
 omega
theorem wmatrices_any (k : Nat) (ki : Int) (hki : (k : Int) = ki) (hk : k ≤ 8) (v : Value) (l : List Mat) (hlen : l.length ≤ 100) (hok : Oks l) (w0 : World) (hL : MlI w0 v l) (Wb g C : Nat) (hC : C ≤ 100000000) (hWb : w0.heap.size ≤ Wb) (hg : w0.heap.size ≤ g) (V : List Int) (hr : V.length + k + (wls l).length ≤ C) (w : World) (hk0 : Kept w0 w) (hW : WV w Wb g C V) :
  Calls Try.prog 48 #[.pointer (some ⟨Wb,0,none⟩),v,.int .i64 ki] w fun e w' => e = .returned (.tuple #[]) ∧ KX (fun b => b = Wb ∨ b = g) w w' ∧ WV w' Wb g C (V ++ le k l.length ++ wls l):=by
 obtain ⟨ao,cap,rfl,hlc,hr2⟩:=hL
 have HR : Hid (∀ (i : Nat) (m : Mat),l[i]? = some m → ∃ B off a cp,ao = some ⟨B,off,none⟩ ∧ ∀ u,Kept w0 u → MC u B (off + i * 4) a cp m):=fun i m hi => by
  obtain ⟨B,off,e,h⟩:=hr2 (by intro e; rw [e] at hi; simp at hi)
  obtain ⟨a,cp,hm⟩:=h i m hi
  exact ⟨B,off,a,cp,e,fun u ku => hm.kept ku⟩
 have HN : Hid (∀ (k : Nat) (ki n : Int) (u : World) (V : List Int),(k : Int) = ki → k ≤ 8 → V.length + k ≤ C → WV u Wb g C V → Calls Try.prog 47 #[.pointer (some ⟨Wb,0,none⟩),.int .i64 n,.int .i64 ki] u fun e w' => e = .returned (.tuple #[]) ∧ KX (fun b => b = Wb ∨ b = g) u w' ∧ WV w' Wb g C (V ++ le k n)):=fun k ki n u V h1 h2 h3 h4 => wnumber_any k ki n h1 h2 Wb g C hC V h3 u h4
 have HKX : Hid (∀ u,KX (fun b => b = Wb ∨ b = g) w u → Kept w0 u):=fun u ku => kept_of_kx hk0 ku (fun b hb => by rcases hb with rfl | rfl <;> assumption)
 have HO:=hid hok
 have HC:=hid hC
 subst hki
 have HK1:=hid (HN.out k k l.length w V rfl hk (by omega) hW)
 have HRM:=hid hr
 have HL:=hid (show l.length ≤ 100 ∧ l.length ≤ cap from ⟨hlen,hlc⟩)
 clear hr2 hk0 hok hC hWb hg hr hlen hlc hW hk
 obtain ⟨n,hn⟩ : ∃ n,l.length = n:=⟨_,rfl⟩
 rw [hn] at HK1 HL ⊢
 have HLN:=hid hn
 clear hn
 go_enter Try.func48,Try.ntmps48
 go_wp2_with (first | (go_at_call 47; refine HK1.out.mono ?_; rintro e w1 ⟨rfl,kx1,wv1⟩))
 have hkx1:=hid kx1
 have hwv1:=hid wv1
 clear kx1 wv1 HK1
 go_loopw [17] (fun iv wr => ∃ i : Nat,i ≤ n ∧ iv = .int .i64 (i : Int) ∧ KX (fun b => b = Wb ∨ b = g) w wr ∧ WV wr Wb g C (V ++ le k n ++ wls (l.take i))) (fun iv _ => n - (intOf iv).toNat)
 case atStart => exact ⟨0,Nat.zero_le _,rfl,hkx1.out,by simpa [wls] using hwv1.out⟩
 case round =>
  obtain ⟨i,hi,rfl,kx,wv⟩:=hrel
  by_cases hin : i < n
  ·obtain ⟨m,hm⟩ : ∃ m,l[i]? = some m:=⟨_,List.getElem?_eq_getElem (by rw [HLN.out]; exact hin)⟩
   obtain ⟨B,off,a,cp,rfl,hmc⟩:=HR.out i m hm
   have mc:=hmc wr (HKX.out wr kx)
   have HMC:=hid hmc
   clear hmc
   have hbd : (0 : Int) ≤ (i : Int) ∧ (i : Int) < (n : Int):=by omega
   have hbd2 : (i : Int) < (n : Int):=by omega
   have z2 : IntKind.i64.wrap ((i : Int) + 1) = (i : Int) + 1:=by have:=HL.out; rw [wrap_i64]; omega
   have hrm:=wls_room i m hm
   have hst:=hid (wls_step i m hm)
   have hmo:=HO.out i m hm
   obtain ⟨-,-,s3,s4,s5,-⟩:=szM_rng hmo
   obtain ⟨c0,c1,c2,c3,sl⟩:=mc
   obtain ⟨kk,hkk⟩ : ∃ kk,(Int.tdiv m.n 8).toNat = kk:=⟨_,rfl⟩
   have hk8 : kk ≤ 8 ∧ Int.tdiv m.n 8 = (kk : Int):=by rcases s3 with e | e <;> rw [e] at hkk ⊢ <;> subst hkk <;> exact ⟨by decide,rfl⟩
   have hwm : wm m = le 1 m.n ++ le 2 m.r ++ le 2 m.c ++ wbits kk m.L:=by rw [← hkk]; rfl
   have hwml : (wm m).length = 5 + kk * m.L.length:=by
    rw [hwm,List.length_append,List.length_append,List.length_append,le_len,le_len,le_len,wbits_len]
   have hVl : (V ++ le k n ++ wls (l.take i)).length + (5 + kk * m.L.length) ≤ C:=by
    have:=HRM.out
    rw [List.length_append,List.length_append,le_len]
    omega
   obtain ⟨Vi,hVi⟩ : ∃ Vi,V ++ le k n ++ wls (l.take i) = Vi:=⟨_,rfl⟩
   rw [hVi] at wv hVl
   have HVi:=hid (show V ++ le k n ++ wls (l.take (i + 1)) = Vi ++ (le 1 m.n ++ le 2 m.r ++ le 2 m.c ++ wbits kk m.L) by rw [hst.out,hwm,← List.append_assoc,hVi])
   obtain ⟨r,c,nn,L⟩:=m
   dsimp only at c0 c1 c2 c3 sl HVi s3 s4 s5 hVl hk8
   obtain ⟨D,hD⟩ : ∃ D,wr.heap.size = D:=⟨_,rfl⟩
   obtain ⟨N,hN⟩ : ∃ N,L.length = N:=⟨_,rfl⟩
   rw [hN] at c3 hVl s4 s5
   obtain ⟨W1,hW1⟩ : ∃ W1,wr.alloc (.cells #[.int .i64 r,.int .i64 c,.int .i64 nn,.slice a N cp] 54) = W1:=⟨_,rfl⟩
   have k1 : Kept wr W1:=by rw [← hW1]; exact (Kept.refl wr).alloc _ _
   have b1 : Bk W1 D [.int .i64 r,.int .i64 c,.int .i64 nn,.slice a N cp]:=by rw [← hW1,← hD]; exact Bk.new wr _ _
   have hDx : Wb < D ∧ g < D:=by rw [← hD]; exact ⟨wv.lt,wv.o.lt⟩
   have HBB:=hid (show ∀ u,KX (fun b => b = Wb ∨ b = g) W1 u → Bk u D [.int .i64 r,.int .i64 c,.int .i64 nn,.slice a N cp] from fun u ku => b1.kx ku (by omega))
   obtain ⟨f,hf⟩ : ∃ f : Nat → Int,∀ i,L.getD i 0 = f i:=⟨_,fun _ => rfl⟩
   have HSl : Hid (∀ u j,Kept w0 u → j < N → ∃ b off2,a = some ⟨b,off2,none⟩ ∧ u.cell? ⟨b,off2 + j,none⟩ = some (.int .i64 (f j))):=fun u j ku hj => by
    obtain ⟨ao',cap',e,-,-,hr⟩:=(HMC.out u ku).sl
    cases e
    obtain ⟨b,off2,e2,-,hrd⟩:=hr (by intro e; rw [show L = [] from e] at hN; simp at hN; omega)
    exact ⟨b,off2,e2,by rw [← hf]; exact hrd j (by show j < L.length; omega)⟩
   have HW1:=hid (kx.trans (k1.kx _))
   have wv1:=hid (wv.kept k1)
   have HST:=hid (show ∀ j,j < N → wbits kk (L.take (j + 1)) = wbits kk (L.take j) ++ le kk (f j) from fun j hj => by rw [wbits_step kk L j (by omega),hf])
   have HTK:=hid (show L.take N = L from List.take_of_length_le (by omega))
   have hkt:=hk8.2
   have hkw : wrap64 (kk : Int) = (kk : Int):=by have:=hk8.1; unfold wrap64; omega
   have HKK:=hid (show kk ≤ 8 ∧ N ≤ 4096 ∧ 1 ≤ N ∧ Vi.length + (5 + kk * N) ≤ C from ⟨hk8.1,s4,s5,hVl⟩)
   have d0:=b1.c 0 _ rfl
   have d1:=b1.c 1 _ rfl
   have d2:=b1.c 2 _ rfl
   have d3:=b1.c 3 _ rfl
   have HIN:=hid hin
   have K1:=hid (HN.out 1 1 nn W1 Vi rfl (by decide) (by omega) wv1.out)
   clear hrm hst hmo s3 s4 s5 sl hkk hwm hwml hVl hVi hN hf hm hk8 b1 hDx kx k1 wv hi hin HR HMC
   go_wp2_with fail
   go_at_call 47
   refine K1.out.mono ?_
   rintro e w2 ⟨rfl,x2,v2⟩
   clear d0 d1 d2 d3 c0 c1 c2 c3 K1
   have B2:=hid (HBB.out w2 x2)
   have d0:=B2.out.c 0 _ rfl
   have X2:=hid x2
   have K2:=hid (HN.out 2 2 r w2 (Vi ++ le 1 nn) rfl (by decide) (by have:=HKK.out; rw [List.length_append,le_len]; omega) v2)
   clear x2 v2
   go_wp2_with fail
   go_at_call 47
   refine K2.out.mono ?_
   rintro e w3 ⟨rfl,x3,v3⟩
   have X3:=hid (X2.out.trans x3)
   have B3:=hid (HBB.out w3 X3.out)
   clear d0
   have d1:=B3.out.c 1 _ rfl
   have K3:=hid (HN.out 2 2 c w3 (Vi ++ le 1 nn ++ le 2 r) rfl (by decide) (by have:=HKK.out; rw [List.length_append,List.length_append,le_len,le_len]; omega) v3)
   clear x3 v3 K2
   go_wp2_with fail
   go_at_call 47
   refine K3.out.mono ?_
   rintro e w4 ⟨rfl,x4,v4⟩
   have X4:=hid (X3.out.trans x4)
   have B4:=hid (HBB.out w4 X4.out)
   clear d1
   have d3:=B4.out.c 3 _ rfl
   have V4:=hid v4
   clear x4 v4 K3
   go_wp2_with fail
   go_loopw [36] (fun jv wr => ∃ j : Nat,j ≤ N ∧ jv = .int .i64 (j : Int) ∧ KX (fun b => b = Wb ∨ b = g) W1 wr ∧ WV wr Wb g C (Vi ++ le 1 nn ++ le 2 r ++ le 2 c ++ wbits kk (L.take j))) (fun jv _ => N - (intOf jv).toNat)
   case atStart => exact ⟨0,Nat.zero_le _,rfl,X4.out,by simpa [wbits] using V4.out⟩
   case round =>
    clear X2 X3 X4 V4 B2 B3 B4 d3
    obtain ⟨j,hj,rfl,kx,wv⟩:=hrel
    by_cases hjn : j < N
    ·obtain ⟨b,off2,rfl,e0⟩:=HSl.out wr j (HKX.out wr (HW1.out.trans kx)) hjn
     have d2:=(HBB.out wr kx).c 2 _ rfl
     have hb1 : (0 : Int) ≤ (j : Int) ∧ (j : Int) < (N : Int):=by omega
     have hb2 : (j : Int) < (N : Int):=by omega
     have z3 : IntKind.i64.wrap ((j : Int) + 1) = (j : Int) + 1:=by have:=HKK.out; rw [wrap_i64]; omega
     have hroom : (Vi ++ le 1 nn ++ le 2 r ++ le 2 c ++ wbits kk (L.take j)).length + kk ≤ C:=by
      have h1:=HKK.out
      have h2 : kk * (L.take j).length ≤ kk * j:=Nat.mul_le_mul_left _ (by rw [List.length_take]; exact Nat.min_le_left _ _)
      have h3 : kk * j + kk ≤ kk * N:=by rw [← Nat.mul_succ]; exact Nat.mul_le_mul_left _ hjn
      rw [List.length_append,List.length_append,List.length_append,List.length_append,le_len,le_len,le_len,wbits_len]
      omega
     have K:=hid (HN.out kk (kk : Int) (f j) wr _ rfl HKK.out.1 hroom wv)
     have hkx:=hid kx
     have hst:=hid (HST.out j hjn)
     have hjn2:=hid hjn
     clear hroom kx wv HSl HST hj hjn
     go_wp2_with (first | (go_at_call 47; refine K.out.mono ?_; rintro e w5 ⟨rfl,x5,v5⟩))
     go_roundw
     case rel => exact ⟨j + 1,by have:=hjn2.out; omega,by go_num,hkx.out.trans x5,by rw [hst.out,← List.append_assoc]; exact v5⟩
     case measure => have:=hjn2.out; simp [intOf]; omega
    ·obtain rfl : j = N:=by omega
     have hge : ¬ ((j : Int) < (j : Int)):=by omega
     have hkx:=hid (HW1.out.trans kx)
     have hwv:=hid (show WV wr Wb g C (V ++ le k n ++ wls (l.take (i + 1))) by rw [HVi.out]; rw [HTK.out] at wv; simpa only [List.append_assoc] using wv)
     clear kx wv
     go_wp2_with fail
     go_roundw
     case rel => exact ⟨i + 1,by have:=HIN.out; omega,by go_num,hkx.out,hwv.out⟩
     case measure => have:=HIN.out; simp [intOf]; omega
  ·obtain rfl : i = n:=by omega
   have hge : ¬ ((i : Int) < (i : Int)):=by omega
   have hkx:=hid kx
   have hwv:=hid (show WV wr Wb g C (V ++ le k i ++ wls l) by rw [List.take_of_length_le (by rw [HLN.out]; omega)] at wv; exact wv)
   clear kx wv
   go_wp2_with fail
   go_end0
   exact ⟨rfl,hkx.out,by first | exact hwv.out | (rw [← List.append_assoc]; exact hwv.out)⟩
end Go.Proofs.Ytocjfdiimapojaa
namespace Go.Proofs.Ytocjfdiimapojaa
open Go.ChangeShapes Go.WideShapes Go.ChangeAt Go.RowKit
set_option maxHeartbeats 16000000
set_option maxRecDepth 100000
set_option linter.unusedVariables false
set_option linter.unusedSimpArgs false
def szq : List (List Mat) → Int
 | [] => 0
 | l :: Q => 1 + szl l + szq Q
def szS (s : Sta) : Int:=52 + szl s.P + szq s.Q
theorem szq_app (Q K : List (List Mat)) : szq (Q ++ K) = szq Q + szq K:=by
 induction Q with
 | nil => simp [szq]
 | cons a l ih => show 1 + szl a + szq (l ++ K) = 1 + szl a + szq l + szq K; rw [ih]; omega
theorem szq_step {Q : List (List Mat)} (i : Nat) (l : List Mat) (h : Q[i]? = some l) : szq (Q.take (i + 1)) = szq (Q.take i) + (1 + szl l):=by
 obtain ⟨hi,rfl⟩:=List.getElem?_eq_some_iff.1 h
 rw [List.take_succ_eq_append_getElem hi,szq_app]
 simp [szq]
def Qks (Q : List (List Mat)) : Prop:=∀ (i : Nat) (l : List Mat),Q[i]? = some l → l.length ≤ 4 ∧ Oks l
theorem Qks.take {Q : List (List Mat)} (h : Qks Q) (n : Nat) : Qks (Q.take n):=fun i m hi => by
 rw [List.getElem?_take] at hi
 split at hi
 ·exact h i m hi
 ·cases hi
theorem szq_rng {Q : List (List Mat)} (h : Qks Q) : 0 ≤ szq Q ∧ szq Q ≤ 160001 * Q.length:=by
 induction Q with
 | nil => simp [szq]
 | cons a l ih =>
  have h1:=szl_rng (h 0 a rfl).2
  have h3:=(h 0 a rfl).1
  have h2:=ih (fun i m hi => h (i + 1) m (by simpa using hi))
  show 0 ≤ 1 + szl a + szq l ∧ 1 + szl a + szq l ≤ 160001 * ((l.length + 1 : Nat) : Int)
  omega
/-- A state in form. -/
structure Frm (s : Sta) : Prop where
 a : stepB s.a = true
 b : stepB s.b = true
 d : stepB s.d = true
 pl : s.P.length ≤ 64
 ql : s.Q.length ≤ 64
 p : Oks s.P
 q : Qks s.Q
theorem Frm.sz {s : Sta} (h : Frm s) : 52 ≤ szS s ∧ szS s ≤ 14000000:=by
 have h1:=szl_rng h.p
 have h2:=szq_rng h.q
 have h3:=h.pl
 have h4:=h.ql
 unfold szS
 omega
theorem size_any (v : Value) (s : Sta) (hF : Frm s) (w : World) (hS : StI w v s) : Calls Try.prog 46 #[v] w fun e w' => e = .returned (.int .i64 (szS s)) ∧ Kept w w':=by
 obtain ⟨pv,qv,rfl,hP,hQ⟩:=hS
 have HP : Hid (∀ u,Kept w u → Calls Try.prog 63 #[pv] u fun e w' => e = .returned (.int .i64 (szl s.P)) ∧ Kept u w'):=fun u ku => sizeOf_any pv s.P (by have:=hF.pl; omega) hF.p u (hP.kept ku)
 obtain ⟨pa,pc,rfl,-,-⟩:=hP
 obtain ⟨qa,qc,rfl,hqc,hr⟩:=hQ
 have HR : Hid (∀ (i : Nat) (l : List Mat),s.Q[i]? = some l → ∃ B off la lc,qa = some ⟨B,off,none⟩ ∧ ∀ u,Kept w u → u.cell? ⟨B,off + i,none⟩ = some (.slice la l.length lc) ∧ Calls Try.prog 63 #[.slice la l.length lc] u fun e w' => e = .returned (.int .i64 (szl l)) ∧ Kept u w'):=fun i l hi => by
  obtain ⟨B,off,e,h⟩:=hr (by intro e; rw [e] at hi; simp at hi)
  obtain ⟨lv,h1,h2⟩:=h i l hi
  have h3:=hF.q i l hi
  have h4:=fun u (ku : Kept w u) => sizeOf_any lv l (by omega) h3.2 u (h2.kept ku)
  obtain ⟨la,lc,rfl,-,-⟩:=h2
  exact ⟨B,off,la,lc,e,fun u ku => ⟨(ku.below.cell (p:=⟨B,off + i,none⟩) (World.block_lt_of_cell? _ _ h1)).trans h1,h4 u ku⟩⟩
 obtain ⟨f,hf⟩ : ∃ f : Nat → Int,∀ i,52 + szl s.P + szq (s.Q.take i) = f i:=⟨_,fun _ => rfl⟩
 have h0 : 52 + szl s.P = f 0:=by rw [← hf]; simp [szq]
 have hN : szS s = f s.Q.length:=by rw [← hf,List.take_length]; rfl
 have hp:=szl_rng hF.p
 have hpl:=hF.pl
 have HF : Hid (∀ (i : Nat) (l : List Mat),s.Q[i]? = some l → f (i + 1) = f i + (1 + szl l) ∧ 0 ≤ f i ∧ f i ≤ 14000000 ∧ 0 ≤ szl l ∧ szl l ≤ 160000):=fun i l hi => by
  rw [← hf,← hf,szq_step i l hi]
  have h1:=szq_rng (hF.q.take i)
  have h2 : (s.Q.take i).length ≤ 64:=by rw [List.length_take]; have:=hF.ql; omega
  have h3:=hF.q i l hi
  have h4:=szl_rng h3.2
  omega
 rw [hN]
 have hql:=hF.ql
 obtain ⟨sa,sb,sd,P,Q,lo,ra⟩:=s
 dsimp only at *
 have hzp : IntKind.i64.wrap (52 + szl P) = f 0:=by rw [h0,wrap_i64]; omega
 obtain ⟨n,hn⟩ : ∃ n,Q.length = n:=⟨_,rfl⟩
 rw [hn] at hqc hql ⊢
 have HNn:=hid hn
 have HQC:=hid (show n ≤ qc ∧ n ≤ 64 from ⟨hqc,hql⟩)
 clear hN hf hn hr hqc hp hpl hF h0 hql
 generalize szl P = sp at *
 generalize P.length = pl at *
 go_enter Try.func46,Try.ntmps46
 go_wp2_with (first | (go_at_call 63; refine (HP.out _ ((Kept.refl w).alloc _ _)).mono ?_; rintro e w1 ⟨rfl,k1⟩; have hbk:=(Bk.new w [.int .i64 sa,.int .i64 sb,.int .i64 sd,.slice pa pl pc,.slice qa n qc,.int .i64 lo,.int .i64 ra] 35).kept k1; have e4:=hbk.c 4 _ rfl))
 have kw1:=hid (((Kept.refl w).alloc _ _).trans k1)
 clear k1 hbk e4 HP hzp
 go_loopw [3,14] (fun sv iv wr => ∃ i : Nat,i ≤ n ∧ sv = .int .i64 (f i) ∧ iv = .int .i64 (i : Int) ∧ Kept w wr) (fun _ iv _ => n - (intOf iv).toNat)
 case atStart => exact ⟨0,Nat.zero_le _,rfl,rfl,kw1.out⟩
 case round =>
  obtain ⟨i,hi,rfl,rfl,kr⟩:=hrel
  by_cases hin : i < n
  ·obtain ⟨l,hl⟩ : ∃ l,Q[i]? = some l:=⟨_,List.getElem?_eq_getElem (by rw [HNn.out]; exact hin)⟩
   obtain ⟨B,off,la,lc,rfl,hc⟩:=HR.out i l hl
   obtain ⟨c0,hK⟩:=hc wr kr
   obtain ⟨hs,hf0,hf1,hl0,hl1⟩:=HF.out i l hl
   have hbd : (0 : Int) ≤ (i : Int) ∧ (i : Int) < (n : Int):=by omega
   have hbd2 : (i : Int) < (n : Int):=by omega
   have z2 : IntKind.i64.wrap ((i : Int) + 1) = (i : Int) + 1:=by have:=HQC.out; rw [wrap_i64]; omega
   have z5 : IntKind.i64.wrap (1 + szl l) = 1 + szl l:=by rw [wrap_i64]; omega
   obtain ⟨f2,hf2⟩ : ∃ f2,f (i + 1) = f2:=⟨_,rfl⟩
   have z6 : IntKind.i64.wrap (f i + (1 + szl l)) = f2:=by rw [← hf2,hs,wrap_i64]; omega
   have HF2:=hid hf2
   have HK:=hid hK
   have hkr:=hid kr
   have hin2:=hid hin
   clear hc hK hs hf0 hf1 hl0 hl1 hf2 kr HR HF hl hin
   generalize szl l = sl at *
   go_wp2_with (first | (go_at_call 63; refine HK.out.mono ?_; rintro e w5 ⟨rfl,k5⟩))
   go_roundw
   case rel => exact ⟨i + 1,by have:=hin2.out; omega,by rw [HF2.out],by go_num,hkr.out.trans k5⟩
   case measure => have:=hin2.out; simp [intOf]; omega
  ·obtain rfl : i = n:=by omega
   have hge : ¬ ((i : Int) < (i : Int)):=by omega
   go_wp2_with fail
   go_ret
   exact ⟨rfl,kr⟩
end Go.Proofs.Ytocjfdiimapojaa
namespace Go.Proofs.Ytocjfdiimapojaa
open Go.ChangeShapes Go.WideShapes Go.ChangeAt Go.RowKit
set_option maxHeartbeats 16000000
set_option maxRecDepth 100000
set_option linter.unusedVariables false
set_option linter.unusedSimpArgs false
abbrev stB (sa sb sd : Int) (p q : Value) (lo ra : Int) : List Value:=[.int .i64 sa,.int .i64 sb,.int .i64 sd,p,q,.int .i64 lo,.int .i64 ra]
theorem check_any5 (v : Value) (s : Sta) (hpn : s.P.length ≤ 9223372036854775807) (hqn : s.Q.length ≤ 9223372036854775807) (w : World) (hS : StI w v s) : Calls Try.prog 25 #[v,.int .i64 16777216] w fun e w' => Kept w w' ∧ CkP (Frm s) e:=by
 have HSz : Hid (Frm s → ∀ u,Kept w u → Calls Try.prog 46 #[v] u fun e w' => e = .returned (.int .i64 (szS s)) ∧ Kept u w'):=fun hF u ku => size_any v s hF u (hS.kept ku)
 obtain ⟨pv,qv,rfl,hP,hQ⟩:=hS
 have HCP : Hid (∀ u,Kept w u → Calls Try.prog 45 #[pv] u fun e w' => Kept u w' ∧ CkP (Oks s.P) e):=fun u ku => checkMatrices_any pv s.P hpn u (hP.kept ku)
 obtain ⟨pa,pc,rfl,-,-⟩:=hP
 obtain ⟨qa,qc,rfl,hqc,hr⟩:=hQ
 have HR : Hid (∀ (i : Nat) (l : List Mat),s.Q[i]? = some l → ∃ B off la lc,qa = some ⟨B,off,none⟩ ∧ ∀ u,Kept w u → u.cell? ⟨B,off + i,none⟩ = some (.slice la l.length lc) ∧ (l.length ≤ 4 → Calls Try.prog 45 #[.slice la l.length lc] u fun e w' => Kept u w' ∧ CkP (Oks l) e)):=fun i l hi => by
  obtain ⟨B,off,e,h⟩:=hr (by intro e; rw [e] at hi; simp at hi)
  obtain ⟨lv,h1,h2⟩:=h i l hi
  have h4:=fun u (ku : Kept w u) (hl : l.length ≤ 4) => checkMatrices_any lv l (by omega) u (h2.kept ku)
  obtain ⟨la,lc,rfl,-,-⟩:=h2
  exact ⟨B,off,la,lc,e,fun u ku => ⟨(ku.below.cell (p:=⟨B,off + i,none⟩) (World.block_lt_of_cell? _ _ h1)).trans h1,h4 u ku⟩⟩
 obtain ⟨sa,sb,sd,P,Q,lo,ra⟩:=s
 dsimp only at *
 obtain ⟨S,hS⟩ : ∃ S : Sta,(⟨sa,sb,sd,P,Q,lo,ra⟩ : Sta) = S:=⟨_,rfl⟩
 rw [hS] at HSz ⊢
 have HF : Hid (stepB sa = true → stepB sb = true → stepB sd = true → P.length ≤ 64 → Q.length ≤ 64 → Oks P → Qks Q → Frm S):=fun h1 h2 h3 h4 h5 h6 h7 => by rw [← hS]; exact ⟨h1,h2,h3,h4,h5,h6,h7⟩
 have HA : Hid (stepB sa = false → ¬ Frm S):=fun h hF => by rw [← hS] at hF; have:=hF.a; rw [show stepB sa = _ from h] at this; cases this
 have HB : Hid (stepB sb = false → ¬ Frm S):=fun h hF => by rw [← hS] at hF; have:=hF.b; rw [show stepB sb = _ from h] at this; cases this
 have HD : Hid (stepB sd = false → ¬ Frm S):=fun h hF => by rw [← hS] at hF; have:=hF.d; rw [show stepB sd = _ from h] at this; cases this
 have HPl : Hid (Frm S → P.length ≤ 64 ∧ Q.length ≤ 64 ∧ Oks P ∧ Qks Q):=fun hF => by rw [← hS] at hF; exact ⟨hF.pl,hF.ql,hF.p,hF.q⟩
 clear hS hr
 have KA : Hid (∀ u,Calls Try.prog 44 #[.int .i64 sa] u fun e w' => e = .returned (.bool (stepB sa)) ∧ Kept u w'):=fun u => isStep_any sa u
 have KB : Hid (∀ u,Calls Try.prog 44 #[.int .i64 sb] u fun e w' => e = .returned (.bool (stepB sb)) ∧ Kept u w'):=fun u => isStep_any sb u
 have KD : Hid (∀ u,Calls Try.prog 44 #[.int .i64 sd] u fun e w' => e = .returned (.bool (stepB sd)) ∧ Kept u w'):=fun u => isStep_any sd u
 obtain ⟨pl,hpl⟩ : ∃ pl,P.length = pl:=⟨_,rfl⟩
 obtain ⟨n,hn⟩ : ∃ n,Q.length = n:=⟨_,rfl⟩
 rw [hpl] at HCP HF HPl HSz hpn ⊢
 rw [hn] at HF HPl HSz hqc hqn ⊢
 have HNn:=hid hn
 have HQC:=hid hqc
 clear hpl hn hqc hpn hqn
 obtain ⟨W0,hW0⟩ : ∃ W0,w.alloc (.cells #[.int .i64 sa,.int .i64 sb,.int .i64 sd,.slice pa pl pc,.slice qa n qc,.int .i64 lo,.int .i64 ra] 35) = W0:=⟨_,rfl⟩
 obtain ⟨M,hM⟩ : ∃ M,w.heap.size = M:=⟨_,rfl⟩
 have k0 : Kept w W0:=by rw [← hW0]; exact (Kept.refl w).alloc _ _
 have HBk : Hid (∀ u,Kept W0 u → Bk u M (stB sa sb sd (.slice pa pl pc) (.slice qa n qc) lo ra)):=fun u ku => Bk.kept (by rw [← hW0,← hM]; exact Bk.new w (stB sa sb sd (.slice pa pl pc) (.slice qa n qc) lo ra) _) ku
 have HK0:=hid k0
 clear k0
 have e0:=(HBk.out _ (Kept.refl W0)).c 0 _ rfl
 cases hA : stepB sa with
 | false =>
  rw [hA] at KA
  have HNO:=hid (HA.out hA)
  clear hA
  go_enter Try.func25,Try.ntmps25
  go_wp2_with (first | (go_at_call 44; refine (KA.out _).mono ?_; rintro e u1 ⟨rfl,k1⟩) | (go_at_call 43; refine (wantForm_no _).mono ?_; rintro e u2 ⟨rfl,k2⟩))
  exact ⟨rfl,HK0.out.trans (k1.trans k2),.inr ⟨rfl,HNO.out⟩⟩
 | true =>
 rw [hA] at KA
 cases hB : stepB sb with
 | false =>
  rw [hB] at KB
  have HNO:=hid (HB.out hB)
  clear hA hB
  go_enter Try.func25,Try.ntmps25
  go_wp2_with fail
  go_at_call 44
  refine (KA.out _).mono ?_
  rintro e u1 ⟨rfl,k1⟩
  have e1:=(HBk.out _ k1).c 1 _ rfl
  go_wp2_with (first | (go_at_call 44; refine (KB.out _).mono ?_; rintro e u2 ⟨rfl,k2⟩) | (go_at_call 43; refine (wantForm_no _).mono ?_; rintro e u3 ⟨rfl,k3⟩))
  exact ⟨rfl,HK0.out.trans ((k1.trans k2).trans k3),.inr ⟨rfl,HNO.out⟩⟩
 | true =>
 rw [hB] at KB
 cases hD : stepB sd with
 | false =>
  rw [hD] at KD
  have HNO:=hid (HD.out hD)
  clear hA hB hD
  go_enter Try.func25,Try.ntmps25
  go_wp2_with fail
  go_at_call 44
  refine (KA.out _).mono ?_
  rintro e u1 ⟨rfl,k1⟩
  have e1:=(HBk.out _ k1).c 1 _ rfl
  go_wp2_with fail
  go_at_call 44
  refine (KB.out _).mono ?_
  rintro e u2 ⟨rfl,k2⟩
  have e2:=(HBk.out _ (k1.trans k2)).c 2 _ rfl
  go_wp2_with (first | (go_at_call 44; refine (KD.out _).mono ?_; rintro e u3 ⟨rfl,k3⟩) | (go_at_call 43; refine (wantForm_no _).mono ?_; rintro e u4 ⟨rfl,k4⟩))
  exact ⟨rfl,HK0.out.trans (((k1.trans k2).trans k3).trans k4),.inr ⟨rfl,HNO.out⟩⟩
 | true =>
 rw [hD] at KD
 have HF2:=hid (HF.out hA hB hD)
 clear hA hB hD HF HA HB HD
 go_enter Try.func25,Try.ntmps25
 go_wp2_with fail
 go_at_call 44
 refine (KA.out _).mono ?_
 rintro e u1 ⟨rfl,k1⟩
 have e1:=(HBk.out _ k1).c 1 _ rfl
 go_wp2_with fail
 go_at_call 44
 refine (KB.out _).mono ?_
 rintro e u2 ⟨rfl,k2⟩
 have e2:=(HBk.out _ (k1.trans k2)).c 2 _ rfl
 go_wp2_with fail
 go_at_call 44
 refine (KD.out _).mono ?_
 rintro e u3 ⟨rfl,k3⟩
 go_wp2_with fail
 go_at_call 43
 refine (wantForm_ok _).mono ?_
 rintro e u4 ⟨rfl,k4⟩
 have K4:=hid (((k1.trans k2).trans k3).trans k4)
 clear k1 k2 k3 k4 e0 e1 e2 KA KB KD hM
 have e3:=(HBk.out _ K4.out).c 3 _ rfl
 have e4:=(HBk.out _ K4.out).c 4 _ rfl
 rcases Nat.lt_or_ge 64 pl with hp | hp
 ·have hpd : decide ((pl : Int) ≤ 64) = false:=decide_eq_false (by omega)
  have HNO:=hid (show ¬ Frm S from fun h => by have:=(HPl.out h).1; omega)
  clear hp
  go_wp2_with (first | (go_at_call 43; refine (wantForm_no _).mono ?_; rintro e u5 ⟨rfl,k5⟩))
  exact ⟨rfl,HK0.out.trans (K4.out.trans k5),.inr ⟨rfl,HNO.out⟩⟩
 have hpd : decide ((pl : Int) ≤ 64) = true:=decide_eq_true (by omega)
 rcases Nat.lt_or_ge 64 n with hq | hq
 ·have hqd : decide ((n : Int) ≤ 64) = false:=decide_eq_false (by omega)
  have HNO:=hid (show ¬ Frm S from fun h => by have:=(HPl.out h).2.1; omega)
  clear hp hq
  go_wp2_with (first | (go_at_call 43; refine (wantForm_no _).mono ?_; rintro e u5 ⟨rfl,k5⟩))
  exact ⟨rfl,HK0.out.trans (K4.out.trans k5),.inr ⟨rfl,HNO.out⟩⟩
 have hqd : decide ((n : Int) ≤ 64) = true:=decide_eq_true (by omega)
 have HPQ:=hid (show pl ≤ 64 ∧ n ≤ 64 from ⟨hp,hq⟩)
 clear hp hq
 go_wp2_with fail
 go_at_call 43
 refine (wantForm_ok _).mono ?_
 rintro e u5 ⟨rfl,k5⟩
 have K5:=hid (K4.out.trans k5)
 clear k5 e3 e4 hpd hqd
 have e3:=(HBk.out _ K5.out).c 3 _ rfl
 have e4:=(HBk.out _ K5.out).c 4 _ rfl
 have HC5:=hid (HCP.out u5 (HK0.out.trans K5.out))
 go_wp2_with fail
 go_at_call 45
 refine HC5.out.mono ?_
 rintro e u6 ⟨k6,hck⟩
 rcases (show _ ∨ _ from hck).symm with ⟨rfl,hno⟩ | ⟨rfl,hok⟩
 ·have HNO:=hid (show ¬ Frm S from fun h => hno (HPl.out h).2.2.1)
  clear hno
  go_wp2_with fail
  exact ⟨rfl,HK0.out.trans (K5.out.trans k6),.inr ⟨rfl,HNO.out⟩⟩
 have HOK:=hid hok
 have K6:=hid (K5.out.trans k6)
 clear k6 hok HC5 HCP K4 K5 e3 e4
 have e4:=(HBk.out _ K6.out).c 4 _ rfl
 go_wp2_with fail
 go_loopw [37] (fun iv wr => ∃ i : Nat,i ≤ n ∧ iv = .int .i64 (i : Int) ∧ Kept W0 wr ∧ ∀ (x : Nat) (l : List Mat),x < i → Q[x]? = some l → l.length ≤ 4 ∧ Oks l) (fun iv _ => n - (intOf iv).toNat)
 case atStart => exact ⟨0,Nat.zero_le _,rfl,K6.out,fun x l hx => by omega⟩
 case round =>
  clear e4
  obtain ⟨i,hi,rfl,kr,hall⟩:=hrel
  have HAL:=hid hall
  clear hall
  by_cases hin : i < n
  ·obtain ⟨l,hl⟩ : ∃ l,Q[i]? = some l:=⟨_,List.getElem?_eq_getElem (by rw [HNn.out]; exact hin)⟩
   obtain ⟨B,off,la,lc,rfl,hc⟩:=HR.out i l hl
   obtain ⟨c0,hK⟩:=hc wr (HK0.out.trans kr)
   have HKc:=hid (fun u ku => (hc u ku).2)
   have hbd : (0 : Int) ≤ (i : Int) ∧ (i : Int) < (n : Int):=by omega
   have hbd2 : (i : Int) < (n : Int):=by omega
   have z2 : IntKind.i64.wrap ((i : Int) + 1) = (i : Int) + 1:=by have:=HPQ.out; rw [wrap_i64]; omega
   have hkr:=hid kr
   have hin2:=hid hin
   have hl2:=hid hl
   obtain ⟨m,hm⟩ : ∃ m,l.length = m:=⟨_,rfl⟩
   rw [hm] at c0 HKc
   have HM:=hid hm
   clear hc hK kr HR hl hin hm hi
   by_cases h4 : m ≤ 4
   ·have h4d : decide ((m : Int) ≤ 4) = true:=decide_eq_true (by omega)
    have H4:=hid h4
    clear h4
    go_wp2_with fail
    go_at_call 43
    refine (wantForm_ok _).mono ?_
    rintro e w5 ⟨rfl,k5⟩
    have HKd:=hid (HKc.out w5 (HK0.out.trans (hkr.out.trans k5)) H4.out)
    have K5:=hid (hkr.out.trans k5)
    clear k5
    go_wp2_with fail
    go_at_call 45
    refine HKd.out.mono ?_
    rintro e u6 ⟨k6,⟨rfl,hok⟩ | ⟨rfl,hno⟩⟩
    ·have HO2:=hid hok
     have K6:=hid (K5.out.trans k6)
     clear hok k6
     go_wp2_with fail
     go_roundw
     case rel => exact ⟨i + 1,by have:=hin2.out; omega,by go_num,K6.out,fun x m2 hx hm2 => (Nat.lt_succ_iff_lt_or_eq.1 hx).elim (fun h => HAL.out x m2 h hm2) (fun h => by subst h; have e:=hl2.out; rw [e] at hm2; cases hm2; exact ⟨by rw [HM.out]; exact H4.out,HO2.out⟩)⟩
     case measure => have:=hin2.out; simp [intOf]; omega
    ·have HNO:=hid (show ¬ Frm S from fun h => hno ((HPl.out h).2.2.2 i l hl2.out).2)
     clear hno
     go_wp2_with fail
     exact ⟨rfl,HK0.out.trans (K5.out.trans k6),.inr ⟨rfl,HNO.out⟩⟩
   ·have h4d : decide ((m : Int) ≤ 4) = false:=decide_eq_false (by omega)
    have HNO:=hid (show ¬ Frm S from fun h => h4 (by rw [← HM.out]; exact ((HPl.out h).2.2.2 i l hl2.out).1))
    clear h4
    go_wp2_with (first | (go_at_call 43; refine (wantForm_no _).mono ?_; rintro e w5 ⟨rfl,k5⟩))
    exact ⟨rfl,HK0.out.trans (hkr.out.trans k5),.inr ⟨rfl,HNO.out⟩⟩
  ·obtain rfl : i = n:=by omega
   have hge : ¬ ((i : Int) < (i : Int)):=by omega
   have hFr : Frm S:=HF2.out HPQ.out.1 HPQ.out.2 HOK.out (fun x l hx => HAL.out x l (by have:=(List.getElem?_eq_some_iff.1 hx).1; have:=HNn.out; omega) hx)
   have HFr:=hid hFr
   have HZ:=hid (HSz.out hFr wr (HK0.out.trans kr))
   have hsz:=hFr.sz
   have hzd : decide (szS S ≤ 16777216) = true:=decide_eq_true (by omega)
   obtain ⟨e0,e1,e2,e3,e4,e5,e6⟩ : _ ∧ _ ∧ _ ∧ _ ∧ _ ∧ _ ∧ _:=⟨(HBk.out _ kr).c 0 _ rfl,(HBk.out _ kr).c 1 _ rfl,(HBk.out _ kr).c 2 _ rfl,(HBk.out _ kr).c 3 _ rfl,(HBk.out _ kr).c 4 _ rfl,(HBk.out _ kr).c 5 _ rfl,(HBk.out _ kr).c 6 _ rfl⟩
   have hkr:=hid kr
   clear hFr hsz kr HSz HF2
   generalize szS S = zs at *
   go_wp2_with (first | (go_at_call 46; refine HZ.out.mono ?_; rintro e w5 ⟨rfl,k5⟩) | (go_at_call 28; refine (want_ok _ _ _).mono ?_; rintro e w6 ⟨rfl,k6⟩))
   go_end0
   exact ⟨HK0.out.trans ((hkr.out.trans k5).trans k6),.inl ⟨rfl,HFr.out⟩⟩
end Go.Proofs.Ytocjfdiimapojaa
namespace Go.Proofs.Ytocjfdiimapojaa
open Go.ChangeShapes Go.WideShapes Go.ChangeAt Go.RowKit
set_option maxHeartbeats 16000000
set_option maxRecDepth 100000
set_option linter.unusedVariables false
set_option linter.unusedSimpArgs false
def wqs : List (List Mat) → List Int
 | [] => []
 | l :: Q => le 1 l.length ++ wls l ++ wqs Q
def wbody (s : Sta) : List Int:=mkL ++ wbits 8 [s.a,s.b,s.d,s.lo,s.ra] ++ (le 2 s.P.length ++ wls s.P) ++ le 2 s.Q.length ++ wqs s.Q
/-- The bytes of a state. -/
def enc (s : Sta) : List Int:=wbody s ++ le 4 (sumB (wbody s))
theorem wqs_app (Q K : List (List Mat)) : wqs (Q ++ K) = wqs Q ++ wqs K:=by
 induction Q with
 | nil => rfl
 | cons a l ih => show le 1 a.length ++ wls a ++ wqs (l ++ K) = le 1 a.length ++ wls a ++ wqs l ++ wqs K; rw [ih,List.append_assoc (le 1 _ ++ _)]
theorem wqs_step {Q : List (List Mat)} (i : Nat) (l : List Mat) (h : Q[i]? = some l) : wqs (Q.take (i + 1)) = wqs (Q.take i) ++ (le 1 l.length ++ wls l):=by
 obtain ⟨hi,rfl⟩:=List.getElem?_eq_some_iff.1 h
 rw [List.take_succ_eq_append_getElem hi,wqs_app]
 simp [wqs]
theorem wqs_len {Q : List (List Mat)} (h : Qks Q) : ((wqs Q).length : Int) = szq Q:=by
 induction Q with
 | nil => rfl
 | cons a l ih =>
  have h1:=wls_len (h 0 a rfl).2
  have h2:=ih (fun i m hi => h (i + 1) m (by simpa using hi))
  show ((le 1 a.length ++ wls a ++ wqs l).length : Int) = 1 + szl a + szq l
  rw [List.length_append,List.length_append,le_len]
  omega
theorem enc_len {s : Sta} (h : Frm s) : ((enc s).length : Int) = szS s:=by
 have h1:=wls_len h.p
 have h2:=wqs_len h.q
 unfold enc wbody szS
 simp only [List.length_append,le_len,wbits_len,mkL,List.length_cons,List.length_nil]
 omega
theorem Byt.app {A C : List Int} (h : Byt A) (k : Byt C) : Byt (A ++ C):=fun i hi => by
 rw [List.getD_eq_getElem?_getD,List.getElem?_append]
 split
 ·have:=h.at i; rwa [List.getD_eq_getElem?_getD] at this
 ·have:=k.at (i - A.length); rwa [List.getD_eq_getElem?_getD] at this
theorem byt_nil : Byt []:=fun i hi => by simp at hi
theorem byt_one (x : Int) (h : 0 ≤ x ∧ x < 256) : Byt [x]:=fun i hi => by
 have : i = 0:=by simpa using hi
 subst this
 exact h
theorem byt_le (k : Nat) (n : Int) : Byt (le k n):=by
 induction k with
 | zero => exact byt_nil
 | succ k ih => exact ih.app (byt_one _ (by omega))
theorem byt_wbits (k : Nat) (L : List Int) : Byt (wbits k L):=by
 induction L with
 | nil => exact byt_nil
 | cons a L ih => exact (byt_le k a).app ih
theorem byt_wls (l : List Mat) : Byt (wls l):=by
 induction l with
 | nil => exact byt_nil
 | cons a L ih => exact ((((byt_le 1 a.n).app (byt_le 2 a.r)).app (byt_le 2 a.c)).app (byt_wbits _ a.L)).app ih
theorem byt_wqs (Q : List (List Mat)) : Byt (wqs Q):=by
 induction Q with
 | nil => exact byt_nil
 | cons a L ih => exact ((byt_le 1 a.length).app (byt_wls a)).app ih
theorem byt_mk : Byt mkL:=by
 intro i hi
 have h4 : i < 4:=hi
 obtain rfl | rfl | rfl | rfl : i = 0 ∨ i = 1 ∨ i = 2 ∨ i = 3:=by omega
 all_goals decide
theorem byt_body (s : Sta) : Byt (wbody s):=(((byt_mk.app (byt_wbits 8 _)).app ((byt_le 2 _).app (byt_wls _))).app (byt_le 2 _)).app (byt_wqs _)
theorem byt_enc (s : Sta) : Byt (enc s):=(byt_body s).app (byt_le 4 _)
theorem bmake_run (n : Nat) (hn : n < 100000000) (w : World) : (Instr.makeSlice 22 (.int .i64 0) (.int .i64 (n : Int))).run Try.prog w = .ok (.slice (some ⟨w.heap.size,0,none⟩) 0 n) (w.alloc (.cells (madeCells #[.int .u8 0] n) 5)):=by
 obtain ⟨i,hi,hz,hs,hby⟩:=info_parts (lb_info)
 have:=run_make (P:=Try.prog) w 22 5 i (.int .u8 0) lb_under hi hz .i64 .i64 (0 : Int) (n : Int) (by omega) (by omega) (by rw [hby]; omega) (by omega)
 rw [hs,Int.toNat_natCast,Nat.mul_one] at this
 exact this
theorem bown_made (n : Nat) (hn : n < 100000000) (w : World) : OwnV (w.alloc (.cells (madeCells #[.int .u8 0] n) 5)) w.heap.size n 5 []:=by
 refine ⟨_,heap_alloc_new w _,Nat.zero_le _,by simp [maxLen]; omega,?_,by simp⟩
 simp [madeCells]
theorem wpList_append_run2 {P : Program} {w : World} {ops : Array Oper} {rest : List Oper} {o : Oper} {a : Act} {Q : Exit → Act → World → Prop} (hgd : o.guard = none) (s x : Operand) (t u : TypeId)
  (ho : o.op = .call { callee:=.builtin .append,args:=#[s,x],argTypes:=#[t,u] }) (v xv : Value) (hs : a.eval s = v) (hx : a.eval x = xv) (v' : Value) (w' : World)
  (hr : (Builtin.append_ #[t,u] o.type #[v,xv]).run P w = .ok v' w') (h : wpList P ops Q rest (a.put o.dst v') w') : wpList P ops Q (o :: rest) a w:=by
 refine wpList_plain hgd fun K hK => ?_
 unfold Oper.wp execOp
 simp only [ho,resolve,invoke,builtin,Sem.run_bind,Sem.run_pure,Result.andThen_ok,List.map_toArray,List.map_cons,List.map_nil,hs,hx,hr]
 exact hK _ _ h
theorem str_under : Try.prog.underlying 9 = some .string:=by kernel_rfl
/-- The mark is put. -/
theorem w_mark {u : World} {Wb g C : Nat} (h : WV u Wb g C []) (hr : 4 ≤ C) (hC : C ≤ 100000000) :
  ∃ w',(∀ ty,(Builtin.append_ #[22,9] ty #[.slice (some ⟨g,0,none⟩) 0 C,.string ⟨#[112,115,116,1]⟩]).run Try.prog u = .ok (.slice (some ⟨g,0,none⟩) 4 C) w') ∧ KX (fun b => b = g) u w' ∧ WV (w'.setCell ⟨Wb,0,none⟩ (.slice (some ⟨g,0,none⟩) 4 C)) Wb g C mkL ∧ w'.cell? ⟨Wb,0,none⟩ = some (.slice (some ⟨g,0,none⟩) 0 C) ∧ w'.frozen? ⟨Wb,0,none⟩ = false:=by
 obtain ⟨i,hi,hz2,hs,hb⟩:=info_parts lb_info
 have hS:=Src.ofString (P:=Try.prog) u (tx:=9) str_under ⟨#[112,115,116,1]⟩
 have hbc : byteCells ⟨#[112,115,116,1]⟩ = mkL.map (Value.int .u8):=rfl
 rw [hbc,show (⟨#[112,115,116,1]⟩ : ByteArray).size = 4 from rfl] at hS
 obtain ⟨NV,hNV⟩ : ∃ NV,mkL.map (Value.int .u8) = NV:=⟨_,rfl⟩
 have hl : NV.length = 4:=by rw [← hNV]; rfl
 have hm4 : mkL.length = 4:=rfl
 rw [hNV] at hS
 have hO : OwnV u g C 5 []:=h.o
 have hG:=(Grw.refl g u).setCells NV 0
 have hO2 : OwnV (u.setCells g 0 NV) g C 5 NV:=hO.pushes NV (by simpa [hl] using hr)
 have hc : (u.setCells g 0 NV).cell? ⟨Wb,0,none⟩ = some (.slice (some ⟨g,0,none⟩) 0 C):=by
  have hb:=hG.kx.block Wb h.lt h.ne
  exact (World.cell?_of_block hb).trans h.c
 have hf : (u.setCells g 0 NV).frozen? ⟨Wb,0,none⟩ = false:=(hG.frozen _).trans h.fz
 have hrun : ∀ ty,(Builtin.append_ #[22,9] ty #[.slice (some ⟨g,0,none⟩) 0 C,.string ⟨#[112,115,116,1]⟩]).run Try.prog u = .ok (.slice (some ⟨g,0,none⟩) 4 C) (u.setCells g 0 NV):=fun ty => by
  generalize (Value.string ⟨#[112,115,116,1]⟩) = sv at *
  have:=run_append_room_src u 22 9 ty 5 i lb_under hi g 0 0 C sv 4 NV (by rw [hs]; exact hS) (by omega) (fun j hj => hO.some _ (by rw [hl] at hj; rw [hs]; omega)) (fun j hj => hO.free _)
  rw [this,hs]
 have hw : WV ((u.setCells g 0 NV).setCell ⟨Wb,0,none⟩ (.slice (some ⟨g,0,none⟩) 4 C)) Wb g C mkL:=by
  refine ⟨?_,(World.frozen?_setCell _ _ _ _).trans hf,?_,h.ne⟩
  ·rw [World.cell?_setCell_same _ _ _ (by rw [hc]),hm4]
  ·rw [hNV]
   exact hO2.setOther (by show g ≠ Wb; exact fun e => h.ne e.symm) _
 exact ⟨u.setCells g 0 NV,hrun,hG.kx,hw,hc,hf⟩
end Go.Proofs.Ytocjfdiimapojaa
