/- AccMerges: any two sums,any number. AccAdds: every sum,any two ints,every width. How arguments are read: exact numbers,lists of ints; and that they read behind the call as before. How a sum is read. -/
import Derived.Test.YtoflafgbbjinpaaGreatDoorX46
import Derived.Test.YtoflafgbbjinpaaGreatDoorX32
import Derived.Test.YtoflafgbbjinpaaGreatDoorX35
import Derived.Test.YtoflafgbbjinpaaGreatDoorX47
import Derived.Test.YtoflafgbbjinpaaGreatDoorX04
import Derived.ProofKit
import Derived.OpenShut
import Derived.Carry
import Derived.Lib.SmallJoins
import Derived.ChangeSlices
import Derived.Deep.SlicePairs
namespace Go.Proofs.YtoflafgbbjinpaaGreatDoor
open Go.ChangeShapes Go.WideShapes Go.ChangeAt Go.RowKit
set_option linter.unusedVariables false
set_option linter.unusedSimpArgs false
set_option maxHeartbeats 16000000
set_option maxRecDepth 100000
theorem hvy_len (l : Nat) (x : Int) (h : hvy l x = false) : l ≤ 2100:=by
 unfold hvy at h
 simp at h
 omega
theorem accAdds_true (w : World) (hT : Tab w) (a : Nm) (q1 : Option Addr) (d1 : Nat) (p m z : Bool) (hc1 : q1 = none → d1 = 0) (ra : Rg a.mag) (hr1 : Sl w (.slice q1 a.mag.length d1) a.mag) (x y n : Int) (x1 : -9223372036854775808 ≤ x) (x2 : x ≤ 9223372036854775807) (y1 : -9223372036854775808 ≤ y) (y2 : y ≤ 9223372036854775807) :
  Calls Tryz.prog 3 #[accV a.neg (.slice q1 a.mag.length d1) a.exp p m z,.int .i64 x,.int .i64 y,.int .i64 n] w fun e w' => e = .returned (.bool true) ∧ Kept w w':=by
 have KL : Hid (∀ u,Kept w u → Calls Tryz.prog 9 #[] u fun e w' => e = .returned (.bool true) ∧ Kept u w'):=fun u k => alive3 u (hT.kept k)
 obtain ⟨kb,hkb⟩ : ∃ n,n = w.heap.size + 1:=⟨_,rfl⟩
 obtain ⟨W,hW⟩ : ∃ W,W = (w.alloc (.cells #[.bool a.neg,.slice q1 a.mag.length d1,.int .i64 a.exp,.bool p,.bool m,.bool z] 26)).alloc (.cells #[.slice none 0 0,.slice none 0 0] 30):=⟨_,rfl⟩
 have hK : Kept w W:=by rw [hW]; exact ((Kept.refl w).alloc _ _).alloc _ _
 have hWs : W.heap.size = w.heap.size + 2:=by rw [hW]; simp
 obtain ⟨bA,hbA⟩ : ∃ n,n = w.heap.size:=⟨_,rfl⟩
 have TA : Hid (Hex W bA (.bool a.neg) (.slice q1 a.mag.length d1) (.int .i64 a.exp) (.bool p) (.bool m) (.bool z)):=by
  rw [hW,hbA]
  exact (Hex.new w _ _ _ _ _ _ _).kept ((Kept.refl _).alloc _ _)
 have HKP : Hid (∀ u,Kept W u → KeepAt w u kb (.slice none 0 0) (.slice none 0 0) []):=fun u k => by
  refine keep_none2 w u _ (hK.trans k) (by omega) ?_
  rw [k.below.block kb (by omega),hW,hkb]
  have:=heap_alloc_new (w.alloc (.cells #[.bool a.neg,.slice q1 a.mag.length d1,.int .i64 a.exp,.bool p,.bool m,.bool z] 26)) (.cells #[.slice none 0 0,.slice none 0 0] 30)
  simpa using this
 have KP : Hid (∀ u vL vW E,KeepAt w u kb vL vW E → E.length ≤ 10 → Calls Tryz.prog 12 #[.pointer (some ⟨kb,0,none⟩)] u fun e w' => e = .returned (.bool true) ∧ Kept w w'):=fun u vL vW E h hE => apart_true w u _ vL vW E h (by omega)
 have KT1 : Hid (a.mag.length ≤ 2100 → ∀ u vL vW E,KeepAt w u kb vL vW E → E.length ≤ 10 → Calls Tryz.prog 11 #[.pointer (some ⟨kb,0,none⟩),accV a.neg (.slice q1 a.mag.length d1) a.exp p m z,.int .i64 x,.int .i64 y,.int .i64 n] u fun e w' => e = .returned (.bool true) ∧ ∃ vL' vW' E',KeepAt w w' kb vL' vW' E' ∧ E'.length ≤ E.length + 4 ∧ GrwS (kb :: (blk vL ++ blk vW)) u w'):=fun la u vL vW E h hE => adds_true w u hT kb vL vW E h (by omega) a ra la p m z x y n x1 x2 y1 y2 q1 d1 hc1 hr1
 have KT2 : Hid (a.mag.length ≤ 2100 → ∀ u vL vW E,KeepAt w u kb vL vW E → E.length ≤ 10 → Calls Tryz.prog 11 #[.pointer (some ⟨kb,0,none⟩),accV a.neg (.slice q1 a.mag.length d1) a.exp p m z,.int .i64 y,.int .i64 x,.int .i64 n] u fun e w' => e = .returned (.bool true) ∧ ∃ vL' vW' E',KeepAt w w' kb vL' vW' E' ∧ E'.length ≤ E.length + 4 ∧ GrwS (kb :: (blk vL ++ blk vW)) u w'):=fun la u vL vW E h hE => adds_true w u hT kb vL vW E h (by omega) a ra la p m z y x n y1 y2 x1 x2 q1 d1 hc1 hr1
 have KH1 : Hid (∀ u,Calls Tryz.prog 10 #[accV a.neg (.slice q1 a.mag.length d1) a.exp p m z] u fun e w' => e = .returned (.bool (hvy a.mag.length a.exp)) ∧ Kept u w'):=fun u => heavy3 _ _ _ _ _ _ _ _ u
 clear hr1 hT ra hc1
 go_enter Tryz.func3,Tryz.ntmps3
 go_upto_region 2 with fail
 rw [← hW,← hkb,← hbA]
 have hb3 : bA < kb ∧ kb < W.heap.size:=by omega
 clear hW hkb hbA hWs
 go_wp2_with fail
 refine (KL.out _ hK).mono ?_
 rintro e u0 ⟨rfl,k0⟩
 obtain ⟨c0,c1,c2,c3,c4,c5⟩:=(TA.out.kept k0).now
 go_wp2_with fail
 refine (KH1.out _).mono ?_
 rintro e u1 ⟨rfl,k1'⟩
 have k1:=k0.trans k1'
 clear c0 c1 c2 c3 c4 c5
 have hk4:=HKP.out _ k1
 cases hv : hvy a.mag.length a.exp with
 | true =>
  go_wp2_with fail
  refine (KP.out _ _ _ _ hk4 (by simp)).mono ?_
  rintro e u7 ⟨rfl,k7⟩
  go_wp2_with fail
  go_ret
  exact ⟨rfl,k7⟩
 | false =>
  have la:=hvy_len _ _ hv
  obtain ⟨c0,c1,c2,c3,c4,c5⟩:=(TA.out.kept k1).now
  go_wp2_with fail
  refine (KT1.out la _ _ _ _ hk4 (by simp)).mono ?_
  rintro e u5 ⟨rfl,vL3,vW3,E3,h5,l3,g3⟩
  have hn : ∀ p,p < kb → p ∉ kb :: (blk (.slice none 0 0) ++ blk (.slice none 0 0)):=fun p hp h => by
   simp [blk] at h
   omega
  clear c0 c1 c2 c3 c4 c5
  obtain ⟨c0,c1,c2,c3,c4,c5⟩:=((TA.out.kept k1).grw g3 (hn _ (by omega))).now
  clear hn g3 hk4
  go_wp2_with fail
  refine (KT2.out la _ _ _ _ h5 (by simp at l3; omega)).mono ?_
  rintro e u6 ⟨rfl,vL4,vW4,E4,h6,l4,-⟩
  clear c0 c1 c2 c3 c4 c5
  go_wp2_with fail
  refine (KP.out _ _ _ _ h6 (by simp at l3; omega)).mono ?_
  rintro e u7 ⟨rfl,k7⟩
  go_wp2_with fail
  go_ret
  exact ⟨rfl,k7⟩
end Go.Proofs.YtoflafgbbjinpaaGreatDoor
namespace Go.Proofs.YtoflafgbbjinpaaGreatDoor
open Go.ChangeShapes Go.WideShapes Go.ChangeAt Go.RowKit Go.Joins
set_option linter.unusedVariables false
set_option linter.unusedSimpArgs false
set_option maxHeartbeats 16000000
set_option maxRecDepth 100000
theorem laid_out : laidOutB Tryz.prog = true:=by kernel_rfl
theorem cells_num : Tryz.prog.cellsOf 24 = 3:=by kernel_rfl
theorem cells_int : Tryz.prog.cellsOf 3 = 1:=by kernel_rfl
theorem wf_rng (n : Int) (h : (Lit.int .i64 n).wf = true) : -9223372036854775808 ≤ n ∧ n ≤ 9223372036854775807:=by
 have e1 : IntKind.i64.min = -9223372036854775808:=rfl
 have e2 : IntKind.i64.max = 9223372036854775807:=rfl
 simp [Lit.wf] at h
 omega
section
variable {H : Type} {enc : TypeId × Value → H} {W : World}
theorem open_lst {fuel : Nat} {cs : List Value} {x : DataW H × List MemPlace} (h : DataW.trod enc Tryz.prog W 0 (fun _ => true) true fuel 22 cs = some x) :
  ∃ (L : List Int) (ar : Option Addr) (cr : Nat),cs = [.slice ar L.length cr] ∧ (ar = none → cr = 0) ∧ Rg L ∧ Sl W (.slice ar L.length cr) L:=by
 rcases open_ints Tryz.underlying22 Tryz.underlying3 cells_int h with ⟨rfl,-⟩ | ⟨a,len,cap,zs,rfl,-,hl,hm,hz,-,hcell,hwf⟩
 ·exact ⟨[],none,0,rfl,fun _ => rfl,fun d hd => (by cases hd),none,0,rfl,Nat.le_refl _,by simp [maxLen],fun h => absurd rfl h⟩
 ·have hlen : (zs.take len).length = len:=by
   rw [List.length_take,hz]
   simp
   omega
  refine ⟨zs.take len,some a,cap,by rw [hlen],fun h => (by cases h),fun d hd => wf_rng d (hwf d (List.mem_of_mem_take hd)),some a,cap,by rw [hlen],by rw [hlen]; exact hl,hm,fun hne => ?_⟩
  have hpos : 0 < len:=by
   rcases Nat.eq_zero_or_pos len with h0 | h0
   ·subst h0; simp at hne
   ·exact h0
  have hzl : len ≤ zs.length:=by rw [hz]; simp; omega
  have h0:=hcell 0 (by omega)
  have hs:=World.cell?_spot h0
  have hb:=World.block_lt_of_cell? W _ h0
  obtain ⟨ab,ao,asp⟩:=a
  simp [Addr.add] at hs hb
  subst hs
  refine ⟨ab,ao,rfl,hb,fun i hi => ?_⟩
  rw [hlen] at hi
  have:=hcell i (by omega)
  rw [Addr.add_lit] at this
  rw [this,List.getD_eq_getElem?_getD,List.getD_eq_getElem?_getD,List.getElem?_take,if_pos hi]
theorem trodAll_stays {W' : World} {sp : Nat → Bool} : ∀ {ts : List TypeId} {vs : List Value} {ds : List (DataW H)} {p : List MemPlace},(∀ t ∈ ts,Tryz.prog.readableRec t = true ∧ t < Tryz.prog.types.size) → DataW.TrodAll enc Tryz.prog W 0 (fun _ => true) true ts vs ds p → (∀ x ∈ p,W.sameAt W' x) → (∀ x ∈ p,sp x.block = true) → DataW.TrodAll enc Tryz.prog W' 0 sp true ts vs ds p
 | [],_,_,_,_,h,_,_ => by
  obtain ⟨rfl,rfl,rfl⟩:=trodAll_nil h
  exact trodAll_mk0
 | t :: ts,_,_,_,hr,h,hs,hp => by
  obtain ⟨v,vs1,d,ds1,a,b,rfl,rfl,rfl,h1,h2⟩:=trodAll_cons h
  obtain ⟨r1,r2⟩:=hr t (by simp)
  exact trodAll_cons_mk (WideElems.Trod_stays laid_out r1 r2 h1 (fun x hx => hs x (by simp [hx])) (fun x hx => hp x (by simp [hx]))) (trodAll_stays (fun t' ht' => hr t' (by simp [ht'])) h2 (fun x hx => hs x (by simp [hx])) (fun x hx => hp x (by simp [hx])))
end
theorem cells_acc : Tryz.prog.cellsOf 26 = 6:=by kernel_rfl
theorem cells_by : Tryz.prog.cellsOf 4 = 1:=by kernel_rfl
theorem cells_ly : Tryz.prog.cellsOf 22 = 1:=by kernel_rfl
section
variable {H : Type} {enc : TypeId × Value → H} {W : World}
theorem open_numy {fuel : Nat} {v0 v1 v2 : Value} {x : DataW H × List MemPlace} (h : DataW.trod enc Tryz.prog W 0 (fun _ => true) true fuel 24 [v0,v1,v2] = some x) : ∃ (A : Nm) (p : Option Addr) (d : Nat),v0 = .bool A.neg ∧ v1 = .slice p A.mag.length d ∧ v2 = .int .i64 A.exp ∧ (-9223372036854775808 ≤ A.exp ∧ A.exp ≤ 9223372036854775807) ∧ (p = none → d = 0) ∧ Rg A.mag ∧ Sl W (.slice p A.mag.length d) A.mag:=by
 obtain ⟨q0,q1,q2,n2,-,-,f0,f1,f2⟩:=Go.Deep.trod_struct3 Tryz.underlying24 h
 simp only [cells_int,cells_by,cells_ly,List.drop_zero,List.drop_succ_cons,List.take_succ_cons,List.take_zero] at f0 f1 f2
 obtain ⟨ng,e0,-⟩:=DataW.trod_bool Tryz.underlying4 f0
 obtain ⟨L,ar,cr,e1,hc,hR,hS⟩:=open_lst f1
 obtain ⟨x2,e2,-,wx⟩:=DataW.trod_int Tryz.underlying3 f2
 simp only [List.cons.injEq,and_true] at e0 e1 e2
 subst e0 e1 e2
 exact ⟨⟨ng,L,x2⟩,ar,cr,rfl,rfl,rfl,wf_rng x2 wx,hc,hR,hS⟩
theorem array6 {cs : Array Value} (h : cs.size = 6) : ∃ c0 c1 c2 c3 c4 c5,cs = #[c0,c1,c2,c3,c4,c5]:=by
 obtain ⟨l⟩:=cs
 match l,h with
 | [c0,c1,c2,c3,c4,c5],_ => exact ⟨c0,c1,c2,c3,c4,c5,rfl⟩
theorem open_acc {b0 : Nat} {v : Value} {d : DataW H} {p : List MemPlace} (hv : Value.okWide Tryz.prog W .any b0 26 v) (h : DataW.Trod enc Tryz.prog W 0 (fun _ => true) true 26 v d p) :
  ∃ (A : Nm) (ar : Option Addr) (cr : Nat) (f1 f2 f3 : Bool),v = .agg #[.bool A.neg,.slice ar A.mag.length cr,.int .i64 A.exp,.bool f1,.bool f2,.bool f3] ∧ (-9223372036854775808 ≤ A.exp ∧ A.exp ≤ 9223372036854775807) ∧ (ar = none → cr = 0) ∧ Rg A.mag ∧ Sl W (.slice ar A.mag.length cr) A.mag:=by
 obtain ⟨cs,rfl,hsz⟩:=okWide_struct Tryz.underlying26 hv
 obtain ⟨c0,c1,c2,c3,c4,c5,rfl⟩:=array6 (hsz.trans cells_acc)
 obtain ⟨fuel,hf⟩:=h
 obtain ⟨y0,y1,y2,y3,n,-,-,h0,h1,h2,h3⟩:=trod_struct4 Tryz.underlying26 hf
 simp only [Value.cells,cells_num,cells_by,List.drop_zero,List.drop_succ_cons,List.take_succ_cons,List.take_zero] at h0 h1 h2 h3
 obtain ⟨A,ar,cr,rfl,rfl,rfl,r1,r2,r3,r4⟩:=open_numy h0
 obtain ⟨f1,e1,-⟩:=DataW.trod_bool Tryz.underlying4 h1
 obtain ⟨f2,e2,-⟩:=DataW.trod_bool Tryz.underlying4 h2
 obtain ⟨f3,e3,-⟩:=DataW.trod_bool Tryz.underlying4 h3
 simp only [List.cons.injEq,and_true] at e1 e2 e3
 subst e1 e2 e3
 exact ⟨A,ar,cr,f1,f2,f3,rfl,r1,r2,r3,r4⟩
end
end Go.Proofs.YtoflafgbbjinpaaGreatDoor
