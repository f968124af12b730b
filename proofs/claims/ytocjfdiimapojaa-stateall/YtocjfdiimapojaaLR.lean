/- StateAll: asks one behind the other. -/
import Derived.Test.YtocjfdiimapojaaLM
namespace Go.Proofs.Ytocjfdiimapojaa
open Go.ChangeShapes Go.WideShapes Go.ChangeAt Go.RowKit
set_option maxHeartbeats 16000000
set_option maxRecDepth 100000
set_option linter.unusedVariables false
set_option linter.unusedSimpArgs false
/-- An ask in its eight cells: a state,bytes. -/
def AskI (w : World) (b o : Nat) : Prop:=∃ (sa sb sd : Int) (pa : Option Addr) (pn pc : Nat) (qa : Option Addr) (qn qc : Nat) (lo ra : Int) (ao : Option Addr) (cb : Nat) (s : Sta) (B : List Int),w.cell? ⟨b,o,none⟩ = some (.int .i64 sa) ∧ w.cell? ⟨b,o + 1,none⟩ = some (.int .i64 sb) ∧ w.cell? ⟨b,o + 2,none⟩ = some (.int .i64 sd) ∧ w.cell? ⟨b,o + 3,none⟩ = some (.slice pa pn pc) ∧ w.cell? ⟨b,o + 4,none⟩ = some (.slice qa qn qc) ∧ w.cell? ⟨b,o + 5,none⟩ = some (.int .i64 lo) ∧ w.cell? ⟨b,o + 6,none⟩ = some (.int .i64 ra) ∧ w.cell? ⟨b,o + 7,none⟩ = some (.slice ao B.length cb) ∧
 StI w (.agg #[.int .i64 sa,.int .i64 sb,.int .i64 sd,.slice pa pn pc,.slice qa qn qc,.int .i64 lo,.int .i64 ra]) s ∧ SRg s ∧ SRc s ∧ Byt B ∧ B.length ≤ cb ∧ (B ≠ [] → ∃ b off,ao = some ⟨b,off,none⟩ ∧ b < w.heap.size ∧ BR w b off B)
theorem AskI.kept {w w' : World} {b o : Nat} (h : AskI w b o) (hb : b < w.heap.size) (k : Kept w w') : AskI w' b o:=by
 obtain ⟨sa,sb,sd,pa,pn,pc,qa,qn,qc,lo,ra,ao,cb,s,B,h0,h1,h2,h3,h4,h5,h6,h7,h8,h9,h10,h11,h12,h13⟩:=h
 have e : ∀ o,w'.cell? ⟨b,o,none⟩ = w.cell? ⟨b,o,none⟩:=fun o => k.below.cell (p:=⟨b,o,none⟩) hb
 refine ⟨sa,sb,sd,pa,pn,pc,qa,qn,qc,lo,ra,ao,cb,s,B,(e _).trans h0,(e _).trans h1,(e _).trans h2,(e _).trans h3,(e _).trans h4,(e _).trans h5,(e _).trans h6,(e _).trans h7,h8.kept k,h9,h10,h11,h12,fun hne => ?_⟩
 obtain ⟨b2,off,e2,h,r⟩:=h13 hne
 exact ⟨b2,off,e2,Nat.lt_of_lt_of_le h k.below.size,fun i hi => (k.below.cell (p:=⟨b2,off + i,none⟩) h).trans (r i hi)⟩
/-- What holds ahead of each ask. -/
def Inv (w : World) (M : Nat) (i : Nat) (wr : World) : Prop:=∃ rv wv kv sv bvs cvs es,KP M (M + 1) rv wv kv sv bvs cvs es wr ∧ bvs.length ≤ i ∧ es.length = 2 * bvs.length ∧ (bvs = [] → rv = .slice none 0 0 ∧ wv = .slice none 0 0 ∧ kv = .slice none 0 0 ∧ sv = .slice none 0 0) ∧ Kept w wr
theorem Inv.kept {w : World} {M i : Nat} {a b : World} (h : Inv w M i a) (k : Kept a b) : Inv w M i b:=by
 obtain ⟨rv,wv,kv,sv,bvs,cvs,es,h1,h2,h3,h4,h5⟩:=h
 exact ⟨rv,wv,kv,sv,bvs,cvs,es,h1.kept k,h2,h3,h4,h5.trans k⟩
theorem Inv.up {w : World} {M i : Nat} {a : World} (h : Inv w M i a) : Inv w M (i + 1) a:=by
 obtain ⟨rv,wv,kv,sv,bvs,cvs,es,h1,h2,h3,h4,h5⟩:=h
 exact ⟨rv,wv,kv,sv,bvs,cvs,es,h1,by omega,h3,h4,h5⟩
theorem stateAll_true (ar : Option Addr) (len cap : Nat) (hlen : len ≤ 1000000000000000) (w : World) (hA : ∀ i,i < len → ∃ b off,ar = some ⟨b,off,none⟩ ∧ b < w.heap.size ∧ AskI w b (off + i * 8)) :
  Calls Try.prog 4 #[.slice ar len cap] w fun e w' => e = .returned (.bool true) ∧ Kept w w':=by
 have HAl:=hid alive23
 obtain ⟨M,hM⟩ : ∃ M,w.heap.size = M:=⟨_,rfl⟩
 obtain ⟨W0,hW0⟩ : ∃ W0,w.alloc (.cells #[.slice none 0 0,.slice none 0 0,.slice none 0 0,.slice none 0 0] 27) = W0:=⟨_,rfl⟩
 have k0 : Kept w W0:=by rw [← hW0]; exact (Kept.refl w).alloc _ _
 have bk : Bk W0 M [.slice none 0 0,.slice none 0 0,.slice none 0 0,.slice none 0 0]:=by rw [← hW0,← hM]; exact Bk.new w [.slice none 0 0,.slice none 0 0,.slice none 0 0,.slice none 0 0] 27
 have hKP0 : KP M (M + 1) (.slice none 0 0) (.slice none 0 0) (.slice none 0 0) (.slice none 0 0) [] [] [] W0:=by
  refine ⟨bk,⟨by omega,by have:=bk.lt; omega⟩,.inl ⟨rfl,rfl,rfl⟩,.inl ⟨rfl,rfl,rfl⟩,⟨rfl,by decide⟩,fun i b c h => (by simp at h),fun v hv => (by cases hv),fun v hv => (by cases hv),fun i j u v h => (by simp at h),.inl ⟨rfl,rfl,rfl⟩,.inl ⟨rfl,rfl,rfl⟩,by decide,fun e he => (by cases he),fun e he => (by cases he),List.Pairwise.nil,fun v hv b hb => ?_,⟨fun b hb => absurd hb (bk_nil b),fun b hb => absurd hb (bk_nil b)⟩⟩
  have : v = .slice none 0 0:=by rcases hv with h | h | h | h <;> exact h
  rw [this] at hb
  exact absurd hb (bk_nil b)
 have hI : Inv w M 0 W0:=⟨_,_,_,_,[],[],[],hKP0,Nat.le_refl _,rfl,fun _ => ⟨rfl,rfl,rfl,rfl⟩,k0⟩
 have HI:=hid hI
 have HM:=hid hM
 have HA:=hid hA
 have HLen:=hid hlen
 clear k0 bk hKP0 hI hA hlen
 go_enter Try.func4,Try.ntmps4
 go_wp2_with fail
 (try rw [hW0])
 clear hW0 hM
 go_loopw [4] (fun iv wr => ∃ i : Nat,i ≤ len ∧ i ≤ 8 ∧ iv = .int .i64 (i : Int) ∧ Inv w M i wr) (fun iv _ => 8 - (intOf iv).toNat)
 case atStart => exact ⟨0,Nat.zero_le _,Nat.zero_le _,rfl,HI.out⟩
 case round =>
  clear HI
  obtain ⟨i,hi,hi8,rfl,hinv⟩:=hrel
  by_cases hgo : i < len ∧ i < 8
  ·obtain ⟨hil,hi88⟩:=hgo
   obtain ⟨rv,wv,kv,sv,bvs,cvs,es,hkp,hbl,hel,hnil,hkw⟩:=hinv
   obtain ⟨b,off,e9,hbw,hask⟩:=HA.out i hil
   subst e9
   obtain ⟨sa,sb,sd,pa,pn,pc,qa,qn,qc,lo,ra,ao,cb,s,B,h0,h1,h2,h3,h4,h5,h6,h7,h8,h9,h10,h11,h12,h13⟩:=hask
   have ecl : ∀ o v,w.cell? ⟨b,o,none⟩ = some v → wr.cell? ⟨b,o,none⟩ = some v:=fun o v h => (hkw.below.cell (p:=⟨b,o,none⟩) hbw).trans h
   replace h0:=ecl _ _ h0
   replace h1:=ecl _ _ h1
   replace h2:=ecl _ _ h2
   replace h3:=ecl _ _ h3
   replace h4:=ecl _ _ h4
   replace h5:=ecl _ _ h5
   replace h6:=ecl _ _ h6
   replace h7:=ecl _ _ h7
   obtain ⟨m,hm⟩ : ∃ m,B.length = m:=⟨_,rfl⟩
   rw [hm] at h7
   have d1 : decide ((i : Int) < (len : Int)) = true:=decide_eq_true (by omega)
   have d2 : decide (i < len) = true:=decide_eq_true hil
   have d3 : decide ((i : Int) < 8) = true:=decide_eq_true (by omega)
   have d4 : decide (i < 8) = true:=decide_eq_true hi88
   have hbd : (0 : Int) ≤ (i : Int) ∧ (i : Int) < (len : Int):=by omega
   have z9 : IntKind.i64.wrap ((i : Int) + 1) = (i : Int) + 1:=by rw [wrap_i64]; omega
   have HII:=hid (show i < len ∧ i < 8 from ⟨hil,hi88⟩)
   obtain ⟨T,hT⟩ : ∃ T,wr.heap.size = T:=⟨_,rfl⟩
   obtain ⟨W1,hW1⟩ : ∃ W1,wr.alloc (.cells #[.int .i64 sa,.int .i64 sb,.int .i64 sd,.slice pa pn pc,.slice qa qn qc,.int .i64 lo,.int .i64 ra,.slice ao m cb] 37) = W1:=⟨_,rfl⟩
   have k1 : Kept wr W1:=by rw [← hW1]; exact (Kept.refl wr).alloc _ _
   have ot : OwnS W1 T 1 8 37 [.int .i64 sa,.int .i64 sb,.int .i64 sd,.slice pa pn pc,.slice qa qn qc,.int .i64 lo,.int .i64 ra,.slice ao m cb]:=by
    rw [← hW1,← hT]
    exact ⟨_,heap_alloc_new wr _,Nat.le_refl 8,by simp [maxLen],rfl,rfl⟩
   have HKP:=hid (hkp.kept k1)
   have HOT:=hid ot
   have HK1:=hid (hkw.trans k1)
   have HSt:=hid (show ∀ u,Kept w u → StI u _ s from fun u k => h8.kept k)
   have HSr:=hid (show SRg s ∧ SRc s from ⟨h9,h10⟩)
   have HBy:=hid (show Byt B ∧ B.length = m ∧ m ≤ cb from ⟨h11,hm,by omega⟩)
   have HBr:=hid (show ∀ u,Kept w u → B ≠ [] → ∃ b off,ao = some ⟨b,off,none⟩ ∧ b < u.heap.size ∧ BR u b off B from fun u k hne => by
    obtain ⟨b2,o2,e2,q1,q2⟩:=h13 hne
    exact ⟨b2,o2,e2,Nat.lt_of_lt_of_le q1 k.below.size,fun j hj => (k.below.cell (p:=⟨b2,o2 + j,none⟩) q1).trans (q2 j hj)⟩)
   have HNl:=hid (show bvs.length ≤ i ∧ es.length = 2 * bvs.length ∧ (bvs = [] → rv = .slice none 0 0 ∧ wv = .slice none 0 0 ∧ kv = .slice none 0 0 ∧ sv = .slice none 0 0) from ⟨hbl,hel,hnil⟩)
   have HTM:=hid (show wr.heap.size = T ∧ M + 1 ≤ T from ⟨hT,by have:=hkp.kH; omega⟩)
   clear hkp hbl hel hnil hkw k1 ot h8 h9 h10 h11 h12 h13 hm hi hi8 hil hi88 ecl
   have cells : ∀ u,OwnS u T 1 8 37 [.int .i64 sa,.int .i64 sb,.int .i64 sd,.slice pa pn pc,.slice qa qn qc,.int .i64 lo,.int .i64 ra,.slice ao m cb] → u.cell? ⟨T,0,none⟩ = some (.int .i64 sa) ∧ u.cell? ⟨T,1,none⟩ = some (.int .i64 sb) ∧ u.cell? ⟨T,2,none⟩ = some (.int .i64 sd) ∧ u.cell? ⟨T,3,none⟩ = some (.slice pa pn pc) ∧ u.cell? ⟨T,4,none⟩ = some (.slice qa qn qc) ∧ u.cell? ⟨T,5,none⟩ = some (.int .i64 lo) ∧ u.cell? ⟨T,6,none⟩ = some (.int .i64 ra) ∧ u.cell? ⟨T,7,none⟩ = some (.slice ao m cb):=fun u h => ⟨h.cell 0 _ rfl,h.cell 1 _ rfl,h.cell 2 _ rfl,h.cell 3 _ rfl,h.cell 4 _ rfl,h.cell 5 _ rfl,h.cell 6 _ rfl,h.cell 7 _ rfl⟩
   have HCs:=hid cells
   clear cells
   obtain ⟨t0,t1,t2,t3,t4,t5,t6,t7⟩:=HCs.out _ HOT.out
   go_wp2_with fail
   (try rw [hW1])
   clear h0 h1 h2 h3 h4 h5 h6 h7 hT hW1
   go_at_call 8
   refine (bulk_sm _ s HSr.out.2 W1 (HSt.out W1 HK1.out)).mono ?_
   rintro e w2 ⟨⟨x,rfl,hsm⟩,k2⟩
   have HOT2:=hid (HOT.out.kept k2)
   have HKP2:=hid (HKP.out.kept k2)
   have HK2:=hid (HK1.out.trans k2)
   have HSm:=hid hsm
   clear k2 hsm t0 t1 t2 t3 t4 t5 t6 t7 HOT HKP HK1
   obtain ⟨t0,t1,t2,t3,t4,t5,t6,t7⟩:=HCs.out _ HOT2.out
   have HSkip : Hid (Inv w M (i + 1) w2):=⟨rv,wv,kv,sv,bvs,cvs,es,HKP2.out,by have:=HNl.out; omega,HNl.out.2.1,HNl.out.2.2,HK2.out⟩
   by_cases hx : 500 < x
   ·have hxd : decide (500 < x) = true:=decide_eq_true hx
    go_wp2_with fail
    go_roundw
    case rel => exact ⟨i + 1,by have:=HII.out; omega,by have:=HII.out; omega,by go_num,HSkip.out⟩
    case measure => have:=HII.out; simp [intOf]; omega
   have hxd : decide (500 < x) = false:=decide_eq_false hx
   by_cases hm4 : 4000 < m
   ·have hmd : decide (4000 < (m : Int)) = true:=decide_eq_true (by omega)
    have hme : decide (4000 < m) = true:=decide_eq_true hm4
    go_wp2_with fail
    go_roundw
    case rel => exact ⟨i + 1,by have:=HII.out; omega,by have:=HII.out; omega,by go_num,HSkip.out⟩
    case measure => have:=HII.out; simp [intOf]; omega
   have hmd : decide (4000 < (m : Int)) = false:=decide_eq_false (by omega)
   have hme : decide (4000 < m) = false:=decide_eq_false hm4
   have hkp:=HKP2.out
   have HWr:=hid (writes_many _ s M rv wv kv sv bvs.length bvs cvs (HSm.out (by omega)) HSr.out.1 w2 (HSt.out w2 HK2.out) hkp.k hkp.r (by rw [← hkp.rl.1]; exact hkp.c) (by have:=hkp.rl.2; omega) (fun hb => by have:=(hkp.lo rv (.inl rfl) M hb).1; omega) (fun hb => by have:=(hkp.lo wv (.inr (.inl rfl)) M hb).1; omega) hkp.ap.1)
   have HM4:=hid (show m ≤ 4000 by omega)
   clear hkp HSkip hx hm4
   go_wp2_with fail
   go_at_call 9
   refine HWr.out.mono ?_
   rintro e w3 ⟨rfl,kx3,hg3⟩
   obtain ⟨rv3,wv3,bv3,cv3,hkp3⟩:=HKP2.out.writes (by have:=HNl.out.1; have:=HII.out; omega) kx3 hg3
   have hkp:=HKP2.out
   have hT2 : ∀ b,(b = M ∨ bkv rv b ∨ bkv wv b) → M ≤ b ∧ b ≠ T:=fun b hb => by
    have hTM:=HTM.out
    rcases hb with rfl | hb | hb
    ·omega
    ·refine ⟨by have:=(hkp.lo rv (.inl rfl) b hb).1; omega,fun e => ?_⟩
     subst e
     obtain ⟨c1,q1⟩:=hkp.r.ty hb
     obtain ⟨c2,q2,-⟩:=HOT2.out
     exact absurd (ty_ne q1 q2) (by decide)
    ·refine ⟨by have:=(hkp.lo wv (.inr (.inl rfl)) b hb).1; omega,fun e => ?_⟩
     subst e
     obtain ⟨c1,q1⟩:=hkp.c.ty hb
     obtain ⟨c2,q2,-⟩:=HOT2.out
     exact absurd (ty_ne q1 q2) (by decide)
   have HOT3:=hid (HOT2.out.on (kx3.block T HOT2.out.lt (fun h => (hT2 T h).2 rfl)))
   have HK3:=hid (kept_of_kx HK2.out kx3 (fun b hb => by have:=(hT2 b hb).1; have:=HM.out; omega))
   have HLe3:=hid (show es.length = es.length from rfl)
   have HKP3:=hid hkp3
   clear kx3 hg3 hkp hT2 hkp3 t0 t1 t2 t3 t4 t5 t6 t7 HOT2 HKP2 HK2 HWr
   have hkp:=HKP3.out
   have HRd4:=hid (reads_many M rv3 wv3 kv sv es.length _ _ ao cb B HBy.out.1 (by have:=HBy.out.2.1; have:=HM4.out; omega) (by have:=HBy.out; omega) w3 (HBr.out w3 HK3.out) hkp.k hkp.s1 hkp.s2 (by have:=hkp.sl; omega) (fun hb => by have:=(hkp.lo kv (.inr (.inr (.inl rfl))) M hb).1; omega) (fun hb => by have:=(hkp.lo sv (.inr (.inr (.inr rfl))) M hb).1; omega) hkp.ap.2)
   have hrd:=HRd4.out
   rw [HBy.out.2.1] at hrd
   have HRe4:=hid hrd
   clear hrd HRd4 hkp
   obtain ⟨t0,t1,t2,t3,t4,t5,t6,t7⟩:=HCs.out _ HOT3.out
   go_wp2_with fail
   go_at_call 6
   refine HRe4.out.mono ?_
   rintro e w4 ⟨rfl,kx4,hg4⟩
   obtain ⟨kv4,sv4,e4,hkp4⟩:=HKP3.out.reads (by have:=HLe3.out; have:=HNl.out; have:=HII.out; omega) kx4 hg4
   have hkp:=HKP3.out
   have hT4 : ∀ b,(b = M ∨ bkv kv b ∨ bkv sv b) → M ≤ b ∧ b ≠ T:=fun b hb => by
    have hTM:=HTM.out
    rcases hb with rfl | hb | hb
    ·omega
    ·refine ⟨by have:=(hkp.lo kv (.inr (.inr (.inl rfl))) b hb).1; omega,fun e => ?_⟩
     subst e
     obtain ⟨c1,q1⟩:=hkp.s1.ty hb
     obtain ⟨c2,q2,-⟩:=HOT3.out
     exact absurd (ty_ne q1 q2) (by decide)
    ·refine ⟨by have:=(hkp.lo sv (.inr (.inr (.inr rfl))) b hb).1; omega,fun e => ?_⟩
     subst e
     obtain ⟨c1,q1⟩:=hkp.s2.ty hb
     obtain ⟨c2,q2,-⟩:=HOT3.out
     exact absurd (ty_ne q1 q2) (by decide)
   have HOT4:=hid (HOT3.out.on (kx4.block T HOT3.out.lt (fun h => (hT4 T h).2 rfl)))
   have HK4:=hid (kept_of_kx HK3.out kx4 (fun b hb => by have:=(hT4 b hb).1; have:=HM.out; omega))
   have HKP4:=hid hkp4
   have HLe4:=hid (show (es ++ [e4]).length = es.length + 1 by simp)
   clear kx4 hg4 hkp hkp4 hT4 t0 t1 t2 t3 t4 t5 t6 t7 HOT3 HKP3 HK3 HRe4
   have hkp:=HKP4.out
   have HRd5:=hid (reads_many M rv3 wv3 kv4 sv4 (es ++ [e4]).length _ _ ao cb B HBy.out.1 (by have:=HBy.out.2.1; have:=HM4.out; omega) (by have:=HBy.out; omega) w4 (HBr.out w4 HK4.out) hkp.k hkp.s1 hkp.s2 (by have:=hkp.sl; omega) (fun hb => by have:=(hkp.lo kv4 (.inr (.inr (.inl rfl))) M hb).1; omega) (fun hb => by have:=(hkp.lo sv4 (.inr (.inr (.inr rfl))) M hb).1; omega) hkp.ap.2)
   have hrd:=HRd5.out
   rw [HBy.out.2.1] at hrd
   have HRe5:=hid hrd
   clear hrd HRd5 hkp
   obtain ⟨t0,t1,t2,t3,t4,t5,t6,t7⟩:=HCs.out _ HOT4.out
   go_wp2_with fail
   go_at_call 6
   refine HRe5.out.mono ?_
   rintro e w5 ⟨rfl,kx5,hg5⟩
   obtain ⟨kv5,sv5,e5,hkp5⟩:=HKP4.out.reads (by have:=HLe4.out; have:=HNl.out; have:=HII.out; omega) kx5 hg5
   have hkp:=HKP4.out
   have hT5 : ∀ b,(b = M ∨ bkv kv4 b ∨ bkv sv4 b) → M ≤ b ∧ b ≠ T:=fun b hb => by
    have hTM:=HTM.out
    rcases hb with rfl | hb | hb
    ·omega
    ·refine ⟨by have:=(hkp.lo kv4 (.inr (.inr (.inl rfl))) b hb).1; omega,fun e => ?_⟩
     subst e
     obtain ⟨c1,q1⟩:=hkp.s1.ty hb
     obtain ⟨c2,q2,-⟩:=HOT4.out
     exact absurd (ty_ne q1 q2) (by decide)
    ·refine ⟨by have:=(hkp.lo sv4 (.inr (.inr (.inr rfl))) b hb).1; omega,fun e => ?_⟩
     subst e
     obtain ⟨c1,q1⟩:=hkp.s2.ty hb
     obtain ⟨c2,q2,-⟩:=HOT4.out
     exact absurd (ty_ne q1 q2) (by decide)
   have HOT5:=hid (HOT4.out.on (kx5.block T HOT4.out.lt (fun h => (hT5 T h).2 rfl)))
   have HK5:=hid (kept_of_kx HK4.out kx5 (fun b hb => by have:=(hT5 b hb).1; have:=HM.out; omega))
   have HKP5:=hid hkp5
   have HLe5:=hid (show ((es ++ [e4]) ++ [e5]).length = es.length + 2 by simp)
   clear kx5 hg5 hkp hkp5 hT5 t0 t1 t2 t3 t4 t5 t6 t7 HOT4 HKP4 HK4 HRe5
   have HFin : Hid (Inv w M (i + 1) w5):=⟨rv3,wv3,kv5,sv5,bvs ++ [bv3],cvs ++ [cv3],(es ++ [e4]) ++ [e5],HKP5.out,by have:=HNl.out.1; simp; omega,by rw [HLe5.out]; have:=HNl.out.2.1; simp; omega,fun h => by simp at h,HK5.out⟩
   go_wp2_with fail
   go_roundw
   case rel => exact ⟨i + 1,by have:=HII.out; omega,by have:=HII.out; omega,by go_num,HFin.out⟩
   case measure => have:=HII.out; simp [intOf]; omega
  ·have hex : i = len ∨ i = 8:=by omega
   have HInv:=hid hinv
   have hend : ∀ w1,Kept wr w1 → Calls Try.prog 7 #[.pointer (some ⟨M,0,none⟩)] w1 fun e w' => e = .returned (.bool true) ∧ KX (fun b => M ≤ b) w1 w':=fun w1 k => by
    obtain ⟨rv,wv,kv,sv,bvs,cvs,es,hkp,hbl,hel,hnil,hkw⟩:=hinv.kept k
    by_cases hb0 : bvs = []
    ·obtain ⟨rfl,rfl,rfl,rfl⟩:=hnil hb0
     refine (apart0 M w1 hkp.k).mono ?_
     rintro e w' ⟨rfl,k9⟩
     exact ⟨rfl,k9.kx _⟩
    ·have hpos : 0 < bvs.length:=List.length_pos_iff.2 hb0
     refine (apart_all M (M + 1) rv wv kv sv bvs cvs es w1 hkp (by omega) hpos).mono ?_
     rintro e w' ⟨rfl,k9⟩
     exact ⟨rfl,k9.mono fun b hb => by omega⟩
   have HEnd:=hid hend
   have HKw:=hid (show Kept w wr by obtain ⟨_,_,_,_,_,_,_,_,_,_,_,h⟩:=hinv; exact h)
   have fin : ∀ w1,Kept wr w1 → ∀ w',KX (fun b => M ≤ b) w1 w' → Kept w w':=fun w1 k w' kx => kept_of_kx (HKw.out.trans k) kx (fun b hb => by have:=HM.out; omega)
   have HFi:=hid fin
   clear hinv hend fin hgo
   rcases (show i = len ∨ (i = 8 ∧ i < len) by omega) with rfl | ⟨rfl,hlt⟩
   ·have d1 : decide ((i : Int) < (i : Int)) = false:=decide_eq_false (by omega)
    have d2 : decide (i < i) = false:=decide_eq_false (by omega)
    clear hex hi hi8
    go_wp2_with fail
    go_at_call 5
    refine (HAl.out _).mono ?_
    rintro e w1 ⟨rfl,k1⟩
    have K1:=hid k1
    clear k1
    go_wp2_with fail
    go_at_call 7
    refine (HEnd.out _ K1.out).mono ?_
    rintro e w2 ⟨rfl,kx2⟩
    have KE:=hid (HFi.out _ K1.out _ kx2)
    clear kx2
    go_wp2_with fail
    go_ret
    exact ⟨rfl,KE.out⟩
   ·have d1 : decide ((8 : Int) < (len : Int)) = true:=decide_eq_true (by omega)
    have d2 : decide (8 < len) = true:=decide_eq_true hlt
    clear hex hi hi8 hlt
    go_wp2_with fail
    go_at_call 5
    refine (HAl.out _).mono ?_
    rintro e w1 ⟨rfl,k1⟩
    have K1:=hid k1
    clear k1
    go_wp2_with fail
    go_at_call 7
    refine (HEnd.out _ K1.out).mono ?_
    rintro e w2 ⟨rfl,kx2⟩
    have KE:=hid (HFi.out _ K1.out _ kx2)
    clear kx2
    go_wp2_with fail
    go_ret
    exact ⟨rfl,KE.out⟩
end Go.Proofs.Ytocjfdiimapojaa
