/-  -/
import Derived.Deep.RegionHeld
import Derived.OrdersHeld
import Derived.Test.YtaglkncdedeipaaGreatDoorRows
import Derived.Test.YtaglkncdedeipaaGreatDoorWs01
import Derived.WalkKit
import Derived.ProofKit
import Derived.OpenShut
import Derived.Below
import Derived.WalkLawsBesides
import Derived.Deep.QuietTactic
import Derived.BigQuiet
import Derived.Lib.TrailingZeros
import Derived.Laws.MathBits
import Derived.Laws.Bits64b
import Derived.Lib.Strings
import Derived.Lib.Slices
import Derived.Lib.Small
import Derived.Lib.Walk
import Derived.Lib.BitFns
import Derived.Deep.Light
namespace Go.Proofs.YtaglkncdedeipaaGreatDoor
open Go.ChangeShapes Go.WideShapes Go.ChangeAt Go.RowKit
set_option linter.unusedVariables false
set_option linter.unusedSimpArgs false
set_option maxHeartbeats 16000000
set_option maxRecDepth 100000
structure Kept (w w':World):Prop where
 below:Below w.heap.size w w'
 frozen:∀a,w'.frozen? a=w.frozen? a
theorem Kept.refl (w:World):Kept w w:=⟨Below.refl _ _,fun _=>rfl⟩
theorem Kept.trans {a b c:World}(h:Kept a b)(k:Kept b c):Kept a c:=
 ⟨h.below.trans (k.below.mono h.below.size),fun x=>(k.frozen x).trans (h.frozen x)⟩
theorem Kept.alloc {a b:World}(h:Kept a b)(c:Array Value)(t:TypeId):Kept a (b.alloc (.cells c t)):=
 ⟨h.below.alloc h.below.size _,fun x=>(frozen?_alloc_cells _ _ _ x).trans (h.frozen x)⟩
theorem Kept.setCell {a b:World}(h:Kept a b){p:Addr}(hp:a.heap.size≤p.block)(u:Value):Kept a (b.setCell p u):=
 ⟨h.below.setCell hp u,fun x=>(World.frozen?_setCell _ _ _ _).trans (h.frozen x)⟩
theorem Kept.drew {a b:World}(h:Kept a b):Kept a b.drew:=⟨h.below.drew,h.frozen⟩
theorem Kept.drewN {a b:World}(h:Kept a b)(n:Nat):Kept a (b.drewN n):=⟨below_drewN h.below n,h.frozen⟩
theorem Kept.grown {a b:World}(h:Kept a b):Grown a b:=⟨h.below.frame _,h.frozen,h.below.size⟩
theorem qL (w:World):Calls Tryz.prog 129 #[.int .i64 64] w fun e w'=>e=.returned (.tuple #[.agg #[.int .i64 (-9223372036854775808),.int .i64 9218868437227405312,.int .i64 9221120237041090561,.int .i64 52,.int .i64 (-1074)],.bool true])∧Kept w w':=by
 go_enter Tryz.func129,Tryz.ntmps129
 go_wp2
 exact bodyPost_ret (v:=.tuple #[.agg #[.int .i64 (-9223372036854775808),.int .i64 9218868437227405312,.int .i64 9221120237041090561,.int .i64 52,.int .i64 (-1074)],.bool true]) (by simp[results,Tryz.results129,go_sem]) rfl ⟨rfl,(Kept.refl _).alloc _ _⟩
theorem qM (w:World):Calls Tryz.prog 129 #[.int .i64 32] w fun e w'=>e=.returned (.tuple #[.agg #[.int .i64 2147483648,.int .i64 2139095040,.int .i64 2143289345,.int .i64 23,.int .i64 (-149)],.bool true])∧Kept w w':=by
 go_enter Tryz.func129,Tryz.ntmps129
 go_wp2
 exact bodyPost_ret (v:=.tuple #[.agg #[.int .i64 2147483648,.int .i64 2139095040,.int .i64 2143289345,.int .i64 23,.int .i64 (-149)],.bool true]) (by simp[results,Tryz.results129,go_sem]) rfl ⟨rfl,(Kept.refl _).alloc _ _⟩
theorem jL (n:Int)(h1:(n==32)=false)(h2:(n==64)=false)(w:World):Calls Tryz.prog 129 #[.int .i64 n] w fun e w'=>e=.returned (.tuple #[.agg #[.int .i64 0,.int .i64 0,.int .i64 0,.int .i64 0,.int .i64 0],.bool false])∧Kept w w':=by
 go_enter Tryz.func129,Tryz.ntmps129
 go_wp2
 exact bodyPost_ret (v:=.tuple #[.agg #[.int .i64 0,.int .i64 0,.int .i64 0,.int .i64 0,.int .i64 0],.bool false]) (by simp[results,Tryz.results129,go_sem]) rfl ⟨rfl,(Kept.refl _).alloc _ _⟩
theorem Ja (b:Int)(w:World):Calls Tryz.prog 65 #[.int .i64 b,.int .i64 64] w fun e w'=>e=.returned (.bool true)∧w=w':=by
 go_enter Tryz.func65,Tryz.ntmps65
 go_wp2
 go_ret
 exact⟨rfl,rfl⟩
theorem Jb (b:Int)(w:World):Calls Tryz.prog 65 #[.int .i64 b,.int .i64 32] w fun e w'=>e=.returned (.bool (b/4294967296==0))∧w=w':=by
 go_enter Tryz.func65,Tryz.ntmps65
 go_wp2
 go_ret
 exact⟨rfl,rfl⟩
theorem Q4 (b n:Int)(h1:(n==32)=false)(h2:(n==64)=false)(w:World):Calls Tryz.prog 65 #[.int .i64 b,.int .i64 n] w fun e w'=>e=.returned (.bool false)∧w=w':=by
 go_enter Tryz.func65,Tryz.ntmps65
 go_wp2
 go_ret
 exact⟨rfl,rfl⟩
theorem qn {k:IntKind}{a b:Int}(h:a=b):Ending.returned (.int k a)=.returned (.int k b):=by rw[h]
theorem K8 (b s:Int)(hs:bits .andNot .i64 b (-9223372036854775808)=s)(w:World):Calls Tryz.prog 133 #[.int .i64 b,.int .i64 64] w fun e w'=>e=.returned (.int .i64 (zc s 9218868437227405312 4503599627370496))∧Kept w w':=by
 go_enter Tryz.func133,Tryz.ntmps133
 go_wp2_with (first|(go_at_call 129;refine(qL _).mono ?_;rintro e w1 ⟨rfl,hk1⟩)|(go_at_call 65;refine(Ja _ _).mono ?_;rintro e w2 ⟨rfl,rfl⟩))
 all_goals
  go_ret
  refine⟨qn ?_,hk1.alloc _ _⟩
  unfold zc
  try simp only[beq_iff_eq,beq_eq_false_iff_ne]at *
  (repeat' split)<;>omega
def qfu (b s:Int):Int:=if (b/4294967296==0)=true then zc s 2139095040 8388608 else 4
theorem qaa (b s:Int)(hs:bits .andNot .i64 b 2147483648=s)(w:World):Calls Tryz.prog 133 #[.int .i64 b,.int .i64 32] w fun e w'=>e=.returned (.int .i64 (qfu b s))∧Kept w w':=by
 go_enter Tryz.func133,Tryz.ntmps133
 go_wp2_with (first|(go_at_call 129;refine(qM _).mono ?_;rintro e w1 ⟨rfl,hk1⟩)|(go_at_call 65;refine(Jb _ _).mono ?_;rintro e w2 ⟨rfl,rfl⟩))
 all_goals
  go_ret
  refine⟨qn ?_,hk1.alloc _ _⟩
  unfold qfu zc
  try simp only[beq_iff_eq,beq_eq_false_iff_ne]at *
  (repeat' split)<;>omega
theorem qdb (b n:Int)(h1:(n==32)=false)(h2:(n==64)=false)(w:World):Calls Tryz.prog 133 #[.int .i64 b,.int .i64 n] w fun e w'=>e=.returned (.int .i64 0)∧Kept w w':=by
 go_enter Tryz.func133,Tryz.ntmps133
 go_wp2_with (first|(go_at_call 129;refine(jL _ h1 h2 _).mono ?_;rintro e w1 ⟨rfl,hk1⟩)|(go_at_call 65;refine(Q4 _ _ h1 h2 _).mono ?_;rintro e w2 ⟨rfl,rfl⟩))
 go_ret
 exact⟨rfl,hk1.alloc _ _⟩
theorem jC (b n:Int)(w:World):Calls Tryz.prog 65 #[.int .i64 b,.int .i64 n] w fun e w'=>e=.returned (.bool (val b n))∧w=w':=by
 by_cases h64:n=64
 ·subst h64
  refine(Ja b w).mono ?_
  rintro e w' ⟨rfl,rfl⟩
  exact⟨by simp[val],rfl⟩
 ·by_cases h32:n=32
  ·subst h32
   refine(Jb b w).mono ?_
   rintro e w' ⟨rfl,rfl⟩
   refine⟨?_,rfl⟩
   have:(b/4294967296==0)=val b 32:=by
    rw[Bool.eq_iff_iff];simp[val];omega
   rw[this]
  ·refine(Q4 b n (by simpa using h32) (by simpa using h64) w).mono ?_
   rintro e w' ⟨rfl,rfl⟩
   exact⟨by simp[val,h64,h32],rfl⟩
theorem zb (b n:Int)(w:World):Calls Tryz.prog 133 #[.int .i64 b,.int .i64 n] w fun e w'=>e=.returned (.int .i64 (cls b n))∧Kept w w':=by
 by_cases h64:n=64
 ·subst h64
  refine(K8 b _ (xU b) w).mono ?_
  rintro e w' ⟨rfl,hk⟩
  exact⟨qn (by simp[cls]),hk⟩
 ·by_cases h32:n=32
  ·subst h32
   refine(qaa b _ rfl w).mono ?_
   rintro e w' ⟨rfl,hk⟩
   refine⟨qn ?_,hk⟩
   unfold qfu cls
   by_cases hv:0≤b∧b<4294967296
   ·rw[if_pos (by rw[beq_iff_eq];omega),vT b hv.1 hv.2,if_neg (by decide),if_pos rfl,if_pos hv]
   ·rw[if_neg (by rw[beq_iff_eq];omega),if_neg (by decide),if_pos rfl,if_neg hv]
  ·refine(qdb b n (by simpa using h32) (by simpa using h64) w).mono ?_
   rintro e w' ⟨rfl,hk⟩
   exact⟨qn (by simp[cls,h64,h32]),hk⟩
def Tab (w:World):Prop:=3≤w.heap.size∧∀j,j<64→w.cell? ⟨2,j,none⟩=some (.int .u8 (Lib.deBruijn64tab.getD j 0))
theorem Tab.kept {w w':World}(h:Tab w)(k:Kept w w'):Tab w':=
 ⟨qh4 h.1 k.below.size,fun j hj=>(k.below.cell (p:=⟨2,j,none⟩) (by have:=h.1;show 2<_;omega)).trans (h.2 j hj)⟩
theorem Yv (x k idx:Nat)(w:World)(hx0:((x:Int)==0)=false)
  (key:IntKind.u64.wrap (bits BinOp.and IntKind.u64 (x:Int) (IntKind.u64.wrap (-(x:Int)))*285870213051353865)/288230376151711744=(idx:Int))
  (hi:idx<64) (hk:k<64) (hcell:w.cell? ⟨2,idx,none⟩=some (.int .u8 k)):
  Calls Tryz.prog 178 #[.int .u64 x] w fun e w'=>e=.returned (.int .i64 k)∧w=w':=by
 go_enter Tryz.func178,Tryz.ntmps178
 go_wp2_with (simp only[key])
 go_ret
 exact⟨rfl,rfl⟩
theorem qab (x a:Nat)(hx:x<18446744073709551616)(hx0:x≠0)(hlow:x&&& (18446744073709551616-x)=a):
  IntKind.u64.wrap (bits BinOp.and IntKind.u64 (x:Int) (IntKind.u64.wrap (-(x:Int)))*285870213051353865)/288230376151711744=((a*285870213051353865%18446744073709551616/288230376151711744:Nat):Int):=by
 have e1:IntKind.u64.wrap (-(x:Int))=((18446744073709551616-x:Nat):Int):=by rw[IntKind.wrap_u64];omega
 rw[e1,bits_and_u64_nat x _ hx (by omega),hlow,IntKind.wrap_u64]
 omega
theorem qhl (x:Nat)(hx:x<18446744073709551616)(hx0:x≠0)(w:World)(hT:Tab w):
  Calls Tryz.prog 178 #[.int .u64 x] w fun e w'=>e=.returned (.int .i64 (Lib.ctz 64 x))∧w=w':=by
 obtain⟨hlow,hk⟩:=Lib.lowest_bit 64 x hx0 hx
 obtain⟨hi,htab⟩:=Lib.deBruijn64_at _ hk
 have hcell:=hT.2 _ hi
 rw[htab]at hcell
 exact Yv x _ _ w (by simp;omega) (qab x _ hx hx0 hlow) hi hk hcell
theorem tz (x:Nat)(hx:x<18446744073709551616)(hx0:x≠0)(w:World)(hT:Tab w):
  Calls Tryz.prog 168 #[.int .u64 x] w fun e w'=>e=.returned (.int .i64 (Lib.ctz 64 x))∧w=w':=by
 have hc:=qhl x hx hx0 w hT
 obtain⟨c,hcx⟩:∃c,c=Lib.ctz 64 x:=⟨_,rfl⟩
 rw[←hcx]at hc ⊢
 have HC:Hid (Calls Tryz.prog 178 #[.int .u64 x] w fun e w'=>e=.returned (.int .i64 c)∧w=w'):=hc
 clear hc hcx hT hx0 hx
 go_enter Tryz.func168,Tryz.ntmps168
 go_wp2_with fail
 refine HC.out.mono ?_
 rintro e w1 ⟨rfl,rfl⟩
 go_wp2
 go_ret
 exact⟨rfl,rfl⟩
theorem Q5:(Lib.len8tab.size:Int)=256:=by
 have:Lib.len8tab.size=256:=by decide
 omega
theorem ji (k a b:Nat)(hk:k≤56)(ha:a≤8)(hb:b=k+a):wrap64 ((k:Int)+wrap64 (a:Int))=(b:Int):=by
 unfold wrap64
 omega
theorem Yw (a:Nat)(ha:a≤8):wrap64 (wrap64 (a:Int))=(a:Int):=by
 unfold wrap64
 omega
theorem zS (y:Int)(h:y.toNat<Lib.len8tab.size):((Lib.len8tab[y.toNat]'h).toNat:Int)=Lib.len8 y:=by
 unfold Lib.len8
 rw[getElem?_pos Lib.len8tab y.toNat h]
 rfl
theorem qgw (x:Int)(w:World)(h0:0≤x)(h1:x≤18446744073709551615):
    Calls Tryz.prog 166 #[.int .u64 x] w fun e w'=>e=.returned (.int .i64 (Lib.bitLen x.toNat))∧w=w':=by
  go_enter Tryz.func166,Tryz.ntmps166
  go_wp2
  all_goals first
    |(go_ret;refine⟨congrArg Ending.returned (congrArg (Value.int IntKind.i64) ?_),rfl⟩;go_light)
    | (exfalso
       go_light
       have hs:=Q5
       omega)
  all_goals first
    | (rw[zS (x/4294967296/65536/256) _,Lib.len8_of (x/4294967296/65536/256) (by omega) (by omega)]
       have e:(x/4294967296/65536/256).toNat=x.toNat/72057594037927936:=by omega
       have l:=Lib.bitLen_le8' (x/4294967296/65536/256) (by omega) (by omega)
       have s:=Lib.bitLen_shift56 x.toNat (by omega) (by omega)
       rw[e]at l ⊢
       exact ji 56 _ _ (by decide) l s)
    | (rw[zS (x/4294967296/65536) _,Lib.len8_of (x/4294967296/65536) (by omega) (by omega)]
       have e:(x/4294967296/65536).toNat=x.toNat/281474976710656:=by omega
       have l:=Lib.bitLen_le8' (x/4294967296/65536) (by omega) (by omega)
       have s:=Lib.bitLen_shift48 x.toNat (by omega) (by omega)
       rw[e]at l ⊢
       exact ji 48 _ _ (by decide) l s)
    | (rw[zS (x/4294967296/256) _,Lib.len8_of (x/4294967296/256) (by omega) (by omega)]
       have e:(x/4294967296/256).toNat=x.toNat/1099511627776:=by omega
       have l:=Lib.bitLen_le8' (x/4294967296/256) (by omega) (by omega)
       have s:=Lib.bitLen_shift40 x.toNat (by omega) (by omega)
       rw[e]at l ⊢
       exact ji 40 _ _ (by decide) l s)
    | (rw[zS (x/4294967296) _,Lib.len8_of (x/4294967296) (by omega) (by omega)]
       have e:(x/4294967296).toNat=x.toNat/4294967296:=by omega
       have l:=Lib.bitLen_le8' (x/4294967296) (by omega) (by omega)
       have s:=Lib.bitLen_shift32 x.toNat (by omega) (by omega)
       rw[e]at l ⊢
       exact ji 32 _ _ (by decide) l s)
    | (rw[zS (x/65536/256) _,Lib.len8_of (x/65536/256) (by omega) (by omega)]
       have e:(x/65536/256).toNat=x.toNat/16777216:=by omega
       have l:=Lib.bitLen_le8' (x/65536/256) (by omega) (by omega)
       have s:=Lib.bitLen_shift24 x.toNat (by omega) (by omega)
       rw[e]at l ⊢
       exact ji 24 _ _ (by decide) l s)
    | (rw[zS (x/65536) _,Lib.len8_of (x/65536) (by omega) (by omega)]
       have e:(x/65536).toNat=x.toNat/65536:=by omega
       have l:=Lib.bitLen_le8' (x/65536) (by omega) (by omega)
       have s:=Lib.bitLen_shift16 x.toNat (by omega) (by omega)
       rw[e]at l ⊢
       exact ji 16 _ _ (by decide) l s)
    | (rw[zS (x/256) _,Lib.len8_of (x/256) (by omega) (by omega)]
       have e:(x/256).toNat=x.toNat/256:=by omega
       have l:=Lib.bitLen_le8' (x/256) (by omega) (by omega)
       have s:=Lib.bitLen_shift8 x.toNat (by omega) (by omega)
       rw[e]at l ⊢
       exact ji 8 _ _ (by decide) l s)
    | (rw[zS x _,Lib.len8_of x (by omega) (by omega)]
       have l:=Lib.bitLen_le8' x (by omega) (by omega)
       exact Yw _ l)
theorem len (x:Int)(w:World)(h0:0≤x)(h1:x≤18446744073709551615):
  Calls Tryz.prog 145 #[.int .u64 x] w fun e w'=>e=.returned (.int .i64 (Lib.bitLen x.toNat))∧w=w':=by
 have hc:=qgw x w h0 h1
 obtain⟨c,hcx⟩:∃c,c=Lib.bitLen x.toNat:=⟨_,rfl⟩
 rw[←hcx]at hc ⊢
 have HC:Hid (Calls Tryz.prog 166 #[.int .u64 x] w fun e w'=>e=.returned (.int .i64 c)∧w=w'):=hc
 clear hc hcx
 go_enter Tryz.func145,Tryz.ntmps145
 go_wp2_with fail
 refine HC.out.mono ?_
 rintro e w1 ⟨rfl,rfl⟩
 go_wp2
 go_ret
 exact⟨rfl,rfl⟩
theorem qg {w1 w2:World}{c:Array Value}{t:TypeId}(h:Kept (w1.alloc (.cells c t)) w2)(o:Nat):w2.cell? ⟨w1.heap.size,o,none⟩=(w1.alloc (.cells c t)).cell? ⟨w1.heap.size,o,none⟩:=
 h.below.cell (p:=⟨w1.heap.size,o,none⟩) (by simp)
theorem jD {w1 w2:World}{c:Array Value}{t:TypeId}(h:Kept (w1.alloc (.cells c t)) w2):w1.heap.size<w2.heap.size:=by
 have:=h.below.size
 simp at this
 omega
theorem xc {w1 w2:World}{c:Array Value}{t:TypeId}(h:Kept (w1.alloc (.cells c t)) w2)(k o:Nat)(hk:k<w1.heap.size):w2.cell? ⟨k,o,none⟩=w1.cell? ⟨k,o,none⟩:=
 (((Kept.refl w1).alloc c t).trans h).below.cell (p:=⟨k,o,none⟩) hk
theorem Jc (b:Int)(blk:Nat)(w:World)(hcell:w.cell? ⟨blk,0,none⟩=some (.int .i64 b))(hblk:blk<w.heap.size):Calls Tryz.prog 128 #[.int .i64 64,.slice (some ⟨blk,0,none⟩) 1 1] w fun e w'=>e=.returned (.tuple #[.agg #[.int .i64 (-9223372036854775808),.int .i64 9218868437227405312,.int .i64 9221120237041090561,.int .i64 52,.int .i64 (-1074)],.bool (cls b 64 != 4)])∧Kept w w':=by
 go_enter Tryz.func128,Tryz.ntmps128
 go_wp2_with (first|(go_at_call 129;refine(qL _).mono ?_;rintro e w1 ⟨rfl,hk1⟩))
 have s1:=jD hk1
 have hc1:w1.cell? ⟨blk,0,none⟩=some (.int .i64 b):=(xc hk1 blk 0 hblk).trans hcell
 have hb1:blk<w1.heap.size:=by omega
 refine wp_loop_rounds 2 ?_
 rw[rounds_succ]
 go_wp2_with (first|(go_at_call 133;refine(zb _ _ _).mono ?_;rintro e w2 ⟨rfl,hk2⟩))
 have s2:=jD hk2
 have hl2:=qg hk2
 have hl0:∀o,w2.cell? ⟨w.heap.size,o,none⟩=(w.alloc (.cells #[.int .i64 0,.int .i64 0,.int .i64 0,.int .i64 0,.int .i64 0] 166)).cell? ⟨w.heap.size,o,none⟩:=fun o=>(xc hk2 _ o s1).trans (qg hk1 o)
 have hf2:∀o,w2.frozen? ⟨w.heap.size,o,none⟩=(w.alloc (.cells #[.int .i64 0,.int .i64 0,.int .i64 0,.int .i64 0,.int .i64 0] 166)).frozen? ⟨w.heap.size,o,none⟩:=fun o=>(((Kept.refl _).trans hk1).alloc _ _|>.trans hk2).frozen _
 rw[rounds_succ]
 go_wp2
 refine bodyPost_ret (v:=.tuple #[.agg #[.int .i64 (-9223372036854775808),.int .i64 9218868437227405312,.int .i64 9221120237041090561,.int .i64 52,.int .i64 (-1074)],.bool (cls b 64 != 4)]) (by simp[results,Tryz.results128,go_sem,hl0]) rfl ⟨rfl,?_⟩
 have hK:Kept w w2:=(((Kept.refl w).alloc _ _).trans hk1|>.alloc _ _).trans hk2
 exact((((hK.setCell (qhy _) _).setCell (qhy _) _).setCell (qhy _) _).setCell (qhy _) _).setCell (qhy _) _
theorem Jd (b:Int)(blk:Nat)(w:World)(hcell:w.cell? ⟨blk,0,none⟩=some (.int .i64 b))(hblk:blk<w.heap.size):Calls Tryz.prog 128 #[.int .i64 32,.slice (some ⟨blk,0,none⟩) 1 1] w fun e w'=>e=.returned (.tuple #[.agg #[.int .i64 2147483648,.int .i64 2139095040,.int .i64 2143289345,.int .i64 23,.int .i64 (-149)],.bool (cls b 32 != 4)])∧Kept w w':=by
 go_enter Tryz.func128,Tryz.ntmps128
 go_wp2_with (first|(go_at_call 129;refine(qM _).mono ?_;rintro e w1 ⟨rfl,hk1⟩))
 have s1:=jD hk1
 have hc1:w1.cell? ⟨blk,0,none⟩=some (.int .i64 b):=(xc hk1 blk 0 hblk).trans hcell
 have hb1:blk<w1.heap.size:=by omega
 refine wp_loop_rounds 2 ?_
 rw[rounds_succ]
 go_wp2_with (first|(go_at_call 133;refine(zb _ _ _).mono ?_;rintro e w2 ⟨rfl,hk2⟩))
 have s2:=jD hk2
 have hl2:=qg hk2
 have hl0:∀o,w2.cell? ⟨w.heap.size,o,none⟩=(w.alloc (.cells #[.int .i64 0,.int .i64 0,.int .i64 0,.int .i64 0,.int .i64 0] 166)).cell? ⟨w.heap.size,o,none⟩:=fun o=>(xc hk2 _ o s1).trans (qg hk1 o)
 have hf2:∀o,w2.frozen? ⟨w.heap.size,o,none⟩=(w.alloc (.cells #[.int .i64 0,.int .i64 0,.int .i64 0,.int .i64 0,.int .i64 0] 166)).frozen? ⟨w.heap.size,o,none⟩:=fun o=>(((Kept.refl _).trans hk1).alloc _ _|>.trans hk2).frozen _
 rw[rounds_succ]
 go_wp2
 refine bodyPost_ret (v:=.tuple #[.agg #[.int .i64 2147483648,.int .i64 2139095040,.int .i64 2143289345,.int .i64 23,.int .i64 (-149)],.bool (cls b 32 != 4)]) (by simp[results,Tryz.results128,go_sem,hl0]) rfl ⟨rfl,?_⟩
 have hK:Kept w w2:=(((Kept.refl w).alloc _ _).trans hk1|>.alloc _ _).trans hk2
 exact((((hK.setCell (qhy _) _).setCell (qhy _) _).setCell (qhy _) _).setCell (qhy _) _).setCell (qhy _) _
theorem XE (b n:Int)(h1:(n==32)=false)(h2:(n==64)=false)(blk:Nat)(w:World)(hcell:w.cell? ⟨blk,0,none⟩=some (.int .i64 b))(hblk:blk<w.heap.size):Calls Tryz.prog 128 #[.int .i64 n,.slice (some ⟨blk,0,none⟩) 1 1] w fun e w'=>e=.returned (.tuple #[.agg #[.int .i64 0,.int .i64 0,.int .i64 0,.int .i64 0,.int .i64 0],.bool (false)])∧Kept w w':=by
 go_enter Tryz.func128,Tryz.ntmps128
 go_wp2_with (first|(go_at_call 129;refine(jL _ h1 h2 _).mono ?_;rintro e w1 ⟨rfl,hk1⟩))
 have s1:=jD hk1
 have hc1:w1.cell? ⟨blk,0,none⟩=some (.int .i64 b):=(xc hk1 blk 0 hblk).trans hcell
 have hb1:blk<w1.heap.size:=by omega
 refine wp_loop_rounds 2 ?_
 rw[rounds_succ]
 go_wp2
 have hl1:=qg hk1
 have hf1:∀o,w1.frozen? ⟨w.heap.size,o,none⟩=(w.alloc (.cells #[.int .i64 0,.int .i64 0,.int .i64 0,.int .i64 0,.int .i64 0] 166)).frozen? ⟨w.heap.size,o,none⟩:=fun o=>hk1.frozen _
 rw[rounds_succ]
 go_wp2
 refine bodyPost_ret (v:=.tuple #[.agg #[.int .i64 0,.int .i64 0,.int .i64 0,.int .i64 0,.int .i64 0],.bool (false)]) (by simp[results,Tryz.results128,go_sem,hl1,s1]) rfl ⟨rfl,?_⟩
 have hK:Kept w w1:=((Kept.refl w).alloc _ _).trans hk1
 exact(((((hK.setCell (qhy _) _).setCell (qhy _) _).setCell (qhy _) _).setCell (qhy _) _).setCell (qhy _) _).alloc _ _
theorem xQ (b:Int)(w:World):Calls Tryz.prog 128 #[.int .i64 64,.slice (some ⟨w.heap.size,0,none⟩) 1 1] (w.alloc (.cells #[.int .i64 b] 3)) fun e w'=>e=.returned (.tuple #[.agg #[.int .i64 (-9223372036854775808),.int .i64 9218868437227405312,.int .i64 9221120237041090561,.int .i64 52,.int .i64 (-1074)],.bool (cls b 64 != 4)])∧Kept w w':=by
 refine(Jc b w.heap.size _ (by simp[go_sem]) (by simp)).mono ?_
 rintro e w' ⟨rfl,hk⟩
 exact⟨rfl,((Kept.refl w).alloc _ _).trans hk⟩
theorem xR (b:Int)(w:World):Calls Tryz.prog 128 #[.int .i64 32,.slice (some ⟨w.heap.size,0,none⟩) 1 1] (w.alloc (.cells #[.int .i64 b] 3)) fun e w'=>e=.returned (.tuple #[.agg #[.int .i64 2147483648,.int .i64 2139095040,.int .i64 2143289345,.int .i64 23,.int .i64 (-149)],.bool (cls b 32 != 4)])∧Kept w w':=by
 refine(Jd b w.heap.size _ (by simp[go_sem]) (by simp)).mono ?_
 rintro e w' ⟨rfl,hk⟩
 exact⟨rfl,((Kept.refl w).alloc _ _).trans hk⟩
theorem vP (b n:Int)(h1:(n==32)=false)(h2:(n==64)=false)(w:World):Calls Tryz.prog 128 #[.int .i64 n,.slice (some ⟨w.heap.size,0,none⟩) 1 1] (w.alloc (.cells #[.int .i64 b] 3)) fun e w'=>e=.returned (.tuple #[.agg #[.int .i64 0,.int .i64 0,.int .i64 0,.int .i64 0,.int .i64 0],.bool (false)])∧Kept w w':=by
 refine(XE b n h1 h2 w.heap.size _ (by simp[go_sem]) (by simp)).mono ?_
 rintro e w' ⟨rfl,hk⟩
 exact⟨rfl,((Kept.refl w).alloc _ _).trans hk⟩
theorem tk {P:Program}{ops:Array Oper}{Q:Exit→Act→World→Prop}{md:Region.Mode}{S:World→Prop}{i:Nat}{oi:Oper}{v:Value}{fuel:Nat}{listed:Array Bool}{a:Act}{w:World}(hi:ops[i]?=some oi)(h:wpAnyH P md ops Q S fuel (listed.setIfInBounds i true) (a.put oi.dst v) w)(hy:YieldsIf P ops S oi v a:=by exact .inl ⟨by rfl,by(intro w hSw;(try dsimp only at hSw);go_simp;try (with_reducible rfl))⟩)(hs:Region.noSelect ops=true:=by kernel_rfl)(hf:Region.free md ops listed i=true:=by kernel_rfl)(hr:(Region.ready md ops listed).contains i=true:=by kernel_rfl)(hQ:∀c a w,Q (.panic c) (a.put oi.dst v) w→Q (.panic c) a w:=by exact fun _ _ _ h=>h)(hS:S w:=by assumption):wpAnyH P md ops Q S (fuel+1) listed a w:=wpAnyH_take hi hs hf hr hQ hy hS h
theorem zP (a:Act)(d:Option Tmp)(v:Value):a.put d v=(match d with|some d=>⟨a.tmps.setIfInBounds d v,a.defers⟩|none=>a):=rfl
abbrev zz:=And.intro zP (And.intro (@List.getElem_toArray.{0}) (And.intro (@List.getElem_cons_succ.{0}) (And.intro (@List.getElem_cons_zero.{0}) (And.intro (@List.setIfInBounds_toArray.{0}) (And.intro (@List.set_cons_zero.{0}) (@List.set_cons_succ.{0}))))))
abbrev qh6:=@AllReadyH.cons
abbrev qh7:=@AllReadyH.nil
abbrev qh8:=@wpAnyH_ready
abbrev qh9:=@bodyPost_ret
abbrev qia:=@Kept.refl
abbrev qib:=@wp_region_held_drew
abbrev qic:=@wpAnyH_done
theorem qaz (b n:Int)(hn:n=64∨n=32)(hc:3≤cls b n)(w:World):Calls Tryz.prog 105 #[.int .i64 b,.int .i64 n] w fun e w'=>e=.returned (.tuple #[.bool false,.int .i64 0,.int .i64 0,.bool false])∧Kept w w':=by
 rcases hn with rfl|rfl
 ·go_enter Tryz.func105,Tryz.ntmps105
  go_wp2_with (first|(go_at_call 129;refine(qL _).mono ?_;rintro e w1 ⟨rfl,hk1⟩)|(go_at_call 133;refine(zb _ _ _).mono ?_;rintro e w2 ⟨rfl,hk2⟩))
  exact qh9 (v:=.tuple #[.bool false,.int .i64 0,.int .i64 0,.bool false]) (by simp[results,Tryz.results105,go_sem]) rfl ⟨rfl,(hk1.alloc _ _).trans hk2⟩
 ·go_enter Tryz.func105,Tryz.ntmps105
  go_wp2_with (first|(go_at_call 129;refine(qM _).mono ?_;rintro e w1 ⟨rfl,hk1⟩)|(go_at_call 133;refine(zb _ _ _).mono ?_;rintro e w2 ⟨rfl,hk2⟩))
  exact qh9 (v:=.tuple #[.bool false,.int .i64 0,.int .i64 0,.bool false]) (by simp[results,Tryz.results105,go_sem]) rfl ⟨rfl,(hk1.alloc _ _).trans hk2⟩
theorem XU (b n:Int)(h1:(n==32)=false)(h2:(n==64)=false)(w:World):Calls Tryz.prog 105 #[.int .i64 b,.int .i64 n] w fun e w'=>e=.returned (.tuple #[.bool false,.int .i64 0,.int .i64 0,.bool false])∧Kept w w':=by
 go_enter Tryz.func105,Tryz.ntmps105
 go_wp2_with (first|(go_at_call 129;refine(jL _ h1 h2 _).mono ?_;rintro e w1 ⟨rfl,hk1⟩)|(go_at_call 133;refine(zb _ _ _).mono ?_;rintro e w2 ⟨rfl,hk2⟩))
 exact qh9 (v:=.tuple #[.bool false,.int .i64 0,.int .i64 0,.bool false]) (by simp[results,Tryz.results105,go_sem]) rfl ⟨rfl,(hk1.alloc _ _)⟩
theorem Zn (b s g:Int)(hs:bits .andNot .i64 b (-9223372036854775808)=s)(hg:bits .and .i64 b (-9223372036854775808)=g)(hc:cls b 64<3)(hl:s<4503599627370496)(w:World):Calls Tryz.prog 105 #[.int .i64 b,.int .i64 64] w fun e w'=>e=.returned (.tuple #[.bool (g != 0),.int .i64 s,.int .i64 (-1074),.bool true])∧Kept w w':=by
 go_enter Tryz.func105,Tryz.ntmps105
 go_wp2_with (first|(go_at_call 129;refine(qL _).mono ?_;rintro e w1 ⟨rfl,hk1⟩)|(go_at_call 133;refine(zb _ _ _).mono ?_;rintro e w2 ⟨rfl,hk2⟩))
 have hcl:=qg hk2
 go_quiet (fail)
 go_wp2
 go_quiet (fail)
 go_wp2
 exact qh9 (v:=.tuple #[.bool (g != 0),.int .i64 s,.int .i64 (-1074),.bool true]) (by simp[results,Tryz.results105,go_sem]) rfl ⟨rfl,(((hk1.alloc _ _).trans hk2).drewN _).drewN _⟩
theorem Zo (b s g m k:Int)(hs:bits .andNot .i64 b (-9223372036854775808)=s)(hg:bits .and .i64 b (-9223372036854775808)=g)(hm:bits .and .i64 s 4503599627370495=m)(hk:bits .or .i64 m 4503599627370496=k)(hc:cls b 64<3)(hl:¬s<4503599627370496)(hu:s≤9223372036854775807)(w:World):Calls Tryz.prog 105 #[.int .i64 b,.int .i64 64] w fun e w'=>e=.returned (.tuple #[.bool (g != 0),.int .i64 k,.int .i64 (-1074+s/4503599627370496-1),.bool true])∧Kept w w':=by
 go_enter Tryz.func105,Tryz.ntmps105
 go_wp2_with (first|(go_at_call 129;refine(qL _).mono ?_;rintro e w1 ⟨rfl,hk1⟩)|(go_at_call 133;refine(zb _ _ _).mono ?_;rintro e w2 ⟨rfl,hk2⟩))
 have hcl:=qg hk2
 go_quiet (fail)
 go_wp2
 go_quiet (fail)
 go_wp2
 exact qh9 (v:=.tuple #[.bool (g != 0),.int .i64 k,.int .i64 (-1074+s/4503599627370496-1),.bool true]) (by simp[results,Tryz.results105,go_sem]) rfl ⟨rfl,(((hk1.alloc _ _).trans hk2).drewN _).drewN _⟩
theorem Zp (b s g:Int)(hs:bits .andNot .i64 b 2147483648=s)(hg:bits .and .i64 b 2147483648=g)(hc:cls b 32<3)(hl:s<8388608)(w:World):Calls Tryz.prog 105 #[.int .i64 b,.int .i64 32] w fun e w'=>e=.returned (.tuple #[.bool (g != 0),.int .i64 s,.int .i64 (-149),.bool true])∧Kept w w':=by
 go_enter Tryz.func105,Tryz.ntmps105
 go_wp2_with (first|(go_at_call 129;refine(qM _).mono ?_;rintro e w1 ⟨rfl,hk1⟩)|(go_at_call 133;refine(zb _ _ _).mono ?_;rintro e w2 ⟨rfl,hk2⟩))
 have hcl:=qg hk2
 go_quiet (fail)
 go_wp2
 go_quiet (fail)
 go_wp2
 exact qh9 (v:=.tuple #[.bool (g != 0),.int .i64 s,.int .i64 (-149),.bool true]) (by simp[results,Tryz.results105,go_sem]) rfl ⟨rfl,(((hk1.alloc _ _).trans hk2).drewN _).drewN _⟩
theorem Zq (b s g m k:Int)(hs:bits .andNot .i64 b 2147483648=s)(hg:bits .and .i64 b 2147483648=g)(hm:bits .and .i64 s 8388607=m)(hk:bits .or .i64 m 8388608=k)(hc:cls b 32<3)(hl:¬s<8388608)(hu:s≤9223372036854775807)(w:World):Calls Tryz.prog 105 #[.int .i64 b,.int .i64 32] w fun e w'=>e=.returned (.tuple #[.bool (g != 0),.int .i64 k,.int .i64 (-149+s/8388608-1),.bool true])∧Kept w w':=by
 go_enter Tryz.func105,Tryz.ntmps105
 go_wp2_with (first|(go_at_call 129;refine(qM _).mono ?_;rintro e w1 ⟨rfl,hk1⟩)|(go_at_call 133;refine(zb _ _ _).mono ?_;rintro e w2 ⟨rfl,hk2⟩))
 have hcl:=qg hk2
 go_quiet (fail)
 go_wp2
 go_quiet (fail)
 go_wp2
 exact qh9 (v:=.tuple #[.bool (g != 0),.int .i64 k,.int .i64 (-149+s/8388608-1),.bool true]) (by simp[results,Tryz.results105,go_sem]) rfl ⟨rfl,(((hk1.alloc _ _).trans hk2).drewN _).drewN _⟩
theorem qH {p q p' q':Bool}{a c a' c':Int}(h1:p=p')(h2:a=a')(h3:c=c')(h4:q=q'):Ending.returned (.tuple #[.bool p,.int .i64 a,.int .i64 c,.bool q])=.returned (.tuple #[.bool p',.int .i64 a',.int .i64 c',.bool q']):=by rw[h1,h2,h3,h4]
theorem qa0 (b:Int)(h1:-9223372036854775808≤b)(h2:b≤9223372036854775807):(bits .and .i64 b (-9223372036854775808) != 0)=sgn b 64:=by
 rw[Zl b h1 h2]
 unfold sgn
 rw[if_pos rfl]
 by_cases h:b<0<;>simp[h]
theorem qa1 (b:Int)(h1:0≤b)(h2:b<4294967296):(bits .and .i64 b 2147483648 != 0)=sgn b 32:=by
 have e:sgn b 32=decide (2147483648≤b):=by simp[sgn]
 rw[qas b h1 h2,e]
 by_cases h:b<2147483648
 ·rw[if_pos h,qh3 (by omega)];rfl
 ·rw[if_neg h,qh2 (by omega)];rfl
theorem Qz (b n:Int)(hb1:-9223372036854775808≤b)(hb2:b≤9223372036854775807)(w:World):Calls Tryz.prog 105 #[.int .i64 b,.int .i64 n] w fun e w'=>e=.returned (.tuple #[.bool (qS b n),.int .i64 (qw b n),.int .i64 (qA b n),.bool (fin b n)])∧Kept w w':=by
 by_cases hn:n=64∨n=32
 ·by_cases hc:cls b n<3
  ·have hf:fin b n=true:=by simp[fin,hn,hc]
   rcases hn with rfl|rfl
   ·by_cases hl:b%9223372036854775808<4503599627370496
    ·refine(Zn b _ _ (xU b) rfl hc hl w).mono ?_
     rintro e w' ⟨rfl,hk⟩
     exact⟨qH (by rw[qa0 b hb1 hb2];simp[qS,hf]) (by simp[qw,hf,hl]) (by simp[qA,hf,hl]) hf.symm,hk⟩
    ·refine(Zo b _ _ _ _ (xU b) rfl (qdh _) (qgz _ (by omega) (by omega)) hc hl (by omega) w).mono ?_
     rintro e w' ⟨rfl,hk⟩
     exact⟨qH (by rw[qa0 b hb1 hb2];simp[qS,hf]) (by simp only[qw,hf,if_true,hl,if_false]) (by simp only[qA,hf,if_true,hl,if_false];omega) hf.symm,hk⟩
   ·have hv:=qG b (by omega)
    by_cases hl:b%2147483648<8388608
    ·refine(Zp b _ _ (vT b hv.1 hv.2) rfl hc hl w).mono ?_
     rintro e w' ⟨rfl,hk⟩
     exact⟨qH (by rw[qa1 b hv.1 hv.2];simp[qS,hf]) (by simp[qw,hf,hl]) (by simp[qA,hf,hl]) hf.symm,hk⟩
    ·refine(Zq b _ _ _ _ (vT b hv.1 hv.2) rfl (qdi _) (qg0 _ (by omega) (by omega)) hc hl (by omega) w).mono ?_
     rintro e w' ⟨rfl,hk⟩
     exact⟨qH (by rw[qa1 b hv.1 hv.2];simp[qS,hf]) (by simp[qw,hf,hl]) (by simp[qA,hf,hl];omega) hf.symm,hk⟩
  ·have hf:fin b n=false:=by simp[fin];omega
   refine(qaz b n hn (by omega) w).mono ?_
   rintro e w' ⟨rfl,hk⟩
   exact⟨qH (by simp[qS,hf]) (by simp[qw,hf]) (by simp[qA,hf]) hf.symm,hk⟩
 ·have hf:fin b n=false:=by simp[fin];omega
  refine(XU b n (by rw[beq_eq_false_iff_ne];omega) (by rw[beq_eq_false_iff_ne];omega) w).mono ?_
  rintro e w' ⟨rfl,hk⟩
  exact⟨qH (by simp[qS,hf]) (by simp[qw,hf]) (by simp[qA,hf]) hf.symm,hk⟩
end Go.Proofs.YtaglkncdedeipaaGreatDoor
