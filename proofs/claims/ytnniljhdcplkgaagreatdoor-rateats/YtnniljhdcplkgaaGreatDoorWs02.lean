/-  -/
import Derived.OrdersHeld
import Derived.Test.YtnniljhdcplkgaaGreatDoorRows
import Derived.Test.YtnniljhdcplkgaaGreatDoorWs01
import Derived.WalkKit
import Derived.ProofKit
import Derived.OpenShut
import Derived.Below
import Derived.WalkLawsBesides
import Derived.Deep.QuietTactic
import Derived.BigQuiet
import Derived.Lib.TrailingZeros
import Derived.Laws.MathBits
import Derived.Laws.Bits64b
import Derived.Lib.Strings
import Derived.Lib.Slices
import Derived.Lib.Small
import Derived.Lib.Walk
import Derived.Lib.BitFns
import Derived.Deep.Light
namespace Go.Proofs.YtnniljhdcplkgaaGreatDoor
open Go.ChangeShapes Go.WideShapes Go.ChangeAt Go.RowKit
set_option maxHeartbeats 16000000
set_option maxRecDepth 100000
structure Kept (w w':World):Prop where
 below:Below w.heap.size w w'
 frozen:∀a,w'.frozen? a=w.frozen? a
theorem Kept.refl (w:World):Kept w w:=⟨Below.refl _ _,fun _=>rfl⟩
theorem Kept.trans {a b c:World}(h:Kept a b)(k:Kept b c):Kept a c:=
 ⟨h.below.trans (k.below.mono h.below.size),fun x=>(k.frozen x).trans (h.frozen x)⟩
theorem Kept.alloc {a b:World}(h:Kept a b)(c:Array Value)(t:TypeId):Kept a (b.alloc (.cells c t)):=
 ⟨h.below.alloc h.below.size _,fun x=>(frozen?_alloc_cells _ _ _ x).trans (h.frozen x)⟩
theorem Kept.setCell {a b:World}(h:Kept a b){p:Addr}(hp:a.heap.size≤p.block)(u:Value):Kept a (b.setCell p u):=
 ⟨h.below.setCell hp u,fun x=>(World.frozen?_setCell _ _ _ _).trans (h.frozen x)⟩
theorem Kept.drew {a b:World}(h:Kept a b):Kept a b.drew:=⟨h.below.drew,h.frozen⟩
theorem Kept.drewN {a b:World}(h:Kept a b)(n:Nat):Kept a (b.drewN n):=⟨below_drewN h.below n,h.frozen⟩
theorem Kept.grown {a b:World}(h:Kept a b):Grown a b:=⟨h.below.frame _,h.frozen,h.below.size⟩
theorem layoutOf_64 (w:World):Calls Tryz.prog 24 #[.int .i64 64] w fun e w'=>e=.returned (.tuple #[.agg #[.int .i64 (-9223372036854775808),.int .i64 9218868437227405312,.int .i64 9221120237041090561,.int .i64 52,.int .i64 (-1074)],.bool true])∧Kept w w':=by
 go_enter Tryz.func24,Tryz.ntmps24
 go_wp2
 exact bodyPost_ret (v:=.tuple #[.agg #[.int .i64 (-9223372036854775808),.int .i64 9218868437227405312,.int .i64 9221120237041090561,.int .i64 52,.int .i64 (-1074)],.bool true]) (by simp[results,Tryz.results24,go_sem]) rfl ⟨rfl,(Kept.refl _).alloc _ _⟩
theorem layoutOf_32 (w:World):Calls Tryz.prog 24 #[.int .i64 32] w fun e w'=>e=.returned (.tuple #[.agg #[.int .i64 2147483648,.int .i64 2139095040,.int .i64 2143289345,.int .i64 23,.int .i64 (-149)],.bool true])∧Kept w w':=by
 go_enter Tryz.func24,Tryz.ntmps24
 go_wp2
 exact bodyPost_ret (v:=.tuple #[.agg #[.int .i64 2147483648,.int .i64 2139095040,.int .i64 2143289345,.int .i64 23,.int .i64 (-149)],.bool true]) (by simp[results,Tryz.results24,go_sem]) rfl ⟨rfl,(Kept.refl _).alloc _ _⟩
theorem layoutOf_0 (n:Int)(h1:(n==32)=false)(h2:(n==64)=false)(w:World):Calls Tryz.prog 24 #[.int .i64 n] w fun e w'=>e=.returned (.tuple #[.agg #[.int .i64 0,.int .i64 0,.int .i64 0,.int .i64 0,.int .i64 0],.bool false])∧Kept w w':=by
 go_enter Tryz.func24,Tryz.ntmps24
 go_wp2
 exact bodyPost_ret (v:=.tuple #[.agg #[.int .i64 0,.int .i64 0,.int .i64 0,.int .i64 0,.int .i64 0],.bool false]) (by simp[results,Tryz.results24,go_sem]) rfl ⟨rfl,(Kept.refl _).alloc _ _⟩
theorem valid_64 (b:Int)(w:World):Calls Tryz.prog 25 #[.int .i64 b,.int .i64 64] w fun e w'=>e=.returned (.bool true)∧w=w':=by
 go_enter Tryz.func25,Tryz.ntmps25
 go_wp2
 go_ret
 exact⟨rfl,rfl⟩
theorem valid_32 (b:Int)(w:World):Calls Tryz.prog 25 #[.int .i64 b,.int .i64 32] w fun e w'=>e=.returned (.bool (b/4294967296==0))∧w=w':=by
 go_enter Tryz.func25,Tryz.ntmps25
 go_wp2
 go_ret
 exact⟨rfl,rfl⟩
theorem valid_0 (b n:Int)(h1:(n==32)=false)(h2:(n==64)=false)(w:World):Calls Tryz.prog 25 #[.int .i64 b,.int .i64 n] w fun e w'=>e=.returned (.bool false)∧w=w':=by
 go_enter Tryz.func25,Tryz.ntmps25
 go_wp2
 go_ret
 exact⟨rfl,rfl⟩
theorem ret_int {k:IntKind}{a b:Int}(h:a=b):Ending.returned (.int k a)=.returned (.int k b):=by rw[h]
theorem class_64 (b s:Int)(hs:bits .andNot .i64 b (-9223372036854775808)=s)(w:World):Calls Tryz.prog 11 #[.int .i64 b,.int .i64 64] w fun e w'=>e=.returned (.int .i64 (clsOf s 9218868437227405312 4503599627370496))∧Kept w w':=by
 go_enter Tryz.func11,Tryz.ntmps11
 go_wp2_with (first|(go_at_call 24;refine(layoutOf_64 _).mono ?_;rintro e w1 ⟨rfl,hk1⟩)|(go_at_call 25;refine(valid_64 _ _).mono ?_;rintro e w2 ⟨rfl,rfl⟩))
 all_goals
  go_ret
  refine⟨ret_int ?_,hk1.alloc _ _⟩
  unfold clsOf
  try simp only[beq_iff_eq,beq_eq_false_iff_ne]at *
  (repeat' split)<;>omega
def clsd (b s:Int):Int:=if (b/4294967296==0)=true then clsOf s 2139095040 8388608 else 4
theorem class_32 (b s:Int)(hs:bits .andNot .i64 b 2147483648=s)(w:World):Calls Tryz.prog 11 #[.int .i64 b,.int .i64 32] w fun e w'=>e=.returned (.int .i64 (clsd b s))∧Kept w w':=by
 go_enter Tryz.func11,Tryz.ntmps11
 go_wp2_with (first|(go_at_call 24;refine(layoutOf_32 _).mono ?_;rintro e w1 ⟨rfl,hk1⟩)|(go_at_call 25;refine(valid_32 _ _).mono ?_;rintro e w2 ⟨rfl,rfl⟩))
 all_goals
  go_ret
  refine⟨ret_int ?_,hk1.alloc _ _⟩
  unfold clsd clsOf
  try simp only[beq_iff_eq,beq_eq_false_iff_ne]at *
  (repeat' split)<;>omega
theorem class_0 (b n:Int)(h1:(n==32)=false)(h2:(n==64)=false)(w:World):Calls Tryz.prog 11 #[.int .i64 b,.int .i64 n] w fun e w'=>e=.returned (.int .i64 0)∧Kept w w':=by
 go_enter Tryz.func11,Tryz.ntmps11
 go_wp2_with (first|(go_at_call 24;refine(layoutOf_0 _ h1 h2 _).mono ?_;rintro e w1 ⟨rfl,hk1⟩)|(go_at_call 25;refine(valid_0 _ _ h1 h2 _).mono ?_;rintro e w2 ⟨rfl,rfl⟩))
 go_ret
 exact⟨rfl,hk1.alloc _ _⟩
theorem valid_any (b n:Int)(w:World):Calls Tryz.prog 25 #[.int .i64 b,.int .i64 n] w fun e w'=>e=.returned (.bool (val b n))∧w=w':=by
 by_cases h64:n=64
 ·subst h64
  refine(valid_64 b w).mono ?_
  rintro e w' ⟨rfl,rfl⟩
  exact⟨by simp[val],rfl⟩
 ·by_cases h32:n=32
  ·subst h32
   refine(valid_32 b w).mono ?_
   rintro e w' ⟨rfl,rfl⟩
   refine⟨?_,rfl⟩
   have:(b/4294967296==0)=val b 32:=by
    rw[Bool.eq_iff_iff];simp[val];omega
   rw[this]
  ·refine(valid_0 b n (by simpa using h32) (by simpa using h64) w).mono ?_
   rintro e w' ⟨rfl,rfl⟩
   exact⟨by simp[val,h64,h32],rfl⟩
theorem class_any (b n:Int)(w:World):Calls Tryz.prog 11 #[.int .i64 b,.int .i64 n] w fun e w'=>e=.returned (.int .i64 (cls b n))∧Kept w w':=by
 by_cases h64:n=64
 ·subst h64
  refine(class_64 b _ (andNot_min b) w).mono ?_
  rintro e w' ⟨rfl,hk⟩
  exact⟨ret_int (by simp[cls]),hk⟩
 ·by_cases h32:n=32
  ·subst h32
   refine(class_32 b _ rfl w).mono ?_
   rintro e w' ⟨rfl,hk⟩
   refine⟨ret_int ?_,hk⟩
   unfold clsd cls
   by_cases hv:0≤b∧b<4294967296
   ·rw[if_pos (by rw[beq_iff_eq];omega),andNot_31 b hv.1 hv.2,if_neg (by decide),if_pos rfl,if_pos hv]
   ·rw[if_neg (by rw[beq_iff_eq];omega),if_neg (by decide),if_pos rfl,if_neg hv]
  ·refine(class_0 b n (by simpa using h32) (by simpa using h64) w).mono ?_
   rintro e w' ⟨rfl,hk⟩
   exact⟨ret_int (by simp[cls,h64,h32]),hk⟩
end Go.Proofs.YtnniljhdcplkgaaGreatDoor
namespace Go.Proofs.YtnniljhdcplkgaaGreatDoor
open Go.ChangeShapes Go.WideShapes Go.ChangeAt Go.RowKit
set_option maxHeartbeats 16000000
set_option maxRecDepth 100000
set_option linter.unusedVariables false
def Tab (w:World):Prop:=3≤w.heap.size∧∀j,j<64→w.cell? ⟨2,j,none⟩=some (.int .u8 (Lib.deBruijn64tab.getD j 0))
theorem Tab.kept {w w':World}(h:Tab w)(k:Kept w w'):Tab w':=
 ⟨Nat.le_trans h.1 k.below.size,fun j hj=>(k.below.cell (p:=⟨2,j,none⟩) (by have:=h.1;show 2<_;omega)).trans (h.2 j hj)⟩
theorem tz64_core (x k idx:Nat)(w:World)(hx0:((x:Int)==0)=false)
  (key:IntKind.u64.wrap (bits BinOp.and IntKind.u64 (x:Int) (IntKind.u64.wrap (-(x:Int)))*285870213051353865)/288230376151711744=(idx:Int))
  (hi:idx<64) (hk:k<64) (hcell:w.cell? ⟨2,idx,none⟩=some (.int .u8 k)):
  Calls Tryz.prog 157 #[.int .u64 x] w fun e w'=>e=.returned (.int .i64 k)∧w=w':=by
 go_enter Tryz.func157,Tryz.ntmps157
 go_wp2_with (simp only[key])
 go_ret
 exact⟨rfl,rfl⟩
theorem tz64_key (x a:Nat)(hx:x<18446744073709551616)(hx0:x≠0)(hlow:x&&& (18446744073709551616-x)=a):
  IntKind.u64.wrap (bits BinOp.and IntKind.u64 (x:Int) (IntKind.u64.wrap (-(x:Int)))*285870213051353865)/288230376151711744=((a*285870213051353865%18446744073709551616/288230376151711744:Nat):Int):=by
 have e1:IntKind.u64.wrap (-(x:Int))=((18446744073709551616-x:Nat):Int):=by rw[IntKind.wrap_u64];omega
 rw[e1,bits_and_u64_nat x _ hx (by omega),hlow,IntKind.wrap_u64]
 omega
theorem tz64 (x:Nat)(hx:x<18446744073709551616)(hx0:x≠0)(w:World)(hT:Tab w):
  Calls Tryz.prog 157 #[.int .u64 x] w fun e w'=>e=.returned (.int .i64 (Lib.ctz 64 x))∧w=w':=by
 obtain⟨hlow,hk⟩:=Lib.lowest_bit 64 x hx0 hx
 obtain⟨hi,htab⟩:=Lib.deBruijn64_at _ hk
 have hcell:=hT.2 _ hi
 rw[htab]at hcell
 exact tz64_core x _ _ w (by simp;omega) (tz64_key x _ hx hx0 hlow) hi hk hcell
theorem tz (x:Nat)(hx:x<18446744073709551616)(hx0:x≠0)(w:World)(hT:Tab w):
  Calls Tryz.prog 136 #[.int .u64 x] w fun e w'=>e=.returned (.int .i64 (Lib.ctz 64 x))∧w=w':=by
 have hc:=tz64 x hx hx0 w hT
 obtain⟨c,hcx⟩:∃c,c=Lib.ctz 64 x:=⟨_,rfl⟩
 rw[←hcx]at hc ⊢
 have HC:Hid (Calls Tryz.prog 157 #[.int .u64 x] w fun e w'=>e=.returned (.int .i64 c)∧w=w'):=hc
 clear hc hcx hT hx0 hx
 go_enter Tryz.func136,Tryz.ntmps136
 go_wp2_with fail
 refine HC.out.mono ?_
 rintro e w1 ⟨rfl,rfl⟩
 go_wp2
 go_ret
 exact⟨rfl,rfl⟩
theorem len8tab_size:(Lib.len8tab.size:Int)=256:=by
 have:Lib.len8tab.size=256:=by decide
 omega
theorem wrap_add (k a b:Nat)(hk:k≤56)(ha:a≤8)(hb:b=k+a):wrap64 ((k:Int)+wrap64 (a:Int))=(b:Int):=by
 unfold wrap64
 omega
theorem wrap_wrap (a:Nat)(ha:a≤8):wrap64 (wrap64 (a:Int))=(a:Int):=by
 unfold wrap64
 omega
theorem len8_get (y:Int)(h:y.toNat<Lib.len8tab.size):((Lib.len8tab[y.toNat]'h).toNat:Int)=Lib.len8 y:=by
 unfold Lib.len8
 rw[getElem?_pos Lib.len8tab y.toNat h]
 rfl
theorem len64 (x:Int)(w:World)(h0:0≤x)(h1:x≤18446744073709551615):
    Calls Tryz.prog 142 #[.int .u64 x] w fun e w'=>e=.returned (.int .i64 (Lib.bitLen x.toNat))∧w=w':=by
  go_enter Tryz.func142,Tryz.ntmps142
  go_wp2
  all_goals first
    |(go_ret;refine⟨congrArg Ending.returned (congrArg (Value.int IntKind.i64) ?_),rfl⟩;go_light)
    | (exfalso
       go_light
       have hs:=len8tab_size
       omega)
  all_goals first
    | (rw[len8_get (x/4294967296/65536/256) _,Lib.len8_of (x/4294967296/65536/256) (by omega) (by omega)]
       have e:(x/4294967296/65536/256).toNat=x.toNat/72057594037927936:=by omega
       have l:=Lib.bitLen_le8' (x/4294967296/65536/256) (by omega) (by omega)
       have s:=Lib.bitLen_shift56 x.toNat (by omega) (by omega)
       rw[e]at l ⊢
       exact wrap_add 56 _ _ (by decide) l s)
    | (rw[len8_get (x/4294967296/65536) _,Lib.len8_of (x/4294967296/65536) (by omega) (by omega)]
       have e:(x/4294967296/65536).toNat=x.toNat/281474976710656:=by omega
       have l:=Lib.bitLen_le8' (x/4294967296/65536) (by omega) (by omega)
       have s:=Lib.bitLen_shift48 x.toNat (by omega) (by omega)
       rw[e]at l ⊢
       exact wrap_add 48 _ _ (by decide) l s)
    | (rw[len8_get (x/4294967296/256) _,Lib.len8_of (x/4294967296/256) (by omega) (by omega)]
       have e:(x/4294967296/256).toNat=x.toNat/1099511627776:=by omega
       have l:=Lib.bitLen_le8' (x/4294967296/256) (by omega) (by omega)
       have s:=Lib.bitLen_shift40 x.toNat (by omega) (by omega)
       rw[e]at l ⊢
       exact wrap_add 40 _ _ (by decide) l s)
    | (rw[len8_get (x/4294967296) _,Lib.len8_of (x/4294967296) (by omega) (by omega)]
       have e:(x/4294967296).toNat=x.toNat/4294967296:=by omega
       have l:=Lib.bitLen_le8' (x/4294967296) (by omega) (by omega)
       have s:=Lib.bitLen_shift32 x.toNat (by omega) (by omega)
       rw[e]at l ⊢
       exact wrap_add 32 _ _ (by decide) l s)
    | (rw[len8_get (x/65536/256) _,Lib.len8_of (x/65536/256) (by omega) (by omega)]
       have e:(x/65536/256).toNat=x.toNat/16777216:=by omega
       have l:=Lib.bitLen_le8' (x/65536/256) (by omega) (by omega)
       have s:=Lib.bitLen_shift24 x.toNat (by omega) (by omega)
       rw[e]at l ⊢
       exact wrap_add 24 _ _ (by decide) l s)
    | (rw[len8_get (x/65536) _,Lib.len8_of (x/65536) (by omega) (by omega)]
       have e:(x/65536).toNat=x.toNat/65536:=by omega
       have l:=Lib.bitLen_le8' (x/65536) (by omega) (by omega)
       have s:=Lib.bitLen_shift16 x.toNat (by omega) (by omega)
       rw[e]at l ⊢
       exact wrap_add 16 _ _ (by decide) l s)
    | (rw[len8_get (x/256) _,Lib.len8_of (x/256) (by omega) (by omega)]
       have e:(x/256).toNat=x.toNat/256:=by omega
       have l:=Lib.bitLen_le8' (x/256) (by omega) (by omega)
       have s:=Lib.bitLen_shift8 x.toNat (by omega) (by omega)
       rw[e]at l ⊢
       exact wrap_add 8 _ _ (by decide) l s)
    | (rw[len8_get x _,Lib.len8_of x (by omega) (by omega)]
       have l:=Lib.bitLen_le8' x (by omega) (by omega)
       exact wrap_wrap _ l)
theorem len (x:Int)(w:World)(h0:0≤x)(h1:x≤18446744073709551615):
  Calls Tryz.prog 119 #[.int .u64 x] w fun e w'=>e=.returned (.int .i64 (Lib.bitLen x.toNat))∧w=w':=by
 have hc:=len64 x w h0 h1
 obtain⟨c,hcx⟩:∃c,c=Lib.bitLen x.toNat:=⟨_,rfl⟩
 rw[←hcx]at hc ⊢
 have HC:Hid (Calls Tryz.prog 142 #[.int .u64 x] w fun e w'=>e=.returned (.int .i64 c)∧w=w'):=hc
 clear hc hcx
 go_enter Tryz.func119,Tryz.ntmps119
 go_wp2_with fail
 refine HC.out.mono ?_
 rintro e w1 ⟨rfl,rfl⟩
 go_wp2
 go_ret
 exact⟨rfl,rfl⟩
end Go.Proofs.YtnniljhdcplkgaaGreatDoor
namespace Go.Proofs.YtnniljhdcplkgaaGreatDoor
open Go.ChangeShapes Go.WideShapes Go.ChangeAt Go.RowKit
set_option maxHeartbeats 16000000
set_option maxRecDepth 100000
theorem laid_cell {w1 w2:World}{c:Array Value}{t:TypeId}(h:Kept (w1.alloc (.cells c t)) w2)(o:Nat):w2.cell? ⟨w1.heap.size,o,none⟩=(w1.alloc (.cells c t)).cell? ⟨w1.heap.size,o,none⟩:=
 h.below.cell (p:=⟨w1.heap.size,o,none⟩) (by simp)
theorem laid_size {w1 w2:World}{c:Array Value}{t:TypeId}(h:Kept (w1.alloc (.cells c t)) w2):w1.heap.size<w2.heap.size:=by
 have:=h.below.size
 simp at this
 omega
theorem old_cell {w1 w2:World}{c:Array Value}{t:TypeId}(h:Kept (w1.alloc (.cells c t)) w2)(k o:Nat)(hk:k<w1.heap.size):w2.cell? ⟨k,o,none⟩=w1.cell? ⟨k,o,none⟩:=
 (((Kept.refl w1).alloc c t).trans h).below.cell (p:=⟨k,o,none⟩) hk
theorem numbers1_64 (b:Int)(blk:Nat)(w:World)(hcell:w.cell? ⟨blk,0,none⟩=some (.int .i64 b))(hblk:blk<w.heap.size):Calls Tryz.prog 163 #[.int .i64 64,.slice (some ⟨blk,0,none⟩) 1 1] w fun e w'=>e=.returned (.tuple #[.agg #[.int .i64 (-9223372036854775808),.int .i64 9218868437227405312,.int .i64 9221120237041090561,.int .i64 52,.int .i64 (-1074)],.bool (cls b 64 != 4)])∧Kept w w':=by
 go_enter Tryz.func163,Tryz.ntmps163
 go_wp2_with (first|(go_at_call 24;refine(layoutOf_64 _).mono ?_;rintro e w1 ⟨rfl,hk1⟩))
 have s1:=laid_size hk1
 have hc1:w1.cell? ⟨blk,0,none⟩=some (.int .i64 b):=(old_cell hk1 blk 0 hblk).trans hcell
 have hb1:blk<w1.heap.size:=by omega
 refine wp_loop_rounds 2 ?_
 rw[rounds_succ]
 go_wp2_with (first|(go_at_call 11;refine(class_any _ _ _).mono ?_;rintro e w2 ⟨rfl,hk2⟩))
 have s2:=laid_size hk2
 have hl2:=laid_cell hk2
 have hl0:∀o,w2.cell? ⟨w.heap.size,o,none⟩=(w.alloc (.cells #[.int .i64 0,.int .i64 0,.int .i64 0,.int .i64 0,.int .i64 0] 52)).cell? ⟨w.heap.size,o,none⟩:=fun o=>(old_cell hk2 _ o s1).trans (laid_cell hk1 o)
 have hf2:∀o,w2.frozen? ⟨w.heap.size,o,none⟩=(w.alloc (.cells #[.int .i64 0,.int .i64 0,.int .i64 0,.int .i64 0,.int .i64 0] 52)).frozen? ⟨w.heap.size,o,none⟩:=fun o=>(((Kept.refl _).trans hk1).alloc _ _|>.trans hk2).frozen _
 rw[rounds_succ]
 go_wp2
 refine bodyPost_ret (v:=.tuple #[.agg #[.int .i64 (-9223372036854775808),.int .i64 9218868437227405312,.int .i64 9221120237041090561,.int .i64 52,.int .i64 (-1074)],.bool (cls b 64 != 4)]) (by simp[results,Tryz.results163,go_sem,hl0]) rfl ⟨rfl,?_⟩
 have hK:Kept w w2:=(((Kept.refl w).alloc _ _).trans hk1|>.alloc _ _).trans hk2
 exact((((hK.setCell (Nat.le_refl _) _).setCell (Nat.le_refl _) _).setCell (Nat.le_refl _) _).setCell (Nat.le_refl _) _).setCell (Nat.le_refl _) _
theorem numbers1_32 (b:Int)(blk:Nat)(w:World)(hcell:w.cell? ⟨blk,0,none⟩=some (.int .i64 b))(hblk:blk<w.heap.size):Calls Tryz.prog 163 #[.int .i64 32,.slice (some ⟨blk,0,none⟩) 1 1] w fun e w'=>e=.returned (.tuple #[.agg #[.int .i64 2147483648,.int .i64 2139095040,.int .i64 2143289345,.int .i64 23,.int .i64 (-149)],.bool (cls b 32 != 4)])∧Kept w w':=by
 go_enter Tryz.func163,Tryz.ntmps163
 go_wp2_with (first|(go_at_call 24;refine(layoutOf_32 _).mono ?_;rintro e w1 ⟨rfl,hk1⟩))
 have s1:=laid_size hk1
 have hc1:w1.cell? ⟨blk,0,none⟩=some (.int .i64 b):=(old_cell hk1 blk 0 hblk).trans hcell
 have hb1:blk<w1.heap.size:=by omega
 refine wp_loop_rounds 2 ?_
 rw[rounds_succ]
 go_wp2_with (first|(go_at_call 11;refine(class_any _ _ _).mono ?_;rintro e w2 ⟨rfl,hk2⟩))
 have s2:=laid_size hk2
 have hl2:=laid_cell hk2
 have hl0:∀o,w2.cell? ⟨w.heap.size,o,none⟩=(w.alloc (.cells #[.int .i64 0,.int .i64 0,.int .i64 0,.int .i64 0,.int .i64 0] 52)).cell? ⟨w.heap.size,o,none⟩:=fun o=>(old_cell hk2 _ o s1).trans (laid_cell hk1 o)
 have hf2:∀o,w2.frozen? ⟨w.heap.size,o,none⟩=(w.alloc (.cells #[.int .i64 0,.int .i64 0,.int .i64 0,.int .i64 0,.int .i64 0] 52)).frozen? ⟨w.heap.size,o,none⟩:=fun o=>(((Kept.refl _).trans hk1).alloc _ _|>.trans hk2).frozen _
 rw[rounds_succ]
 go_wp2
 refine bodyPost_ret (v:=.tuple #[.agg #[.int .i64 2147483648,.int .i64 2139095040,.int .i64 2143289345,.int .i64 23,.int .i64 (-149)],.bool (cls b 32 != 4)]) (by simp[results,Tryz.results163,go_sem,hl0]) rfl ⟨rfl,?_⟩
 have hK:Kept w w2:=(((Kept.refl w).alloc _ _).trans hk1|>.alloc _ _).trans hk2
 exact((((hK.setCell (Nat.le_refl _) _).setCell (Nat.le_refl _) _).setCell (Nat.le_refl _) _).setCell (Nat.le_refl _) _).setCell (Nat.le_refl _) _
theorem numbers1_0 (b n:Int)(h1:(n==32)=false)(h2:(n==64)=false)(blk:Nat)(w:World)(hcell:w.cell? ⟨blk,0,none⟩=some (.int .i64 b))(hblk:blk<w.heap.size):Calls Tryz.prog 163 #[.int .i64 n,.slice (some ⟨blk,0,none⟩) 1 1] w fun e w'=>e=.returned (.tuple #[.agg #[.int .i64 0,.int .i64 0,.int .i64 0,.int .i64 0,.int .i64 0],.bool (false)])∧Kept w w':=by
 go_enter Tryz.func163,Tryz.ntmps163
 go_wp2_with (first|(go_at_call 24;refine(layoutOf_0 _ h1 h2 _).mono ?_;rintro e w1 ⟨rfl,hk1⟩))
 have s1:=laid_size hk1
 have hc1:w1.cell? ⟨blk,0,none⟩=some (.int .i64 b):=(old_cell hk1 blk 0 hblk).trans hcell
 have hb1:blk<w1.heap.size:=by omega
 refine wp_loop_rounds 2 ?_
 rw[rounds_succ]
 go_wp2
 have hl1:=laid_cell hk1
 have hf1:∀o,w1.frozen? ⟨w.heap.size,o,none⟩=(w.alloc (.cells #[.int .i64 0,.int .i64 0,.int .i64 0,.int .i64 0,.int .i64 0] 52)).frozen? ⟨w.heap.size,o,none⟩:=fun o=>hk1.frozen _
 rw[rounds_succ]
 go_wp2
 refine bodyPost_ret (v:=.tuple #[.agg #[.int .i64 0,.int .i64 0,.int .i64 0,.int .i64 0,.int .i64 0],.bool (false)]) (by simp[results,Tryz.results163,go_sem,hl1,s1]) rfl ⟨rfl,?_⟩
 have hK:Kept w w1:=((Kept.refl w).alloc _ _).trans hk1
 exact(((((hK.setCell (Nat.le_refl _) _).setCell (Nat.le_refl _) _).setCell (Nat.le_refl _) _).setCell (Nat.le_refl _) _).setCell (Nat.le_refl _) _).alloc _ _
theorem numbers_64 (b:Int)(w:World):Calls Tryz.prog 163 #[.int .i64 64,.slice (some ⟨w.heap.size,0,none⟩) 1 1] (w.alloc (.cells #[.int .i64 b] 3)) fun e w'=>e=.returned (.tuple #[.agg #[.int .i64 (-9223372036854775808),.int .i64 9218868437227405312,.int .i64 9221120237041090561,.int .i64 52,.int .i64 (-1074)],.bool (cls b 64 != 4)])∧Kept w w':=by
 refine(numbers1_64 b w.heap.size _ (by simp[go_sem]) (by simp)).mono ?_
 rintro e w' ⟨rfl,hk⟩
 exact⟨rfl,((Kept.refl w).alloc _ _).trans hk⟩
theorem numbers_32 (b:Int)(w:World):Calls Tryz.prog 163 #[.int .i64 32,.slice (some ⟨w.heap.size,0,none⟩) 1 1] (w.alloc (.cells #[.int .i64 b] 3)) fun e w'=>e=.returned (.tuple #[.agg #[.int .i64 2147483648,.int .i64 2139095040,.int .i64 2143289345,.int .i64 23,.int .i64 (-149)],.bool (cls b 32 != 4)])∧Kept w w':=by
 refine(numbers1_32 b w.heap.size _ (by simp[go_sem]) (by simp)).mono ?_
 rintro e w' ⟨rfl,hk⟩
 exact⟨rfl,((Kept.refl w).alloc _ _).trans hk⟩
theorem numbers_0 (b n:Int)(h1:(n==32)=false)(h2:(n==64)=false)(w:World):Calls Tryz.prog 163 #[.int .i64 n,.slice (some ⟨w.heap.size,0,none⟩) 1 1] (w.alloc (.cells #[.int .i64 b] 3)) fun e w'=>e=.returned (.tuple #[.agg #[.int .i64 0,.int .i64 0,.int .i64 0,.int .i64 0,.int .i64 0],.bool (false)])∧Kept w w':=by
 refine(numbers1_0 b n h1 h2 w.heap.size _ (by simp[go_sem]) (by simp)).mono ?_
 rintro e w' ⟨rfl,hk⟩
 exact⟨rfl,((Kept.refl w).alloc _ _).trans hk⟩
theorem tk {P:Program}{ops:Array Oper}{Q:Exit→Act→World→Prop}{md:Region.Mode}{S:World→Prop}{i:Nat}{oi:Oper}{v:Value}{fuel:Nat}{listed:Array Bool}{a:Act}{w:World}(hi:ops[i]?=some oi)(h:wpAnyH P md ops Q S fuel (listed.setIfInBounds i true) (a.put oi.dst v) w)(hy:YieldsIf P ops S oi v a:=by exact .inl ⟨by rfl,by(intro w hSw;(try dsimp only at hSw);go_simp;try (with_reducible rfl))⟩)(hs:Region.noSelect ops=true:=by kernel_rfl)(hf:Region.free md ops listed i=true:=by kernel_rfl)(hr:(Region.ready md ops listed).contains i=true:=by kernel_rfl)(hQ:∀c a w,Q (.panic c) (a.put oi.dst v) w→Q (.panic c) a w:=by exact fun _ _ _ h=>h)(hS:S w:=by assumption):wpAnyH P md ops Q S (fuel+1) listed a w:=wpAnyH_take hi hs hf hr hQ hy hS h
abbrev zA:=@List.getElem_toArray
abbrev zB:=@List.getElem_cons_succ
abbrev zC:=@List.getElem_cons_zero
abbrev zD:=@List.setIfInBounds_toArray
abbrev zE:=@List.set_cons_zero
abbrev zF:=@List.set_cons_succ
end Go.Proofs.YtnniljhdcplkgaaGreatDoor
