/-  -/
import Derived.Test.YtnniljhdcplkgaaGreatDoorWs02
import Derived.Deep.RegionHeld
namespace Go.Proofs.YtnniljhdcplkgaaGreatDoor
open Go.ChangeShapes Go.WideShapes Go.ChangeAt Go.RowKit
set_option maxHeartbeats 16000000
set_option maxRecDepth 100000
set_option linter.unusedVariables false
theorem jkeep0 {x v:World}{c:Array Value}{t:TypeId}(h:Kept (x.alloc (.cells c t)) v):Kept (x.alloc (.cells c t)) v.drew∧∀o,v.drew.cell? ⟨x.heap.size,o,none⟩=(x.alloc (.cells c t)).cell? ⟨x.heap.size,o,none⟩:=⟨h.drew,laid_cell h.drew⟩
theorem jkeep1 {x v v':World}{c:Array Value}{t:TypeId}(h:Kept (x.alloc (.cells c t)) v∧∀o,v.cell? ⟨x.heap.size,o,none⟩=(x.alloc (.cells c t)).cell? ⟨x.heap.size,o,none⟩)(k:Kept v v'):Kept (x.alloc (.cells c t)) v'∧∀o,v'.cell? ⟨x.heap.size,o,none⟩=(x.alloc (.cells c t)).cell? ⟨x.heap.size,o,none⟩:=⟨h.1.trans k,laid_cell (h.1.trans k)⟩
theorem signed_64 (p:Bool)(v r q:Int)(hr:bits .or .i64 v (-9223372036854775808)=r)(hq:(if p=true then r else v)=q)(w:World):Calls Tryz.prog 149 #[.agg #[.int .i64 (-9223372036854775808),.int .i64 9218868437227405312,.int .i64 9221120237041090561,.int .i64 52,.int .i64 (-1074)],.bool p,.int .i64 v] w fun e w'=>e=.returned (.int .i64 q)∧Kept w w':=by
 subst hq
 go_enter Tryz.func149,Tryz.ntmps149
 cases p
 ·go_wp2
  go_ret
  exact⟨rfl,(Kept.refl _).alloc _ _⟩
 ·go_wp2
  go_ret
  exact⟨rfl,(Kept.refl _).alloc _ _⟩
theorem join_64_high (p:Bool)(x e:Int)(k:Nat)(hx0:0<x)(hx1:x≤9223372036854775807)(he1:-2000≤e)(he2:e≤2000)(hk:k<64)(o:Int)(L:Nat)(ho0:0<o)(ho1:o≤9223372036854775807)(hL:L≤64)(hsh:x/2^k=o)
  (Kz:Hid (∀w:World,Tab w→Calls Tryz.prog 136 #[.int .u64 x] w fun e w'=>e=.returned (.int .i64 (k:Int))∧w=w'))
  (Kl:Hid (∀w:World,Calls Tryz.prog 119 #[.int .u64 (IntKind.u64.wrap o)] w fun e w'=>e=.returned (.int .i64 (L:Int))∧w=w')) (U:Int) (hu:min (53-(L:Int)) (e+(k:Int)+1074)=U) (hU:0≤U) (hU2:U≤64) (hs:2047≤e+(k:Int)-U+1074+1) (w:World) (hT:Tab w):Calls Tryz.prog 127 #[.bool p,.int .i64 x,.int .i64 e,.int .i64 64] w fun e w'=>e=.returned (.tuple #[.int .i64 0,.bool false])∧Kept w w':=by
 have HT:Hid (Tab w):=hT
 clear hT
 go_enter Tryz.func127,Tryz.ntmps127
 go_wp2_with fail
 refine(layoutOf_64 _).mono ?_
 rintro e w1 ⟨rfl,hk1⟩
 go_wp2_with fail
 refine(Kz.out _ (HT.out.kept (hk1.alloc _ _))).mono ?_
 rintro e w2 ⟨rfl,rfl⟩
 go_wp2
 have hK:=Kept.refl (w1.alloc (.cells #[.int .i64 (-9223372036854775808),.int .i64 9218868437227405312,.int .i64 9221120237041090561,.int .i64 52,.int .i64 (-1074)] 52))
 go_region_held (fun v=>Kept (w1.alloc (.cells #[.int .i64 (-9223372036854775808),.int .i64 9218868437227405312,.int .i64 9221120237041090561,.int .i64 52,.int .i64 (-1074)] 52)) v∧∀o,v.cell? ⟨w1.heap.size,o,none⟩=(w1.alloc (.cells #[.int .i64 (-9223372036854775808),.int .i64 9218868437227405312,.int .i64 9221120237041090561,.int .i64 52,.int .i64 (-1074)] 52)).cell? ⟨w1.heap.size,o,none⟩) (first|exact jkeep0 hK|assumption) (first|(go_at_call 119;refine(Kl.out _).mono ?_;rintro e w3 ⟨rfl,rfl⟩))
 go_wp2
 go_ret2
 exact⟨rfl,(hk1.alloc _ _).drew⟩
theorem join_64_yes (p:Bool)(x e:Int)(k:Nat)(hx0:0<x)(hx1:x≤9223372036854775807)(he1:-2000≤e)(he2:e≤2000)(hk:k<64)(o:Int)(L:Nat)(ho0:0<o)(ho1:o≤9223372036854775807)(hL:L≤64)(hsh:x/2^k=o)
  (Kz:Hid (∀w:World,Tab w→Calls Tryz.prog 136 #[.int .u64 x] w fun e w'=>e=.returned (.int .i64 (k:Int))∧w=w'))
  (Kl:Hid (∀w:World,Calls Tryz.prog 119 #[.int .u64 (IntKind.u64.wrap o)] w fun e w'=>e=.returned (.int .i64 (L:Int))∧w=w')) (U:Nat) (hu:min (53-(L:Int)) (e+(k:Int)+1074)=(U:Int)) (hU2:U<64) (hs:e+(k:Int)-(U:Int)+1074+1<2047) (hs0:0≤e+(k:Int)-(U:Int)+1074) (v r:Int) (hv:0≤o*2^U) (hv2:o*2^U<2*4503599627370496) (hve:(e+(k:Int)-(U:Int)+1074)*4503599627370496+o*2^U=v) (hr:bits .or .i64 v (-9223372036854775808)=r) (q:Int) (hq0:(if p=true then r else v)=q) (w:World) (hT:Tab w):Calls Tryz.prog 127 #[.bool p,.int .i64 x,.int .i64 e,.int .i64 64] w fun e w'=>e=.returned (.tuple #[.int .i64 q,.bool true])∧Kept w w':=by
 have HQ:Hid ((if p=true then r else v)=q):=hq0
 clear hq0
 obtain⟨Q,hQ⟩:∃Q,Q=o*2^U:=⟨_,rfl⟩
 have HM:Hid (min (IntKind.i64.wrap (IntKind.i64.wrap 53-(L:Int))) (IntKind.i64.wrap (e+(k:Int)+1074))=(U:Int)):=by
  show min (IntKind.i64.wrap (IntKind.i64.wrap 53-(L:Int))) (IntKind.i64.wrap (e+(k:Int)+1074))=(U:Int)
  rw[wrap_i64,wrap_i64,wrap_i64]
  omega
 have HW:Hid (IntKind.i64.wrap (IntKind.i64.wrap ((e+(k:Int)-(U:Int)+1074)*4503599627370496)+IntKind.i64.wrap (o*2^U))=v):=by
  show IntKind.i64.wrap (IntKind.i64.wrap ((e+(k:Int)-(U:Int)+1074)*4503599627370496)+IntKind.i64.wrap (o*2^U))=v
  rw[←hQ]at hv hv2 hve ⊢
  rw[wrap_i64,wrap_i64,wrap_i64]
  omega
 clear hve hv hv2 hQ
 have HT:Hid (Tab w):=hT
 clear hT
 go_enter Tryz.func127,Tryz.ntmps127
 go_wp2_with fail
 refine(layoutOf_64 _).mono ?_
 rintro e w1 ⟨rfl,hk1⟩
 go_wp2_with fail
 refine(Kz.out _ (HT.out.kept (hk1.alloc _ _))).mono ?_
 rintro e w2 ⟨rfl,rfl⟩
 go_wp2
 have hK:=Kept.refl (w1.alloc (.cells #[.int .i64 (-9223372036854775808),.int .i64 9218868437227405312,.int .i64 9221120237041090561,.int .i64 52,.int .i64 (-1074)] 52))
 go_region_held (fun v=>Kept (w1.alloc (.cells #[.int .i64 (-9223372036854775808),.int .i64 9218868437227405312,.int .i64 9221120237041090561,.int .i64 52,.int .i64 (-1074)] 52)) v∧∀o,v.cell? ⟨w1.heap.size,o,none⟩=(w1.alloc (.cells #[.int .i64 (-9223372036854775808),.int .i64 9218868437227405312,.int .i64 9221120237041090561,.int .i64 52,.int .i64 (-1074)] 52)).cell? ⟨w1.heap.size,o,none⟩) (first|exact jkeep0 hK|assumption) (first|(go_at_call 119;refine(Kl.out _).mono ?_;rintro e w3 ⟨rfl,rfl⟩))
 go_wp2
 have hK2:=hK.drew
 rw[HM.out]
 go_region_held (fun v=>Kept (w1.alloc (.cells #[.int .i64 (-9223372036854775808),.int .i64 9218868437227405312,.int .i64 9221120237041090561,.int .i64 52,.int .i64 (-1074)] 52)) v∧∀o,v.cell? ⟨w1.heap.size,o,none⟩=(w1.alloc (.cells #[.int .i64 (-9223372036854775808),.int .i64 9218868437227405312,.int .i64 9221120237041090561,.int .i64 52,.int .i64 (-1074)] 52)).cell? ⟨w1.heap.size,o,none⟩) (first|exact jkeep0 hK2|(refine jkeep1 ?_ hk5;assumption)) (first|(go_at_call 149;rw[HW.out];refine(signed_64 p v r q hr HQ.out _).mono ?_;rintro e w5 ⟨rfl,hk5⟩))
 go_wp2
 go_ret2
 exact⟨rfl,(hk1.trans (((Kept.refl _).alloc _ _).trans (And.left ‹_›)))⟩
theorem signed_32 (p:Bool)(v r q:Int)(hr:bits .or .i64 v 2147483648=r)(hq:(if p=true then r else v)=q)(w:World):Calls Tryz.prog 149 #[.agg #[.int .i64 2147483648,.int .i64 2139095040,.int .i64 2143289345,.int .i64 23,.int .i64 (-149)],.bool p,.int .i64 v] w fun e w'=>e=.returned (.int .i64 q)∧Kept w w':=by
 subst hq
 go_enter Tryz.func149,Tryz.ntmps149
 cases p
 ·go_wp2
  go_ret
  exact⟨rfl,(Kept.refl _).alloc _ _⟩
 ·go_wp2
  go_ret
  exact⟨rfl,(Kept.refl _).alloc _ _⟩
theorem join_32_high (p:Bool)(x e:Int)(k:Nat)(hx0:0<x)(hx1:x≤9223372036854775807)(he1:-2000≤e)(he2:e≤2000)(hk:k<64)(o:Int)(L:Nat)(ho0:0<o)(ho1:o≤9223372036854775807)(hL:L≤64)(hsh:x/2^k=o)
  (Kz:Hid (∀w:World,Tab w→Calls Tryz.prog 136 #[.int .u64 x] w fun e w'=>e=.returned (.int .i64 (k:Int))∧w=w'))
  (Kl:Hid (∀w:World,Calls Tryz.prog 119 #[.int .u64 (IntKind.u64.wrap o)] w fun e w'=>e=.returned (.int .i64 (L:Int))∧w=w')) (U:Int) (hu:min (24-(L:Int)) (e+(k:Int)+149)=U) (hU:0≤U) (hU2:U≤64) (hs:255≤e+(k:Int)-U+149+1) (w:World) (hT:Tab w):Calls Tryz.prog 127 #[.bool p,.int .i64 x,.int .i64 e,.int .i64 32] w fun e w'=>e=.returned (.tuple #[.int .i64 0,.bool false])∧Kept w w':=by
 have HT:Hid (Tab w):=hT
 clear hT
 go_enter Tryz.func127,Tryz.ntmps127
 go_wp2_with fail
 refine(layoutOf_32 _).mono ?_
 rintro e w1 ⟨rfl,hk1⟩
 go_wp2_with fail
 refine(Kz.out _ (HT.out.kept (hk1.alloc _ _))).mono ?_
 rintro e w2 ⟨rfl,rfl⟩
 go_wp2
 have hK:=Kept.refl (w1.alloc (.cells #[.int .i64 2147483648,.int .i64 2139095040,.int .i64 2143289345,.int .i64 23,.int .i64 (-149)] 52))
 go_region_held (fun v=>Kept (w1.alloc (.cells #[.int .i64 2147483648,.int .i64 2139095040,.int .i64 2143289345,.int .i64 23,.int .i64 (-149)] 52)) v∧∀o,v.cell? ⟨w1.heap.size,o,none⟩=(w1.alloc (.cells #[.int .i64 2147483648,.int .i64 2139095040,.int .i64 2143289345,.int .i64 23,.int .i64 (-149)] 52)).cell? ⟨w1.heap.size,o,none⟩) (first|exact jkeep0 hK|assumption) (first|(go_at_call 119;refine(Kl.out _).mono ?_;rintro e w3 ⟨rfl,rfl⟩))
 go_wp2
 go_ret2
 exact⟨rfl,(hk1.alloc _ _).drew⟩
theorem join_32_yes (p:Bool)(x e:Int)(k:Nat)(hx0:0<x)(hx1:x≤9223372036854775807)(he1:-2000≤e)(he2:e≤2000)(hk:k<64)(o:Int)(L:Nat)(ho0:0<o)(ho1:o≤9223372036854775807)(hL:L≤64)(hsh:x/2^k=o)
  (Kz:Hid (∀w:World,Tab w→Calls Tryz.prog 136 #[.int .u64 x] w fun e w'=>e=.returned (.int .i64 (k:Int))∧w=w'))
  (Kl:Hid (∀w:World,Calls Tryz.prog 119 #[.int .u64 (IntKind.u64.wrap o)] w fun e w'=>e=.returned (.int .i64 (L:Int))∧w=w')) (U:Nat) (hu:min (24-(L:Int)) (e+(k:Int)+149)=(U:Int)) (hU2:U<64) (hs:e+(k:Int)-(U:Int)+149+1<255) (hs0:0≤e+(k:Int)-(U:Int)+149) (v r:Int) (hv:0≤o*2^U) (hv2:o*2^U<2*8388608) (hve:(e+(k:Int)-(U:Int)+149)*8388608+o*2^U=v) (hr:bits .or .i64 v 2147483648=r) (q:Int) (hq0:(if p=true then r else v)=q) (w:World) (hT:Tab w):Calls Tryz.prog 127 #[.bool p,.int .i64 x,.int .i64 e,.int .i64 32] w fun e w'=>e=.returned (.tuple #[.int .i64 q,.bool true])∧Kept w w':=by
 have HQ:Hid ((if p=true then r else v)=q):=hq0
 clear hq0
 obtain⟨Q,hQ⟩:∃Q,Q=o*2^U:=⟨_,rfl⟩
 have HM:Hid (min (IntKind.i64.wrap (IntKind.i64.wrap 24-(L:Int))) (IntKind.i64.wrap (e+(k:Int)+149))=(U:Int)):=by
  show min (IntKind.i64.wrap (IntKind.i64.wrap 24-(L:Int))) (IntKind.i64.wrap (e+(k:Int)+149))=(U:Int)
  rw[wrap_i64,wrap_i64,wrap_i64]
  omega
 have HW:Hid (IntKind.i64.wrap (IntKind.i64.wrap ((e+(k:Int)-(U:Int)+149)*8388608)+IntKind.i64.wrap (o*2^U))=v):=by
  show IntKind.i64.wrap (IntKind.i64.wrap ((e+(k:Int)-(U:Int)+149)*8388608)+IntKind.i64.wrap (o*2^U))=v
  rw[←hQ]at hv hv2 hve ⊢
  rw[wrap_i64,wrap_i64,wrap_i64]
  omega
 clear hve hv hv2 hQ
 have HT:Hid (Tab w):=hT
 clear hT
 go_enter Tryz.func127,Tryz.ntmps127
 go_wp2_with fail
 refine(layoutOf_32 _).mono ?_
 rintro e w1 ⟨rfl,hk1⟩
 go_wp2_with fail
 refine(Kz.out _ (HT.out.kept (hk1.alloc _ _))).mono ?_
 rintro e w2 ⟨rfl,rfl⟩
 go_wp2
 have hK:=Kept.refl (w1.alloc (.cells #[.int .i64 2147483648,.int .i64 2139095040,.int .i64 2143289345,.int .i64 23,.int .i64 (-149)] 52))
 go_region_held (fun v=>Kept (w1.alloc (.cells #[.int .i64 2147483648,.int .i64 2139095040,.int .i64 2143289345,.int .i64 23,.int .i64 (-149)] 52)) v∧∀o,v.cell? ⟨w1.heap.size,o,none⟩=(w1.alloc (.cells #[.int .i64 2147483648,.int .i64 2139095040,.int .i64 2143289345,.int .i64 23,.int .i64 (-149)] 52)).cell? ⟨w1.heap.size,o,none⟩) (first|exact jkeep0 hK|assumption) (first|(go_at_call 119;refine(Kl.out _).mono ?_;rintro e w3 ⟨rfl,rfl⟩))
 go_wp2
 have hK2:=hK.drew
 rw[HM.out]
 go_region_held (fun v=>Kept (w1.alloc (.cells #[.int .i64 2147483648,.int .i64 2139095040,.int .i64 2143289345,.int .i64 23,.int .i64 (-149)] 52)) v∧∀o,v.cell? ⟨w1.heap.size,o,none⟩=(w1.alloc (.cells #[.int .i64 2147483648,.int .i64 2139095040,.int .i64 2143289345,.int .i64 23,.int .i64 (-149)] 52)).cell? ⟨w1.heap.size,o,none⟩) (first|exact jkeep0 hK2|(refine jkeep1 ?_ hk5;assumption)) (first|(go_at_call 149;rw[HW.out];refine(signed_32 p v r q hr HQ.out _).mono ?_;rintro e w5 ⟨rfl,hk5⟩))
 go_wp2
 go_ret2
 exact⟨rfl,(hk1.trans (((Kept.refl _).alloc _ _).trans (And.left ‹_›)))⟩
end Go.Proofs.YtnniljhdcplkgaaGreatDoor

namespace Go.Proofs.YtnniljhdcplkgaaGreatDoor
open Go.ChangeShapes Go.WideShapes Go.ChangeAt Go.RowKit
set_option maxHeartbeats 16000000
set_option maxRecDepth 100000
theorem parts_no (b n:Int)(hn:n=64∨n=32)(hc:3≤cls b n)(w:World):Calls Tryz.prog 110 #[.int .i64 b,.int .i64 n] w fun e w'=>e=.returned (.tuple #[.bool false,.int .i64 0,.int .i64 0,.bool false])∧Kept w w':=by
 rcases hn with rfl|rfl
 ·go_enter Tryz.func110,Tryz.ntmps110
  go_wp2_with (first|(go_at_call 24;refine(layoutOf_64 _).mono ?_;rintro e w1 ⟨rfl,hk1⟩)|(go_at_call 11;refine(class_any _ _ _).mono ?_;rintro e w2 ⟨rfl,hk2⟩))
  exact bodyPost_ret (v:=.tuple #[.bool false,.int .i64 0,.int .i64 0,.bool false]) (by simp[results,Tryz.results110,go_sem]) rfl ⟨rfl,(hk1.alloc _ _).trans hk2⟩
 ·go_enter Tryz.func110,Tryz.ntmps110
  go_wp2_with (first|(go_at_call 24;refine(layoutOf_32 _).mono ?_;rintro e w1 ⟨rfl,hk1⟩)|(go_at_call 11;refine(class_any _ _ _).mono ?_;rintro e w2 ⟨rfl,hk2⟩))
  exact bodyPost_ret (v:=.tuple #[.bool false,.int .i64 0,.int .i64 0,.bool false]) (by simp[results,Tryz.results110,go_sem]) rfl ⟨rfl,(hk1.alloc _ _).trans hk2⟩
theorem parts_none (b n:Int)(h1:(n==32)=false)(h2:(n==64)=false)(w:World):Calls Tryz.prog 110 #[.int .i64 b,.int .i64 n] w fun e w'=>e=.returned (.tuple #[.bool false,.int .i64 0,.int .i64 0,.bool false])∧Kept w w':=by
 go_enter Tryz.func110,Tryz.ntmps110
 go_wp2_with (first|(go_at_call 24;refine(layoutOf_0 _ h1 h2 _).mono ?_;rintro e w1 ⟨rfl,hk1⟩)|(go_at_call 11;refine(class_any _ _ _).mono ?_;rintro e w2 ⟨rfl,hk2⟩))
 exact bodyPost_ret (v:=.tuple #[.bool false,.int .i64 0,.int .i64 0,.bool false]) (by simp[results,Tryz.results110,go_sem]) rfl ⟨rfl,(hk1.alloc _ _)⟩
theorem parts_64_sub (b s g:Int)(hs:bits .andNot .i64 b (-9223372036854775808)=s)(hg:bits .and .i64 b (-9223372036854775808)=g)(hc:cls b 64<3)(hl:s<4503599627370496)(w:World):Calls Tryz.prog 110 #[.int .i64 b,.int .i64 64] w fun e w'=>e=.returned (.tuple #[.bool (g != 0),.int .i64 s,.int .i64 (-1074),.bool true])∧Kept w w':=by
 go_enter Tryz.func110,Tryz.ntmps110
 go_wp2_with (first|(go_at_call 24;refine(layoutOf_64 _).mono ?_;rintro e w1 ⟨rfl,hk1⟩)|(go_at_call 11;refine(class_any _ _ _).mono ?_;rintro e w2 ⟨rfl,hk2⟩))
 have hcl:=laid_cell hk2
 go_quiet (fail)
 go_wp2
 go_quiet (fail)
 go_wp2
 exact bodyPost_ret (v:=.tuple #[.bool (g != 0),.int .i64 s,.int .i64 (-1074),.bool true]) (by simp[results,Tryz.results110,go_sem]) rfl ⟨rfl,(((hk1.alloc _ _).trans hk2).drewN _).drewN _⟩
theorem parts_64_nor (b s g m k:Int)(hs:bits .andNot .i64 b (-9223372036854775808)=s)(hg:bits .and .i64 b (-9223372036854775808)=g)(hm:bits .and .i64 s 4503599627370495=m)(hk:bits .or .i64 m 4503599627370496=k)(hc:cls b 64<3)(hl:¬s<4503599627370496)(hu:s≤9223372036854775807)(w:World):Calls Tryz.prog 110 #[.int .i64 b,.int .i64 64] w fun e w'=>e=.returned (.tuple #[.bool (g != 0),.int .i64 k,.int .i64 (-1074+s/4503599627370496-1),.bool true])∧Kept w w':=by
 go_enter Tryz.func110,Tryz.ntmps110
 go_wp2_with (first|(go_at_call 24;refine(layoutOf_64 _).mono ?_;rintro e w1 ⟨rfl,hk1⟩)|(go_at_call 11;refine(class_any _ _ _).mono ?_;rintro e w2 ⟨rfl,hk2⟩))
 have hcl:=laid_cell hk2
 go_quiet (fail)
 go_wp2
 go_quiet (fail)
 go_wp2
 exact bodyPost_ret (v:=.tuple #[.bool (g != 0),.int .i64 k,.int .i64 (-1074+s/4503599627370496-1),.bool true]) (by simp[results,Tryz.results110,go_sem]) rfl ⟨rfl,(((hk1.alloc _ _).trans hk2).drewN _).drewN _⟩
theorem parts_32_sub (b s g:Int)(hs:bits .andNot .i64 b 2147483648=s)(hg:bits .and .i64 b 2147483648=g)(hc:cls b 32<3)(hl:s<8388608)(w:World):Calls Tryz.prog 110 #[.int .i64 b,.int .i64 32] w fun e w'=>e=.returned (.tuple #[.bool (g != 0),.int .i64 s,.int .i64 (-149),.bool true])∧Kept w w':=by
 go_enter Tryz.func110,Tryz.ntmps110
 go_wp2_with (first|(go_at_call 24;refine(layoutOf_32 _).mono ?_;rintro e w1 ⟨rfl,hk1⟩)|(go_at_call 11;refine(class_any _ _ _).mono ?_;rintro e w2 ⟨rfl,hk2⟩))
 have hcl:=laid_cell hk2
 go_quiet (fail)
 go_wp2
 go_quiet (fail)
 go_wp2
 exact bodyPost_ret (v:=.tuple #[.bool (g != 0),.int .i64 s,.int .i64 (-149),.bool true]) (by simp[results,Tryz.results110,go_sem]) rfl ⟨rfl,(((hk1.alloc _ _).trans hk2).drewN _).drewN _⟩
theorem parts_32_nor (b s g m k:Int)(hs:bits .andNot .i64 b 2147483648=s)(hg:bits .and .i64 b 2147483648=g)(hm:bits .and .i64 s 8388607=m)(hk:bits .or .i64 m 8388608=k)(hc:cls b 32<3)(hl:¬s<8388608)(hu:s≤9223372036854775807)(w:World):Calls Tryz.prog 110 #[.int .i64 b,.int .i64 32] w fun e w'=>e=.returned (.tuple #[.bool (g != 0),.int .i64 k,.int .i64 (-149+s/8388608-1),.bool true])∧Kept w w':=by
 go_enter Tryz.func110,Tryz.ntmps110
 go_wp2_with (first|(go_at_call 24;refine(layoutOf_32 _).mono ?_;rintro e w1 ⟨rfl,hk1⟩)|(go_at_call 11;refine(class_any _ _ _).mono ?_;rintro e w2 ⟨rfl,hk2⟩))
 have hcl:=laid_cell hk2
 go_quiet (fail)
 go_wp2
 go_quiet (fail)
 go_wp2
 exact bodyPost_ret (v:=.tuple #[.bool (g != 0),.int .i64 k,.int .i64 (-149+s/8388608-1),.bool true]) (by simp[results,Tryz.results110,go_sem]) rfl ⟨rfl,(((hk1.alloc _ _).trans hk2).drewN _).drewN _⟩
theorem ret_parts {p q p' q':Bool}{a c a' c':Int}(h1:p=p')(h2:a=a')(h3:c=c')(h4:q=q'):Ending.returned (.tuple #[.bool p,.int .i64 a,.int .i64 c,.bool q])=.returned (.tuple #[.bool p',.int .i64 a',.int .i64 c',.bool q']):=by rw[h1,h2,h3,h4]
theorem sgn_64 (b:Int)(h1:-9223372036854775808≤b)(h2:b≤9223372036854775807):(bits .and .i64 b (-9223372036854775808) != 0)=sgn b 64:=by
 rw[and_min b h1 h2]
 unfold sgn
 rw[if_pos rfl]
 by_cases h:b<0<;>simp[h]
theorem sgn_32 (b:Int)(h1:0≤b)(h2:b<4294967296):(bits .and .i64 b 2147483648 != 0)=sgn b 32:=by
 have e:sgn b 32=decide (2147483648≤b):=by simp[sgn]
 rw[and_31 b h1 h2,e]
 by_cases h:b<2147483648
 ·rw[if_pos h,decide_eq_false (by omega)];rfl
 ·rw[if_neg h,decide_eq_true (by omega)];rfl
theorem parts_any (b n:Int)(hb1:-9223372036854775808≤b)(hb2:b≤9223372036854775807)(w:World):Calls Tryz.prog 110 #[.int .i64 b,.int .i64 n] w fun e w'=>e=.returned (.tuple #[.bool (pneg b n),.int .i64 (pmag b n),.int .i64 (pexp b n),.bool (fin b n)])∧Kept w w':=by
 by_cases hn:n=64∨n=32
 ·by_cases hc:cls b n<3
  ·have hf:fin b n=true:=by simp[fin,hn,hc]
   rcases hn with rfl|rfl
   ·by_cases hl:b%9223372036854775808<4503599627370496
    ·refine(parts_64_sub b _ _ (andNot_min b) rfl hc hl w).mono ?_
     rintro e w' ⟨rfl,hk⟩
     exact⟨ret_parts (by rw[sgn_64 b hb1 hb2];simp[pneg,hf]) (by simp[pmag,hf,hl]) (by simp[pexp,hf,hl]) hf.symm,hk⟩
    ·refine(parts_64_nor b _ _ _ _ (andNot_min b) rfl (mask_52 _) (or_52 _ (by omega) (by omega)) hc hl (by omega) w).mono ?_
     rintro e w' ⟨rfl,hk⟩
     exact⟨ret_parts (by rw[sgn_64 b hb1 hb2];simp[pneg,hf]) (by simp only[pmag,hf,if_true,hl,if_false]) (by simp only[pexp,hf,if_true,hl,if_false];omega) hf.symm,hk⟩
   ·have hv:=cls_valid b (by omega)
    by_cases hl:b%2147483648<8388608
    ·refine(parts_32_sub b _ _ (andNot_31 b hv.1 hv.2) rfl hc hl w).mono ?_
     rintro e w' ⟨rfl,hk⟩
     exact⟨ret_parts (by rw[sgn_32 b hv.1 hv.2];simp[pneg,hf]) (by simp[pmag,hf,hl]) (by simp[pexp,hf,hl]) hf.symm,hk⟩
    ·refine(parts_32_nor b _ _ _ _ (andNot_31 b hv.1 hv.2) rfl (mask_23 _) (or_23 _ (by omega) (by omega)) hc hl (by omega) w).mono ?_
     rintro e w' ⟨rfl,hk⟩
     exact⟨ret_parts (by rw[sgn_32 b hv.1 hv.2];simp[pneg,hf]) (by simp[pmag,hf,hl]) (by simp[pexp,hf,hl];omega) hf.symm,hk⟩
  ·have hf:fin b n=false:=by simp[fin];omega
   refine(parts_no b n hn (by omega) w).mono ?_
   rintro e w' ⟨rfl,hk⟩
   exact⟨ret_parts (by simp[pneg,hf]) (by simp[pmag,hf]) (by simp[pexp,hf]) hf.symm,hk⟩
 ·have hf:fin b n=false:=by simp[fin];omega
  refine(parts_none b n (by rw[beq_eq_false_iff_ne];omega) (by rw[beq_eq_false_iff_ne];omega) w).mono ?_
  rintro e w' ⟨rfl,hk⟩
  exact⟨ret_parts (by simp[pneg,hf]) (by simp[pmag,hf]) (by simp[pexp,hf]) hf.symm,hk⟩
end Go.Proofs.YtnniljhdcplkgaaGreatDoor
