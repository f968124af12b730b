/-  -/
import Derived.Test.YtelbefihigkhjaaGreatDoorWm02
import Derived.Deep.RegionHeld
namespace Go.Proofs.YtelbefihigkhjaaGreatDoor
open Go.ChangeShapes Go.WideShapes Go.ChangeAt Go.RowKit
set_option maxHeartbeats 16000000
set_option maxRecDepth 100000
set_option linter.unusedVariables false
theorem yx {x v:World}{c:Array Value}{t:TypeId}(h:Kept (x.alloc (.cells c t)) v):Kept (x.alloc (.cells c t)) v.drew∧∀o,v.drew.cell? ⟨x.heap.size,o,none⟩=(x.alloc (.cells c t)).cell? ⟨x.heap.size,o,none⟩:=⟨h.drew,qe h.drew⟩
theorem qc5 {x v v':World}{c:Array Value}{t:TypeId}(h:Kept (x.alloc (.cells c t)) v∧∀o,v.cell? ⟨x.heap.size,o,none⟩=(x.alloc (.cells c t)).cell? ⟨x.heap.size,o,none⟩)(k:Kept v v'):Kept (x.alloc (.cells c t)) v'∧∀o,v'.cell? ⟨x.heap.size,o,none⟩=(x.alloc (.cells c t)).cell? ⟨x.heap.size,o,none⟩:=⟨h.1.trans k,qe (h.1.trans k)⟩
theorem Zf (p:Bool)(v r q:Int)(hr:bits .or .i64 v (-9223372036854775808)=r)(hq:(if p=true then r else v)=q)(w:World):Calls Tryz.prog 317 #[.agg #[.int .i64 (-9223372036854775808),.int .i64 9218868437227405312,.int .i64 9221120237041090561,.int .i64 52,.int .i64 (-1074)],.bool p,.int .i64 v] w fun e w'=>e=.returned (.int .i64 q)∧Kept w w':=by
 subst hq
 go_enter Tryz.func317,Tryz.ntmps317
 cases p
 ·go_wp2
  go_ret
  exact⟨rfl,(qlv _).alloc _ _⟩
 ·go_wp2
  go_ret
  exact⟨rfl,(qlv _).alloc _ _⟩
theorem ZV (p:Bool)(x e:Int)(k:Nat)(hx0:0<x)(hx1:x≤9223372036854775807)(he1:-2000≤e)(he2:e≤2000)(hk:k<64)(o:Int)(L:Nat)(ho0:0<o)(ho1:o≤9223372036854775807)(hL:L≤64)(hsh:x/2^k=o)
  (Kz:Hid (∀w:World,Tab w→Calls Tryz.prog 318 #[.int .u64 x] w fun e w'=>e=.returned (.int .i64 (k:Int))∧w=w'))
  (Kl:Hid (∀w:World,Calls Tryz.prog 284 #[.int .u64 (IntKind.u64.wrap o)] w fun e w'=>e=.returned (.int .i64 (L:Int))∧w=w')) (U:Int) (hu:min (53-(L:Int)) (e+(k:Int)+1074)=U) (hU:0≤U) (hU2:U≤64) (hs:2047≤e+(k:Int)-U+1074+1) (w:World) (hT:Tab w):Calls Tryz.prog 286 #[.bool p,.int .i64 x,.int .i64 e,.int .i64 64] w fun e w'=>e=.returned (.tuple #[.int .i64 0,.bool false])∧Kept w w':=by
 have HT:Hid (Tab w):=hT
 clear hT
 go_enter Tryz.func286,Tryz.ntmps286
 go_wp2_with fail
 refine(qQ _).mono ?_
 rintro e w1 ⟨rfl,hk1⟩
 go_wp2_with fail
 refine(Kz.out _ (HT.out.kept (hk1.alloc _ _))).mono ?_
 rintro e w2 ⟨rfl,rfl⟩
 go_wp2
 have hK:=qlv (w1.alloc (.cells #[.int .i64 (-9223372036854775808),.int .i64 9218868437227405312,.int .i64 9221120237041090561,.int .i64 52,.int .i64 (-1074)] 203))
 go_region_held (fun v=>Kept (w1.alloc (.cells #[.int .i64 (-9223372036854775808),.int .i64 9218868437227405312,.int .i64 9221120237041090561,.int .i64 52,.int .i64 (-1074)] 203)) v∧∀o,v.cell? ⟨w1.heap.size,o,none⟩=(w1.alloc (.cells #[.int .i64 (-9223372036854775808),.int .i64 9218868437227405312,.int .i64 9221120237041090561,.int .i64 52,.int .i64 (-1074)] 203)).cell? ⟨w1.heap.size,o,none⟩) (first|exact yx hK|assumption) (first|(go_at_call 284;refine(Kl.out _).mono ?_;rintro e w3 ⟨rfl,rfl⟩))
 go_wp2
 go_ret2
 exact⟨rfl,(hk1.alloc _ _).drew⟩
theorem Xa (p:Bool)(x e:Int)(k:Nat)(hx0:0<x)(hx1:x≤9223372036854775807)(he1:-2000≤e)(he2:e≤2000)(hk:k<64)(o:Int)(L:Nat)(ho0:0<o)(ho1:o≤9223372036854775807)(hL:L≤64)(hsh:x/2^k=o)
  (Kz:Hid (∀w:World,Tab w→Calls Tryz.prog 318 #[.int .u64 x] w fun e w'=>e=.returned (.int .i64 (k:Int))∧w=w'))
  (Kl:Hid (∀w:World,Calls Tryz.prog 284 #[.int .u64 (IntKind.u64.wrap o)] w fun e w'=>e=.returned (.int .i64 (L:Int))∧w=w')) (U:Nat) (hu:min (53-(L:Int)) (e+(k:Int)+1074)=(U:Int)) (hU2:U<64) (hs:e+(k:Int)-(U:Int)+1074+1<2047) (hs0:0≤e+(k:Int)-(U:Int)+1074) (v r:Int) (hv:0≤o*2^U) (hv2:o*2^U<2*4503599627370496) (hve:(e+(k:Int)-(U:Int)+1074)*4503599627370496+o*2^U=v) (hr:bits .or .i64 v (-9223372036854775808)=r) (q:Int) (hq0:(if p=true then r else v)=q) (w:World) (hT:Tab w):Calls Tryz.prog 286 #[.bool p,.int .i64 x,.int .i64 e,.int .i64 64] w fun e w'=>e=.returned (.tuple #[.int .i64 q,.bool true])∧Kept w w':=by
 have HQ:Hid ((if p=true then r else v)=q):=hq0
 clear hq0
 obtain⟨Q,hQ⟩:∃Q,Q=o*2^U:=⟨_,rfl⟩
 have HM:Hid (min (IntKind.i64.wrap (IntKind.i64.wrap 53-(L:Int))) (IntKind.i64.wrap (e+(k:Int)+1074))=(U:Int)):=by
  show min (IntKind.i64.wrap (IntKind.i64.wrap 53-(L:Int))) (IntKind.i64.wrap (e+(k:Int)+1074))=(U:Int)
  rw[qc,qc,qc]
  omega
 have HW:Hid (IntKind.i64.wrap (IntKind.i64.wrap ((e+(k:Int)-(U:Int)+1074)*4503599627370496)+IntKind.i64.wrap (o*2^U))=v):=by
  show IntKind.i64.wrap (IntKind.i64.wrap ((e+(k:Int)-(U:Int)+1074)*4503599627370496)+IntKind.i64.wrap (o*2^U))=v
  rw[←hQ]at hv hv2 hve ⊢
  rw[qc,qc,qc]
  omega
 clear hve hv hv2 hQ
 have HT:Hid (Tab w):=hT
 clear hT
 go_enter Tryz.func286,Tryz.ntmps286
 go_wp2_with fail
 refine(qQ _).mono ?_
 rintro e w1 ⟨rfl,hk1⟩
 go_wp2_with fail
 refine(Kz.out _ (HT.out.kept (hk1.alloc _ _))).mono ?_
 rintro e w2 ⟨rfl,rfl⟩
 go_wp2
 have hK:=qlv (w1.alloc (.cells #[.int .i64 (-9223372036854775808),.int .i64 9218868437227405312,.int .i64 9221120237041090561,.int .i64 52,.int .i64 (-1074)] 203))
 go_region_held (fun v=>Kept (w1.alloc (.cells #[.int .i64 (-9223372036854775808),.int .i64 9218868437227405312,.int .i64 9221120237041090561,.int .i64 52,.int .i64 (-1074)] 203)) v∧∀o,v.cell? ⟨w1.heap.size,o,none⟩=(w1.alloc (.cells #[.int .i64 (-9223372036854775808),.int .i64 9218868437227405312,.int .i64 9221120237041090561,.int .i64 52,.int .i64 (-1074)] 203)).cell? ⟨w1.heap.size,o,none⟩) (first|exact yx hK|assumption) (first|(go_at_call 284;refine(Kl.out _).mono ?_;rintro e w3 ⟨rfl,rfl⟩))
 go_wp2
 have hK2:=hK.drew
 rw[HM.out]
 go_region_held (fun v=>Kept (w1.alloc (.cells #[.int .i64 (-9223372036854775808),.int .i64 9218868437227405312,.int .i64 9221120237041090561,.int .i64 52,.int .i64 (-1074)] 203)) v∧∀o,v.cell? ⟨w1.heap.size,o,none⟩=(w1.alloc (.cells #[.int .i64 (-9223372036854775808),.int .i64 9218868437227405312,.int .i64 9221120237041090561,.int .i64 52,.int .i64 (-1074)] 203)).cell? ⟨w1.heap.size,o,none⟩) (first|exact yx hK2|(refine qc5 ?_ hk5;assumption)) (first|(go_at_call 317;rw[HW.out];refine(Zf p v r q hr HQ.out _).mono ?_;rintro e w5 ⟨rfl,hk5⟩))
 go_wp2
 go_ret2
 exact⟨rfl,(hk1.trans (((qlv _).alloc _ _).trans (And.left ‹_›)))⟩
theorem Zg (p:Bool)(v r q:Int)(hr:bits .or .i64 v 2147483648=r)(hq:(if p=true then r else v)=q)(w:World):Calls Tryz.prog 317 #[.agg #[.int .i64 2147483648,.int .i64 2139095040,.int .i64 2143289345,.int .i64 23,.int .i64 (-149)],.bool p,.int .i64 v] w fun e w'=>e=.returned (.int .i64 q)∧Kept w w':=by
 subst hq
 go_enter Tryz.func317,Tryz.ntmps317
 cases p
 ·go_wp2
  go_ret
  exact⟨rfl,(qlv _).alloc _ _⟩
 ·go_wp2
  go_ret
  exact⟨rfl,(qlv _).alloc _ _⟩
theorem ZW (p:Bool)(x e:Int)(k:Nat)(hx0:0<x)(hx1:x≤9223372036854775807)(he1:-2000≤e)(he2:e≤2000)(hk:k<64)(o:Int)(L:Nat)(ho0:0<o)(ho1:o≤9223372036854775807)(hL:L≤64)(hsh:x/2^k=o)
  (Kz:Hid (∀w:World,Tab w→Calls Tryz.prog 318 #[.int .u64 x] w fun e w'=>e=.returned (.int .i64 (k:Int))∧w=w'))
  (Kl:Hid (∀w:World,Calls Tryz.prog 284 #[.int .u64 (IntKind.u64.wrap o)] w fun e w'=>e=.returned (.int .i64 (L:Int))∧w=w')) (U:Int) (hu:min (24-(L:Int)) (e+(k:Int)+149)=U) (hU:0≤U) (hU2:U≤64) (hs:255≤e+(k:Int)-U+149+1) (w:World) (hT:Tab w):Calls Tryz.prog 286 #[.bool p,.int .i64 x,.int .i64 e,.int .i64 32] w fun e w'=>e=.returned (.tuple #[.int .i64 0,.bool false])∧Kept w w':=by
 have HT:Hid (Tab w):=hT
 clear hT
 go_enter Tryz.func286,Tryz.ntmps286
 go_wp2_with fail
 refine(qR _).mono ?_
 rintro e w1 ⟨rfl,hk1⟩
 go_wp2_with fail
 refine(Kz.out _ (HT.out.kept (hk1.alloc _ _))).mono ?_
 rintro e w2 ⟨rfl,rfl⟩
 go_wp2
 have hK:=qlv (w1.alloc (.cells #[.int .i64 2147483648,.int .i64 2139095040,.int .i64 2143289345,.int .i64 23,.int .i64 (-149)] 203))
 go_region_held (fun v=>Kept (w1.alloc (.cells #[.int .i64 2147483648,.int .i64 2139095040,.int .i64 2143289345,.int .i64 23,.int .i64 (-149)] 203)) v∧∀o,v.cell? ⟨w1.heap.size,o,none⟩=(w1.alloc (.cells #[.int .i64 2147483648,.int .i64 2139095040,.int .i64 2143289345,.int .i64 23,.int .i64 (-149)] 203)).cell? ⟨w1.heap.size,o,none⟩) (first|exact yx hK|assumption) (first|(go_at_call 284;refine(Kl.out _).mono ?_;rintro e w3 ⟨rfl,rfl⟩))
 go_wp2
 go_ret2
 exact⟨rfl,(hk1.alloc _ _).drew⟩
theorem Xb (p:Bool)(x e:Int)(k:Nat)(hx0:0<x)(hx1:x≤9223372036854775807)(he1:-2000≤e)(he2:e≤2000)(hk:k<64)(o:Int)(L:Nat)(ho0:0<o)(ho1:o≤9223372036854775807)(hL:L≤64)(hsh:x/2^k=o)
  (Kz:Hid (∀w:World,Tab w→Calls Tryz.prog 318 #[.int .u64 x] w fun e w'=>e=.returned (.int .i64 (k:Int))∧w=w'))
  (Kl:Hid (∀w:World,Calls Tryz.prog 284 #[.int .u64 (IntKind.u64.wrap o)] w fun e w'=>e=.returned (.int .i64 (L:Int))∧w=w')) (U:Nat) (hu:min (24-(L:Int)) (e+(k:Int)+149)=(U:Int)) (hU2:U<64) (hs:e+(k:Int)-(U:Int)+149+1<255) (hs0:0≤e+(k:Int)-(U:Int)+149) (v r:Int) (hv:0≤o*2^U) (hv2:o*2^U<2*8388608) (hve:(e+(k:Int)-(U:Int)+149)*8388608+o*2^U=v) (hr:bits .or .i64 v 2147483648=r) (q:Int) (hq0:(if p=true then r else v)=q) (w:World) (hT:Tab w):Calls Tryz.prog 286 #[.bool p,.int .i64 x,.int .i64 e,.int .i64 32] w fun e w'=>e=.returned (.tuple #[.int .i64 q,.bool true])∧Kept w w':=by
 have HQ:Hid ((if p=true then r else v)=q):=hq0
 clear hq0
 obtain⟨Q,hQ⟩:∃Q,Q=o*2^U:=⟨_,rfl⟩
 have HM:Hid (min (IntKind.i64.wrap (IntKind.i64.wrap 24-(L:Int))) (IntKind.i64.wrap (e+(k:Int)+149))=(U:Int)):=by
  show min (IntKind.i64.wrap (IntKind.i64.wrap 24-(L:Int))) (IntKind.i64.wrap (e+(k:Int)+149))=(U:Int)
  rw[qc,qc,qc]
  omega
 have HW:Hid (IntKind.i64.wrap (IntKind.i64.wrap ((e+(k:Int)-(U:Int)+149)*8388608)+IntKind.i64.wrap (o*2^U))=v):=by
  show IntKind.i64.wrap (IntKind.i64.wrap ((e+(k:Int)-(U:Int)+149)*8388608)+IntKind.i64.wrap (o*2^U))=v
  rw[←hQ]at hv hv2 hve ⊢
  rw[qc,qc,qc]
  omega
 clear hve hv hv2 hQ
 have HT:Hid (Tab w):=hT
 clear hT
 go_enter Tryz.func286,Tryz.ntmps286
 go_wp2_with fail
 refine(qR _).mono ?_
 rintro e w1 ⟨rfl,hk1⟩
 go_wp2_with fail
 refine(Kz.out _ (HT.out.kept (hk1.alloc _ _))).mono ?_
 rintro e w2 ⟨rfl,rfl⟩
 go_wp2
 have hK:=qlv (w1.alloc (.cells #[.int .i64 2147483648,.int .i64 2139095040,.int .i64 2143289345,.int .i64 23,.int .i64 (-149)] 203))
 go_region_held (fun v=>Kept (w1.alloc (.cells #[.int .i64 2147483648,.int .i64 2139095040,.int .i64 2143289345,.int .i64 23,.int .i64 (-149)] 203)) v∧∀o,v.cell? ⟨w1.heap.size,o,none⟩=(w1.alloc (.cells #[.int .i64 2147483648,.int .i64 2139095040,.int .i64 2143289345,.int .i64 23,.int .i64 (-149)] 203)).cell? ⟨w1.heap.size,o,none⟩) (first|exact yx hK|assumption) (first|(go_at_call 284;refine(Kl.out _).mono ?_;rintro e w3 ⟨rfl,rfl⟩))
 go_wp2
 have hK2:=hK.drew
 rw[HM.out]
 go_region_held (fun v=>Kept (w1.alloc (.cells #[.int .i64 2147483648,.int .i64 2139095040,.int .i64 2143289345,.int .i64 23,.int .i64 (-149)] 203)) v∧∀o,v.cell? ⟨w1.heap.size,o,none⟩=(w1.alloc (.cells #[.int .i64 2147483648,.int .i64 2139095040,.int .i64 2143289345,.int .i64 23,.int .i64 (-149)] 203)).cell? ⟨w1.heap.size,o,none⟩) (first|exact yx hK2|(refine qc5 ?_ hk5;assumption)) (first|(go_at_call 317;rw[HW.out];refine(Zg p v r q hr HQ.out _).mono ?_;rintro e w5 ⟨rfl,hk5⟩))
 go_wp2
 go_ret2
 exact⟨rfl,(hk1.trans (((qlv _).alloc _ _).trans (And.left ‹_›)))⟩
end Go.Proofs.YtelbefihigkhjaaGreatDoor

namespace Go.Proofs.YtelbefihigkhjaaGreatDoor
open Go.ChangeShapes Go.WideShapes Go.ChangeAt Go.RowKit
set_option maxHeartbeats 16000000
set_option maxRecDepth 100000
theorem qde (b n:Int)(hn:n=64∨n=32)(hc:3≤cls b n)(w:World):Calls Tryz.prog 245 #[.int .i64 b,.int .i64 n] w fun e w'=>e=.returned (.tuple #[.bool false,.int .i64 0,.int .i64 0,.bool false])∧Kept w w':=by
 rcases hn with rfl|rfl
 ·go_enter Tryz.func245,Tryz.ntmps245
  go_wp2_with (first|(go_at_call 161;refine(qQ _).mono ?_;rintro e w1 ⟨rfl,hk1⟩)|(go_at_call 83;refine(qZ _ _ _).mono ?_;rintro e w2 ⟨rfl,hk2⟩))
  exact qlu (v:=.tuple #[.bool false,.int .i64 0,.int .i64 0,.bool false]) (by simp[results,Tryz.results245,go_sem]) rfl ⟨rfl,(hk1.alloc _ _).trans hk2⟩
 ·go_enter Tryz.func245,Tryz.ntmps245
  go_wp2_with (first|(go_at_call 161;refine(qR _).mono ?_;rintro e w1 ⟨rfl,hk1⟩)|(go_at_call 83;refine(qZ _ _ _).mono ?_;rintro e w2 ⟨rfl,hk2⟩))
  exact qlu (v:=.tuple #[.bool false,.int .i64 0,.int .i64 0,.bool false]) (by simp[results,Tryz.results245,go_sem]) rfl ⟨rfl,(hk1.alloc _ _).trans hk2⟩
theorem VC (b n:Int)(h1:(n==32)=false)(h2:(n==64)=false)(w:World):Calls Tryz.prog 245 #[.int .i64 b,.int .i64 n] w fun e w'=>e=.returned (.tuple #[.bool false,.int .i64 0,.int .i64 0,.bool false])∧Kept w w':=by
 go_enter Tryz.func245,Tryz.ntmps245
 go_wp2_with (first|(go_at_call 161;refine(vD _ h1 h2 _).mono ?_;rintro e w1 ⟨rfl,hk1⟩)|(go_at_call 83;refine(qZ _ _ _).mono ?_;rintro e w2 ⟨rfl,hk2⟩))
 exact qlu (v:=.tuple #[.bool false,.int .i64 0,.int .i64 0,.bool false]) (by simp[results,Tryz.results245,go_sem]) rfl ⟨rfl,(hk1.alloc _ _)⟩
theorem Z2 (b s g:Int)(hs:bits .andNot .i64 b (-9223372036854775808)=s)(hg:bits .and .i64 b (-9223372036854775808)=g)(hc:cls b 64<3)(hl:s<4503599627370496)(w:World):Calls Tryz.prog 245 #[.int .i64 b,.int .i64 64] w fun e w'=>e=.returned (.tuple #[.bool (g != 0),.int .i64 s,.int .i64 (-1074),.bool true])∧Kept w w':=by
 go_enter Tryz.func245,Tryz.ntmps245
 go_wp2_with (first|(go_at_call 161;refine(qQ _).mono ?_;rintro e w1 ⟨rfl,hk1⟩)|(go_at_call 83;refine(qZ _ _ _).mono ?_;rintro e w2 ⟨rfl,hk2⟩))
 have hcl:=qe hk2
 go_quiet (fail)
 go_wp2
 go_quiet (fail)
 go_wp2
 exact qlu (v:=.tuple #[.bool (g != 0),.int .i64 s,.int .i64 (-1074),.bool true]) (by simp[results,Tryz.results245,go_sem]) rfl ⟨rfl,(((hk1.alloc _ _).trans hk2).drewN _).drewN _⟩
theorem Z3 (b s g m k:Int)(hs:bits .andNot .i64 b (-9223372036854775808)=s)(hg:bits .and .i64 b (-9223372036854775808)=g)(hm:bits .and .i64 s 4503599627370495=m)(hk:bits .or .i64 m 4503599627370496=k)(hc:cls b 64<3)(hl:¬s<4503599627370496)(hu:s≤9223372036854775807)(w:World):Calls Tryz.prog 245 #[.int .i64 b,.int .i64 64] w fun e w'=>e=.returned (.tuple #[.bool (g != 0),.int .i64 k,.int .i64 (-1074+s/4503599627370496-1),.bool true])∧Kept w w':=by
 go_enter Tryz.func245,Tryz.ntmps245
 go_wp2_with (first|(go_at_call 161;refine(qQ _).mono ?_;rintro e w1 ⟨rfl,hk1⟩)|(go_at_call 83;refine(qZ _ _ _).mono ?_;rintro e w2 ⟨rfl,hk2⟩))
 have hcl:=qe hk2
 go_quiet (fail)
 go_wp2
 go_quiet (fail)
 go_wp2
 exact qlu (v:=.tuple #[.bool (g != 0),.int .i64 k,.int .i64 (-1074+s/4503599627370496-1),.bool true]) (by simp[results,Tryz.results245,go_sem]) rfl ⟨rfl,(((hk1.alloc _ _).trans hk2).drewN _).drewN _⟩
theorem Z4 (b s g:Int)(hs:bits .andNot .i64 b 2147483648=s)(hg:bits .and .i64 b 2147483648=g)(hc:cls b 32<3)(hl:s<8388608)(w:World):Calls Tryz.prog 245 #[.int .i64 b,.int .i64 32] w fun e w'=>e=.returned (.tuple #[.bool (g != 0),.int .i64 s,.int .i64 (-149),.bool true])∧Kept w w':=by
 go_enter Tryz.func245,Tryz.ntmps245
 go_wp2_with (first|(go_at_call 161;refine(qR _).mono ?_;rintro e w1 ⟨rfl,hk1⟩)|(go_at_call 83;refine(qZ _ _ _).mono ?_;rintro e w2 ⟨rfl,hk2⟩))
 have hcl:=qe hk2
 go_quiet (fail)
 go_wp2
 go_quiet (fail)
 go_wp2
 exact qlu (v:=.tuple #[.bool (g != 0),.int .i64 s,.int .i64 (-149),.bool true]) (by simp[results,Tryz.results245,go_sem]) rfl ⟨rfl,(((hk1.alloc _ _).trans hk2).drewN _).drewN _⟩
theorem Z5 (b s g m k:Int)(hs:bits .andNot .i64 b 2147483648=s)(hg:bits .and .i64 b 2147483648=g)(hm:bits .and .i64 s 8388607=m)(hk:bits .or .i64 m 8388608=k)(hc:cls b 32<3)(hl:¬s<8388608)(hu:s≤9223372036854775807)(w:World):Calls Tryz.prog 245 #[.int .i64 b,.int .i64 32] w fun e w'=>e=.returned (.tuple #[.bool (g != 0),.int .i64 k,.int .i64 (-149+s/8388608-1),.bool true])∧Kept w w':=by
 go_enter Tryz.func245,Tryz.ntmps245
 go_wp2_with (first|(go_at_call 161;refine(qR _).mono ?_;rintro e w1 ⟨rfl,hk1⟩)|(go_at_call 83;refine(qZ _ _ _).mono ?_;rintro e w2 ⟨rfl,hk2⟩))
 have hcl:=qe hk2
 go_quiet (fail)
 go_wp2
 go_quiet (fail)
 go_wp2
 exact qlu (v:=.tuple #[.bool (g != 0),.int .i64 k,.int .i64 (-149+s/8388608-1),.bool true]) (by simp[results,Tryz.results245,go_sem]) rfl ⟨rfl,(((hk1.alloc _ _).trans hk2).drewN _).drewN _⟩
theorem qK {p q p' q':Bool}{a c a' c':Int}(h1:p=p')(h2:a=a')(h3:c=c')(h4:q=q'):Ending.returned (.tuple #[.bool p,.int .i64 a,.int .i64 c,.bool q])=.returned (.tuple #[.bool p',.int .i64 a',.int .i64 c',.bool q']):=by rw[h1,h2,h3,h4]
theorem qdf (b:Int)(h1:-9223372036854775808≤b)(h2:b≤9223372036854775807):(bits .and .i64 b (-9223372036854775808) != 0)=sgn b 64:=by
 rw[ZX b h1 h2]
 unfold sgn
 rw[if_pos rfl]
 by_cases h:b<0<;>simp[h]
theorem qdg (b:Int)(h1:0≤b)(h2:b<4294967296):(bits .and .i64 b 2147483648 != 0)=sgn b 32:=by
 have e:sgn b 32=decide (2147483648≤b):=by simp[sgn]
 rw[qc8 b h1 h2,e]
 by_cases h:b<2147483648
 ·rw[if_pos h,qlo (by omega)];rfl
 ·rw[if_neg h,qln (by omega)];rfl
theorem qad (b n:Int)(hb1:-9223372036854775808≤b)(hb2:b≤9223372036854775807)(w:World):Calls Tryz.prog 245 #[.int .i64 b,.int .i64 n] w fun e w'=>e=.returned (.tuple #[.bool (qT b n),.int .i64 (qx b n),.int .i64 (qE b n),.bool (fin b n)])∧Kept w w':=by
 by_cases hn:n=64∨n=32
 ·by_cases hc:cls b n<3
  ·have hf:fin b n=true:=by simp[fin,hn,hc]
   rcases hn with rfl|rfl
   ·by_cases hl:b%9223372036854775808<4503599627370496
    ·refine(Z2 b _ _ (vG b) rfl hc hl w).mono ?_
     rintro e w' ⟨rfl,hk⟩
     exact⟨qK (by rw[qdf b hb1 hb2];simp[qT,hf]) (by simp[qx,hf,hl]) (by simp[qE,hf,hl]) hf.symm,hk⟩
    ·refine(Z3 b _ _ _ _ (vG b) rfl (qgg _) (qkg _ (by omega) (by omega)) hc hl (by omega) w).mono ?_
     rintro e w' ⟨rfl,hk⟩
     exact⟨qK (by rw[qdf b hb1 hb2];simp[qT,hf]) (by simp only[qx,hf,if_true,hl,if_false]) (by simp only[qE,hf,if_true,hl,if_false];omega) hf.symm,hk⟩
   ·have hv:=zd b (by omega)
    by_cases hl:b%2147483648<8388608
    ·refine(Z4 b _ _ (yy b hv.1 hv.2) rfl hc hl w).mono ?_
     rintro e w' ⟨rfl,hk⟩
     exact⟨qK (by rw[qdg b hv.1 hv.2];simp[qT,hf]) (by simp[qx,hf,hl]) (by simp[qE,hf,hl]) hf.symm,hk⟩
    ·refine(Z5 b _ _ _ _ (yy b hv.1 hv.2) rfl (qgh _) (qkh _ (by omega) (by omega)) hc hl (by omega) w).mono ?_
     rintro e w' ⟨rfl,hk⟩
     exact⟨qK (by rw[qdg b hv.1 hv.2];simp[qT,hf]) (by simp[qx,hf,hl]) (by simp[qE,hf,hl];omega) hf.symm,hk⟩
  ·have hf:fin b n=false:=by simp[fin];omega
   refine(qde b n hn (by omega) w).mono ?_
   rintro e w' ⟨rfl,hk⟩
   exact⟨qK (by simp[qT,hf]) (by simp[qx,hf]) (by simp[qE,hf]) hf.symm,hk⟩
 ·have hf:fin b n=false:=by simp[fin];omega
  refine(VC b n (by rw[beq_eq_false_iff_ne];omega) (by rw[beq_eq_false_iff_ne];omega) w).mono ?_
  rintro e w' ⟨rfl,hk⟩
  exact⟨qK (by simp[qT,hf]) (by simp[qx,hf]) (by simp[qE,hf]) hf.symm,hk⟩
end Go.Proofs.YtelbefihigkhjaaGreatDoor

namespace Go.Proofs.YtelbefihigkhjaaGreatDoor
open Go.ChangeShapes Go.WideShapes Go.ChangeAt Go.RowKit
set_option maxHeartbeats 16000000
set_option maxRecDepth 100000
set_option linter.unusedVariables false
theorem qi0 (v:Int)(h0:0≤v)(h1:v<9223372036854775808):bits .or .i64 v (-9223372036854775808)=v-9223372036854775808:=by
 have e:(BitVec.ofInt 64 (-9223372036854775808):BitVec 64).toNat=2^63*1:=by decide
 have h:=qr v
 rw[vX,BitVec.toNat_or,e,Nat.or_comm,←Nat.two_pow_add_eq_or_of_lt (by omega),qc]
 omega
theorem qkf (v:Int)(h0:0≤v)(h1:v<2147483648):bits .or .i64 v 2147483648=v+2147483648:=by
 have e:(BitVec.ofInt 64 2147483648:BitVec 64).toNat=2^31*1:=by decide
 have h:=qr v
 rw[vX,BitVec.toNat_or,e,Nat.or_comm,←Nat.two_pow_add_eq_or_of_lt (by omega),qc]
 omega
theorem ZR (p:Bool)(e:Int)(w:World):Calls Tryz.prog 286 #[.bool p,.int .i64 0,.int .i64 e,.int .i64 64] w fun e w'=>e=.returned (.tuple #[.int .i64 (if p=true then -9223372036854775808 else 0),.bool true])∧Kept w w':=by
 obtain⟨q,hq⟩:∃q:Int,(if p=true then -9223372036854775808 else 0)=q:=⟨_,rfl⟩
 have hr:bits .or .i64 0 (-9223372036854775808)=-9223372036854775808:=by decide
 rw[hq]
 have HR:Hid (bits .or .i64 0 (-9223372036854775808)=-9223372036854775808):=hr
 have HQ:Hid ((if p=true then (-9223372036854775808:Int)else 0)=q):=hq
 clear hr hq
 go_enter Tryz.func286,Tryz.ntmps286
 go_wp2_with (first|(go_at_call 161;refine(qQ _).mono ?_;rintro e w1 ⟨rfl,hk1⟩)|(go_at_call 317;refine(Zf p 0 _ q HR.out HQ.out _).mono ?_;rintro e w2 ⟨rfl,hk2⟩))
 go_ret2
 exact⟨rfl,(hk1.alloc _ _).trans hk2⟩
theorem ZS (p:Bool)(e:Int)(w:World):Calls Tryz.prog 286 #[.bool p,.int .i64 0,.int .i64 e,.int .i64 32] w fun e w'=>e=.returned (.tuple #[.int .i64 (if p=true then 2147483648 else 0),.bool true])∧Kept w w':=by
 obtain⟨q,hq⟩:∃q:Int,(if p=true then 2147483648 else 0)=q:=⟨_,rfl⟩
 have hr:bits .or .i64 0 2147483648=2147483648:=by decide
 rw[hq]
 have HR:Hid (bits .or .i64 0 2147483648=2147483648):=hr
 have HQ:Hid ((if p=true then (2147483648:Int)else 0)=q):=hq
 clear hr hq
 go_enter Tryz.func286,Tryz.ntmps286
 go_wp2_with (first|(go_at_call 161;refine(qR _).mono ?_;rintro e w1 ⟨rfl,hk1⟩)|(go_at_call 317;refine(Zg p 0 _ q HR.out HQ.out _).mono ?_;rintro e w2 ⟨rfl,hk2⟩))
 go_ret2
 exact⟨rfl,(hk1.alloc _ _).trans hk2⟩
theorem ZT (f x:Nat):Lib.bitLenAux f x≤f:=by
 induction f generalizing x with
 |zero=>simp[Lib.bitLenAux]
 |succ f ih=>
  unfold Lib.bitLenAux
  split
  ·omega
  ·have:=ih (x/2);omega
theorem x9 (f x:Nat)(hf:f≤64)(h:x<2^f):Lib.bitLen x≤f:=by
 unfold Lib.bitLen
 rw[Lib.bitLenAux_fuel f x h 64 hf]
 exact ZT f x
theorem jw (f x:Nat)(hf:f<64)(h1:2^f≤x)(h2:x<2^(f+1)):Lib.bitLen x=f+1:=by
 have hx:x<2^64:=qlf h2 (qlh (by decide) (by omega))
 rw[Lib.bitLen_shift f x h1 hx]
 have:x/2^f=1:=by
  apply Nat.div_eq_of_lt_le
  ·omega
  ·rw[qlq]at h2;omega
 rw[this]
 rfl
theorem vW (m:Nat)(h0:m≠0)(h:m<2^64):Lib.ctz 64 m<64∧m=m/2^Lib.ctz 64 m*2^Lib.ctz 64 m∧m/2^Lib.ctz 64 m%2=1∧Lib.bitLen m=Lib.ctz 64 m+Lib.bitLen (m/2^Lib.ctz 64 m):=by
 have e:Lib.ctz 64 m=Lib.ctzFrom 64 m:=by unfold Lib.ctz;rw[if_neg h0]
 obtain⟨j,hj,hk⟩:=Lib.ctzFrom_spec 64 m (by omega) h
 rw[←e]at hj hk
 generalize Lib.ctz 64 m=k at *
 have hp:0<2^k:=qle _
 have hd:m/2^k=2*j+1:=by
  rw[hj]
  exact Nat.mul_div_cancel_left _ hp
 refine⟨hk,?_,by rw[hd];omega,?_⟩
 ·rw[hd,qll];exact hj
 ·refine Lib.bitLen_shift _ m ?_ h
  rw[hj]
  exact Nat.le_mul_of_pos_right _ (by omega)
end Go.Proofs.YtelbefihigkhjaaGreatDoor
namespace Go.Proofs.YtelbefihigkhjaaGreatDoor
open Go.ChangeShapes Go.WideShapes Go.ChangeAt Go.RowKit
set_option maxHeartbeats 16000000
set_option maxRecDepth 100000
set_option linter.unusedVariables false
theorem qc4 (o:Int)(h0:0≤o)(h1:o≤9223372036854775807):IntKind.u64.wrap o=o:=by
 rw[IntKind.wrap_u64];omega
theorem Qh (x:Int)(h0:0<x)(h1:x≤9223372036854775807)(w:World)(hT:Tab w):Calls Tryz.prog 318 #[.int .u64 x] w fun e w'=>e=.returned (.int .i64 ((Lib.ctz 64 x.toNat:Nat):Int))∧w=w':=by
 have h:=tz x.toNat (by omega) (by omega) w hT
 rw[Int.toNat_of_nonneg (by omega)]at h
 exact h
theorem ZU (o:Int)(h0:0≤o)(h1:o≤9223372036854775807)(w:World):Calls Tryz.prog 284 #[.int .u64 (IntKind.u64.wrap o)] w fun e w'=>e=.returned (.int .i64 ((Lib.bitLen o.toNat:Nat):Int))∧w=w':=by
 rw[qc4 o h0 h1]
 exact len o w h0 (by omega)
theorem Yz (x:Int)(h0:0<x)(h1:x≤9223372036854775807):∃k:Nat,∃L:Nat,∃o:Int,k=Lib.ctz 64 x.toNat∧L=Lib.bitLen o.toNat∧x/2^k=o∧x=o*2^k∧k<64∧0<o∧o≤9223372036854775807∧Lib.bitLen x.toNat=k+L∧L≤64:=by
 obtain⟨a1,a2,a3,a4⟩:=vW x.toNat (by omega) (by omega)
 obtain⟨k,hk⟩:∃k,k=Lib.ctz 64 x.toNat:=⟨_,rfl⟩
 rw[←hk]at a1 a2 a3 a4
 obtain⟨o,ho⟩:∃o,o=x.toNat/2^k:=⟨_,rfl⟩
 rw[←ho]at a2 a3 a4
 have hx:x=((o*2^k:Nat):Int):=by rw[←a2];omega
 have hp:(0:Nat)<2^k:=qle k
 have hle:o≤o*2^k:=Nat.le_mul_of_pos_right _ hp
 have ho1:o<2^64:=by omega
 refine⟨k,Lib.bitLen o,(o:Int),hk,by simp,?_,?_,a1,by omega,by omega,a4,x9 64 o (by decide) ho1⟩
 ·rw[hx,Int.natCast_mul,Int.natCast_pow]
  exact Int.mul_ediv_cancel _ (Int.ne_of_gt (by exact_mod_cast hp))
 ·rw[hx,Int.natCast_mul,Int.natCast_pow]
  rfl
end Go.Proofs.YtelbefihigkhjaaGreatDoor
namespace Go.Proofs.YtelbefihigkhjaaGreatDoor
open Go.ChangeShapes Go.WideShapes Go.ChangeAt Go.RowKit
set_option maxHeartbeats 16000000
set_option maxRecDepth 100000
set_option linter.unusedVariables false
set_option linter.unusedSimpArgs false
theorem J8 (p:Bool)(x e:Int)(hx0:0<x)(he:2000<e)(w:World):Calls Tryz.prog 286 #[.bool p,.int .i64 x,.int .i64 e,.int .i64 64] w fun e w'=>e=.returned (.tuple #[.int .i64 0,.bool false])∧Kept w w':=by
 go_enter Tryz.func286,Tryz.ntmps286
 go_wp2_with fail
 refine(qQ _).mono ?_
 rintro e w1 ⟨rfl,hk1⟩
 go_wp2
 go_ret2
 exact⟨rfl,(hk1.alloc _ _)⟩
theorem Qi (M E:Int)(h0:0<M)(h1:M≤9007199254740992)(hE:-1074≤E)(hk:E=-1074∨4503599627370496≤M):∃k:Nat,∃L:Nat,∃o:Int,∃U:Nat,k=Lib.ctz 64 M.toNat∧L=Lib.bitLen o.toNat∧M/2^k=o∧k<64∧0<o∧o≤9223372036854775807∧L≤64∧min (53-(L:Int)) (E+(k:Int)+1074)=(U:Int)∧U<64∧(0≤E+(k:Int)-(U:Int)+1074)∧(E+(k:Int)-(U:Int)+1074)*4503599627370496+o*2^U=(E+1074)*4503599627370496+M∧0≤o*2^U∧o*2^U<2*4503599627370496∧(E+(k:Int)-(U:Int)+1074+1<2047↔(E+1074)*4503599627370496+M<9218868437227405312):=by
 by_cases ht:M=9007199254740992
 ·subst ht
  refine⟨53,1,1,52,by decide+kernel,by decide+kernel,by decide,by decide,by decide,by decide,by decide,?_,by decide,by omega,?_,by decide,by decide,by omega⟩
  ·omega
  ·have:(1:Int)*2^52=4503599627370496:=by decide
   rw[this];omega
 ·obtain⟨k,L,o,hk',hL,hdiv,hxo,hk64,ho0,ho1,hlen,hL64⟩:=Yz M (by omega) (by omega)
  have hU:min (53-(L:Int)) (E+(k:Int)+1074)=(k:Int):=by
   by_cases hs:M<4503599627370496
   ·have:=x9 52 M.toNat (by decide) (by omega)
    omega
   ·have:=jw 52 M.toNat (by decide) (by omega) (by omega)
    omega
  refine⟨k,L,o,k,hk',hL,hdiv,hk64,ho0,ho1,hL64,hU,hk64,by omega,by rw[←hxo];omega,by rw[←hxo];omega,by rw[←hxo];omega,?_⟩
  omega
theorem qaa (p:Bool)(M E R q:Int)(h0:0≤M)(h1:M≤9007199254740992)(hE:-1074≤E)(hk:E=-1074∨4503599627370496≤M)(hR:(E+1074)*4503599627370496+M=R)(hlt:R<9218868437227405312)(hq:(if p=true then R-9223372036854775808 else R)=q)(w:World)(hT:Tab w):Calls Tryz.prog 286 #[.bool p,.int .i64 M,.int .i64 E,.int .i64 64] w fun e w'=>e=.returned (.tuple #[.int .i64 q,.bool true])∧Kept w w':=by
 by_cases hz:M=0
 ·subst hz
  have hR0:R=0:=by omega
  refine(ZR p E w).mono ?_
  rintro e w' ⟨rfl,hk⟩
  refine⟨?_,hk⟩
  rw[←hq,hR0]
  cases p<;>rfl
 ·obtain⟨k,L,o,U,hk',hL,hdiv,hk64,ho0,ho1,hL64,hU,hU64,hs0,hv,hv0,hv2,hiff⟩:=Qi M E (by omega) h1 hE hk
  have hs:=hiff.2 (by omega)
  refine Xa p M E k (by omega) (by omega) (by omega) (by omega) hk64 o L ho0 ho1 hL64 hdiv ?_ ?_ U hU hU64 hs hs0 R (R-9223372036854775808) hv0 hv2 (by rw[hv,hR]) (qi0 _ (by omega) (by omega)) q hq w hT
  ·intro w hT
   rw[hk']
   exact Qh M (by omega) (by omega) w hT
  ·intro w
   rw[hL]
   exact ZU o (by omega) ho1 w
theorem Vw (p:Bool)(M E R:Int)(h0:0≤M)(h1:M≤9007199254740992)(hE:-1074≤E)(hk:E=-1074∨4503599627370496≤M)(hR:(E+1074)*4503599627370496+M=R)(hlt:9218868437227405312≤R)(w:World)(hT:Tab w):Calls Tryz.prog 286 #[.bool p,.int .i64 M,.int .i64 E,.int .i64 64] w fun e w'=>e=.returned (.tuple #[.int .i64 0,.bool false])∧Kept w w':=by
 by_cases hf:2000<E
 ·exact J8 p M E (by omega) hf w
 ·obtain⟨k,L,o,U,hk',hL,hdiv,hk64,ho0,ho1,hL64,hU,hU64,hs0,hv,hv0,hv2,hiff⟩:=Qi M E (by omega) h1 hE hk
  refine ZV p M E k (by omega) (by omega) (by omega) (by omega) hk64 o L ho0 ho1 hL64 hdiv ?_ ?_ (U:Int) hU (by omega) (by omega) (by omega) w hT
  ·intro w hT
   rw[hk']
   exact Qh M (by omega) (by omega) w hT
  ·intro w
   rw[hL]
   exact ZU o (by omega) ho1 w
theorem J9 (p:Bool)(x e:Int)(hx0:0<x)(he:2000<e)(w:World):Calls Tryz.prog 286 #[.bool p,.int .i64 x,.int .i64 e,.int .i64 32] w fun e w'=>e=.returned (.tuple #[.int .i64 0,.bool false])∧Kept w w':=by
 go_enter Tryz.func286,Tryz.ntmps286
 go_wp2_with fail
 refine(qR _).mono ?_
 rintro e w1 ⟨rfl,hk1⟩
 go_wp2
 go_ret2
 exact⟨rfl,(hk1.alloc _ _)⟩
theorem Qj (M E:Int)(h0:0<M)(h1:M≤16777216)(hE:-149≤E)(hk:E=-149∨8388608≤M):∃k:Nat,∃L:Nat,∃o:Int,∃U:Nat,k=Lib.ctz 64 M.toNat∧L=Lib.bitLen o.toNat∧M/2^k=o∧k<64∧0<o∧o≤9223372036854775807∧L≤64∧min (24-(L:Int)) (E+(k:Int)+149)=(U:Int)∧U<64∧(0≤E+(k:Int)-(U:Int)+149)∧(E+(k:Int)-(U:Int)+149)*8388608+o*2^U=(E+149)*8388608+M∧0≤o*2^U∧o*2^U<2*8388608∧(E+(k:Int)-(U:Int)+149+1<255↔(E+149)*8388608+M<2139095040):=by
 by_cases ht:M=16777216
 ·subst ht
  refine⟨24,1,1,23,by decide+kernel,by decide+kernel,by decide,by decide,by decide,by decide,by decide,?_,by decide,by omega,?_,by decide,by decide,by omega⟩
  ·omega
  ·have:(1:Int)*2^23=8388608:=by decide
   rw[this];omega
 ·obtain⟨k,L,o,hk',hL,hdiv,hxo,hk64,ho0,ho1,hlen,hL64⟩:=Yz M (by omega) (by omega)
  have hU:min (24-(L:Int)) (E+(k:Int)+149)=(k:Int):=by
   by_cases hs:M<8388608
   ·have:=x9 23 M.toNat (by decide) (by omega)
    omega
   ·have:=jw 23 M.toNat (by decide) (by omega) (by omega)
    omega
  refine⟨k,L,o,k,hk',hL,hdiv,hk64,ho0,ho1,hL64,hU,hk64,by omega,by rw[←hxo];omega,by rw[←hxo];omega,by rw[←hxo];omega,?_⟩
  omega
theorem qab (p:Bool)(M E R q:Int)(h0:0≤M)(h1:M≤16777216)(hE:-149≤E)(hk:E=-149∨8388608≤M)(hR:(E+149)*8388608+M=R)(hlt:R<2139095040)(hq:(if p=true then R+2147483648 else R)=q)(w:World)(hT:Tab w):Calls Tryz.prog 286 #[.bool p,.int .i64 M,.int .i64 E,.int .i64 32] w fun e w'=>e=.returned (.tuple #[.int .i64 q,.bool true])∧Kept w w':=by
 by_cases hz:M=0
 ·subst hz
  have hR0:R=0:=by omega
  refine(ZS p E w).mono ?_
  rintro e w' ⟨rfl,hk⟩
  refine⟨?_,hk⟩
  rw[←hq,hR0]
  cases p<;>rfl
 ·obtain⟨k,L,o,U,hk',hL,hdiv,hk64,ho0,ho1,hL64,hU,hU64,hs0,hv,hv0,hv2,hiff⟩:=Qj M E (by omega) h1 hE hk
  have hs:=hiff.2 (by omega)
  refine Xb p M E k (by omega) (by omega) (by omega) (by omega) hk64 o L ho0 ho1 hL64 hdiv ?_ ?_ U hU hU64 hs hs0 R (R+2147483648) hv0 hv2 (by rw[hv,hR]) (qkf _ (by omega) (by omega)) q hq w hT
  ·intro w hT
   rw[hk']
   exact Qh M (by omega) (by omega) w hT
  ·intro w
   rw[hL]
   exact ZU o (by omega) ho1 w
theorem Vx (p:Bool)(M E R:Int)(h0:0≤M)(h1:M≤16777216)(hE:-149≤E)(hk:E=-149∨8388608≤M)(hR:(E+149)*8388608+M=R)(hlt:2139095040≤R)(w:World)(hT:Tab w):Calls Tryz.prog 286 #[.bool p,.int .i64 M,.int .i64 E,.int .i64 32] w fun e w'=>e=.returned (.tuple #[.int .i64 0,.bool false])∧Kept w w':=by
 by_cases hf:2000<E
 ·exact J9 p M E (by omega) hf w
 ·obtain⟨k,L,o,U,hk',hL,hdiv,hk64,ho0,ho1,hL64,hU,hU64,hs0,hv,hv0,hv2,hiff⟩:=Qj M E (by omega) h1 hE hk
  refine ZW p M E k (by omega) (by omega) (by omega) (by omega) hk64 o L ho0 ho1 hL64 hdiv ?_ ?_ (U:Int) hU (by omega) (by omega) (by omega) w hT
  ·intro w hT
   rw[hk']
   exact Qh M (by omega) (by omega) w hT
  ·intro w
   rw[hL]
   exact ZU o (by omega) ho1 w
end Go.Proofs.YtelbefihigkhjaaGreatDoor
