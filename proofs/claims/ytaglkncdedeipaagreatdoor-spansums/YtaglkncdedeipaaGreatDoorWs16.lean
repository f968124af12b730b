/-  -/
import Derived.Test.YtaglkncdedeipaaGreatDoorWs15
import Derived.Test.YtaglkncdedeipaaGreatDoorWs08
import Derived.Test.YtaglkncdedeipaaGreatDoorWs02
import Derived.Test.YtaglkncdedeipaaGreatDoorWs10
namespace Go.Proofs.YtaglkncdedeipaaGreatDoor
open Go.ChangeShapes Go.WideShapes Go.ChangeAt Go.RowKit
set_option linter.unusedVariables false
set_option linter.unusedSimpArgs false
set_option maxHeartbeats 16000000
set_option maxRecDepth 100000
theorem YM (w:World):Calls Tryz.prog 142 #[.int .i64 32] w fun e w'=>e=.returned (.tuple #[.agg #[.int .i64 32,.int .i64 24,.int .i64 (-149),.int .i64 2139095040],.bool true])∧Kept w w':=by
 go_enter Tryz.func142,Tryz.ntmps142
 go_wp2
 exact qh9 (v:=.tuple #[.agg #[.int .i64 32,.int .i64 24,.int .i64 (-149),.int .i64 2139095040],.bool true]) (by simp[results,Tryz.results142,go_sem]) rfl ⟨rfl,(qia _).alloc _ _⟩
def qF (n:Int):Int:=if n=64 then 53 else 24
def qi (n:Int):Int:=if n=64 then -1074 else -149
def zV (n:Int):Int:=if n=64 then 9218868437227405312 else 2139095040
theorem xC (n:Int)(hn:n=64∨n=32)(w:World):Calls Tryz.prog 142 #[.int .i64 n] w fun e w'=>e=.returned (.tuple #[.agg #[.int .i64 n,.int .i64 (qF n),.int .i64 (qi n),.int .i64 (zV n)],.bool true])∧Kept w w':=by
 rcases hn with rfl|rfl
 ·exact YK w
 ·exact YM w
theorem Jz (a b c:Value)(w:World):(Instr.index 182 (.agg #[a,b,c]) (.int .i64 1)).run Tryz.prog w=.ok (.agg #[b]) w:=by
 kernel_rfl
theorem JA (a b c:Value)(w:World):(Instr.index 182 (.agg #[a,b,c]) (.int .i64 2)).run Tryz.prog w=.ok (.agg #[c]) w:=by
 kernel_rfl
theorem Zr (n pr le fi:Int)(KK:Hid (∀u,Calls Tryz.prog 142 #[.int .i64 n] u fun e w'=>e=.returned (.tuple #[.agg #[.int .i64 n,.int .i64 pr,.int .i64 le,.int .i64 fi],.bool true])∧Kept u w'))(given:Value)(w:World)(KV:Hid (∀w',Kept w w'→Calls Tryz.prog 137 #[given] w' fun e w''=>e=.returned (.bool true)∧Kept w' w'')):Calls Tryz.prog 112 #[.int .i64 n,.int .i64 0,given] w fun e w'=>e=.returned (.tuple #[.agg #[.int .i64 n,.int .i64 pr,.int .i64 le,.int .i64 fi,.func (.func 162) #[] #[]],.int .i64 0])∧Kept w w':=by
 have hK:Kept w (w.alloc jF):=(qia w).alloc _ _
 have hidx:=XV (.func (.func 162) #[] #[]) (.func (.func 163) #[] #[]) (.func (.func 164) #[] #[])
 go_enter Tryz.func112,Tryz.ntmps112
 go_wp2_with (first|(go_at_call 142;refine(KK.out _).mono ?_;rintro e w1 ⟨rfl,hk1⟩)|(go_at_call 137;refine(KV.out _ (hK.trans (hk1.alloc _ _))).mono ?_;rintro e w2 ⟨rfl,hk2⟩))
 have hkk:=hk1.alloc #[.int .i64 n,.int .i64 pr,.int .i64 le,.int .i64 fi] 144
 have hsz:w.heap.size+1≤w1.heap.size:=by have:=hk1.below.size;simpa using this
 have hne:¬w1.heap.size=w.heap.size:=by omega
 have HS:Hid (∀u,Kept (w1.alloc (.cells #[.int .i64 n,.int .i64 pr,.int .i64 le,.int .i64 fi] 144)) u→u.cell? ⟨w1.heap.size,0,none⟩=some (.int .i64 n)∧u.cell? ⟨w1.heap.size,1,none⟩=some (.int .i64 pr)∧u.cell? ⟨w1.heap.size,2,none⟩=some (.int .i64 le)∧u.cell? ⟨w1.heap.size,3,none⟩=some (.int .i64 fi)):=fun u k=>⟨(qg k 0).trans (by simp[go_sem]),(qg k 1).trans (by simp[go_sem]),(qg k 2).trans (by simp[go_sem]),(qg k 3).trans (by simp[go_sem])⟩
 have HR:Hid (∀u,Kept (w.alloc jF) u→(u.cell? ⟨w.heap.size,0,none⟩=some (.int .i64 0)∧u.cell? ⟨w.heap.size,1,none⟩=some (.int .i64 0)∧u.cell? ⟨w.heap.size,2,none⟩=some (.int .i64 0)∧u.cell? ⟨w.heap.size,3,none⟩=some (.int .i64 0)∧u.cell? ⟨w.heap.size,4,none⟩=some .nilFunc)∧∀o,u.frozen? ⟨w.heap.size,o,none⟩=false):=fun u k=>⟨⟨(qg k 0).trans (by simp[go_sem]),(qg k 1).trans (by simp[go_sem]),(qg k 2).trans (by simp[go_sem]),(qg k 3).trans (by simp[go_sem]),(qg k 4).trans (by simp[go_sem])⟩,fun o=>(k.frozen _).trans (by simp[go_sem])⟩
 refine qib (S:=fun u=>u.cell? ⟨w1.heap.size,0,none⟩=some (.int .i64 n)∧u.cell? ⟨w1.heap.size,1,none⟩=some (.int .i64 pr)∧u.cell? ⟨w1.heap.size,2,none⟩=some (.int .i64 le)∧u.cell? ⟨w1.heap.size,3,none⟩=some (.int .i64 fi)) (by kernel_rfl) (HS.out _ hk2.drew) (fun hHeld=>?_)
 refine tk (i:=0) (v:=?_) rfl ?_
 try simp only[Act.put,zD,zE,zF]
 refine tk (i:=2) (v:=?_) rfl ?_
 try simp only[Act.put,zD,zE,zF]
 refine qh8 (rs:=[1]) (by kernel_rfl) (by simp) ?_
 refine qh6 rfl (fun K hK9=>?_) qh7
 go_simp
 go_wp2_with (first|(go_at_call 144;refine(yY _).mono ?_;rintro e w3 ⟨rfl,hk3⟩;have e0:=HS.out _ (hk2.drew.trans hk3)))
 refine hK9.out _ _ e0 (fun hHeld2=>?_)
 clear hK9 K hHeld
 refine tk (i:=3) (v:=?_) rfl ?_
 try simp only[Act.put,zD,zE,zF]
 refine tk (i:=4) (v:=?_) rfl ?_
 try simp only[Act.put,zD,zE,zF]
 obtain⟨⟨r0,r1,r2,r3,r4⟩,rf⟩:=HR.out _ (hkk.trans (hk2.drew.trans hk3))
 refine qh8 (rs:=[5]) (by kernel_rfl) (by simp) ?_
 refine qh6 rfl (fun K hK9=>?_) qh7
 go_simp
 refine hK9.out _ _ ⟨(yl _ _ _ _ hne _ _ _ _ _).trans e0.1,(yl _ _ _ _ hne _ _ _ _ _).trans e0.2.1,(yl _ _ _ _ hne _ _ _ _ _).trans e0.2.2.1,(yl _ _ _ _ hne _ _ _ _ _).trans e0.2.2.2⟩ (fun hHeld3=>?_)
 clear hK9 K hHeld2
 refine tk (i:=6) (v:=?_) rfl ?_
 try simp only[Act.put,zD,zE,zF]
 refine qic (by kernel_rfl) ?_ _
 clear hHeld3
 simp only[List.getElem_toArray,List.getElem_cons_succ,List.getElem_cons_zero,List.setIfInBounds_toArray,List.set_cons_zero,List.set_cons_succ]
 go_wp2
 refine qh9 (v:=.tuple #[.agg #[.int .i64 n,.int .i64 pr,.int .i64 le,.int .i64 fi,.func (.func 162) #[] #[]],.int .i64 0]) (by simp[results,Tryz.results112,go_sem,r0,r1,r2,r3,r4]) rfl ⟨rfl,?_⟩
 exact(hK.trans (hkk.trans (hk2.drew.trans hk3))).setCell (by simp) _|>.setCell (by simp) _|>.setCell (by simp) _|>.setCell (by simp) _|>.setCell (by simp) _
theorem Zs (n pr le fi:Int)(KK:Hid (∀u,Calls Tryz.prog 142 #[.int .i64 n] u fun e w'=>e=.returned (.tuple #[.agg #[.int .i64 n,.int .i64 pr,.int .i64 le,.int .i64 fi],.bool true])∧Kept u w'))(given:Value)(w:World)(KV:Hid (∀w',Kept w w'→Calls Tryz.prog 137 #[given] w' fun e w''=>e=.returned (.bool true)∧Kept w' w'')):Calls Tryz.prog 112 #[.int .i64 n,.int .i64 1,given] w fun e w'=>e=.returned (.tuple #[.agg #[.int .i64 n,.int .i64 pr,.int .i64 le,.int .i64 fi,.func (.func 163) #[] #[]],.int .i64 0])∧Kept w w':=by
 have hK:Kept w (w.alloc jF):=(qia w).alloc _ _
 have hidx:=Jz (.func (.func 162) #[] #[]) (.func (.func 163) #[] #[]) (.func (.func 164) #[] #[])
 go_enter Tryz.func112,Tryz.ntmps112
 go_wp2_with (first|(go_at_call 142;refine(KK.out _).mono ?_;rintro e w1 ⟨rfl,hk1⟩)|(go_at_call 137;refine(KV.out _ (hK.trans (hk1.alloc _ _))).mono ?_;rintro e w2 ⟨rfl,hk2⟩))
 have hkk:=hk1.alloc #[.int .i64 n,.int .i64 pr,.int .i64 le,.int .i64 fi] 144
 have hsz:w.heap.size+1≤w1.heap.size:=by have:=hk1.below.size;simpa using this
 have hne:¬w1.heap.size=w.heap.size:=by omega
 have HS:Hid (∀u,Kept (w1.alloc (.cells #[.int .i64 n,.int .i64 pr,.int .i64 le,.int .i64 fi] 144)) u→u.cell? ⟨w1.heap.size,0,none⟩=some (.int .i64 n)∧u.cell? ⟨w1.heap.size,1,none⟩=some (.int .i64 pr)∧u.cell? ⟨w1.heap.size,2,none⟩=some (.int .i64 le)∧u.cell? ⟨w1.heap.size,3,none⟩=some (.int .i64 fi)):=fun u k=>⟨(qg k 0).trans (by simp[go_sem]),(qg k 1).trans (by simp[go_sem]),(qg k 2).trans (by simp[go_sem]),(qg k 3).trans (by simp[go_sem])⟩
 have HR:Hid (∀u,Kept (w.alloc jF) u→(u.cell? ⟨w.heap.size,0,none⟩=some (.int .i64 0)∧u.cell? ⟨w.heap.size,1,none⟩=some (.int .i64 0)∧u.cell? ⟨w.heap.size,2,none⟩=some (.int .i64 0)∧u.cell? ⟨w.heap.size,3,none⟩=some (.int .i64 0)∧u.cell? ⟨w.heap.size,4,none⟩=some .nilFunc)∧∀o,u.frozen? ⟨w.heap.size,o,none⟩=false):=fun u k=>⟨⟨(qg k 0).trans (by simp[go_sem]),(qg k 1).trans (by simp[go_sem]),(qg k 2).trans (by simp[go_sem]),(qg k 3).trans (by simp[go_sem]),(qg k 4).trans (by simp[go_sem])⟩,fun o=>(k.frozen _).trans (by simp[go_sem])⟩
 refine qib (S:=fun u=>u.cell? ⟨w1.heap.size,0,none⟩=some (.int .i64 n)∧u.cell? ⟨w1.heap.size,1,none⟩=some (.int .i64 pr)∧u.cell? ⟨w1.heap.size,2,none⟩=some (.int .i64 le)∧u.cell? ⟨w1.heap.size,3,none⟩=some (.int .i64 fi)) (by kernel_rfl) (HS.out _ hk2.drew) (fun hHeld=>?_)
 refine tk (i:=0) (v:=?_) rfl ?_
 try simp only[Act.put,zD,zE,zF]
 refine tk (i:=2) (v:=?_) rfl ?_
 try simp only[Act.put,zD,zE,zF]
 refine qh8 (rs:=[1]) (by kernel_rfl) (by simp) ?_
 refine qh6 rfl (fun K hK9=>?_) qh7
 go_simp
 go_wp2_with (first|(go_at_call 144;refine(yY _).mono ?_;rintro e w3 ⟨rfl,hk3⟩;have e0:=HS.out _ (hk2.drew.trans hk3)))
 refine hK9.out _ _ e0 (fun hHeld2=>?_)
 clear hK9 K hHeld
 refine tk (i:=3) (v:=?_) rfl ?_
 try simp only[Act.put,zD,zE,zF]
 refine tk (i:=4) (v:=?_) rfl ?_
 try simp only[Act.put,zD,zE,zF]
 obtain⟨⟨r0,r1,r2,r3,r4⟩,rf⟩:=HR.out _ (hkk.trans (hk2.drew.trans hk3))
 refine qh8 (rs:=[5]) (by kernel_rfl) (by simp) ?_
 refine qh6 rfl (fun K hK9=>?_) qh7
 go_simp
 refine hK9.out _ _ ⟨(yl _ _ _ _ hne _ _ _ _ _).trans e0.1,(yl _ _ _ _ hne _ _ _ _ _).trans e0.2.1,(yl _ _ _ _ hne _ _ _ _ _).trans e0.2.2.1,(yl _ _ _ _ hne _ _ _ _ _).trans e0.2.2.2⟩ (fun hHeld3=>?_)
 clear hK9 K hHeld2
 refine tk (i:=6) (v:=?_) rfl ?_
 try simp only[Act.put,zD,zE,zF]
 refine qic (by kernel_rfl) ?_ _
 clear hHeld3
 simp only[List.getElem_toArray,List.getElem_cons_succ,List.getElem_cons_zero,List.setIfInBounds_toArray,List.set_cons_zero,List.set_cons_succ]
 go_wp2
 refine qh9 (v:=.tuple #[.agg #[.int .i64 n,.int .i64 pr,.int .i64 le,.int .i64 fi,.func (.func 163) #[] #[]],.int .i64 0]) (by simp[results,Tryz.results112,go_sem,r0,r1,r2,r3,r4]) rfl ⟨rfl,?_⟩
 exact(hK.trans (hkk.trans (hk2.drew.trans hk3))).setCell (by simp) _|>.setCell (by simp) _|>.setCell (by simp) _|>.setCell (by simp) _|>.setCell (by simp) _
theorem Zt (n pr le fi:Int)(KK:Hid (∀u,Calls Tryz.prog 142 #[.int .i64 n] u fun e w'=>e=.returned (.tuple #[.agg #[.int .i64 n,.int .i64 pr,.int .i64 le,.int .i64 fi],.bool true])∧Kept u w'))(given:Value)(w:World)(KV:Hid (∀w',Kept w w'→Calls Tryz.prog 137 #[given] w' fun e w''=>e=.returned (.bool true)∧Kept w' w'')):Calls Tryz.prog 112 #[.int .i64 n,.int .i64 2,given] w fun e w'=>e=.returned (.tuple #[.agg #[.int .i64 n,.int .i64 pr,.int .i64 le,.int .i64 fi,.func (.func 164) #[] #[]],.int .i64 0])∧Kept w w':=by
 have hK:Kept w (w.alloc jF):=(qia w).alloc _ _
 have hidx:=JA (.func (.func 162) #[] #[]) (.func (.func 163) #[] #[]) (.func (.func 164) #[] #[])
 go_enter Tryz.func112,Tryz.ntmps112
 go_wp2_with (first|(go_at_call 142;refine(KK.out _).mono ?_;rintro e w1 ⟨rfl,hk1⟩)|(go_at_call 137;refine(KV.out _ (hK.trans (hk1.alloc _ _))).mono ?_;rintro e w2 ⟨rfl,hk2⟩))
 have hkk:=hk1.alloc #[.int .i64 n,.int .i64 pr,.int .i64 le,.int .i64 fi] 144
 have hsz:w.heap.size+1≤w1.heap.size:=by have:=hk1.below.size;simpa using this
 have hne:¬w1.heap.size=w.heap.size:=by omega
 have HS:Hid (∀u,Kept (w1.alloc (.cells #[.int .i64 n,.int .i64 pr,.int .i64 le,.int .i64 fi] 144)) u→u.cell? ⟨w1.heap.size,0,none⟩=some (.int .i64 n)∧u.cell? ⟨w1.heap.size,1,none⟩=some (.int .i64 pr)∧u.cell? ⟨w1.heap.size,2,none⟩=some (.int .i64 le)∧u.cell? ⟨w1.heap.size,3,none⟩=some (.int .i64 fi)):=fun u k=>⟨(qg k 0).trans (by simp[go_sem]),(qg k 1).trans (by simp[go_sem]),(qg k 2).trans (by simp[go_sem]),(qg k 3).trans (by simp[go_sem])⟩
 have HR:Hid (∀u,Kept (w.alloc jF) u→(u.cell? ⟨w.heap.size,0,none⟩=some (.int .i64 0)∧u.cell? ⟨w.heap.size,1,none⟩=some (.int .i64 0)∧u.cell? ⟨w.heap.size,2,none⟩=some (.int .i64 0)∧u.cell? ⟨w.heap.size,3,none⟩=some (.int .i64 0)∧u.cell? ⟨w.heap.size,4,none⟩=some .nilFunc)∧∀o,u.frozen? ⟨w.heap.size,o,none⟩=false):=fun u k=>⟨⟨(qg k 0).trans (by simp[go_sem]),(qg k 1).trans (by simp[go_sem]),(qg k 2).trans (by simp[go_sem]),(qg k 3).trans (by simp[go_sem]),(qg k 4).trans (by simp[go_sem])⟩,fun o=>(k.frozen _).trans (by simp[go_sem])⟩
 refine qib (S:=fun u=>u.cell? ⟨w1.heap.size,0,none⟩=some (.int .i64 n)∧u.cell? ⟨w1.heap.size,1,none⟩=some (.int .i64 pr)∧u.cell? ⟨w1.heap.size,2,none⟩=some (.int .i64 le)∧u.cell? ⟨w1.heap.size,3,none⟩=some (.int .i64 fi)) (by kernel_rfl) (HS.out _ hk2.drew) (fun hHeld=>?_)
 refine tk (i:=0) (v:=?_) rfl ?_
 try simp only[Act.put,zD,zE,zF]
 refine tk (i:=2) (v:=?_) rfl ?_
 try simp only[Act.put,zD,zE,zF]
 refine qh8 (rs:=[1]) (by kernel_rfl) (by simp) ?_
 refine qh6 rfl (fun K hK9=>?_) qh7
 go_simp
 go_wp2_with (first|(go_at_call 144;refine(yY _).mono ?_;rintro e w3 ⟨rfl,hk3⟩;have e0:=HS.out _ (hk2.drew.trans hk3)))
 refine hK9.out _ _ e0 (fun hHeld2=>?_)
 clear hK9 K hHeld
 refine tk (i:=3) (v:=?_) rfl ?_
 try simp only[Act.put,zD,zE,zF]
 refine tk (i:=4) (v:=?_) rfl ?_
 try simp only[Act.put,zD,zE,zF]
 obtain⟨⟨r0,r1,r2,r3,r4⟩,rf⟩:=HR.out _ (hkk.trans (hk2.drew.trans hk3))
 refine qh8 (rs:=[5]) (by kernel_rfl) (by simp) ?_
 refine qh6 rfl (fun K hK9=>?_) qh7
 go_simp
 refine hK9.out _ _ ⟨(yl _ _ _ _ hne _ _ _ _ _).trans e0.1,(yl _ _ _ _ hne _ _ _ _ _).trans e0.2.1,(yl _ _ _ _ hne _ _ _ _ _).trans e0.2.2.1,(yl _ _ _ _ hne _ _ _ _ _).trans e0.2.2.2⟩ (fun hHeld3=>?_)
 clear hK9 K hHeld2
 refine tk (i:=6) (v:=?_) rfl ?_
 try simp only[Act.put,zD,zE,zF]
 refine qic (by kernel_rfl) ?_ _
 clear hHeld3
 simp only[List.getElem_toArray,List.getElem_cons_succ,List.getElem_cons_zero,List.setIfInBounds_toArray,List.set_cons_zero,List.set_cons_succ]
 go_wp2
 refine qh9 (v:=.tuple #[.agg #[.int .i64 n,.int .i64 pr,.int .i64 le,.int .i64 fi,.func (.func 164) #[] #[]],.int .i64 0]) (by simp[results,Tryz.results112,go_sem,r0,r1,r2,r3,r4]) rfl ⟨rfl,?_⟩
 exact(hK.trans (hkk.trans (hk2.drew.trans hk3))).setCell (by simp) _|>.setCell (by simp) _|>.setCell (by simp) _|>.setCell (by simp) _|>.setCell (by simp) _
def wfv (way:Int):Nat:=if way=0 then 162 else if way=1 then 163 else 164
theorem kW (n way:Int)(hn:n=64∨n=32)(hw:way=0∨way=1∨way=2)(given:Value)(w:World)(KV:Hid (∀w',Kept w w'→Calls Tryz.prog 137 #[given] w' fun e w''=>e=.returned (.bool true)∧Kept w' w'')):Calls Tryz.prog 112 #[.int .i64 n,.int .i64 way,given] w fun e w'=>e=.returned (.tuple #[.agg #[.int .i64 n,.int .i64 (qF n),.int .i64 (qi n),.int .i64 (zV n),.func (.func (wfv way)) #[] #[]],.int .i64 0])∧Kept w w':=by
 rcases hw with rfl|rfl|rfl
 ·exact Zr n (qF n) (qi n) (zV n) (fun u=>xC n hn u) given w KV
 ·exact Zs n (qF n) (qi n) (zV n) (fun u=>xC n hn u) given w KV
 ·exact Zt n (qF n) (qi n) (zV n) (fun u=>xC n hn u) given w KV
theorem qa4 (way:Int)(hw:way=0∨way=1∨way=2):∀a w,(callFunc (wfv way) #[a]).run Tryz.prog w=.ok (.enter (wfv way) #[a]) w:=by
 rcases hw with rfl|rfl|rfl
 ·intro a w;kernel_rfl
 ·intro a w;kernel_rfl
 ·intro a w;kernel_rfl
theorem JB (ng:Bool)(h ex kept P Q1:Int)(m:Nat)(hm:m<62)(od hf rt:Bool)(hk:h/2^(m+1)=kept)(hP:wrap64 (2^m)=P)(hQ:IntKind.i64.wrap (P-1)=Q1)(c1 c2 c3:Int)(hc1:bits .and .i64 kept 1=c1)(hc2:bits .and .i64 h P=c2)(hc3:bits .and .i64 h Q1=c3)(hod:(c1==1)=od)(hhf:(c2 != 0)=hf)(hrt:(c3 != 0)=rt)(w:World):Calls Tryz.prog 146 #[.agg #[.bool ng,.int .i64 h,.int .i64 ex,.bool false],.int .i64 ((m:Int)+1)] w fun e w'=>e=.returned (.tuple #[.int .i64 kept,.agg #[.bool ng,.bool od,.bool hf,.bool rt]])∧Kept w w':=by
 have hK:Kept w ((w.alloc (.cells #[.bool ng,.int .i64 h,.int .i64 ex,.bool false] 155)).alloc (.cells #[.bool false,.bool false,.bool false,.bool false] 186)):=((qia w).alloc _ _).alloc _ _
 go_enter Tryz.func146,Tryz.ntmps146
 go_wp2
 go_quiet (fail)
 go_wp2
 obtain⟨W0,hW0⟩:∃W0,((w.alloc (.cells #[.bool ng,.int .i64 h,.int .i64 ex,.bool false] 155)).alloc (.cells #[.bool false,.bool false,.bool false,.bool false] 186)).drewN nq=W0:=⟨_,rfl⟩
 have q0:W0.cell? ⟨w.heap.size,0,none⟩=some (.bool ng):=by rw[←hW0];simp[go_sem]
 have q1:W0.cell? ⟨w.heap.size,1,none⟩=some (.int .i64 h):=by rw[←hW0];simp[go_sem]
 have q3:W0.cell? ⟨w.heap.size,3,none⟩=some (.bool false):=by rw[←hW0];simp[go_sem]
 have s0:W0.cell? ⟨w.heap.size+1,0,none⟩=some (.bool false):=by rw[←hW0];simp[go_sem]
 have s1:W0.cell? ⟨w.heap.size+1,1,none⟩=some (.bool false):=by rw[←hW0];simp[go_sem]
 have s2:W0.cell? ⟨w.heap.size+1,2,none⟩=some (.bool false):=by rw[←hW0];simp[go_sem]
 have s3:W0.cell? ⟨w.heap.size+1,3,none⟩=some (.bool false):=by rw[←hW0];simp[go_sem]
 have sf:∀o,W0.frozen? ⟨w.heap.size+1,o,none⟩=false:=fun o=>by rw[←hW0];simp[go_sem]
 have hK0:Kept w W0:=by rw[←hW0];exact hK.drewN nq
 rw[hW0]
 clear hW0 hK
 refine qib (S:=fun u=>u.cell? ⟨w.heap.size,0,none⟩=some (.bool ng)∧u.cell? ⟨w.heap.size,1,none⟩=some (.int .i64 h)∧u.cell? ⟨w.heap.size,3,none⟩=some (.bool false)) (by kernel_rfl) ⟨q0,q1,q3⟩ (fun hHeld=>?_)
 refine tk (i:=0) (v:=?_) rfl ?_
 try simp only[zz]
 refine tk (i:=1) (v:=?_) rfl ?_
 try simp only[zz]
 refine tk (i:=2) (v:=?_) rfl ?_
 try simp only[zz]
 refine tk (i:=3) (v:=?_) rfl ?_
 try simp only[zz]
 refine tk (i:=4) (v:=?_) rfl ?_
 try simp only[zz]
 refine tk (i:=5) (v:=?_) rfl ?_
 try simp only[zz]
 refine tk (i:=6) (v:=?_) rfl ?_
 try simp only[zz]
 refine tk (i:=7) (v:=?_) rfl ?_
 try simp only[zz]
 refine tk (i:=8) (v:=?_) rfl ?_
 try simp only[zz]
 refine tk (i:=9) (v:=?_) rfl ?_
 try simp only[zz]
 refine tk (i:=10) (v:=?_) rfl ?_
 try simp only[zz]
 refine tk (i:=11) (v:=?_) rfl ?_
 try simp only[zz]
 refine tk (i:=12) (v:=?_) rfl ?_
 try simp only[zz]
 refine tk (i:=13) (v:=?_) rfl ?_
 try simp only[zz]
 refine tk (i:=14) (v:=?_) rfl ?_
 try simp only[zz]
 refine tk (i:=15) (v:=?_) rfl ?_
 try simp only[zz]
 refine tk (i:=16) (v:=?_) rfl ?_
 try simp only[zz]
 refine tk (i:=17) (v:=?_) rfl ?_
 try simp only[zz]
 refine tk (i:=18) (v:=?_) rfl ?_
 try simp only[zz]
 refine tk (i:=19) (v:=?_) rfl ?_
 try simp only[zz]
 refine tk (i:=20) (v:=?_) rfl ?_
 try simp only[zz]
 refine tk (i:=21) (v:=?_) rfl ?_
 try simp only[zz]
 refine tk (i:=22) (v:=?_) rfl ?_
 try simp only[zz]
 refine qh8 (rs:=[23]) (by kernel_rfl) (by simp) ?_
 refine qh6 rfl (fun K hK9=>?_) qh7
 go_simp
 refine hK9.out _ _ ⟨(xV _ _ _ _ (by omega) _ _ _ _).trans q0,(xV _ _ _ _ (by omega) _ _ _ _).trans q1,(xV _ _ _ _ (by omega) _ _ _ _).trans q3⟩ (fun hHeld3=>?_)
 clear hK9 K hHeld
 refine qic (by kernel_rfl) ?_ _
 clear hHeld3
 go_wp2
 refine qh9 (v:=.tuple #[.int .i64 kept,.agg #[.bool ng,.bool od,.bool hf,.bool rt]]) (by simp[results,Tryz.results146,go_sem,s0,s1,s2,s3]) rfl ⟨rfl,?_⟩
 first
 |exact(hK0.drew.setCell (by simp) _|>.setCell (by simp) _|>.setCell (by simp) _|>.setCell (by simp) _)
 |exact(hK0.setCell (by simp) _|>.setCell (by simp) _|>.setCell (by simp) _|>.setCell (by simp) _).drew
theorem XW (ng:Bool)(h ex kept P Q1:Int)(m:Nat)(hm:m<62)(od hf rt:Bool)(hk:h/2^(m+1)=kept)(hP:wrap64 (2^m)=P)(hQ:IntKind.i64.wrap (P-1)=Q1)(c1 c2 c3:Int)(hc1:bits .and .i64 kept 1=c1)(hc2:bits .and .i64 h P=c2)(hc3:bits .and .i64 h Q1=c3)(hod:(c1==1)=od)(hhf:(c2 != 0)=hf)(hrt:rt=true)(w:World):Calls Tryz.prog 146 #[.agg #[.bool ng,.int .i64 h,.int .i64 ex,.bool true],.int .i64 ((m:Int)+1)] w fun e w'=>e=.returned (.tuple #[.int .i64 kept,.agg #[.bool ng,.bool od,.bool hf,.bool rt]])∧Kept w w':=by
 have hK:Kept w ((w.alloc (.cells #[.bool ng,.int .i64 h,.int .i64 ex,.bool true] 155)).alloc (.cells #[.bool false,.bool false,.bool false,.bool false] 186)):=((qia w).alloc _ _).alloc _ _
 subst hrt
 go_enter Tryz.func146,Tryz.ntmps146
 go_wp2
 go_quiet (fail)
 go_wp2
 obtain⟨W0,hW0⟩:∃W0,((w.alloc (.cells #[.bool ng,.int .i64 h,.int .i64 ex,.bool true] 155)).alloc (.cells #[.bool false,.bool false,.bool false,.bool false] 186)).drewN nq=W0:=⟨_,rfl⟩
 have q0:W0.cell? ⟨w.heap.size,0,none⟩=some (.bool ng):=by rw[←hW0];simp[go_sem]
 have q1:W0.cell? ⟨w.heap.size,1,none⟩=some (.int .i64 h):=by rw[←hW0];simp[go_sem]
 have q3:W0.cell? ⟨w.heap.size,3,none⟩=some (.bool true):=by rw[←hW0];simp[go_sem]
 have s0:W0.cell? ⟨w.heap.size+1,0,none⟩=some (.bool false):=by rw[←hW0];simp[go_sem]
 have s1:W0.cell? ⟨w.heap.size+1,1,none⟩=some (.bool false):=by rw[←hW0];simp[go_sem]
 have s2:W0.cell? ⟨w.heap.size+1,2,none⟩=some (.bool false):=by rw[←hW0];simp[go_sem]
 have s3:W0.cell? ⟨w.heap.size+1,3,none⟩=some (.bool false):=by rw[←hW0];simp[go_sem]
 have sf:∀o,W0.frozen? ⟨w.heap.size+1,o,none⟩=false:=fun o=>by rw[←hW0];simp[go_sem]
 have hK0:Kept w W0:=by rw[←hW0];exact hK.drewN nq
 rw[hW0]
 clear hW0 hK
 refine qib (S:=fun u=>u.cell? ⟨w.heap.size,0,none⟩=some (.bool ng)∧u.cell? ⟨w.heap.size,1,none⟩=some (.int .i64 h)∧u.cell? ⟨w.heap.size,3,none⟩=some (.bool true)) (by kernel_rfl) ⟨q0,q1,q3⟩ (fun hHeld=>?_)
 refine tk (i:=0) (v:=?_) rfl ?_
 try simp only[zz]
 refine tk (i:=1) (v:=?_) rfl ?_
 try simp only[zz]
 refine tk (i:=2) (v:=?_) rfl ?_
 try simp only[zz]
 refine tk (i:=3) (v:=?_) rfl ?_
 try simp only[zz]
 refine tk (i:=4) (v:=?_) rfl ?_
 try simp only[zz]
 refine tk (i:=5) (v:=?_) rfl ?_
 try simp only[zz]
 refine tk (i:=6) (v:=?_) rfl ?_
 try simp only[zz]
 refine tk (i:=7) (v:=?_) rfl ?_
 try simp only[zz]
 refine tk (i:=8) (v:=?_) rfl ?_
 try simp only[zz]
 refine tk (i:=9) (v:=?_) rfl ?_
 try simp only[zz]
 refine tk (i:=10) (v:=?_) rfl ?_
 try simp only[zz]
 refine tk (i:=11) (v:=?_) rfl ?_
 try simp only[zz]
 refine tk (i:=12) (v:=?_) rfl ?_
 try simp only[zz]
 refine tk (i:=13) (v:=?_) rfl ?_
 try simp only[zz]
 refine wpAnyH_take (i:=14) (v:=undef) rfl (by kernel_rfl) (by kernel_rfl) (by kernel_rfl) (fun _ _ _ h=>h) (Or.inr ⟨by rfl,rfl⟩) (by assumption) ?_
 try simp only[zz]
 refine wpAnyH_take (i:=15) (v:=undef) rfl (by kernel_rfl) (by kernel_rfl) (by kernel_rfl) (fun _ _ _ h=>h) (Or.inr ⟨by rfl,rfl⟩) (by assumption) ?_
 try simp only[zz]
 refine wpAnyH_take (i:=16) (v:=undef) rfl (by kernel_rfl) (by kernel_rfl) (by kernel_rfl) (fun _ _ _ h=>h) (Or.inr ⟨by rfl,rfl⟩) (by assumption) ?_
 try simp only[zz]
 refine wpAnyH_take (i:=17) (v:=undef) rfl (by kernel_rfl) (by kernel_rfl) (by kernel_rfl) (fun _ _ _ h=>h) (Or.inr ⟨by rfl,rfl⟩) (by assumption) ?_
 try simp only[zz]
 refine wpAnyH_take (i:=18) (v:=undef) rfl (by kernel_rfl) (by kernel_rfl) (by kernel_rfl) (fun _ _ _ h=>h) (Or.inr ⟨by rfl,rfl⟩) (by assumption) ?_
 try simp only[zz]
 refine wpAnyH_take (i:=19) (v:=undef) rfl (by kernel_rfl) (by kernel_rfl) (by kernel_rfl) (fun _ _ _ h=>h) (Or.inr ⟨by rfl,rfl⟩) (by assumption) ?_
 try simp only[zz]
 refine tk (i:=20) (v:=?_) rfl ?_
 try simp only[zz]
 refine tk (i:=21) (v:=?_) rfl ?_
 try simp only[zz]
 refine tk (i:=22) (v:=?_) rfl ?_
 try simp only[zz]
 refine qh8 (rs:=[23]) (by kernel_rfl) (by simp) ?_
 refine qh6 rfl (fun K hK9=>?_) qh7
 go_simp
 refine hK9.out _ _ ⟨(xV _ _ _ _ (by omega) _ _ _ _).trans q0,(xV _ _ _ _ (by omega) _ _ _ _).trans q1,(xV _ _ _ _ (by omega) _ _ _ _).trans q3⟩ (fun hHeld3=>?_)
 clear hK9 K hHeld
 refine qic (by kernel_rfl) ?_ _
 clear hHeld3
 go_wp2
 refine qh9 (v:=.tuple #[.int .i64 kept,.agg #[.bool ng,.bool od,.bool hf,.bool true]]) (by simp[results,Tryz.results146,go_sem,s0,s1,s2,s3]) rfl ⟨rfl,?_⟩
 first
 |exact(hK0.drew.setCell (by simp) _|>.setCell (by simp) _|>.setCell (by simp) _|>.setCell (by simp) _)
 |exact(hK0.setCell (by simp) _|>.setCell (by simp) _|>.setCell (by simp) _|>.setCell (by simp) _).drew
theorem qf1 (ng od hf rt:Bool)(w:World):Calls Tryz.prog 162 #[.agg #[.bool ng,.bool od,.bool hf,.bool rt]] w fun e w'=>e=.returned (.bool (hf&&(rt||od)))∧Kept w w':=by
 cases ng<;>cases od<;>cases hf<;>cases rt
 all_goals
  go_enter Tryz.func162,Tryz.ntmps162
  go_wp2
  go_ret
  exact⟨rfl,(qia _).alloc _ _⟩
theorem qf2 (ng od hf rt:Bool)(w:World):Calls Tryz.prog 163 #[.agg #[.bool ng,.bool od,.bool hf,.bool rt]] w fun e w'=>e=.returned (.bool (ng&&(hf||rt)))∧Kept w w':=by
 cases ng<;>cases od<;>cases hf<;>cases rt
 all_goals
  go_enter Tryz.func163,Tryz.ntmps163
  go_wp2
  go_ret
  exact⟨rfl,(qia _).alloc _ _⟩
theorem qf3 (ng od hf rt:Bool)(w:World):Calls Tryz.prog 164 #[.agg #[.bool ng,.bool od,.bool hf,.bool rt]] w fun e w'=>e=.returned (.bool (!ng&&(hf||rt)))∧Kept w w':=by
 cases ng<;>cases od<;>cases hf<;>cases rt
 all_goals
  go_enter Tryz.func164,Tryz.ntmps164
  go_wp2
  go_ret
  exact⟨rfl,(qia _).alloc _ _⟩
def hd (v:Nat):Nat:=v*2^60/2^bl v
theorem xD (v:Nat)(hv:v≠0):2^59≤hd v∧hd v<2^60:=by
 obtain⟨h1,h2,h3⟩:=qJ v hv
 unfold hd
 obtain⟨k,hk⟩:∃k,bl v=k+1:=⟨bl v-1,by omega⟩
 rw[hk,Nat.add_sub_cancel]at h1
 rw[hk]at h2 ⊢
 have hp:=qht k
 constructor
 ·rw[Nat.le_div_iff_mul_le (qht _)]
  have:2^59*2^(k+1)=2^k*2^60:=by rw[←qhv,←qhv];congr 1;omega
  rw[this]
  exact Nat.mul_le_mul_right _ h1
 ·rw[Nat.div_lt_iff_lt_mul (qht _),qh0 (2^60)]
  exact Nat.mul_lt_mul_of_pos_right h2 (qht _)
theorem QA (v:Nat)(p:Int)(hp:-60≤p):pcz v p=((v*2^60/2^(60+p).toNat%1073741824:Nat):Int):=by
 unfold pcz
 split
 ·obtain⟨q,rfl⟩:∃q:Nat,p=q:=⟨p.toNat,by omega⟩
  rw[Int.toNat_natCast,show(60+(q:Int)).toNat=q+60 by omega,qhv,Nat.mul_div_mul_right _ _ (qht _)]
 ·obtain⟨q,hq⟩:∃q:Nat,(60+p).toNat=q:=⟨_,rfl⟩
  obtain⟨j,hj⟩:∃j:Nat,(-p).toNat=j:=⟨_,rfl⟩
  rw[hq,hj]
  have:(2:Nat)^60=2^j*2^q:=by rw[←qhv];congr 1;omega
  rw[this,←qhz,Nat.mul_div_cancel _ (qht _)]
theorem qdk (v:Nat)(hv:v≠0):pcz v ((bl v:Int)-60)=((hd v%1073741824:Nat):Int):=by
 have:=(qJ v hv).2.2
 rw[QA v _ (by omega),show(60+((bl v:Int)-60)).toNat=bl v by omega]
 rfl
theorem qa5 (v:Nat)(hv:v≠0):pcz v ((bl v:Int)-60+30)=((hd v/1073741824:Nat):Int):=by
 have:=(qJ v hv).2.2
 rw[QA v _ (by omega),show(60+((bl v:Int)-60+30)).toNat=bl v+30 by omega,qhv,←Nat.div_div_eq_div_mul]
 have hb:=(xD v hv).2
 unfold hd at hb ⊢
 rw[Nat.mod_eq_of_lt]
 rw[Nat.div_lt_iff_lt_mul (by decide)]
 exact hb
theorem qdl (a b:Int):bits .or .i64 a b=bits .or .i64 b a:=by
 unfold bits
 simp[BitVec.or_comm]
theorem qdm (v:Nat)(hv:v≠0):bits .or .i64 (((hd v/1073741824:Nat):Int)*1073741824) ((hd v%1073741824:Nat):Int)=((hd v:Nat):Int):=by
 have hb:=(xD v hv).2
 rw[qdl,show(((hd v/1073741824:Nat):Int)*1073741824)=((hd v/1073741824*2^30:Nat):Int) by rw[show(2:Nat)^30=1073741824 by rfl];omega,qax (hd v%1073741824) (hd v/1073741824) 30 (Nat.mod_lt _ (by decide)) (by rw[show(2:Nat)^30=1073741824 by rfl];omega)]
 congr 1
 rw[show(2:Nat)^30=1073741824 by rfl]
 omega
theorem JC (ng:Bool)(ao:Option Addr)(n c:Nat)(hn:0<n)(x:Int)(hx1:-1048576≤x)(hx2:x≤1048576)(B:Nat)(hB:B≤60000)(p1 p0 q1 h:Int)(rs:Bool)(hq:IntKind.i64.wrap (p1*1073741824)=q1)(hor:bits .or .i64 q1 p0=h)(hrs:decide (60<(B:Int))=rs)(w:World)
  (KL:Hid (∀u,Kept w u→Calls Tryz.prog 140 #[.slice ao n c] u fun e w'=>e=.returned (.int .i64 (B:Int))∧u=w'))
  (K1:Hid (∀u,Kept w u→Calls Tryz.prog 149 #[.slice ao n c,.int .i64 ((B:Int)-60+30)] u fun e w'=>e=.returned (.int .i64 p1)∧Kept u w'))
  (K0:Hid (∀u,Kept w u→Calls Tryz.prog 149 #[.slice ao n c,.int .i64 ((B:Int)-60)] u fun e w'=>e=.returned (.int .i64 p0)∧Kept u w')):
  Calls Tryz.prog 114 #[.agg #[.bool ng,.slice ao n c,.int .i64 x]] w fun e w'=>e=.returned (.agg #[.bool ng,.int .i64 h,.int .i64 (x+((B:Int)-60)),.bool rs])∧Kept w w':=by
 have hK:Kept w ((w.alloc (.cells #[.bool ng,.slice ao n c,.int .i64 x] 31)).alloc (.cells #[.bool false,.int .i64 0,.int .i64 0,.bool false] 155)):=((qia w).alloc _ _).alloc _ _
 have HS:Hid (∀u,Kept ((w.alloc (.cells #[.bool ng,.slice ao n c,.int .i64 x] 31)).alloc (.cells #[.bool false,.int .i64 0,.int .i64 0,.bool false] 155)) u→(u.cell? ⟨w.heap.size,0,none⟩=some (.bool ng)∧u.cell? ⟨w.heap.size,1,none⟩=some (.slice ao n c)∧u.cell? ⟨w.heap.size,2,none⟩=some (.int .i64 x))∧u.cell? ⟨w.heap.size+1,0,none⟩=some (.bool false)∧u.cell? ⟨w.heap.size+1,1,none⟩=some (.int .i64 0)∧u.cell? ⟨w.heap.size+1,2,none⟩=some (.int .i64 0)∧u.cell? ⟨w.heap.size+1,3,none⟩=some (.bool false)∧∀o,u.frozen? ⟨w.heap.size+1,o,none⟩=false):=fun u k=>⟨⟨(k.below.cell (p:=⟨w.heap.size,0,none⟩) (by simp;omega)).trans (by simp[go_sem]),(k.below.cell (p:=⟨w.heap.size,1,none⟩) (by simp;omega)).trans (by simp[go_sem]),(k.below.cell (p:=⟨w.heap.size,2,none⟩) (by simp;omega)).trans (by simp[go_sem])⟩,(k.below.cell (p:=⟨w.heap.size+1,0,none⟩) (by simp)).trans (by simp[go_sem]),(k.below.cell (p:=⟨w.heap.size+1,1,none⟩) (by simp)).trans (by simp[go_sem]),(k.below.cell (p:=⟨w.heap.size+1,2,none⟩) (by simp)).trans (by simp[go_sem]),(k.below.cell (p:=⟨w.heap.size+1,3,none⟩) (by simp)).trans (by simp[go_sem]),fun o=>(k.frozen _).trans (by simp[go_sem])⟩
 have kD:Kept ((w.alloc (.cells #[.bool ng,.slice ao n c,.int .i64 x] 31)).alloc (.cells #[.bool false,.int .i64 0,.int .i64 0,.bool false] 155)) (((w.alloc (.cells #[.bool ng,.slice ao n c,.int .i64 x] 31)).alloc (.cells #[.bool false,.int .i64 0,.int .i64 0,.bool false] 155))).drew:=(qia _).drew
 have z1:IntKind.i64.wrap ((B:Int)-60)=(B:Int)-60:=by rw[qc];omega
 have z2:IntKind.i64.wrap ((B:Int)-60+30)=(B:Int)-60+30:=by rw[qc];omega
 have z3:IntKind.i64.wrap (x+((B:Int)-60))=x+((B:Int)-60):=by rw[qc];omega
 have hn0:((n:Int)==0)=false:=by simp;omega
 go_enter Tryz.func114,Tryz.ntmps114
 go_wp2_with (first|(go_at_call 140;refine(KL.out _ hK).mono ?_;rintro e w1 ⟨rfl,rfl⟩))
 have e00:=(HS.out _ kD).1
 refine qib (S:=fun u=>u.cell? ⟨w.heap.size,0,none⟩=some (.bool ng)∧u.cell? ⟨w.heap.size,1,none⟩=some (.slice ao n c)∧u.cell? ⟨w.heap.size,2,none⟩=some (.int .i64 x)) (by kernel_rfl) e00 (fun hHeld=>?_)
 refine tk (i:=0) (v:=?_) rfl ?_
 try simp only[zz]
 refine tk (i:=1) (v:=?_) rfl ?_
 try simp only[zz]
 refine tk (i:=2) (v:=?_) rfl ?_
 try simp only[zz]
 refine tk (i:=3) (v:=?_) rfl ?_
 try simp only[zz]
 refine tk (i:=4) (v:=?_) rfl ?_
 try simp only[zz]
 refine tk (i:=5) (v:=?_) rfl ?_
 try simp only[zz]
 refine tk (i:=8) (v:=?_) rfl ?_
 try simp only[zz]
 refine tk (i:=9) (v:=?_) rfl ?_
 try simp only[zz]
 refine tk (i:=10) (v:=?_) rfl ?_
 try simp only[zz]
 refine tk (i:=13) (v:=?_) rfl ?_
 try simp only[zz]
 refine tk (i:=14) (v:=?_) rfl ?_
 try simp only[zz]
 refine tk (i:=15) (v:=?_) rfl ?_
 try simp only[zz]
 refine tk (i:=16) (v:=?_) rfl ?_
 try simp only[zz]
 refine tk (i:=17) (v:=?_) rfl ?_
 try simp only[zz]
 refine tk (i:=18) (v:=?_) rfl ?_
 try simp only[zz]
 refine qh8 (rs:=[6]) (by kernel_rfl) (by simp) ?_
 refine qh6 rfl (fun K hK9=>?_) qh7
 go_simp
 go_wp2_with fail
 refine(K1.out _ (hK.trans (kD))).mono ?_
 rintro e u1 ⟨rfl,k1⟩
 have eu1:=(HS.out _ ((kD).trans k1)).1
 refine hK9.out _ _ eu1 (fun hHeldu1=>?_)
 clear hK9 K
 refine tk (i:=7) (v:=?_) rfl ?_
 try simp only[zz]
 refine qh8 (rs:=[11]) (by kernel_rfl) (by simp) ?_
 refine qh6 rfl (fun K hK9=>?_) qh7
 go_simp
 go_wp2_with fail
 refine(K0.out _ (hK.trans (kD.trans k1))).mono ?_
 rintro e u2 ⟨rfl,k2⟩
 have eu2:=(HS.out _ ((kD.trans k1).trans k2)).1
 refine hK9.out _ _ eu2 (fun hHeldu2=>?_)
 clear hK9 K
 refine tk (i:=12) (v:=?_) rfl ?_
 try simp only[zz]
 refine tk (i:=19) (v:=?_) rfl ?_
 try simp only[zz]
 refine qh8 (rs:=[20]) (by kernel_rfl) (by simp) ?_
 refine qh6 rfl (fun K hK9=>?_) qh7
 obtain⟨e1,s0,s1,s2,s3,sf⟩:=HS.out _ ((kD.trans k1).trans k2)
 go_simp
 refine hK9.out _ _ ⟨(xV _ _ _ _ (by omega) _ _ _ _).trans e1.1,(xV _ _ _ _ (by omega) _ _ _ _).trans e1.2.1,(xV _ _ _ _ (by omega) _ _ _ _).trans e1.2.2⟩ (fun hHeld9=>?_)
 clear hK9 K
 refine qic (by kernel_rfl) ?_ _
 clear hHeld9
 go_wp2
 refine qh9 (v:=.agg #[.bool ng,.int .i64 h,.int .i64 (x+((B:Int)-60)),.bool rs]) (by simp[results,Tryz.results114,go_sem,s0,s1,s2,s3]) rfl ⟨rfl,?_⟩
 exact(hK.trans ((kD.trans k1).trans k2)).setCell (by simp) _|>.setCell (by simp) _|>.setCell (by simp) _|>.setCell (by simp) _
theorem JD (ng:Bool)(L:List Int)(x:Int)(hne:L≠[])(hv:vld ⟨ng,L,x⟩=true)(ao:Option Addr)(c:Nat)(w:World)(h:Sl w (.slice ao L.length c) L):
  Calls Tryz.prog 114 #[.agg #[.bool ng,.slice ao L.length c,.int .i64 x]] w fun e w'=>e=.returned (.agg #[.bool ng,.int .i64 ((hd (nv L):Nat):Int),.int .i64 (x+((bl (nv L):Int)-60)),.bool (decide (60<(bl (nv L):Int)))])∧Kept w w':=by
 obtain⟨p1,p2,p3,p4,p5,p6⟩:=qX ng L x hne hv
 have hpos:=List.length_pos_iff.2 hne
 have hv0:nv L≠0:=fun h0=>by have:=Zb L p2 p4;omega
 have hbl:=qY _ _ (zp L p2)
 have hb:=xD _ hv0
 refine JC ng ao L.length c hpos x p5 p6 (bl (nv L)) (by omega) ((hd (nv L)/1073741824:Nat):Int) ((hd (nv L)%1073741824:Nat):Int) (((hd (nv L)/1073741824:Nat):Int)*1073741824) _ _ ?_ (qdm (nv L) hv0) rfl w (fun u k=>zJ L ⟨p2,fun _=>p3⟩ (by omega) _ u (h.kept k)) (fun u k=>?_) (fun u k=>?_)
 ·rw[qc]
  omega
 ·have:=Qo L p2 (.slice ao L.length c) ((bl (nv L):Int)-60+30) (by omega) (by omega) u (h.kept k)
  rw[qa5 _ hv0]at this
  exact this
 ·have:=Qo L p2 (.slice ao L.length c) ((bl (nv L):Int)-60) (by omega) (by omega) u (h.kept k)
  rw[qdk _ hv0]at this
  exact this
end Go.Proofs.YtaglkncdedeipaaGreatDoor
