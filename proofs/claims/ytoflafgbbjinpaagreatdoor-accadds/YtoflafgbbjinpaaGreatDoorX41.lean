/- For AccMerges: blocks of six cells; what is asked of an answer,with what is kept. -/
import Derived.Test.YtoflafgbbjinpaaGreatDoorX40
namespace Go.Proofs.YtoflafgbbjinpaaGreatDoor
open Go.ChangeShapes Go.WideShapes Go.ChangeAt Go.RowKit
set_option linter.unusedVariables false
set_option linter.unusedSimpArgs false
set_option maxHeartbeats 16000000
set_option maxRecDepth 100000
/-- Six cells that stay as long as their block is none of those that are turned. -/
def Hex (X : World) (p : Nat) (v0 v1 v2 v3 v4 v5 : Value) : Prop:=p < X.heap.size ∧ ∀ S u,p ∉ S → GrwS S X u → u.cell? ⟨p,0,none⟩ = some v0 ∧ u.cell? ⟨p,1,none⟩ = some v1 ∧ u.cell? ⟨p,2,none⟩ = some v2 ∧ u.cell? ⟨p,3,none⟩ = some v3 ∧ u.cell? ⟨p,4,none⟩ = some v4 ∧ u.cell? ⟨p,5,none⟩ = some v5
theorem Hex.now {X : World} {p : Nat} {v0 v1 v2 v3 v4 v5 : Value} (h : Hex X p v0 v1 v2 v3 v4 v5) : X.cell? ⟨p,0,none⟩ = some v0 ∧ X.cell? ⟨p,1,none⟩ = some v1 ∧ X.cell? ⟨p,2,none⟩ = some v2 ∧ X.cell? ⟨p,3,none⟩ = some v3 ∧ X.cell? ⟨p,4,none⟩ = some v4 ∧ X.cell? ⟨p,5,none⟩ = some v5:=h.2 [] X (by simp) (GrwS.refl _ _)
theorem Hex.grw {S : List Nat} {X X' : World} {p : Nat} {v0 v1 v2 v3 v4 v5 : Value} (h : Hex X p v0 v1 v2 v3 v4 v5) (k : GrwS S X X') (hp : p ∉ S) : Hex X' p v0 v1 v2 v3 v4 v5 :=
 ⟨Nat.lt_of_lt_of_le h.1 k.size,fun S' u hp' k' => h.2 (S ++ S') u (fun hm => (List.mem_append.1 hm).elim hp hp') ((k.mono (fun i hi => List.mem_append.2 (.inl hi))).trans (k'.mono (fun i hi => List.mem_append.2 (.inr hi))))⟩
theorem Hex.kept {X X' : World} {p : Nat} {v0 v1 v2 v3 v4 v5 : Value} (h : Hex X p v0 v1 v2 v3 v4 v5) (k : Kept X X') : Hex X' p v0 v1 v2 v3 v4 v5:=h.grw (k.toS []) (by simp)
theorem Hex.new (X : World) (v0 v1 v2 v3 v4 v5 : Value) (t : TypeId) : Hex (X.alloc (.cells #[v0,v1,v2,v3,v4,v5] t)) X.heap.size v0 v1 v2 v3 v4 v5 :=
 ⟨by simp,fun S u hp k => by
  have hb:=k.block X.heap.size (by simp) hp
  refine ⟨?_,?_,?_,?_,?_,?_⟩
  all_goals (rw [World.cell?_of_block (a:=⟨X.heap.size,_,none⟩) hb]; simp [go_sem])⟩
/-- A variable's block. -/
structure VB (u : World) (B : Nat) (v0 v1 v2 v3 v4 v5 : Value) : Prop where
 c0 : u.cell? ⟨B,0,none⟩ = some v0
 c1 : u.cell? ⟨B,1,none⟩ = some v1
 c2 : u.cell? ⟨B,2,none⟩ = some v2
 c3 : u.cell? ⟨B,3,none⟩ = some v3
 c4 : u.cell? ⟨B,4,none⟩ = some v4
 c5 : u.cell? ⟨B,5,none⟩ = some v5
 fz : ∀ o,u.frozen? ⟨B,o,none⟩ = false
 lt : B < u.heap.size
theorem six_at (u : World) (B B' i : Nat) (hne : B' ≠ B) (v0 v1 v2 v3 v4 v5 : Value) : (six u B v0 v1 v2 v3 v4 v5).cell? ⟨B',i,none⟩ = u.cell? ⟨B',i,none⟩:=by
 have h : ∀ (x : World) (o : Nat) (v : Value),(x.setCell ⟨B,o,none⟩ v).cell? ⟨B',i,none⟩ = x.cell? ⟨B',i,none⟩:=fun x o v => World.cell?_of_block (a:=⟨B',i,none⟩) (Below.heap_setCell x ⟨B,o,none⟩ v B' hne)
 unfold six
 rw [h,h,h,h,h,h]
theorem VB.kept {u u' : World} {B : Nat} {v0 v1 v2 v3 v4 v5 : Value} (h : VB u B v0 v1 v2 v3 v4 v5) (k : Kept u u') : VB u' B v0 v1 v2 v3 v4 v5 :=
 ⟨(k.below.cell (p:=⟨B,0,none⟩) h.lt).trans h.c0,(k.below.cell (p:=⟨B,1,none⟩) h.lt).trans h.c1,(k.below.cell (p:=⟨B,2,none⟩) h.lt).trans h.c2,(k.below.cell (p:=⟨B,3,none⟩) h.lt).trans h.c3,(k.below.cell (p:=⟨B,4,none⟩) h.lt).trans h.c4,(k.below.cell (p:=⟨B,5,none⟩) h.lt).trans h.c5,fun o => (k.frozen _).trans (h.fz o),Nat.lt_of_lt_of_le h.lt k.below.size⟩
theorem VB.other {u : World} {B : Nat} {v0 v1 v2 v3 v4 v5 : Value} (h : VB u B v0 v1 v2 v3 v4 v5) (B' : Nat) (hne : B ≠ B') (y0 y1 y2 y3 y4 y5 : Value) : VB (six u B' y0 y1 y2 y3 y4 y5) B v0 v1 v2 v3 v4 v5 :=
 ⟨(six_at u B' B 0 hne _ _ _ _ _ _).trans h.c0,(six_at u B' B 1 hne _ _ _ _ _ _).trans h.c1,(six_at u B' B 2 hne _ _ _ _ _ _).trans h.c2,(six_at u B' B 3 hne _ _ _ _ _ _).trans h.c3,(six_at u B' B 4 hne _ _ _ _ _ _).trans h.c4,(six_at u B' B 5 hne _ _ _ _ _ _).trans h.c5,fun o => by simpa using h.fz o,by simpa using h.lt⟩
theorem VB.set {u : World} {B : Nat} {v0 v1 v2 v3 v4 v5 : Value} (h : VB u B v0 v1 v2 v3 v4 v5) (y0 y1 y2 y3 y4 y5 : Value) : VB (six u B y0 y1 y2 y3 y4 y5) B y0 y1 y2 y3 y4 y5:=by
 obtain ⟨c0,c1,c2,c3,c4,c5,fz,lt⟩:=h
 refine ⟨?_,?_,?_,?_,?_,?_,fun o => by simpa using fz o,by simpa using lt⟩
 all_goals simp [go_sem,c0,c1,c2,c3,c4,c5]
theorem VB.grwS {S : List Nat} {u u' : World} {B : Nat} {v0 v1 v2 v3 v4 v5 : Value} (h : VB u B v0 v1 v2 v3 v4 v5) (k : GrwS S u u') (hB : B ∉ S) : VB u' B v0 v1 v2 v3 v4 v5:=by
 have hb:=k.block B h.lt hB
 exact ⟨(World.cell?_of_block (a:=⟨B,0,none⟩) hb).trans h.c0,(World.cell?_of_block (a:=⟨B,1,none⟩) hb).trans h.c1,(World.cell?_of_block (a:=⟨B,2,none⟩) hb).trans h.c2,(World.cell?_of_block (a:=⟨B,3,none⟩) hb).trans h.c3,(World.cell?_of_block (a:=⟨B,4,none⟩) hb).trans h.c4,(World.cell?_of_block (a:=⟨B,5,none⟩) hb).trans h.c5,fun o => (k.frozen _).trans (h.fz o),Nat.lt_of_lt_of_le h.lt k.size⟩
theorem new_acc {u w' : World} {r : Nm} {un : Bool} {ua : Option Addr} {ul uc : Nat} {ux : Int} (hN : New u w' (.agg #[.bool un,.slice ua ul uc,.int .i64 ux]) r) : un = r.neg ∧ ul = r.mag.length ∧ ux = r.exp ∧ Rw w' (.slice ua r.mag.length uc) 3 (ints r.mag) ∧ (∀ b ∈ blk (.slice ua r.mag.length uc),u.heap.size ≤ b) ∧ (r.mag = [] → ua = none ∧ uc = 0):=by
 obtain ⟨pa,pc,e,h1,h2,h3⟩:=new_rw2 hN
 simp only [Value.agg.injEq,Array.mk.injEq,List.cons.injEq,Value.slice.injEq,Value.bool.injEq,Value.int.injEq,and_true,true_and] at e
 obtain ⟨rfl,⟨rfl,rfl,rfl⟩,rfl⟩:=e
 exact ⟨rfl,rfl,rfl,h1,h2,h3⟩
theorem add_frn2 (w0 x : World) (kb : Nat) (vL vW : Value) (E : List Ent) (D : List Nat) (N : Nat) (u0 u : World) (hF : Frn w0 x kb vL vW E D N u0) (k : Kept u0 u) (hN : N < 300) (l want : Value) (L : List Int) (hL : L.length < 10000000) (hl : Rw x l 3 (ints L)) (hd : ∀ b ∈ blk l,b ∉ blks kb vL vW E) (hD : ∀ b ∈ blk l,b ∉ D) (hn : ∀ b ∈ blk l,w0.heap.size ≤ b) (hw : RLp (fun b => b < x.heap.size ∧ b ∉ kb :: (blk vL ++ blk vW)) u want L) :
  Calls Tryz.prog 100 #[.pointer (some ⟨kb,0,none⟩),l,want] u fun e w' => e = .returned (.bool true) ∧ Frn w0 x kb vL vW E (D ++ blk l) (N + 1) w':=by
 obtain ⟨vL',vW',E',h1,h0,h2,h3,h4⟩:=hF
 have hlt:=hl.lt
 have hx:=h2.size
 have hu:=k.below.size
 have hlu : Rw u l 3 (ints L):=(hl.grwS h2 (fun b hb h => hd b hb (head_blks h))).kept k
 refine (keepAdd w0 u kb vL' vW' E' (h1.keptOn k) (by omega) l want L hL hlu (fun b hb h => ?_) hn (fun t kt => ?_)).mono ?_
 ·have:=hlt b hb
  rcases h3 b h with h | h | h
  ·exact hd b hb h
  ·exact hD b hb h
  ·omega
 ·refine (hw.grwS kt (fun b hb h => ?_)).sl
  rcases h4 b h with h | h
  ·exact hb.2 h
  ·have:=hb.1
   omega
 ·rintro e w' ⟨rfl,vL2,vW2,t2,g1,g2,g3,g4⟩
  refine ⟨rfl,vL2,vW2,_,g1,by rw [List.length_append]; simp; omega,(h2.trans (k.toS _)).then g2 (fun i hi => h4 i hi),fun b hb => ?_,fun b hb => ?_⟩
  ·rcases g3 b hb with h | h | h
   ·rcases h3 b h with h | h | h
    ·exact .inl h
    ·exact .inr (.inl (List.mem_append.2 (.inl h)))
    ·exact .inr (.inr h)
   ·exact .inr (.inl (List.mem_append.2 (.inr h)))
   ·exact .inr (.inr (by omega))
  ·rcases g4 b hb with h | h
   ·rcases h4 b h with h | h
    ·exact .inl h
    ·exact .inr h
   ·exact .inr (by omega)
theorem is3_at (w0 x : World) (kb : Nat) (vL vW : Value) (E : List Ent) (D : List Nat) (N : Nat) (u0 u : World) (hF : Frn w0 x kb vL vW E D N u0) (k : Kept u0 u) (hN : N < 300) (r : Nm) (f : Int) (P M Z : Bool) (pa : Option Addr) (pc : Nat) (hl : Rw x (.slice pa r.mag.length pc) 3 (ints r.mag)) (hd : ∀ b ∈ blk (.slice pa r.mag.length pc),b ∉ blks kb vL vW E) (hD : ∀ b ∈ blk (.slice pa r.mag.length pc),b ∉ D) (hn : ∀ b ∈ blk (.slice pa r.mag.length pc),w0.heap.size ≤ b)
  (want : Nm) (ao : Option Addr) (c : Nat) (p m z : Bool) (hw : RLp (fun b => b < x.heap.size ∧ b ∉ kb :: (blk vL ++ blk vW)) u (.slice ao want.mag.length c) want.mag) (hRg : Rg want.mag) (hlen : want.mag.length < 10000000) (e : Int)
  (hans : e ≠ 0 ∧ r = ⟨false,[],0⟩ ∧ f = e ∧ P = false ∧ M = false ∧ Z = false ∨ e = 0 ∧ (if vld want = true then r = want ∧ f = 0 ∧ P = p ∧ M = m ∧ Z = z else r = ⟨false,[],0⟩ ∧ f = 2 ∧ P = false ∧ M = false ∧ Z = false)) :
  Calls Tryz.prog 47 #[.pointer (some ⟨kb,0,none⟩),accV r.neg (.slice pa r.mag.length pc) r.exp P M Z,.int .i64 f,.int .i64 e,accV want.neg (.slice ao want.mag.length c) want.exp p m z] u fun e w' => e = .returned (.bool true) ∧ Frn w0 x kb vL vW E (D ++ blk (.slice pa r.mag.length pc)) (N + 1) w':=by
 have hx:=hF.grw
 have hlu : ∀ t,Kept u t → Rw t (.slice pa r.mag.length pc) 3 (ints r.mag):=fun t kt => (hl.grwS hx (fun b hb h => hd b hb (head_blks h))).kept (k.trans kt)
 rcases hans with ⟨h0,rfl,rfl,rfl,rfl,rfl⟩ | ⟨rfl,hans⟩
 ·dsimp only at *
  refine is3_bad _ f h0 _ _ _ _ _ _ _ _ u _ _ _ _ _ _ _ _ _ rfl rfl rfl (fun t kt => ?_) (fun t kt => ?_)
  ·exact sameNum_true ⟨false,[],0⟩ (by simp) _ _ t ⟨_,rfl,(hlu t kt).sl⟩ ⟨_,rfl,(RLp.nil (fun _ => True) t).sl⟩
  ·exact add_frn2 w0 x kb vL vW E D N u0 t hF (k.trans kt) hN _ _ [] (by simp) hl hd hD hn (RLp.nil _ t)
 ·by_cases hv : vld want = true
  ·rw [if_pos hv] at hans
   obtain ⟨rfl,rfl,rfl,rfl,rfl⟩:=hans
   refine is3_ok _ _ _ _ _ _ _ _ _ _ _ _ _ _ _ _ _ _ r.neg ao r.mag.length c r.exp u _ (fun t kt => ?_) (fun t kt => ?_) (fun t kt => ?_)
   ·have:=ranswer3 r hRg (by omega) P M Z ao c t ((hw.kept kt).sl)
    rw [if_pos hv,if_pos hv] at this
    exact this
   ·exact sameNum_true r (by omega) _ _ t ⟨_,rfl,(hlu t kt).sl⟩ ⟨_,rfl,(hw.kept kt).sl⟩
   ·exact add_frn2 w0 x kb vL vW E D N u0 t hF (k.trans kt) hN _ _ r.mag hlen hl hd hD hn (hw.kept kt)
  ·rw [if_neg hv] at hans
   obtain ⟨rfl,rfl,rfl,rfl,rfl⟩:=hans
   dsimp only at *
   refine is3_ok _ _ _ _ _ _ _ _ _ _ _ _ _ _ _ _ _ _ false none 0 0 0 u _ (fun t kt => ?_) (fun t kt => ?_) (fun t kt => ?_)
   ·have:=ranswer3 want hRg (by omega) p m z ao c t ((hw.kept kt).sl)
    rw [if_neg hv,if_neg hv] at this
    exact this
   ·exact sameNum_true ⟨false,[],0⟩ (by simp) _ _ t ⟨_,rfl,(hlu t kt).sl⟩ ⟨_,rfl,(RLp.nil (fun _ => True) t).sl⟩
   ·exact add_frn2 w0 x kb vL vW E D N u0 t hF (k.trans kt) hN _ _ [] (by simp) hl hd hD hn (RLp.nil _ t)
end Go.Proofs.YtoflafgbbjinpaaGreatDoor
