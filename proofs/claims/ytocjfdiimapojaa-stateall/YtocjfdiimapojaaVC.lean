/- Package state: a reader takes a number. -/
import Derived.Test.YtocjfdiimapojaaVB
import Derived.Laws.Shifts
namespace Go.Proofs.Ytocjfdiimapojaa
open Go.ChangeShapes Go.WideShapes Go.ChangeAt Go.RowKit
set_option maxHeartbeats 16000000
set_option maxRecDepth 100000
set_option linter.unusedVariables false
set_option linter.unusedSimpArgs false
/-- Bytes,as they lie. -/
def BR (u : World) (b off : Nat) (B : List Int) : Prop:=∀ i,i < B.length → u.cell? ⟨b,off + i,none⟩ = some (.int .u8 (B.getD i 0))
/-- A reader in its variable. -/
structure RV (u : World) (R : Nat) (ao : Option Addr) (B : List Int) (cap q : Nat) : Prop where
 c0 : u.cell? ⟨R,0,none⟩ = some (.slice ao B.length cap)
 c1 : u.cell? ⟨R,1,none⟩ = some (.int .i64 q)
 fz : u.frozen? ⟨R,1,none⟩ = false
 bd : B ≠ [] → ∃ b off,ao = some ⟨b,off,none⟩ ∧ b < R ∧ BR u b off B
 le : q ≤ B.length
 sm : B.length ≤ 16777216
 lc : B.length ≤ cap
theorem RV.lt {u : World} {R : Nat} {ao : Option Addr} {B : List Int} {cap q : Nat} (h : RV u R ao B cap q) : R < u.heap.size:=World.block_lt_of_cell? _ _ h.c0
theorem RV.kept {u u' : World} {R : Nat} {ao : Option Addr} {B : List Int} {cap q : Nat} (h : RV u R ao B cap q) (k : Kept u u') : RV u' R ao B cap q :=
 ⟨(k.below.cell (p:=⟨R,0,none⟩) h.lt).trans h.c0,(k.below.cell (p:=⟨R,1,none⟩) h.lt).trans h.c1,(k.frozen _).trans h.fz,fun hn => by
  obtain ⟨b,off,e,hb,hr⟩:=h.bd hn
  exact ⟨b,off,e,hb,fun i hi => (k.below.cell (p:=⟨b,off + i,none⟩) (Nat.lt_trans hb h.lt)).trans (hr i hi)⟩,h.le,h.sm,h.lc⟩
theorem RV.set {u : World} {R : Nat} {ao : Option Addr} {B : List Int} {cap q : Nat} (h : RV u R ao B cap q) (p : Nat) (hp : p ≤ B.length) : RV (u.setCell ⟨R,1,none⟩ (.int .i64 p)) R ao B cap p :=
 ⟨(World.cell?_setCell_other _ _ _ _ (by simp)).trans h.c0,World.cell?_setCell_same _ _ _ (by rw [h.c1]),(World.frozen?_setCell _ _ _ _).trans h.fz,fun hn => by
  obtain ⟨b,off,e,hb,hr⟩:=h.bd hn
  exact ⟨b,off,e,hb,fun i hi => (World.cell?_setCell_other _ _ _ _ (fun e => Nat.ne_of_lt hb (congrArg Addr.block e).symm)).trans (hr i hi)⟩,hp,h.sm,h.lc⟩
theorem RV.other {u : World} {R : Nat} {ao : Option Addr} {B : List Int} {cap q : Nat} (h : RV u R ao B cap q) {p : Addr} (hp : R < p.block) (x : Value) : RV (u.setCell p x) R ao B cap q :=
 ⟨(World.cell?_setCell_other _ _ _ _ (fun e => Nat.ne_of_lt hp (congrArg Addr.block e).symm)).trans h.c0,(World.cell?_setCell_other _ _ _ _ (fun e => Nat.ne_of_lt hp (congrArg Addr.block e).symm)).trans h.c1,(World.frozen?_setCell _ _ _ _).trans h.fz,fun hn => by
  obtain ⟨b,off,e,hb,hr⟩:=h.bd hn
  exact ⟨b,off,e,hb,fun i hi => (World.cell?_setCell_other _ _ _ _ (fun e => Nat.ne_of_lt (Nat.lt_trans hb hp) (congrArg Addr.block e).symm)).trans (hr i hi)⟩,h.le,h.sm,h.lc⟩
/-- What a call of the reader's tells. -/
def Gv {α : Type} (R : Nat) (ao : Option Addr) (B : List Int) (cap : Nat) (w : World) (x : Res α) (V : World → Value → α → Prop) (e : Ending) (w' : World) : Prop :=
 match x with
 | .no er p => e = PN er p ∧ Grw R w w'
 | .ok a q => ∃ v,e = .returned v ∧ Grw R w w' ∧ RV w' R ao B cap q ∧ V w' v a
theorem number_end (k q cap R K : Nat) (ao : Option Addr) (B : List Int) (caps : Array Value) (hk : k ≤ 8) (w : World) (hR : RV w R ao B cap q) (hlt : B.length < q + k) :
  Calls Try.prog 49 #[.pointer (some ⟨R,0,none⟩),.int .i64 (k : Int),.func (.func K) #[] caps] w fun e w' => e = PN 50 B.length ∧ Kept w w':=by
 have c0:=hR.c0
 have c1:=hR.c1
 have hle:=hR.le
 have hsm:=hR.sm
 have HR : Hid (∀ u,Kept w u → RV u R ao B cap q):=fun u k => hR.kept k
 clear hR
 have z1 : IntKind.i64.wrap ((B.length : Int) - (q : Int)) = (B.length : Int) - (q : Int):=by rw [wrap_i64]; omega
 have hd : decide ((k : Int) ≤ (B.length : Int) - (q : Int)) = false:=decide_eq_false (by omega)
 clear hlt hle hsm hk
 generalize B.length = m at *
 go_enter Try.func49,Try.ntmps49
 go_wp2_with fail
 refine wp_region_held_drew (S:=fun u => Kept w u ∧ u.cell? ⟨R,0,none⟩ = some (.slice ao m cap) ∧ u.cell? ⟨R,1,none⟩ = some (.int .i64 (q : Int))) (by kernel_rfl) (⟨(Kept.refl w).drew,c0,c1⟩) (fun hHeld => ?_)
 refine tk (i:=0) (v:=?_) rfl ?_
 simp only [Act.put,zA,zB,zC,zD,zE,zF]
 refine tk (i:=1) (v:=?_) rfl ?_
 simp only [Act.put,zA,zB,zC,zD,zE,zF]
 refine tk (i:=2) (v:=?_) rfl ?_
 simp only [Act.put,zA,zB,zC,zD,zE,zF]
 refine tk (i:=3) (v:=?_) rfl ?_
 simp only [Act.put,zA,zB,zC,zD,zE,zF]
 refine tk (i:=4) (v:=?_) rfl ?_
 simp only [Act.put,zA,zB,zC,zD,zE,zF]
 refine tk (i:=5) (v:=?_) rfl ?_
 simp only [Act.put,zA,zB,zC,zD,zE,zF]
 refine tk (i:=6) (v:=?_) rfl ?_
 simp only [Act.put,zA,zB,zC,zD,zE,zF]
 refine tk (i:=7) (v:=?_) rfl ?_
 simp only [Act.put,zA,zB,zC,zD,zE,zF]
 refine tk (i:=8) (v:=?_) rfl ?_
 simp only [Act.put,zA,zB,zC,zD,zE,zF]
 refine tk (i:=9) (v:=?_) rfl ?_
 simp only [Act.put,zA,zB,zC,zD,zE,zF]
 refine tk (i:=10) (v:=?_) rfl ?_
 simp only [Act.put,zA,zB,zC,zD,zE,zF]
 refine tk (i:=11) (v:=?_) rfl ?_
 simp only [Act.put,zA,zB,zC,zD,zE,zF]
 refine tk (i:=12) (v:=?_) rfl ?_
 simp only [Act.put,zA,zB,zC,zD,zE,zF]
 refine tk (i:=13) (v:=?_) rfl ?_
 simp only [Act.put,zA,zB,zC,zD,zE,zF]
 refine tk (i:=14) (v:=?_) rfl ?_
 simp only [Act.put,zA,zB,zC,zD,zE,zF]
 refine tk (i:=15) (v:=?_) rfl ?_
 simp only [Act.put,zA,zB,zC,zD,zE,zF]
 refine tk (i:=16) (v:=?_) rfl ?_
 simp only [Act.put,zA,zB,zC,zD,zE,zF]
 refine tk (i:=17) (v:=?_) rfl ?_
 simp only [Act.put,zA,zB,zC,zD,zE,zF]
 refine wpAnyH_ready (rs:=[18]) (by kernel_rfl) (by simp) ?_
 refine AllReadyH.cons rfl (fun K hK9 => ?_) AllReadyH.nil
 go_simp
 go_wp2_with fail
 refine (want_no _ _ _).mono ?_
 rintro e u9 ⟨rfl,hk1⟩
 exact ⟨rfl,rfl,((Kept.refl w).drew).trans hk1⟩
end Go.Proofs.Ytocjfdiimapojaa
