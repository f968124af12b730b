/- Package start: Make of any Init. The laws of chapter 16: alive. How arguments are read: exact numbers,lists of ints; and that they read behind the call as before. The laws of chapter 16: StartHeld. How an Init is read. -/
import Derived.Test.YtnafaclfdoefcaaGreatDoorWh44
import Derived.Test.YtnafaclfdoefcaaGreatDoorWh51
import Derived.Test.YtnafaclfdoefcaaGreatDoorWh39
import Derived.Test.YtnafaclfdoefcaaGreatDoorWh06
import Derived.ProofKit
import Derived.OpenShut
import Derived.Carry
import Derived.Lib.SmallJoins
import Derived.ChangeSlices
namespace Go.Proofs.YtnafaclfdoefcaaGreatDoor
open Go.ChangeShapes Go.WideShapes Go.ChangeAt Go.RowKit
set_option linter.unusedVariables false
set_option linter.unusedSimpArgs false
set_option maxHeartbeats 16000000
set_option maxRecDepth 100000
theorem nz_vld (s Z : Int) : vld (nz s Z) = true:=by
 unfold nz
 cases h : cfm Z s with
 | none => rfl
 | some x => exact (frm_vld _ _ _ _ h).1
/-- what Make tells: a matrix with elements of its own,or none -/
def MkA (q rows cols wd : Int) (N : Nat) (L : List Int) (w : World) (e : Ending) (w' : World) : Prop:=Kept w w' ∧ ((q = 0 ∧ ∃ g,e = .returned (.tuple #[.agg #[.int .i64 rows,.int .i64 cols,.int .i64 wd,.slice (some ⟨g,0,none⟩) N N],.int .i64 0]) ∧ w.heap.size ≤ g ∧ Own w' g N L) ∨ ((q == 0) = false ∧ e = .returned (.tuple #[zeroM,.int .i64 q])))
/-- the elements,rounded -/
def btN (wd : Int) (nu : Nat → Nm) (i : Nat) : Int:=rzN wd 0 (nu i)
/-- the fault -/
def feN (wd : Int) (nu : Nat → Nm) (N : Nat) : Int:=if fine (fun i => cls (btN wd nu i) wd) N = N then 0 else 31
abbrev initV (kd rows cols wd va vb : Int) : Value:=.agg #[.int .i64 kd,.int .i64 rows,.int .i64 cols,.int .i64 wd,.int .i64 va,.int .i64 vb]
theorem make_el (nu : Nat → Nm) (hnu : ∀ i,vld (nu i) = true) (kd rows cols wd va vb s t : Int) (N : Nat) (hk : 0 ≤ kd ∧ kd ≤ 5) (hwd : wd = 64 ∨ wd = 32) (hN : N ≤ 4096) (hN1 : 1 ≤ N)
  (KZ : ∀ u,Calls Tryz.prog 31 #[.int .i64 rows,.int .i64 cols,.int .i64 wd] u fun e w' => ∃ g,e = .returned (.tuple #[.agg #[.int .i64 rows,.int .i64 cols,.int .i64 wd,.slice (some ⟨g,0,none⟩) N N],.int .i64 0]) ∧ u.heap.size ≤ g ∧ Own w' g N (List.replicate N 0) ∧ Kept u w')
  (KN : ∀ u,Calls Tryz.prog 32 #[initV kd rows cols wd va vb] u fun e w' => e = .returned (.int .i64 0) ∧ Kept u w')
  (KE : ∀ u,Tab u → Calls Tryz.prog 34 #[initV kd rows cols wd va vb,.agg #[.int .i64 s,.int .i64 t,.int .i64 0]] u fun e w' => ∃ v,e = .returned v ∧ ElOK nu N u w' v ∧ Kept u w') :
  ∀ w,Tab w → Calls Tryz.prog 11 #[initV kd rows cols wd va vb,.int .i64 s,.int .i64 t] w fun e w' => MkA (feN wd nu N) rows cols wd N (stl N (btN wd nu) N) w e w':=fun w hT => by
 obtain ⟨fe,hfe⟩ : ∃ fe : Int,fe = feN wd nu N:=⟨_,rfl⟩
 have hf2 : fe = 0 ∨ fe = 31:=by rw [hfe]; unfold feN; split <;> simp
 rw [← hfe]
 unfold feN at hfe
 refine (make_elems kd rows cols wd va vb s t N fe (stl N (btN wd nu) N) (ElOK nu N) hk w KZ KN (fun u k => KE u (hT.kept k)) (fun u0 u v g k ku he ho => fill_any nu hnu rows cols wd hwd N hN hN1 (btN wd nu) (fun i => cls (btN wd nu i) wd) (fun i => rfl) (fun i => rfl) fe hfe u0 u v g (hT.kept k) ku he ho) hf2).mono ?_
 rintro e w' (⟨h0,g,he,hg,ho,k⟩ | ⟨h0,he,k⟩)
 ·exact ⟨k,.inl ⟨h0,g,he,hg,ho⟩⟩
 ·exact ⟨k,.inr ⟨by rw [h0]; rfl,by rw [h0]; exact he⟩⟩
theorem cls_top (b n : Int) : cls b n ≤ 4:=by
 unfold cls clsOf
 repeat' split
 all_goals decide
theorem ckn_ok {b : Int} {u : Bool} (h : ckn b u = 0) : cls b 64 < 3:=by
 unfold ckn at h
 have:=cls_top b 64
 split at h
 ·exact absurd h (by decide)
 ·split at h
  ·exact absurd h (by decide)
  ·split at h
   ·exact absurd h (by decide)
   ·omega
theorem make_any (kd rows cols wd va vb s t : Int) (ha : -9223372036854775808 ≤ va ∧ va ≤ 9223372036854775807) (hb : -9223372036854775808 ≤ vb ∧ vb ≤ 9223372036854775807) :
  ∃ (q : Int) (N : Nat) (L : List Int),L.length = N ∧ N ≤ 4096 ∧ ∀ w,Tab w → Calls Tryz.prog 11 #[initV kd rows cols wd va vb,.int .i64 s,.int .i64 t] w fun e w' => MkA q rows cols wd N L w e w':=by
 by_cases hk : kd < 0 ∨ 5 < kd
 ·exact ⟨42,0,[],rfl,by decide,fun w hT => (make_kind kd rows cols wd va vb s t hk w).mono fun e w' h => ⟨h.2,.inr ⟨rfl,h.1⟩⟩⟩
 have hk : 0 ≤ kd ∧ kd ≤ 5:=by omega
 by_cases hz : ckS rows cols wd = 0
 ·obtain ⟨hwd,hr,hc,hrc⟩:=ckS_ok hz
  obtain ⟨N,hN⟩ : ∃ N : Nat,N = (rows * cols).toNat:=⟨_,rfl⟩
  have h1 : 0 < rows * cols:=Int.mul_pos (by omega) (by omega)
  have hNi : (N : Int) = rows * cols:=by omega
  have hN1 : 1 ≤ N:=by omega
  have hN4 : N ≤ 4096:=by omega
  have hw : IntKind.i64.wrap (rows * cols) = (N : Int):=by rw [wrap_i64]; omega
  have KZ:=fun u => zero_yes rows cols wd hwd hz N hw hN4 u
  have KN:=fun u => checkNumbers_any kd rows cols wd va vb (by omega) ha hb u
  by_cases hn : cks kd va vb = 0
  ·rw [hn] at KN
   have ca : cls va 64 < 3:=by
    unfold cks at hn
    split at hn
    ·rename_i h; exact absurd hn h
    ·rename_i h; exact ckn_ok (by simpa using h)
   have cb : cls vb 64 < 3:=by
    unfold cks at hn
    split at hn
    ·rename_i h; exact absurd hn h
    ·split at hn
     ·rename_i h; exact absurd hn h
     ·rename_i h; exact ckn_ok (by simpa using h)
   have fin : ∀ nu : Nat → Nm,(∀ i,vld (nu i) = true) → (∀ u,Tab u → Calls Tryz.prog 34 #[initV kd rows cols wd va vb,.agg #[.int .i64 s,.int .i64 t,.int .i64 0]] u fun e w' => ∃ v,e = .returned v ∧ ElOK nu N u w' v ∧ Kept u w') → ∃ (q : Int) (N : Nat) (L : List Int),L.length = N ∧ N ≤ 4096 ∧ ∀ w,Tab w → Calls Tryz.prog 11 #[initV kd rows cols wd va vb,.int .i64 s,.int .i64 t] w fun e w' => MkA q rows cols wd N L w e w':=fun nu hnu KE => by
    exact ⟨_,N,_,stl_len N _ N,hN4,make_el nu hnu kd rows cols wd va vb s t N hk hwd hN4 hN1 KZ KN KE⟩
   have rc : rows + cols ≤ 4097:=by
    have : 0 ≤ (rows - 1) * (cols - 1):=Int.mul_nonneg (by omega) (by omega)
    rw [Int.sub_mul,Int.mul_sub] at this
    omega
   have root : ∀ fan : Int,1 ≤ fan → fan ≤ 4097 → (kd = 3 ∧ IntKind.i64.wrap (rows + cols) = fan ∨ kd = 4 ∧ rows = fan) → ∃ (q : Int) (N : Nat) (L : List Int),L.length = N ∧ N ≤ 4096 ∧ ∀ w,Tab w → Calls Tryz.prog 11 #[initV kd rows cols wd va vb,.int .i64 s,.int .i64 t] w fun e w' => MkA q rows cols wd N L w e w':=fun fan f1 f2 hf => by
    have hfan : ((fan.toNat : Nat) : Int) = fan:=by omega
    obtain ⟨L,l1,l2,KR⟩:=root6_any wd hwd fan.toNat (by omega) (by omega)
    rw [hfan] at KR
    exact fin _ (fun i => nz_vld _ _) (fun u hT => elok2 kd rows cols wd va vb s t ha ca hb cb N hN4 u hT fan L hf hwd l1 l2 KR)
   have hc6 : (kd = 0 ∨ kd = 1) ∨ kd = 2 ∨ kd = 3 ∨ kd = 4 ∨ kd = 5:=by omega
   rcases hc6 with h | h | h | h | h
   ·exact fin _ (fun i => (zf_vz va 64 (.inl rfl) ca).1.ok) (fun u hT => elok4 kd rows cols wd va vb s t ha ca hb cb N hN4 u hT h)
   ·exact fin _ (fun i => nz_vld _ _) (fun u hT => elok1 kd rows cols wd va vb s t ha ca hb cb N hN4 u hT h)
   ·exact root (rows + cols) (by omega) rc (.inl ⟨h,by rw [wrap_i64]; omega⟩)
   ·have : rows ≤ 4097:=by omega
    exact root rows hr this (.inr ⟨h,rfl⟩)
   ·exact fin _ (fun i => nz_vld _ _) (fun u hT => elok3 kd rows cols wd va vb s t ha ca hb cb N hN4 u hT h)
  ·have hq : (cks kd va vb != 0) = true:=by simpa using hn
   have hq2 : (cks kd va vb == 0) = false:=by simpa using hn
   exact ⟨cks kd va vb,0,[],rfl,by decide,fun w hT => (make_num kd rows cols wd va vb s t _ N hk hq hq2 w KZ KN).mono fun e w' h => ⟨h.2,.inr ⟨hq2,h.1⟩⟩⟩
 ·have hq : (ckS rows cols wd != 0) = true:=by simpa using hz
  have hq2 : (ckS rows cols wd == 0) = false:=by simpa using hz
  exact ⟨ckS rows cols wd,0,[],rfl,by decide,fun w hT => (make_zero kd rows cols wd va vb s t _ hk hq hq2 w (fun u => zero_no rows cols wd _ rfl hq u)).mono fun e w' h => ⟨h.2,.inr ⟨hq2,h.1⟩⟩⟩
theorem one_fe : feN 64 (fun _ => ofN 4607182418800017408 64) 2 = 0:=by decide +kernel
theorem one_bt : stl 2 (btN 64 (fun _ => ofN 4607182418800017408 64)) 2 = [4607182418800017408,4607182418800017408]:=by decide +kernel
theorem make_one (w : World) (hT : Tab w) : Calls Tryz.prog 11 #[initV 1 1 2 64 4607182418800017408 0,.int .i64 0,.int .i64 0] w fun e w' => ∃ g,e = .returned (.tuple #[.agg #[.int .i64 1,.int .i64 2,.int .i64 64,.slice (some ⟨g,0,none⟩) 2 2],.int .i64 0]) ∧ Own w' g 2 [4607182418800017408,4607182418800017408] ∧ Kept w w':=by
 have hz : ckS 1 2 64 = 0:=by decide +kernel
 have hn : cks 1 4607182418800017408 0 = 0:=by decide +kernel
 have ca : cls 4607182418800017408 64 < 3:=by decide +kernel
 have cb : cls 0 64 < 3:=by decide +kernel
 have KZ:=fun u => zero_yes 1 2 64 (.inl rfl) hz 2 (by decide +kernel) (by decide) u
 have KN:=fun u => checkNumbers_any 1 1 2 64 4607182418800017408 0 (by decide) (by decide) (by decide) u
 rw [hn] at KN
 have:=make_el (fun _ => ofN 4607182418800017408 64) (fun i => (zf_vz _ 64 (.inl rfl) ca).1.ok) 1 1 2 64 4607182418800017408 0 0 0 2 (by decide) (.inl rfl) (by decide) (by decide) KZ KN (fun u hT => elok4 1 1 2 64 4607182418800017408 0 0 0 (by decide) ca (by decide) cb 2 (by decide) u hT (.inr rfl)) w hT
 rw [one_fe,one_bt] at this
 refine this.mono ?_
 rintro e w' ⟨k,⟨-,g,he,-,ho⟩ | ⟨h0,-⟩⟩
 ·exact ⟨g,he,ho,k⟩
 ·exact absurd h0 (by decide)
theorem alive16 (w : World) (hT : Tab w) : Calls Tryz.prog 9 #[] w fun e w' => e = .returned (.bool true) ∧ Kept w w':=by
 have KM : Hid (∀ u,Tab u → Calls Tryz.prog 11 #[initV 1 1 2 64 4607182418800017408 0,.int .i64 0,.int .i64 0] u fun e w' => ∃ g,e = .returned (.tuple #[.agg #[.int .i64 1,.int .i64 2,.int .i64 64,.slice (some ⟨g,0,none⟩) 2 2],.int .i64 0]) ∧ Own w' g 2 [4607182418800017408,4607182418800017408] ∧ Kept u w'):=make_one
 go_enter Tryz.func9,Tryz.ntmps9
 go_wp2_with fail
 refine (KM.out _ hT).mono ?_
 rintro e w1 ⟨g,rfl,ho,k1⟩
 go_upto_region 2 with fail
 obtain ⟨V,hV⟩ : ∃ V,V = w1.alloc (.cells #[.int .i64 1,.int .i64 2,.int .i64 64,.slice (some ⟨g,0,none⟩) 2 2] 28):=⟨_,rfl⟩
 obtain ⟨B8,hB8⟩ : ∃ B,B = w1.heap.size:=⟨_,rfl⟩
 have kV : Kept w V:=by rw [hV]; exact k1.alloc _ _
 have hP8 : Q4 V B8 (.int .i64 1) (.int .i64 2) (.int .i64 64) (.slice (some ⟨g,0,none⟩) 2 2):=by rw [hV,hB8]; exact Q4.new w1 _ _ _ _ _
 have oV : Own V g 2 [4607182418800017408,4607182418800017408]:=by rw [hV]; exact ho.kept ((Kept.refl w1).alloc _ _)
 rw [← hV,← hB8]
 clear hV hB8 ho k1
 have cg : V.cell? ⟨g,0,none⟩ = some (.int .i64 4607182418800017408):=oV.cell 0 (by decide)
 obtain ⟨p0,p1,p2,p3,pf⟩:=hP8
 go_wp2_with fail
 go_ret
 exact ⟨rfl,kV⟩
end Go.Proofs.YtnafaclfdoefcaaGreatDoor
namespace Go.Proofs.YtnafaclfdoefcaaGreatDoor
open Go.ChangeShapes Go.WideShapes Go.ChangeAt Go.RowKit Go.Joins
set_option linter.unusedVariables false
set_option linter.unusedSimpArgs false
set_option maxHeartbeats 16000000
set_option maxRecDepth 100000
theorem laid_out : laidOutB Tryz.prog = true:=by kernel_rfl
theorem cells_int : Tryz.prog.cellsOf 3 = 1:=by kernel_rfl
theorem wf_rng (n : Int) (h : (Lit.int .i64 n).wf = true) : -9223372036854775808 ≤ n ∧ n ≤ 9223372036854775807:=by
 have e1 : IntKind.i64.min = -9223372036854775808:=rfl
 have e2 : IntKind.i64.max = 9223372036854775807:=rfl
 simp [Lit.wf] at h
 omega
section
variable {H : Type} {enc : TypeId × Value → H} {W : World}
theorem trodAll_stays {W' : World} {sp : Nat → Bool} : ∀ {ts : List TypeId} {vs : List Value} {ds : List (DataW H)} {p : List MemPlace},(∀ t ∈ ts,Tryz.prog.readableRec t = true ∧ t < Tryz.prog.types.size) → DataW.TrodAll enc Tryz.prog W 0 (fun _ => true) true ts vs ds p → (∀ x ∈ p,W.sameAt W' x) → (∀ x ∈ p,sp x.block = true) → DataW.TrodAll enc Tryz.prog W' 0 sp true ts vs ds p
 | [],_,_,_,_,h,_,_ => by
  obtain ⟨rfl,rfl,rfl⟩:=trodAll_nil h
  exact trodAll_mk0
 | t :: ts,_,_,_,hr,h,hs,hp => by
  obtain ⟨v,vs1,d,ds1,a,b,rfl,rfl,rfl,h1,h2⟩:=trodAll_cons h
  obtain ⟨r1,r2⟩:=hr t (by simp)
  exact trodAll_cons_mk (WideElems.Trod_stays laid_out r1 r2 h1 (fun x hx => hs x (by simp [hx])) (fun x hx => hp x (by simp [hx]))) (trodAll_stays (fun t' ht' => hr t' (by simp [ht'])) h2 (fun x hx => hs x (by simp [hx])) (fun x hx => hp x (by simp [hx])))
end
end Go.Proofs.YtnafaclfdoefcaaGreatDoor
namespace Go.Proofs.YtnafaclfdoefcaaGreatDoor
open Go.ChangeShapes Go.WideShapes Go.ChangeAt Go.RowKit
set_option linter.unusedVariables false
set_option linter.unusedSimpArgs false
set_option maxHeartbeats 16000000
set_option maxRecDepth 100000
theorem MkA.mkv {q rows cols wd : Int} {N : Nat} {L : List Int} {u : World} {e : Ending} {w' : World} (h : MkA q rows cols wd N L u e w') (hl : L.length = N) (hN : N ≤ 4096) : MkV u e w':=by
 obtain ⟨k,⟨rfl,g,rfl,hg,ho⟩ | ⟨-,rfl⟩⟩:=h
 ·subst hl
  exact ⟨rows,cols,wd,0,some ⟨g,0,none⟩,_,L,rfl,.inr ⟨g,rfl,ho⟩,fun h => (by cases h),fun b hb => (by
   have : b = g:=by simpa [eb] using hb
   omega),hN,k⟩
 ·exact ⟨0,0,0,q,none,0,[],rfl,.inl ⟨rfl,rfl⟩,fun _ => rfl,fun b hb => (by simp [eb] at hb),(by simp),k⟩
theorem make_mkv (kd rows cols wd va vb s t : Int) (ha : -9223372036854775808 ≤ va ∧ va ≤ 9223372036854775807) (hb : -9223372036854775808 ≤ vb ∧ vb ≤ 9223372036854775807) (w : World) (hT : Tab w) : Calls Tryz.prog 11 #[initV kd rows cols wd va vb,.int .i64 s,.int .i64 t] w fun e w' => MkV w e w':=by
 obtain ⟨q,N,L,hl,hN,K⟩:=make_any kd rows cols wd va vb s t ha hb
 exact (K w hT).mono fun e w' h => h.mkv hl hN
theorem startHeld_true (W : World) (hT : Tab W) (ki1 ro1 co1 wi1 va1 vb1 ki2 ro2 co2 wi2 va2 vb2 seed stream : Int) (w1 : (Lit.int .i64 va1).wf = true) (w2 : (Lit.int .i64 vb1).wf = true) (w3 : (Lit.int .i64 va2).wf = true) (w4 : (Lit.int .i64 vb2).wf = true) : Calls Tryz.prog 5 #[initV ki1 ro1 co1 wi1 va1 vb1,initV ki2 ro2 co2 wi2 va2 vb2,.int .i64 seed,.int .i64 stream] W fun e w' => e = .returned (.bool true) ∧ Kept W w' :=
 held_walk ki1 ro1 co1 wi1 va1 vb1 ki2 ro2 co2 wi2 va2 vb2 seed stream _ _ W (fun u k => alive16 u (hT.kept k)) (fun u => light_any _ _ _ _ _ _ u) (fun u => light_any _ _ _ _ _ _ u) (fun u k => make_mkv _ _ _ _ _ _ _ _ (wf_rng va1 w1) (wf_rng vb1 w2) u (hT.kept k)) (fun u t k => make_mkv _ _ _ _ _ _ _ _ (wf_rng va2 w3) (wf_rng vb2 w4) u (hT.kept k))
end Go.Proofs.YtnafaclfdoefcaaGreatDoor
namespace Go.Proofs.YtnafaclfdoefcaaGreatDoor
open Go.ChangeShapes Go.WideShapes Go.ChangeAt Go.RowKit Go.Joins
set_option linter.unusedVariables false
set_option linter.unusedSimpArgs false
set_option maxHeartbeats 16000000
set_option maxRecDepth 100000
theorem cells_init : Tryz.prog.cellsOf 23 = 6:=by kernel_rfl
section
variable {H : Type} {enc : TypeId × Value → H} {W : World}
theorem array6j {cs : Array Value} (h : cs.size = 6) : ∃ c0 c1 c2 c3 c4 c5,cs = #[c0,c1,c2,c3,c4,c5]:=by
 obtain ⟨l⟩:=cs
 match l,h with
 | [c0,c1,c2,c3,c4,c5],_ => exact ⟨c0,c1,c2,c3,c4,c5,rfl⟩
theorem open_init {b0 : Nat} {v : Value} {d : DataW H} {p : List MemPlace} (hv : Value.okWide Tryz.prog W .any b0 23 v) (h : DataW.Trod enc Tryz.prog W 0 (fun _ => true) true 23 v d p) :
  ∃ (k r c n a b : Int),v = .agg #[.int .i64 k,.int .i64 r,.int .i64 c,.int .i64 n,.int .i64 a,.int .i64 b] ∧ (Lit.int .i64 a).wf = true ∧ (Lit.int .i64 b).wf = true:=by
 obtain ⟨cs,rfl,hsz⟩:=okWide_struct Tryz.underlying23 hv
 obtain ⟨c0,c1,c2,c3,c4,c5,rfl⟩:=array6j (hsz.trans cells_init)
 obtain ⟨fuel,hf⟩:=h
 obtain ⟨xs,n,-,-,-,hlen,hg⟩:=DataW.trod_struct Tryz.underlying23 hf
 match xs,hlen with
 | [y0,y1,y2,y3,y4,y5],_ =>
  have h0 := hg 0 { name := "Kind", type := 3, offset := 0, embedded := false, tag := "", pkgPath := "", byteOffset := 0 } rfl
  have h1 := hg 1 { name := "Rows", type := 3, offset := 1, embedded := false, tag := "", pkgPath := "", byteOffset := 8 } rfl
  have h2 := hg 2 { name := "Cols", type := 3, offset := 2, embedded := false, tag := "", pkgPath := "", byteOffset := 16 } rfl
  have h3 := hg 3 { name := "Width", type := 3, offset := 3, embedded := false, tag := "", pkgPath := "", byteOffset := 24 } rfl
  have h4 := hg 4 { name := "A", type := 3, offset := 4, embedded := false, tag := "", pkgPath := "", byteOffset := 32 } rfl
  have h5 := hg 5 { name := "B", type := 3, offset := 5, embedded := false, tag := "", pkgPath := "", byteOffset := 40 } rfl
  simp only [Value.cells,cells_int,List.drop_zero,List.drop_succ_cons,List.take_succ_cons,List.take_zero,List.getElem?_cons_zero,List.getElem?_cons_succ] at h0 h1 h2 h3 h4 h5
  obtain ⟨x0,e0,-,w0⟩:=DataW.trod_int Tryz.underlying3 h0
  obtain ⟨x1,e1,-,w1⟩:=DataW.trod_int Tryz.underlying3 h1
  obtain ⟨x2,e2,-,w2⟩:=DataW.trod_int Tryz.underlying3 h2
  obtain ⟨x3,e3,-,w3⟩:=DataW.trod_int Tryz.underlying3 h3
  obtain ⟨x4,e4,-,w4⟩:=DataW.trod_int Tryz.underlying3 h4
  obtain ⟨x5,e5,-,w5⟩:=DataW.trod_int Tryz.underlying3 h5
  simp only [Value.cells,cells_int,List.drop_zero,List.drop_succ_cons,List.take_succ_cons,List.take_zero,List.cons.injEq,and_true] at e0 e1 e2 e3 e4 e5
  subst e0 e1 e2 e3 e4 e5
  exact ⟨x0,x1,x2,x3,x4,x5,rfl,w4,w5⟩
end
end Go.Proofs.YtnafaclfdoefcaaGreatDoor
