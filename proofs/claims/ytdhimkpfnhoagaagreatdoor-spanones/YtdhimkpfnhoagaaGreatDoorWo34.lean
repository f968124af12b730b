/- Package span: a sum rounded; the sum of intervals. Package span: the sum of intervals. Values of floats by their keys; package span's Add. -/
import Derived.Test.YtdhimkpfnhoagaaGreatDoorWo31
import Derived.Test.YtdhimkpfnhoagaaGreatDoorWo33
namespace Go.Proofs.YtdhimkpfnhoagaaGreatDoor
open Go.ChangeShapes Go.WideShapes Go.ChangeAt Go.RowKit Ieee
set_option linter.unusedVariables false
set_option linter.unusedSimpArgs false
set_option maxHeartbeats 16000000
set_option maxRecDepth 100000
theorem P2.grw {w w' : World} {b c : Nat} {u v : Value} (h : P2 w b u v) (g : Grw c w w') (hne : b ≠ c) : P2 w' b u v:=by
 have hb:=g.grown.block b h.lt (by simpa using hne)
 refine ⟨?_,?_,fun o => (g.frozen _).trans (h.fz o)⟩
 ·have:=h.c0
  simpa [World.cell?,hb] using this
 ·have:=h.c1
  simpa [World.cell?,hb] using this
theorem rz_rng (n way : Int) (hn : n = 64 ∨ n = 32) (r : Nm) : RB (rzN n way r):=by
 have h:=kyN_range n way r
 exact pz_range n _ hn h.1 h.2
theorem rz_fl (n way : Int) (hn : n = 64 ∨ n = 32) (r : Nm) : Fl n (flv (rzN n way r) n) (kyN n way r):=by
 have h:=kyN_range n way r
 have hr:=rz_rng n way hn r
 have:=Fl.flv (pz_num n _ hn h.1 h.2) hr.1 hr.2
 rw [pz_key n _ hn h.1 h.2] at this
 exact this
theorem new_parts {w w' : World} {vn : Bool} {va : Option Addr} {vl vc : Nat} {vx : Int} {r : Nm} (h : New w w' (.agg #[.bool vn,.slice va vl vc,.int .i64 vx]) r) : vn = r.neg ∧ vl = r.mag.length ∧ vx = r.exp ∧ Sl w' (.slice va vl vc) r.mag:=by
 have hs:=h.numAt
 obtain ⟨s,e,hsl⟩:=hs
 simp only [Value.agg.injEq,Array.mk.injEq,List.cons.injEq,Value.bool.injEq,Value.int.injEq,true_and,and_true] at e
 obtain ⟨e1,rfl,e3⟩:=e
 have hl : vl = r.mag.length:=by
  obtain ⟨ao,cap,e,-⟩:=hsl
  injection e
 exact ⟨e1,hl,e3,hsl⟩
theorem rounded_fin (n way : Int) (hn : n = 64 ∨ n = 32) (hw : way = 0 ∨ way = 1 ∨ way = 2) (w : World) (hT : Tab w) (b : Nat) (C : List Int) (hC : ∀ j,-9223372036854775807 ≤ C.getD j 0 ∧ C.getD j 0 ≤ 9223372036854775807) (h : TotAt w b C 0) (r : Nm) (hr : cfm (cv C) (-1074) = some r) :
  Calls Tryz.prog 119 #[.pointer (some ⟨b,0,none⟩),.int .i64 n,.int .i64 way] w fun e w' => e = .returned (.float .f64 (flv (rzN n way r) n)) ∧ Kept w w':=by
 have hlen:=h.len
 have hv:=(frm_vld _ _ _ _ hr).1
 have hL:=(frm_vld _ _ _ _ hr).2.2
 have KI : Hid (∀ u,Calls Tryz.prog 122 #[.float .f64 0,.int .i64 0] u fun e w' => e = .returned (.bool false) ∧ u = w'):=fun u => by
  have:=isInf_0 (Fl.zero 64 (.inl rfl)) u
  rw [show decide ((0 : Int) = (ifn 64 : Int) ∨ (0 : Int) = -(ifn 64 : Int)) = false by decide] at this
  exact this
 have KC : Hid (∀ u,Kept w u → Calls Tryz.prog 160 #[.slice (some ⟨b,0,none⟩) 71 71,.int .i64 (-1074)] u fun e w' => ∃ v,e = .returned (.tuple #[v,.int .i64 0]) ∧ New u w' v r ∧ Kept u w'):=fun u k => by
  have hu:=h.kept k
  have:=columns_ok u (hT.kept k) b 0 71 hu.lt C (by omega) hC (-1074) (fun j hj => by rw [Nat.zero_add]; exact hu.col j (by omega)) r hr
  rw [hlen] at this
  exact this
 have KR : Hid (∀ u (a0 : Option Addr) (c : Nat),Kept w u → Sl u (.slice a0 r.mag.length c) r.mag → Calls Tryz.prog 124 #[.agg #[.bool r.neg,.slice a0 r.mag.length c,.int .i64 r.exp],.int .i64 n,.int .i64 way] u fun e w' => e = .returned (.tuple #[.int .i64 (rzN n way r),.bool (oxN n way r),.int .i64 0]) ∧ Kept u w'):=fun u a0 c k hs => roundz n way hn hw r hv a0 c u (hT.kept k) hs
 have KF : Hid (∀ u,Calls Tryz.prog 125 #[.int .i64 (rzN n way r),.int .i64 n] u fun e w' => e = .returned (.float .f64 (flv (rzN n way r) n)) ∧ Kept u w'):=fun u => sfloat_any _ n (rz_rng n way hn r).1 (rz_rng n way hn r).2 u
 have hinf:=h.inf
 generalize rzN n way r = z at *
 generalize oxN n way r = ox at *
 generalize flv z n = y at *
 go_enter Tryz.func119,Tryz.ntmps119
 go_upto_region 4 with (first | (go_at_call 122; refine (KI.out _).mono ?_; rintro e w1 ⟨rfl,rfl⟩) | (go_at_call 160; refine (KC.out _ (Kept.refl _)).mono ?_; rintro e w2 ⟨v,rfl,hN,k2⟩; obtain ⟨vn,va,vl,vc,vx,rfl⟩:=hN.shape))
 obtain ⟨rfl,rfl,rfl,hsl⟩:=new_parts hN
 have HS : Hid (Sl w2 (.slice va r.mag.length vc) r.mag):=hsl
 have HK : Hid (Kept w w2):=k2
 clear hsl hN hinf KC KI hC h hT hr
 go_wp2_with (first | (go_at_call 124; refine (KR.out _ _ _ (HK.out.alloc _ _) (HS.out.kept ((Kept.refl _).alloc _ _))).mono ?_; rintro e w3 ⟨rfl,k3⟩) | (go_at_call 125; refine (KF.out _).mono ?_; rintro e w4 ⟨rfl,k4⟩))
 go_ret
 exact ⟨rfl,((HK.out.alloc _ _).trans k3).trans k4⟩
theorem rounded_inf (n way : Int) (w : World) (b : Nat) (C : List Int) (f : Nat) (q : Int) (hf : Fl 64 f q) (hq : q = (ifn 64 : Int) ∨ q = -(ifn 64 : Int)) (h : TotAt w b C f) :
  Calls Tryz.prog 119 #[.pointer (some ⟨b,0,none⟩),.int .i64 n,.int .i64 way] w fun e w' => e = .returned (.float .f64 f) ∧ Kept w w':=by
 have KI : Hid (∀ u,Calls Tryz.prog 122 #[.float .f64 f,.int .i64 0] u fun e w' => e = .returned (.bool true) ∧ u = w'):=fun u => by
  have:=isInf_0 hf u
  rw [decide_eq_true hq] at this
  exact this
 have hinf:=h.inf
 clear h hf
 go_enter Tryz.func119,Tryz.ntmps119
 go_wp2_with (first | (go_at_call 122; refine (KI.out _).mono ?_; rintro e w1 ⟨rfl,rfl⟩))
 go_ret
 exact ⟨rfl,Kept.refl _⟩
/- sums over a list of floats -/
abbrev infq (q : Int) : Prop:=q = (ifn 64 : Int) ∨ q = -(ifn 64 : Int)
def sV (f : Nat → Nat) (q : Nat → Int) : Nat → Int
 | 0 => 0
 | m + 1 => sV f q m + (if infq (q m) then 0 else zw (f m))
def iW (f : Nat → Nat) (q : Nat → Int) : Nat → Nat
 | 0 => 0
 | m + 1 => if infq (q m) then f m else iW f q m
def iQ (q : Nat → Int) : Nat → Int
 | 0 => 0
 | m + 1 => if infq (q m) then q m else iQ q m
theorem iW_fl (f : Nat → Nat) (q : Nat → Int) (m : Nat) (h : ∀ i,i < m → Fl 64 (f i) (q i)) : Fl 64 (iW f q m) (iQ q m):=by
 induction m with
 | zero => exact Fl.zero 64 (.inl rfl)
 | succ m ih =>
  unfold iW iQ
  split
  ·exact h m (by omega)
  ·exact ih (fun i hi => h i (by omega))
theorem iQ_zero (q : Nat → Int) (m : Nat) : infq (iQ q m) ∨ (iQ q m = 0 ∧ ∀ i,i < m → ¬ infq (q i)):=by
 induction m with
 | zero => exact .inr ⟨rfl,fun i h => by omega⟩
 | succ m ih =>
  unfold iQ
  split
  ·rename_i h; exact .inl h
  ·rename_i h
   rcases ih with g | ⟨g1,g2⟩
   ·exact .inl g
   ·refine .inr ⟨g1,fun i hi => ?_⟩
    by_cases hm : i = m
    ·subst hm; exact h
    ·exact g2 i (by omega)
theorem iW_zero (f : Nat → Nat) (q : Nat → Int) (m : Nat) (h : ∀ i,i < m → ¬ infq (q i)) : iW f q m = 0:=by
 induction m with
 | zero => rfl
 | succ m ih =>
  unfold iW
  rw [if_neg (h m (by omega))]
  exact ih (fun i hi => h i (by omega))
theorem zw_lt (x : Nat) (hc : cls (of64 x) 64 < 3) : (zw x).natAbs < 2 ^ 2099:=by
 obtain ⟨p1,p2,p3,p4⟩:=fin_parts _ hc
 unfold zw
 have e : ∀ (s : Bool) (a : Int),(sg s a).natAbs = a.natAbs:=fun s a => by cases s <;> simp [sg]
 rw [e,Int.natAbs_mul,Int.natAbs_pow]
 obtain ⟨e,he⟩ : ∃ e,e = (pexp (of64 x) 64 + 1074).toNat:=⟨_,rfl⟩
 rw [← he]
 have h3 : (pmag (of64 x) 64).natAbs < 2 ^ 53:=by
  have : (2 : Nat) ^ 53 = 9007199254740992:=by decide
  omega
 have h4 : (2 : Int).natAbs = 2:=rfl
 rw [h4]
 have hp : 0 < 2 ^ e:=Nat.two_pow_pos e
 have h5 : (pmag (of64 x) 64).natAbs * 2 ^ e < 2 ^ (53 + e):=by
  rw [Nat.pow_add]
  exact Nat.mul_lt_mul_of_pos_right h3 hp
 obtain ⟨K,hK⟩ : ∃ K : Nat,K = 2099:=⟨_,rfl⟩
 rw [← hK]
 have h6 : (2 : Nat) ^ (53 + e) ≤ 2 ^ K:=Nat.pow_le_pow_right (by decide) (by omega)
 omega
/-- one end of a sum,rounded -/
def Rd (n way : Int) (f : Nat → Nat) (q : Nat → Int) (m : Nat) (x : Nat) : Prop :=
 (infq (iQ q m) ∧ x = iW f q m) ∨ ((∀ i,i < m → ¬ infq (q i)) ∧ ∃ r,cfm (sV f q m) (-1074) = some r ∧ x = flv (rzN n way r) n)
theorem sV_lt (f : Nat → Nat) (q : Nat → Int) (m : Nat) (h : ∀ i,i < m → Fl 64 (f i) (q i)) : ∀ K,K = 2099 → (sV f q m).natAbs ≤ m * 2 ^ K:=by
 intro K hK
 induction m with
 | zero => simp [sV]
 | succ m ih =>
  have i1:=ih (fun i hi => h i (by omega))
  unfold sV
  by_cases hq : infq (q m)
  ·rw [if_pos hq,Int.add_zero,Nat.add_mul]
   omega
  ·rw [if_neg hq]
   obtain ⟨q',hq',hKK,o1,o2,o3,o4,o5,o6⟩:=(h m (by omega)).wide
   have hqq : keyOf (of64 (f m)) 64 = q m:=by
    obtain ⟨c,c1,c2,c3,c4⟩:=h m (by omega)
    have e : pat64 c = f m:=by rw [c4]; simp [fl]
    rw [← c3,← key_64 _ o4 o5,← key_64 _ c2.1 c2.2,o6,e]
   have hf:=fin_key (of64 (f m)) 64 (.inl rfl) o2 ⟨o4,o5⟩
   rw [hqq] at hf
   have hq2 : ¬ (q m = (ifn 64 : Int) ∨ q m = -(ifn 64 : Int)):=hq
   rw [decide_eq_true hq2] at hf
   have hc : cls (of64 (f m)) 64 < 3:=by
    unfold fin at hf
    rw [decide_eq_true_eq] at hf
    exact hf.2
   have h2:=zw_lt (f m) hc
   rw [← hK] at h2
   rw [Nat.add_mul]
   omega
theorem sV_cfm (f : Nat → Nat) (q : Nat → Int) (m : Nat) (hm : m ≤ 65536) (h : ∀ i, i < m → Fl 64 (f i) (q i)) : ∃ r, cfm (sV f q m) (-1074) = some r ∧ Lies (-1074) 2200 r ∧ vz (-1074) r = sV f q m := by
  obtain ⟨K, hK⟩ : ∃ K : Nat, K = 2099 := ⟨_, rfl⟩
  have h1 := sV_lt f q m h K hK
  refine cfm_lies (-1074) 2200 (by decide) (by decide) (by decide) _ ?_
  obtain ⟨N, hN⟩ : ∃ N : Nat, N = 2200 := ⟨_, rfl⟩
  rw [← hN]
  have hp : 0 < 2 ^ K := Nat.two_pow_pos K
  have h2 : m * 2 ^ K ≤ 2 ^ 16 * 2 ^ K := Nat.mul_le_mul_right _ (by have : (2 : Nat) ^ 16 = 65536 := by decide
                                                                     omega)
  rw [← Nat.pow_add] at h2
  have h3 : (2 : Nat) ^ (16 + K) < 2 ^ N := Nat.pow_lt_pow_right (by decide) (by omega)
  omega
theorem summed_any (n : Int) (hn : n = 64 ∨ n = 32) (m : Nat) (hm : m ≤ 65536) (fx fy : Nat → Nat) (qx qy : Nat → Int) (hF : ∀ i,i < m → Fl 64 (fx i) (qx i) ∧ Fl 64 (fy i) (qy i)) (ao : Option Addr) (c : Nat) (w : World) (hT : Tab w) (hI : Ivs w ao m fx fy) :
  Calls Tryz.prog 69 #[.int .i64 n,.slice ao m c] w fun e w' => ∃ x y,e = .returned (fv2 x y) ∧ Rd n 1 fx qx m x ∧ Rd n 2 fy qy m y ∧ Kept w w':=by
 have HI : Hid (Ivs w ao m fx fy):=hI
 have HF : Hid (∀ i,i < m → Fl 64 (fx i) (qx i) ∧ Fl 64 (fy i) (qy i)):=hF
 have HT : Hid (Tab w):=hT
 clear hI hF hT
 have hSF:=sto_f
 obtain ⟨X,hX⟩ : ∃ X,X = ((w.alloc (.cells #[.float .f64 0,.float .f64 0] 87)).alloc (.cells Tryz.zeroCells152 152)).alloc (.cells Tryz.zeroCells152 152):=⟨_,rfl⟩
 have hP : P2 X w.heap.size (.float .f64 0) (.float .f64 0):=by
  rw [hX]
  exact ((P2.new w _ _ _).alloc _ _).alloc _ _
 have hL : TotAt X (w.heap.size + 1) T0L 0:=by
  rw [hX]
  have:=(TotAt.new (w.alloc (.cells #[.float .f64 0,.float .f64 0] 87))).kept ((Kept.refl _).alloc Tryz.zeroCells152 152)
  simpa using this
 have hH : TotAt X (w.heap.size + 1 + 1) T0L 0:=by
  rw [hX]
  have:=TotAt.new ((w.alloc (.cells #[.float .f64 0,.float .f64 0] 87)).alloc (.cells Tryz.zeroCells152 152))
  simpa using this
 have hK : Kept w X:=by
  rw [hX]
  exact (((Kept.refl w).alloc _ _).alloc _ _).alloc _ _
 obtain ⟨H0,hH0⟩ : ∃ H,H = w.heap.size:=⟨_,rfl⟩
 obtain ⟨H1,hH1⟩ : ∃ H,H = H0 + 1:=⟨_,rfl⟩
 obtain ⟨H2,hH2⟩ : ∃ H,H = H1 + 1:=⟨_,rfl⟩
 rw [← hH0] at hP hL hH
 rw [← hH1] at hL hH
 rw [← hH2] at hH
 have o0 : w.heap.size ≤ H0:=by omega
 have o1 : w.heap.size ≤ H1:=by omega
 have o2 : w.heap.size ≤ H2:=by omega
 have n01 : ¬ H0 = H1:=by omega
 have n02 : ¬ H0 = H2:=by omega
 have n12 : ¬ H1 = H2:=by omega
 have n21 : ¬ H2 = H1:=by omega
 have hcv0 : cv T0L = 0:=by decide
 go_enter Tryz.func69,Tryz.ntmps69
 go_upto_region 2 with fail
 rw [← hX,← hH0,← hH1,← hH2]
 clear hX hH1 hH0 hH2
 go_wp2_with fail
 go_loopw [11] (fun i wr => ∃ (k : Nat) (Cl Ch : List Int),k ≤ m ∧ i = .int .i64 k ∧ TotAt wr H1 Cl (iW fx qx k) ∧ TotAt wr H2 Ch (iW fy qy k) ∧ cv Cl = sV fx qx k ∧ cv Ch = sV fy qy k ∧ (∀ j,-((k : Int) * 1073741824) ≤ Cl.getD j 0 ∧ Cl.getD j 0 ≤ (k : Int) * 1073741824) ∧ (∀ j,-((k : Int) * 1073741824) ≤ Ch.getD j 0 ∧ Ch.getD j 0 ≤ (k : Int) * 1073741824) ∧ P2 wr H0 (.float .f64 0) (.float .f64 0) ∧ Kept w wr) (fun i _ => m - (intOf i).toNat)
 case atStart =>
  have hz : ∀ j,T0L.getD j 0 = 0:=fun j => by
   unfold T0L
   rw [List.getD_eq_getElem?_getD,List.getElem?_replicate]
   split <;> rfl
  exact ⟨0,T0L,T0L,Nat.zero_le _,rfl,hL,hH,hcv0,hcv0,fun j => by rw [hz]; omega,fun j => by rw [hz]; omega,hP,hK⟩
 case round =>
  clear hP hL hH hK
  obtain ⟨k,Cl,Ch,hk,rfl,hL,hH,vl,vh,bl1,bh1,hP,hK⟩:=hrel
  by_cases hkm : k < m
  ·obtain ⟨b,off,rfl,ci0,ci1⟩:=HI.out _ hK k hkm
   obtain ⟨g1,g2⟩:=HF.out k hkm
   have HG : Hid (Fl 64 (fx k) (qx k) ∧ Fl 64 (fy k) (qy k)):=⟨g1,g2⟩
   have HR : Hid (cv Cl = sV fx qx k ∧ cv Ch = sV fy qy k ∧ (∀ j,-((k : Int) * 1073741824) ≤ Cl.getD j 0 ∧ Cl.getD j 0 ≤ (k : Int) * 1073741824) ∧ (∀ j,-((k : Int) * 1073741824) ≤ Ch.getD j 0 ∧ Ch.getD j 0 ≤ (k : Int) * 1073741824)):=⟨vl,vh,bl1,bh1⟩
   clear g1 g2 vl vh bl1 bh1
   have hltK : (k : Int) ≤ 65536:=by omega
   have KA1 : Hid (∀ u,TotAt u H1 Cl (iW fx qx k) → Calls Tryz.prog 118 #[.pointer (some ⟨H1,0,none⟩),.float .f64 (fx k)] u fun e w' => e = .returned (.tuple #[]) ∧ (∃ C',Clm Cl C' (if infq (qx k) then 0 else zw (fx k)) ∧ TotAt w' H1 C' (iW fx qx (k + 1))) ∧ Grw H1 u w'):=fun u h => tadd_any u H1 Cl _ h (fun j => by have:=HR.out.2.2.1 j; omega) _ _ HG.out.1
   have KA2 : Hid (∀ u,TotAt u H2 Ch (iW fy qy k) → Calls Tryz.prog 118 #[.pointer (some ⟨H2,0,none⟩),.float .f64 (fy k)] u fun e w' => e = .returned (.tuple #[]) ∧ (∃ C',Clm Ch C' (if infq (qy k) then 0 else zw (fy k)) ∧ TotAt w' H2 C' (iW fy qy (k + 1))) ∧ Grw H2 u w'):=fun u h => tadd_any u H2 Ch _ h (fun j => by have:=HR.out.2.2.2 j; omega) _ _ HG.out.2
   go_upto_region 5 with fail
   obtain ⟨Y,hY⟩ : ∃ Y,Y = wr.alloc (.cells #[.float .f64 (fx k),.float .f64 (fy k)] 87):=⟨_,rfl⟩
   have hB : P2 Y wr.heap.size (.float .f64 (fx k)) (.float .f64 (fy k)):=by rw [hY]; exact P2.new _ _ _ _
   have kY : Kept wr Y:=by rw [hY]; exact (Kept.refl wr).alloc _ _
   have hl1:=hL.lt
   have hl2:=hH.lt
   have hl0:=hP.lt
   obtain ⟨B,hBB⟩ : ∃ B,B = wr.heap.size:=⟨_,rfl⟩
   rw [← hBB] at hB
   rw [← hY,← hBB]
   have nB1 : ¬ B = H1:=by omega
   have nB2 : ¬ B = H2:=by omega
   clear hY hBB
   have hLY:=hL.kept kY
   have hHY:=hH.kept kY
   have hPY:=hP.kept kY
   have hKY:=hK.trans kY
   have b0:=hB.c0
   have b1:=hB.c1
   clear hL hH hP hK kY ci0 ci1
   go_upto_region 6 with (first | (go_at_call 118; refine (KA1.out _ hLY).mono ?_; rintro e w1 ⟨rfl,⟨C1,cl1,hL1⟩,gr1⟩))
   have hH1':=hHY.other gr1 n21
   have hB1:=hB.grw gr1 nB1
   have hP1:=hPY.grw gr1 n01
   have hK1:=hKY.grw o1 gr1
   have b01:=hB1.c0
   have b11:=hB1.c1
   clear hLY hHY hB b0 b1 hPY
   go_upto_region 7 with (first | (go_at_call 118; refine (KA2.out _ hH1').mono ?_; rintro e w2 ⟨rfl,⟨C2,cl2,hH2'⟩,gr2⟩))
   have hL2:=hL1.other gr2 n12
   have hP2:=hP1.grw gr2 n02
   have hK2:=hK1.grw o2 gr2
   clear b01 b11 hB1 hL1 hH1' hP1 hK1 gr1 gr2 KA1 KA2
   go_wp2_with fail
   go_roundw
   case rel =>
    refine ⟨k + 1,C1,C2,by omega,by go_num,hL2,hH2',?_,?_,fun j => ?_,fun j => ?_,hP2,hK2⟩
    ·rw [cl1.val,HR.out.1]; rfl
    ·rw [cl2.val,HR.out.2.1]; rfl
    ·have h1:=cl1.near j
     have h2:=HR.out.2.2.1 j
     rw [Int.natCast_add,Int.add_mul]
     omega
    ·have h1:=cl2.near j
     have h2:=HR.out.2.2.2 j
     rw [Int.natCast_add,Int.add_mul]
     omega
   case measure => simp [intOf]; omega
  ·have hkm' : k = m:=by omega
   subst hkm'
   have hRd : ∀ (way : Int) (hw : way = 0 ∨ way = 1 ∨ way = 2) (f : Nat → Nat) (q : Nat → Int) (C : List Int) (b : Nat),(∀ i,i < k → Fl 64 (f i) (q i)) → cv C = sV f q k → (∀ j,-((k : Int) * 1073741824) ≤ C.getD j 0 ∧ C.getD j 0 ≤ (k : Int) * 1073741824) → ∀ u,Kept w u → TotAt u b C (iW f q k) → ∃ x,Rd n way f q k x ∧ Calls Tryz.prog 119 #[.pointer (some ⟨b,0,none⟩),.int .i64 n,.int .i64 way] u fun e w' => e = .returned (.float .f64 x) ∧ Kept u w':=fun way hw f q C b hf hc hb u ku hu => by
    rcases iQ_zero q k with hq | ⟨hq0,hq⟩
    ·exact ⟨_,.inl ⟨hq,rfl⟩,rounded_inf n way u b C _ _ (iW_fl f q k hf) hq hu⟩
    ·rw [iW_zero f q k hq] at hu
     obtain ⟨r,hr,-,-⟩:=sV_cfm f q k hm hf
     refine ⟨_,.inr ⟨hq,r,hr,rfl⟩,rounded_fin n way hn hw u (HT.out.kept ku) b C (fun j => by have:=hb j; omega) hu r (by rw [hc]; exact hr)⟩
   obtain ⟨x,hx,KX⟩:=hRd 1 (by simp) fx qx Cl H1 (fun i hi => (HF.out i hi).1) vl bl1 wr hK hL
   have KY : ∀ u,Kept wr u → ∃ y,Rd n 2 fy qy k y ∧ Calls Tryz.prog 119 #[.pointer (some ⟨H2,0,none⟩),.int .i64 n,.int .i64 2] u fun e w' => e = .returned (.float .f64 y) ∧ Kept u w':=fun u ku => hRd 2 (by simp) fy qy Ch H2 (fun i hi => (HF.out i hi).2) vh bh1 u (hK.trans ku) (hH.kept ku)
   have HX : Hid (Calls Tryz.prog 119 #[.pointer (some ⟨H1,0,none⟩),.int .i64 n,.int .i64 1] wr fun e w' => e = .returned (.float .f64 x) ∧ Kept wr w'):=KX
   have HY : Hid (∀ u,Kept wr u → ∃ y,Rd n 2 fy qy k y ∧ Calls Tryz.prog 119 #[.pointer (some ⟨H2,0,none⟩),.int .i64 n,.int .i64 2] u fun e w' => e = .returned (.float .f64 y) ∧ Kept u w'):=KY
   clear KX KY hRd vl vh bl1 bh1 hL hH
   go_wp2_with fail
   refine HX.out.mono ?_
   rintro e w1 ⟨rfl,k1⟩
   obtain ⟨y,hy,KY⟩:=HY.out _ k1
   have HYY : Hid (Calls Tryz.prog 119 #[.pointer (some ⟨H2,0,none⟩),.int .i64 n,.int .i64 2] w1 fun e w' => e = .returned (.float .f64 y) ∧ Kept w1 w'):=KY
   have HRy : Hid (Rd n 2 fy qy k y):=hy
   have HRx : Hid (Rd n 1 fx qx k x):=hx
   clear KY hy hx
   go_wp2_with fail
   refine HYY.out.mono ?_
   rintro e w2 ⟨rfl,k2⟩
   have hP2:=(hP.kept k1).kept k2
   have hz:=hP2.put (.float .f64 x) (.float .f64 y)
   obtain ⟨d0,d1,df⟩:=hP2
   obtain ⟨e0,e1,ef⟩:=hz
   go_wp2_with fail
   exact bodyPost_ret (v:=fv2 x y) (by simp [results,Tryz.results69,go_sem,e0,e1]) rfl ⟨x,y,rfl,HRx.out,HRy.out,(((hK.trans k1).trans k2).setCell o0 _).setCell o0 _⟩
theorem kvz_sv (n s : Int) (b : Bool) (r : Nat) : kvz n s (sv b r) = sv b (rv (cbn n) r * 2 ^ (kleast n - s).toNat):=by
 cases b
 ·rw [sv_f,sv_f,kvz_nat]
 ·rw [sv_t,sv_t,kvz_neg]
theorem rv_64 (r : Nat) : rv (cbn 64) r = rungVal FloatKind.f64.format r:=by
 unfold rv rungVal
 rw [bin64]
 rfl
theorem rv_32 (r : Nat) : rv (cbn 32) r = rungVal FloatKind.f32.format r:=by
 unfold rv rungVal
 rw [bin32]
 rfl
theorem kvz_zero (n s : Int) : kvz n s 0 = 0:=by
 have h:=kvz_nat n s 0
 have e : rv (cbn n) 0 = 0:=by
  unfold rv cbn
  split <;> split <;> simp_all
 rw [e,Nat.zero_mul] at h
 exact h
theorem Fl.same64 {x : Nat} {q : Int} (hx : Fl 64 x q) : keyOf (of64 x) 64 = q:=by
 obtain ⟨q',hq',hK,o1,o2,o3,o4,o5,o6⟩:=hx.wide
 obtain ⟨c,c1,c2,c3,c4⟩:=hx
 have e : pat64 c = x:=by rw [c4]; simp [fl]
 rw [← c3,← key_64 _ o4 o5,← key_64 _ c2.1 c2.2,o6,e]
/- the value of a float is the same in both widths -/
theorem Fl.val64 {n : Int} {x : Nat} {k q : Int} (h : Fl n x k) (hq : Fl 64 x q) (h1 : -(ifn n : Int) < k) (h2 : k < (ifn n : Int)) (s : Int) (hs : s ≤ -1074) : kvz 64 s q = kvz n s k:=by
 have hqq:=hq.same64
 have hle:=h.le
 have hlt:=h.lt
 have ho : of64 x = wrap64 x:=of64_num x hle
 obtain ⟨i1,i2⟩:=key_sv64 x hle hlt
 rw [ho,i2] at hqq
 obtain ⟨b,b1,b2,rfl,rfl⟩:=h
 rcases isnum_inv b n b1 with ⟨rfl,c⟩ | ⟨rfl,c⟩
 ·have e : sv (below FloatKind.f64.format (fl b 64)) (rung FloatKind.f64.format (fl b 64)) = keyOf b 64:=by
   rw [← key_sv,← key_64 b b2.1 b2.2]
   simp [fl]
  rw [← hqq,e]
 ·have hv:=cls_valid b c
  have hr : rung FloatKind.f32.format (pat32 b) ≤ FloatKind.f32.format.infRung:=by have:=mt (nan_32 b).2 c; omega
  have e : keyOf b 32 = sv (below FloatKind.f32.format (pat32 b)) (rung FloatKind.f32.format (pat32 b)):=by rw [← key_sv,key_32 b hv]
  have ex : fl b 32 = W (pat32 b):=by simp [fl]; rfl
  rw [ex] at hqq
  rw [e] at h1 h2 ⊢
  have hi : (ifn 32 : Int) = (FloatKind.f32.format.infRung : Int):=by rw [← ifn_32]
  have hlt2 : rung FloatKind.f32.format (pat32 b) < FloatKind.f32.format.infRung:=by
   generalize below FloatKind.f32.format (pat32 b) = sb at *
   cases sb <;> simp only [sv_f,sv_t] at h1 h2 <;> omega
  obtain ⟨w1,w2,w3⟩:=W_num (pat32 b) hlt2
  rw [← hqq,kvz_sv,kvz_sv,w3,rv_64,rv_32,w2,Nat.mul_assoc,← Nat.pow_add]
  congr 3
  have k1 : kleast 64 = -1074:=rfl
  have k2 : kleast 32 = -149:=rfl
  rw [k1,k2]
  unfold shiftE
  omega
/- a float's parts,by its key -/
theorem zk (q : Int) (h1 : -(ifn 64 : Int) < q) (h2 : q < (ifn 64 : Int)) : sg (pneg (pz 64 q) 64) (pmag (pz 64 q) 64 * 2 ^ (pexp (pz 64 q) 64 + 1074).toNat) = kvz 64 (-1074) q:=by
 have hn : (64 : Int) = 64 ∨ (64 : Int) = 32:=.inl rfl
 have hc:=(pz_cls 64 q hn (by omega) (by omega)).2 ⟨h1,h2⟩
 obtain ⟨f1,f2,f3,f4⟩:=fin_parts _ hc
 have hng:=pz_neg 64 q hn h1 h2
 obtain ⟨r,hr⟩ : ∃ r,r = if q < 0 then -q else q:=⟨_,rfl⟩
 obtain ⟨q1,q2⟩:=pz_mag 64 q hn h1 h2 4503599627370496 rfl (-1074) rfl r hr
 have hcb : (cbn 64 : Int) = 4503599627370496:=rfl
 have hra : r = (q.natAbs : Int):=by rw [hr]; split <;> omega
 have hkl : kleast 64 = -1074:=rfl
 have hval : pmag (pz 64 q) 64 * 2 ^ (pexp (pz 64 q) 64 + 1074).toNat = ((rv (cbn 64) q.natAbs : Nat) : Int):=by
  unfold rv
  by_cases hb : r < 4503599627370496
  ·rw [if_pos hb] at q1 q2
   rw [if_pos (by omega),q1,q2,hra]
   simp
  ·rw [if_neg hb] at q1 q2
   have hcp : 0 < cbn 64:=by decide
   rw [if_neg (by omega),q1,q2]
   have hmod : (4503599627370496 + r % 4503599627370496 : Int) = ((cbn 64 + q.natAbs % cbn 64 : Nat) : Int):=by
    rw [Int.natCast_add,Int.natCast_emod,hcb,hra]
   have hdiv : r / 4503599627370496 = ((q.natAbs / cbn 64 : Nat) : Int):=by rw [hra,Int.natCast_ediv,hcb]
   have hge : 1 ≤ q.natAbs / cbn 64:=by
    rw [Nat.le_div_iff_mul_le hcp]; omega
   rw [hmod,hdiv,Int.natCast_mul,Int.natCast_pow]
   congr 2
   generalize q.natAbs / cbn 64 = D at *
   omega
 have hs0 : (kleast 64 - -1074).toNat = 0:=by rw [hkl]; rfl
 rw [hval,hng]
 unfold kvz sg
 rw [hs0,Nat.pow_zero,Nat.mul_one]
 by_cases hk : q < 0
 ·rw [decide_eq_true hk,if_pos rfl,if_pos hk]
 ·rw [decide_eq_false hk,if_neg (by decide),if_neg hk]
theorem zw_key {x : Nat} {q : Int} (hx : Fl 64 x q) (h1 : -(ifn 64 : Int) < q) (h2 : q < (ifn 64 : Int)) : zw x = kvz 64 (-1074) q ∧ (q ≠ 0 → of64 x = pz 64 q) ∧ cls (of64 x) 64 < 3:=by
 obtain ⟨q',hq',hK,o1,o2,o3,o4,o5,o6⟩:=hx.wide
 have e:=hx.same64
 have hcan:=can_pz (of64 x) 64 o2 o4 o5
 rw [e] at hcan
 have hf:=fin_key (of64 x) 64 (.inl rfl) o2 ⟨o4,o5⟩
 rw [e,decide_eq_true (by omega)] at hf
 have hc : cls (of64 x) 64 < 3:=by
  unfold fin at hf
  rw [decide_eq_true_eq] at hf
  exact hf.2
 have hne : q ≠ 0 → of64 x = pz 64 q:=fun h => by
  rw [← hcan]
  unfold can
  rw [if_pos o2,if_pos rfl,if_neg]
  intro g
  rw [g] at e
  exact h (e.symm.trans (by decide))
 refine ⟨?_,hne,hc⟩
 by_cases h0 : q = 0
 ·subst h0
  rw [kvz_zero]
  rw [key64_is] at e
  have hb : of64 x = 0 ∨ of64 x = -9223372036854775808:=by
   split at e <;> omega
  unfold zw
  rcases hb with hb | hb <;> rw [hb] <;> decide +kernel
 ·unfold zw
  rw [hne h0]
  exact zk q h1 h2
theorem zw_val {n : Int} {x : Nat} {k : Int} (h : Fl n x k) (h1 : -(ifn n : Int) < k) (h2 : k < (ifn n : Int)) : zw x = kvz n (-1074) k:=by
 obtain ⟨q,hq,hK,-⟩:=h.wide
 have g1:=hq.rng
 have t:=hK.top
 have bo:=hK.bot
 have a1 : -(ifn 64 : Int) < q:=by
  have : q ≠ -(ifn 64 : Int):=fun e => by have:=bo.2 e; omega
  omega
 have a2 : q < (ifn 64 : Int):=by
  have : q ≠ (ifn 64 : Int):=fun e => by have:=t.2 e; omega
  omega
 rw [(zw_key hq a1 a2).1]
 exact h.val64 hq h1 h2 (-1074) (by decide)
/- keys and values rise together -/
theorem kvz_lt (n s : Int) (hn : n = 64 ∨ n = 32) (a b : Int) (h : a < b) : kvz n s a < kvz n s b:=by
 have hp : 0 < 2 ^ (kleast n - s).toNat:=Nat.two_pow_pos _
 have hm : ∀ i j : Nat,i < j → rv (cbn n) i * 2 ^ (kleast n - s).toNat < rv (cbn n) j * 2 ^ (kleast n - s).toNat:=fun i j hij => Nat.mul_lt_mul_of_pos_right (rv_lt n hn i j hij) hp
 have h0 : rv (cbn n) 0 = 0:=by
  unfold rv cbn
  split <;> split <;> simp_all
 unfold kvz
 by_cases ha : a < 0
 ·rw [if_pos ha]
  have ha':=hm 0 a.natAbs (by omega)
  rw [h0,Nat.zero_mul] at ha'
  by_cases hb : b < 0
  ·rw [if_pos hb]
   have:=hm b.natAbs a.natAbs (by omega)
   omega
  ·rw [if_neg hb]
   omega
 ·rw [if_neg ha,if_neg (by omega)]
  have:=hm a.natAbs b.natAbs (by omega)
  omega
theorem kvz_inj (n s : Int) (hn : n = 64 ∨ n = 32) (a b : Int) (h : kvz n s a = kvz n s b) : a = b:=by
 rcases Int.lt_trichotomy a b with g | g | g
 ·have:=kvz_lt n s hn a b g; omega
 ·exact g
 ·have:=kvz_lt n s hn b a g; omega
/- a number that is a float is rounded to it,in every way -/
theorem ky_float (n : Int) (hn : n = 64 ∨ n = 32) (r : Nm) (hv : vld r = true) (s : Int) (hs : r.mag ≠ [] → s ≤ r.exp) (hl : s < kleast n) (K : Int) (h1 : -(ifn n : Int) < K) (h2 : K < (ifn n : Int)) (hK : vz s r = kvz n s K) : kyN n 1 r = K ∧ kyN n 2 r = K ∧ kyN n 0 r = K ∧ oxN n 0 r = false:=by
 obtain ⟨hN,e1,e2⟩:=nbrN n hn r hv s hs hl
 rw [hK] at hN
 cases ho : oxN n 1 r
 ·obtain ⟨a1,a2,a3,a4,a5⟩:=hN.same ho
  have:=kvz_inj n s hn _ _ a3
  exact ⟨this.symm,by rw [a1]; exact this.symm,by rw [a2]; exact this.symm,by rw [e2]; exact ho⟩
 ·obtain ⟨a1,a2,a3,a4,a5,a6⟩:=hN.next ho
  exfalso
  have b1 : kyN n 1 r < K:=by
   by_cases hd : -(ifn n : Int) < kyN n 1 r
   ·have:=a5 hd
    rcases Int.lt_trichotomy (kyN n 1 r) K with g | g | g
    ·exact g
    ·rw [g] at this; omega
    ·have:=kvz_lt n s hn _ _ g; omega
   ·have:=kyN_range n 1 r
    omega
  have b2 : K < kyN n 2 r:=by
   by_cases hd : kyN n 2 r < (ifn n : Int)
   ·have:=a6 hd
    rcases Int.lt_trichotomy K (kyN n 2 r) with g | g | g
    ·exact g
    ·rw [g] at this; omega
    ·have:=kvz_lt n s hn _ _ g; omega
   ·have:=kyN_range n 2 r
    omega
  omega
end Go.Proofs.YtdhimkpfnhoagaaGreatDoor
