/- The laws' book of lists: marks; lists that are the same; kinds of which none is kept. The laws' book of lists: lists of lists that are looked at. -/
import Derived.Test.YtnafaclfdoefcaaGreatDoorWh28
namespace Go.Proofs.YtnafaclfdoefcaaGreatDoor
open Go.ChangeShapes Go.WideShapes Go.ChangeAt Go.RowKit
set_option linter.unusedVariables false
set_option linter.unusedSimpArgs false
set_option maxHeartbeats 16000000
set_option maxRecDepth 100000
/-- the marks of the list i,from a place on,so many -/
def mkl (i a : Int) (n : Nat) : List Int:=(List.range n).map fun (k : Nat) => -1000000 * i - (a + (k : Int)) - 7
theorem mkl_len (i a : Int) (n : Nat) : (mkl i a n).length = n:=by simp [mkl]
theorem mkl_succ (i a : Int) (n : Nat) : mkl i a n ++ [-1000000 * i - (a + (n : Int)) - 7] = mkl i a (n + 1):=by simp [mkl,List.range_succ]
theorem markInts_any (i a : Int) (n : Nat) (hi : 0 ≤ i ∧ i ≤ 1000) (ha : 0 ≤ a ∧ a ≤ 1000000) (hn : n ≤ 1000000) (w : World) : Calls Tryz.prog 150 #[.int .i64 i,.int .i64 a,.int .i64 (n : Int)] w fun e w' => ∃ v,e = .returned v ∧ MR w.heap.size w' v (mkl i a n) ∧ Kept w w':=by
 have z1 : IntKind.i64.wrap (a + (n : Int)) = a + (n : Int):=by rw [wrap_i64]; omega
 have z2 : IntKind.i64.wrap (-1000000 * i) = -1000000 * i:=by rw [wrap_i64]; omega
 have HI:=(show Hid (0 ≤ i ∧ i ≤ 1000) from hi)
 have HA:=(show Hid (0 ≤ a ∧ a ≤ 1000000) from ha)
 clear hi ha
 go_enter Tryz.func150,Tryz.ntmps150
 go_wp2_with fail
 go_loopw [7,8] (fun v kv wr => ∃ k : Nat,k ≤ n ∧ kv = .int .i64 (a + (k : Int)) ∧ MR w.heap.size wr v (mkl i a k) ∧ Kept w wr) (fun _ kv _ => n - (intOf kv - a).toNat)
 case atStart => exact ⟨0,Nat.zero_le _,by simp,.inl ⟨rfl,rfl⟩,Kept.refl w⟩
 case round =>
  obtain ⟨k,hk,rfl,hM,kr⟩:=hrel
  by_cases hkn : k < n
  ·obtain ⟨v',w',hr,hM',hK⟩:=app_step w.heap.size wr u7 (mkl i a k) hM (-1000000 * i - (a + (k : Int)) - 7) kr.below.size (by rw [mkl_len]; omega)
   rw [mkl_succ] at hM'
   have kk:=hK w (Nat.le_refl _) kr
   have d1 : a + (k : Int) < a + (n : Int):=by omega
   have z3 : IntKind.i64.wrap (-1000000 * i - (a + (k : Int))) = -1000000 * i - (a + (k : Int)):=by have h1:=HI.out; have h2:=HA.out; rw [wrap_i64]; omega
   have z4 : IntKind.i64.wrap (-1000000 * i - (a + (k : Int)) - 7) = -1000000 * i - (a + (k : Int)) - 7:=by have h1:=HI.out; have h2:=HA.out; rw [wrap_i64]; omega
   have z5 : IntKind.i64.wrap (a + (k : Int) + 1) = a + (k : Int) + 1:=by have h2:=HA.out; rw [wrap_i64]; omega
   clear hM hK
   go_wp2_with (first | (at_builtin; refine wpList_append_run rfl _ _ _ rfl _ _ rfl rfl _ _ (hr _) ?_))
   go_roundw
   case rel => exact ⟨k + 1,by omega,by (try simp only [Value.int.injEq,true_and]); omega,hM',kk⟩
   case measure => simp [intOf]; omega
  ·obtain rfl : k = n:=by omega
   have d1 : ¬ a + (k : Int) < a + (k : Int):=by omega
   go_wp2_with fail
   go_ret
   exact ⟨_,rfl,hM,kr⟩
theorem sameInts_any (L : List Int) (hL : L.length ≤ 1000000) (a b : Option Addr) (ca cb : Nat) (w : World) (ha : Sl w (.slice a L.length ca) L) (hb : Sl w (.slice b L.length cb) L) : Calls Tryz.prog 142 #[.slice a L.length ca,.slice b L.length cb] w fun e w' => e = .returned (.bool true) ∧ Kept w w':=by
 by_cases h0 : L = []
 ·subst h0
  go_enter Tryz.func142,Tryz.ntmps142
  go_wp2_with fail
  refine wp_loop_rounds 1 ?_
  rw [rounds_succ]
  go_wp2_with fail
  go_ret
  exact ⟨rfl,Kept.refl w⟩
 ·obtain ⟨ao,c,e,-,-,f⟩:=ha
  obtain ⟨ba,o1,rfl,b1,r1⟩:=f h0
  simp only [Value.slice.injEq] at e
  obtain ⟨rfl,-,rfl⟩:=e
  obtain ⟨bo,c,e,-,-,f⟩:=hb
  obtain ⟨bb,o2,rfl,b2,r2⟩:=f h0
  simp only [Value.slice.injEq] at e
  obtain ⟨rfl,-,rfl⟩:=e
  have hn : ((L.length : Int) != (L.length : Int)) = false:=by simp
  go_enter Tryz.func142,Tryz.ntmps142
  go_wp2_with fail
  go_loopw [5] (fun kv wr => ∃ k : Nat,k ≤ L.length ∧ kv = .int .i64 (k : Int) ∧ Kept w wr) (fun kv _ => L.length - (intOf kv).toNat)
  case atStart => exact ⟨0,Nat.zero_le _,rfl,Kept.refl w⟩
  case round =>
   obtain ⟨k,hk,rfl,kr⟩:=hrel
   by_cases hkn : k < L.length
   ·have q1:=(kr.below.cell (p:=⟨ba,o1 + k,none⟩) b1).trans (r1 k hkn)
    have q2:=(kr.below.cell (p:=⟨bb,o2 + k,none⟩) b2).trans (r2 k hkn)
    generalize L.getD k 0 = x at *
    generalize L.length = l at *
    go_upto_region 6 with fail
    go_quiet (fail)
    go_wp2_with fail
    go_roundw
    case rel => exact ⟨k + 1,by omega,by go_num,by first | exact kr | exact kr.drew | exact kr.drewN _⟩
    case measure => simp [intOf]; omega
   ·obtain rfl : k = L.length:=by omega
    go_wp2_with fail
    go_ret
    exact ⟨rfl,kr⟩
/-- how a list of lists is read -/
def Rll (u : World) (v : Value) (n : Nat) (a : Nat → Option Addr) (c : Nat → Nat) (L : Nat → List Int) : Prop :=
 n = 0 ∧ v = .slice none 0 0 ∨ ∃ g cap,v = .slice (some ⟨g,0,none⟩) n cap ∧ ∀ j,j < n → u.cell? ⟨g,j,none⟩ = some (.slice (a j) (L j).length (c j)) ∧ Sl u (.slice (a j) (L j).length (c j)) (L j)
theorem Sl.kept' {u u' : World} {v : Value} {L : List Int} (h : Sl u v L) (k : Kept u u') : Sl u' v L:=by
 obtain ⟨ao,c,e,h1,h2,f⟩:=h
 refine ⟨ao,c,e,h1,h2,fun hn => ?_⟩
 obtain ⟨b,o,e2,hb,hr⟩:=f hn
 exact ⟨b,o,e2,Nat.lt_of_lt_of_le hb k.below.size,fun i hi => (k.below.cell (p:=⟨b,o + i,none⟩) hb).trans (hr i hi)⟩
theorem Rll.kept {u u' : World} {v : Value} {n : Nat} {a : Nat → Option Addr} {c : Nat → Nat} {L : Nat → List Int} (h : Rll u v n a c L) (k : Kept u u') : Rll u' v n a c L:=by
 rcases h with h | ⟨g,cap,e,h⟩
 ·exact .inl h
 ·exact .inr ⟨g,cap,e,fun j hj => ⟨(k.below.cell (p:=⟨g,j,none⟩) (World.block_lt_of_cell? _ _ (h j hj).1)).trans (h j hj).1,(h j hj).2.kept' k⟩⟩
theorem markedInts_any (v : Value) (n : Nat) (hn : n ≤ 900) (a : Nat → Option Addr) (c : Nat → Nat) (L : Nat → List Int) (hL : ∀ j,j < n → L j = mkl (j : Int) 0 (L j).length ∧ (L j).length ≤ 1000000) (w : World) (hR : Rll w v n a c L) : Calls Tryz.prog 72 #[v] w fun e w' => e = .returned (.bool true) ∧ Kept w w':=by
 rcases hR with ⟨rfl,rfl⟩ | ⟨g,cap,rfl,hR⟩
 ·go_enter Tryz.func72,Tryz.ntmps72
  go_wp2_with fail
  refine wp_loop_rounds 1 ?_
  rw [rounds_succ]
  go_wp2_with fail
  go_ret
  exact ⟨rfl,Kept.refl w⟩
 ·have HR:=(show Hid (∀ j,j < n → w.cell? ⟨g,j,none⟩ = some (.slice (a j) (L j).length (c j)) ∧ Sl w (.slice (a j) (L j).length (c j)) (L j)) from hR)
  have HL:=(show Hid (∀ j,j < n → L j = mkl (j : Int) 0 (L j).length ∧ (L j).length ≤ 1000000) from hL)
  clear hR hL
  go_enter Tryz.func72,Tryz.ntmps72
  go_wp2_with fail
  go_loopw [3] (fun iv wr => ∃ i : Nat,i ≤ n ∧ iv = .int .i64 (i : Int) ∧ Kept w wr) (fun iv _ => n - (intOf iv).toNat)
  case atStart => exact ⟨0,Nat.zero_le _,rfl,Kept.refl w⟩
  case round =>
   obtain ⟨i,hi,rfl,kr⟩:=hrel
   by_cases hin : i < n
   ·obtain ⟨h1,h2⟩:=HR.out i hin
    obtain ⟨h3,h4⟩:=HL.out i hin
    have q0:=(kr.below.cell (p:=⟨g,i,none⟩) (World.block_lt_of_cell? _ _ h1)).trans h1
    have s0:=h2.kept' kr
    obtain ⟨m,hm⟩ : ∃ m,m = (L i).length:=⟨_,rfl⟩
    rw [← hm] at q0 s0 h3 h4
    rw [h3] at s0
    have s1 : Hid (∀ u,Kept wr u → Sl u (.slice (a i) m (c i)) (mkl (i : Int) 0 m)):=fun u q => s0.kept' q
    have KM : Hid (∀ u,Calls Tryz.prog 150 #[.int .i64 (i : Int),.int .i64 0,.int .i64 (m : Int)] u fun e w' => ∃ v,e = .returned v ∧ MR u.heap.size w' v (mkl (i : Int) 0 m) ∧ Kept u w'):=fun u => markInts_any (i : Int) 0 m (by omega) (by omega) (by omega) u
    have KE : Hid (∀ ao co u,Kept wr u → Sl u (.slice ao m co) (mkl (i : Int) 0 m) → Calls Tryz.prog 142 #[.slice (a i) m (c i),.slice ao m co] u fun e w' => e = .returned (.bool true) ∧ Kept u w'):=fun ao co u k hs => by
     have:=sameInts_any (mkl (i : Int) 0 m) (by rw [mkl_len]; omega) (a i) ao (c i) co u (by rw [mkl_len]; exact s1.out u k) (by rw [mkl_len]; exact hs)
     rw [mkl_len] at this
     exact this
    generalize a i = ai at *
    generalize c i = ci at *
    have bl:=World.block_lt_of_cell? _ _ q0
    have HS : Hid (∀ u,Kept wr u → Kept wr u ∧ u.cell? ⟨g,i,none⟩ = some (.slice ai m ci)):=fun u q => ⟨q,(q.below.cell (p:=⟨g,i,none⟩) bl).trans q0⟩
    clear bl q0 s0 h1 h2 h3 h4 hm
    go_upto_region 4 with fail
    refine wp_region_late [] (fun u => Kept wr u ∧ u.cell? ⟨g,i,none⟩ = some (.slice ai m ci)) (by kernel_rfl) (HS.out _ (Kept.refl wr).drew) (fun hHeld => ?_)
    refine tkD (i:=0) (v:=?_) rfl hHeld ?_
    (try simp only [Act.put,zA,zB,zC,zD,zE,zF])
    refine tkD (i:=1) (v:=?_) rfl hHeld ?_
    (try simp only [Act.put,zA,zB,zC,zD,zE,zF])
    refine tkD (i:=2) (v:=?_) rfl hHeld ?_
    (try simp only [Act.put,zA,zB,zC,zD,zE,zF])
    refine tkD (i:=3) (v:=?_) rfl hHeld ?_
    (try simp only [Act.put,zA,zB,zC,zD,zE,zF])
    refine tkD (i:=4) (v:=?_) rfl hHeld ?_
    (try simp only [Act.put,zA,zB,zC,zD,zE,zF])
    refine tkD (i:=5) (v:=?_) rfl hHeld ?_
    (try simp only [Act.put,zA,zB,zC,zD,zE,zF])
    refine tkD (i:=6) (v:=?_) rfl hHeld ?_
    (try simp only [Act.put,zA,zB,zC,zD,zE,zF])
    refine tkD (i:=7) (v:=?_) rfl hHeld ?_
    (try simp only [Act.put,zA,zB,zC,zD,zE,zF])
    refine tkD (i:=8) (v:=?_) rfl hHeld ?_
    (try simp only [Act.put,zA,zB,zC,zD,zE,zF])
    refine tkD (i:=9) (v:=?_) rfl hHeld ?_
    (try simp only [Act.put,zA,zB,zC,zD,zE,zF])
    refine wpAnyD_step (i:=10) (by kernel_rfl) rfl (fun K hK9 => ?_)
    go_simp
    go_wp2_with fail
    refine (KM.out _).mono ?_
    rintro e u1 ⟨vm,rfl,hM,k1⟩
    refine hK9.out _ _ (HS.out _ (hHeld.1.trans k1)) (fun hH1 => ?_)
    clear hK9 K
    obtain ⟨ao,co,rfl,-,hs⟩:=hM.sl
    rw [mkl_len] at hs
    rw [mkl_len]
    (try simp only [Act.put,zA,zB,zC,zD,zE,zF])
    refine wpAnyD_step (i:=11) (by kernel_rfl) rfl (fun K hK9 => ?_)
    go_simp
    go_wp2_with fail
    refine (KE.out _ _ _ hH1.1 hs).mono ?_
    rintro e u2 ⟨rfl,k2⟩
    refine hK9.out _ _ (HS.out _ (hH1.1.trans k2)) (fun hH2 => ?_)
    clear hK9 K
    (try simp only [Act.put,zA,zB,zC,zD,zE,zF])
    refine tkD (i:=12) (v:=?_) rfl hH2 ?_
    (try simp only [Act.put,zA,zB,zC,zD,zE,zF])
    refine wpAnyD_done (by kernel_rfl) ?_ _
    (try simp only [Act.put,zA,zB,zC,zD,zE,zF])
    have kk:=kr.trans hH2.1
    clear hHeld hH1 hH2 HS KM KE s1 hs hM k1 k2
    go_wp2_with fail
    go_roundw
    case rel => exact ⟨i + 1,by omega,by go_num,kk⟩
    case measure => simp [intOf]; omega
   ·obtain rfl : i = n:=by omega
    go_wp2_with fail
    go_ret
    exact ⟨rfl,kr⟩
end Go.Proofs.YtnafaclfdoefcaaGreatDoor
