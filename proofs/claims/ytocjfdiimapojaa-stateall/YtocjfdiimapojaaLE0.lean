/- Bytes with two more behind them; text out of any bytes; what was read stays where it lies. -/
import Derived.Test.YtocjfdiimapojaaLD
import Derived.Test.YtocjfdiimapojaaMI
namespace Go.Proofs.Ytocjfdiimapojaa
open Go.ChangeShapes Go.WideShapes Go.ChangeAt Go.RowKit
set_option maxHeartbeats 16000000
set_option maxRecDepth 100000
set_option linter.unusedVariables false
set_option linter.unusedSimpArgs false
theorem sb_two (B : List Int) : SB B ++ (⟨#[7,8]⟩ : ByteArray) = SB (B ++ [7,8]):=by
 apply ByteArray.ext
 rw [ByteArray.data_append]
 simp [SB]
theorem sb_size (B : List Int) : (SB B).size = B.length:=by simp [SB,ByteArray.size]
theorem str_any (B : List Int) (hB : Byt B) (ao : Option Addr) (cap : Nat) (u : World) (hS : B ≠ [] → ∃ b off,ao = some ⟨b,off,none⟩ ∧ BR u b off B) : (convert 22 9 (.slice ao B.length cap)).run Try.prog u = .ok (.string (SB B)) u:=by
 by_cases h : B = []
 ·subst h
  rcases ao with _ | a
  ·show _ = Result.ok (Value.string ⟨#[]⟩) u
   first | kernel_rfl | rfl
  ·have:=run_convert_bytes_back (P:=Try.prog) u 22 9 5 a cap [] lb_under (by kernel_rfl) str_under (fun j hj => by simp at hj)
   have e : SB [] = ⟨#[]⟩:=rfl
   rw [e]
   simpa using this
 ·obtain ⟨b,off,rfl,hr⟩:=hS h
  exact str_run B hB b off cap u hr
theorem StV.kx {H : Nat} {w w' : World} {v : Value} {s : Sta} {X : Nat → Prop} (h : StV H w v s) (k : KX X w w') (hX : ∀ b,X b → b < H) : StV H w' v s:=by
 obtain ⟨pv,qv,K,e,hK,h1,h2⟩:=h
 exact ⟨pv,qv,K,e,hK,h1.kx k hX,h2.kx k fun b hb => Nat.lt_of_lt_of_le (hX b hb) hK⟩
theorem StD.kx {H : Nat} {w w' : World} {v : Value} {s : Sta} {X : Nat → Prop} (h : StD H w v s) (k : KX X w w') (hX : ∀ b,X b → b < H) : StD H w' v s:=by
 obtain ⟨pv,qv,e,h1,h2⟩:=h
 exact ⟨pv,qv,e,h1.kx k hX,h2.kx k hX⟩
theorem RdR.kx {H : Nat} {x : Res Sta} {e : Ending} {w w' : World} {X : Nat → Prop} (h : RdR H x e w) (k : KX X w w') (hX : ∀ b,X b → b < H) : RdR H x e w':=by
 cases x with
 | no er pl => exact h
 | ok s q =>
  obtain ⟨v,e1,h1⟩:=h
  exact ⟨v,e1,h1.kx k hX⟩
theorem RdD.kx {H : Nat} {x : Res Sta} {e : Ending} {w w' : World} {X : Nat → Prop} (h : RdD H x e w) (k : KX X w w') (hX : ∀ b,X b → b < H) : RdD H x e w':=by
 cases x with
 | no er pl => exact h
 | ok s q =>
  obtain ⟨v,e1,h1⟩:=h
  exact ⟨v,e1,h1.kx k hX⟩
/-- Seven cells. -/
def ag7 (a b d : Int) (pa : Option Addr) (pn pc : Nat) (qa : Option Addr) (qn qc : Nat) (lo ra : Int) : Value:=.agg #[.int .i64 a,.int .i64 b,.int .i64 d,.slice pa pn pc,.slice qa qn qc,.int .i64 lo,.int .i64 ra]
theorem zst_sti (w : World) : StI w zst ⟨0,0,0,[],[],0,0⟩:=⟨_,_,rfl,⟨none,0,rfl,Nat.le_refl _,fun h => absurd rfl h⟩,⟨none,0,rfl,Nat.le_refl _,fun h => absurd rfl h⟩⟩
theorem RdR.form {H : Nat} {x : Res Sta} {e : Ending} {w : World} (h : RdR H x e w) : ∃ a b d pa pn pc qa qn qc lo ra,e = .returned (.tuple #[ag7 a b d pa pn pc qa qn qc lo ra,.int .i64 (rPl x),.int .i64 (rEr x)]) ∧ StI w (ag7 a b d pa pn pc qa qn qc lo ra) (rSt x):=by
 cases x with
 | no er pl => exact ⟨0,0,0,none,0,0,none,0,0,0,0,h,zst_sti w⟩
 | ok s q =>
  obtain ⟨v,e1,h1⟩:=h
  have h2:=h1.st
  obtain ⟨pv,qv,rfl,hp,hq⟩:=h2
  obtain ⟨pa,pc,rfl,-⟩:=hp
  obtain ⟨qa,qc,rfl,-⟩:=hq
  exact ⟨_,_,_,_,_,_,_,_,_,_,_,e1,h1.st⟩
theorem RdD.form {H : Nat} {x : Res Sta} {e : Ending} {w : World} (h : RdD H x e w) : ∃ a b d pa pn pc qa qn qc lo ra,e = .returned (.tuple #[ag7 a b d pa pn pc qa qn qc lo ra,.int .i64 (rPl x),.int .i64 (rEr x)]) ∧ StI w (ag7 a b d pa pn pc qa qn qc lo ra) (rSt x):=by
 cases x with
 | no er pl => exact ⟨0,0,0,none,0,0,none,0,0,0,0,h,zst_sti w⟩
 | ok s q =>
  obtain ⟨v,e1,h1⟩:=h
  have h2:=h1.st
  obtain ⟨pv,qv,rfl,hp,hq⟩:=h2
  obtain ⟨pa,pc,rfl,-⟩:=hp
  obtain ⟨qa,qc,rfl,-⟩:=hq
  exact ⟨_,_,_,_,_,_,_,_,_,_,_,e1,h1.st⟩
theorem rSt_len {B : List Int} (hB : Byt B) : (rSt (rread B)).P.length ≤ 64 ∧ (rSt (rread B)).Q.length ≤ 64 ∧ ∀ l ∈ (rSt (rread B)).Q,l.length ≤ 4:=by
 rcases hx : rread B with ⟨er,pl⟩ | ⟨s,q⟩
 ·exact ⟨Nat.zero_le _,Nat.zero_le _,fun l hl => by cases hl⟩
 ·have hf:=(read_dec hB hx).1
  refine ⟨hf.pl,hf.ql,fun l hl => ?_⟩
  obtain ⟨j,hj,rfl⟩:=List.getElem_of_mem hl
  exact (hf.q j _ (List.getElem?_eq_getElem hj)).1
/-- Two more bytes behind bytes that one owns. -/
theorem bapp_two (H : Nat) (w : World) (v : Value) (L : List Int) (h : BN H w v L) (hH : H ≤ w.heap.size) (hlen : L.length < 500000) (x y : Int) :
  ∃ g C w',(∀ ty,(Builtin.append_ #[22,22] ty #[v,.slice (some ⟨w.heap.size,0,none⟩) 2 2]).run Try.prog (w.alloc (.cells #[.int .u8 x,.int .u8 y] 5)) = .ok (.slice (some ⟨g,0,none⟩) (L.length + 2) C) w') ∧ H ≤ g ∧ L.length + 2 ≤ C ∧ OwnV w' g C 5 ((L ++ [x,y]).map (Value.int .u8)) ∧ KX (fun b => H ≤ b) w w':=by
 have hM : MS 1 5 H w v L.length (L.map (Value.int .u8)):=by
  rcases h with ⟨rfl,rfl⟩ | ⟨g,C,rfl,hg,cur,h1,h2,h3,h4,h5⟩
  ·exact .inl ⟨rfl,rfl,rfl⟩
  ·have h2' : L.length ≤ C:=by simpa using h2
   exact .inr ⟨g,C,rfl,hg,by simp,h2',cur,h1,by simpa using h2',h3,by simpa using h4,h5⟩
 have hK : Kept w (w.alloc (.cells #[.int .u8 x,.int .u8 y] 5)):=(Kept.refl w).alloc _ _
 have hX : MS 1 5 0 (w.alloc (.cells #[.int .u8 x,.int .u8 y] 5)) (.slice (some ⟨w.heap.size,0,none⟩) 2 2) 2 [.int .u8 x,.int .u8 y]:=.inr ⟨w.heap.size,2,rfl,Nat.zero_le _,rfl,Nat.le_refl _,_,heap_alloc_new w _,Nat.le_refl 2,by simp [maxLen],rfl,rfl⟩
 obtain ⟨v',w',hr,hm,hk⟩:=app_list 22 5 lb_under (.int .u8 0) 1 1 lb_info rfl (by decide) H _ v L.length _ (hM.kept hK) _ 2 _ hX (fun u hu => by
  simp only [List.mem_cons,List.not_mem_nil,or_false] at hu
  rcases hu with rfl | rfl <;> rfl) (Nat.le_trans hH hK.below.size) (by omega)
 rcases hm with ⟨h0,-,-⟩ | ⟨g,C,rfl,hg,h3,h4,cur,h5,h6,h7,h8,h9⟩
 ·omega
 ·refine ⟨g,C,w',hr,hg,h4,⟨cur,h5,by simp; omega,h7,by simpa using h8,by rw [List.map_append]; exact h9⟩,(hK.kx _).trans (hk.mono ?_)⟩
  rintro b ⟨n,c,e⟩
  exact (ms_bk hM b ⟨n,c,e⟩).1
theorem app_list2 (t e : TypeId) (ht : Try.prog.underlying t = some (.slice e)) (z : Value) (sz by8 : Nat) (hinf : (Try.prog.info? e).map (fun i => (i.zero,i.size,i.bytes)) = some (some z,sz,by8)) (hz : z.cells.size = sz) (hby : by8 ≤ 128)
  (H : Nat) (w : World) (lv : Value) (k : Nat) (V : List Value) (hM : MS sz e H w lv k V) (xv : Value) (k2 : Nat) (V2 : List Value) (hX : MS sz e 0 w xv k2 V2) (h1 : ∀ u ∈ V2,u.oneCell' = true) (hH : H ≤ w.heap.size) (hlen : k + k2 < 1000000) :
  ∃ v' w',(∀ ty,(Builtin.append_ #[t,t] ty #[lv,xv]).run Try.prog w = .ok v' w') ∧ MS sz e H w' v' (k + k2) (V ++ V2) ∧ KX (fun b => ∃ n c,lv = .slice (some ⟨b,0,none⟩) n c) w w' ∧ ∀ b,bkv v' b → bkv lv b ∨ w.heap.size ≤ b:=by
 obtain ⟨i,hi,hz2,hs,hb⟩:=info_parts hinf
 have hVl:=hM.len
 have hXl:=hX.len
 have hS : Src Try.prog i.size t xv k2 V2 w:=by
  rcases hX with ⟨rfl,rfl,rfl⟩ | ⟨g,cap,rfl,-,-,hkc,hO⟩
  ·exact Src.ofNil w ht 0
  ·exact Src.ofSlice w ht ⟨g,0,none⟩ k2 cap V2 (by rw [hs]; exact hXl) (fun j u hj => by rw [Addr.add_lit,Nat.zero_add]; exact hO.cell j u hj) h1
 have hnl : (V ++ V2).length = (k + k2) * sz:=by rw [List.length_append,hVl,hXl,Nat.add_mul]
 have grow : ∀ (base : Option Addr) (cap : Nat),lv = .slice base k cap → cap < k + k2 → (Builtin.firstCells i.size k (.slice base k cap)).run Try.prog w.drew = .ok V.toArray w.drew → ∃ v' w',(∀ ty,(Builtin.append_ #[t,t] ty #[lv,xv]).run Try.prog w = .ok v' w') ∧ MS sz e H w' v' (k + k2) (V ++ V2) ∧ KX (fun b => ∃ n c,lv = .slice (some ⟨b,0,none⟩) n c) w w' ∧ ∀ b,bkv v' b → bkv lv b ∨ w.heap.size ≤ b:=fun base cap e1 hc hf => by
  subst e1
  obtain ⟨C,hC⟩ : ∃ C,grownCap w (k + k2) cap e = C:=⟨_,rfl⟩
  have hC1 : k + k2 ≤ C:=by rw [← hC]; exact grownCap_ge _ _ _ _
  have hC2 : C ≤ maxLen:=by rw [← hC]; exact grownCap_le_maxLen _ _ _ _ (by simp [maxLen]; omega)
  have hN:=ownS_new w.drew e z sz hz (V ++ V2) (k + k2) C hnl hC1 hC2
  have hKN : Kept w (w.drew.alloc (.cells ((V ++ V2).toArray ++ Builtin.zeroCells z.cells (C - (k + k2))) e)):=(Kept.refl w).drew.alloc _ _
  refine ⟨_,_,fun ty => ?_,.inr ⟨w.heap.size,C,rfl,by omega,hnl,hC1,by simpa using hN⟩,hKN.kx _,fun b ⟨n,c,e⟩ => .inr (by cases e; exact Nat.le_refl _)⟩
  have:=run_append_grow_src w t t ty e i z ht hi hz2 base k cap V hf xv k2 V2 hS hc (by omega) (growslice_fits hc (by rw [hb]; exact Nat.le_trans (Nat.mul_le_mul_left _ hby) (by omega)))
  rw [hC] at this
  rw [this]
 rcases hM with ⟨rfl,rfl,rfl⟩ | ⟨g,cap,rfl,hg,-,hkc,hO⟩
 ·by_cases h0 : k2 = 0
  ·subst h0
   have hV2 : V2 = []:=List.length_eq_zero_iff.1 (by omega)
   subst hV2
   refine ⟨.slice none 0 0,w,fun ty => ?_,.inl ⟨rfl,rfl,rfl⟩,(Kept.refl w).kx _,fun b ⟨n,c,e⟩ => by cases e⟩
   rcases hS.kind with ⟨e',hk⟩ | hk <;> simp [Builtin.append_,run_underlying ht,run_underlying hk,sizeOf,typeInfo,hi,hS.len,hS.cells]
  ·exact grow none 0 rfl (by omega) (by simpa using run_firstCells_none (P:=Try.prog) w.drew i.size 0 0 0)
 ·by_cases hr : k + k2 ≤ cap
  ·have hroom : V.length + V2.length ≤ cap * sz:=by
    rw [hVl,hXl,← Nat.add_mul]
    exact Nat.mul_le_mul_right _ hr
   have hG:=(Grw.refl g w).setCells V2 V.length
   refine ⟨_,w.setCells g V.length V2,fun ty => ?_,.inr ⟨g,cap,rfl,hg,hnl,hr,hO.pushes V2 hroom⟩,(hG.kx).mono fun b hb => by subst hb; exact ⟨_,_,rfl⟩,fun b ⟨n,c,e⟩ => .inl (by cases e; exact ⟨_,_,rfl⟩)⟩
   have:=run_append_room_src w t t ty e i ht hi g 0 k cap xv k2 V2 hS hr (fun j hj => hO.some _ (by rw [hs,← hVl]; omega)) (fun j hj => hO.free _)
   rw [this,hs,hVl]
   simp
  ·exact grow (some ⟨g,0,none⟩) cap rfl (by omega) (run_firstCells_some (P:=Try.prog) w.drew i.size k ⟨g,0,none⟩ k cap V (by rw [hs]; exact hVl) (fun j u hu => by rw [Addr.add_lit,Nat.zero_add]; exact hO.cell j u hu))
theorem RdR.ke2 {H : Nat} {B : List Int} (hB : Byt B) {e : Ending} {w : World} (h : RdR H (rread B) e w) (hH : H ≤ w.heap.size) : ∃ x : KE,e = .returned (.tuple #[x.val,.int .i64 (rPl (rread B)),.int .i64 (rEr (rread B))]) ∧ x.s = rSt (rread B) ∧ KRd H w.heap.size w x ∧ KBt H w.heap.size w x ∧ ∀ (w' : World) (X : Nat → Prop),KX X w w' → (∀ b,X b → b < H) → StI w' x.val x.s:=by
 rcases hx : rread B with ⟨er,pl⟩ | ⟨s,q⟩
 ·rw [hx] at h
  exact ⟨ke0,h,rfl,ke0_rd H _ w,ke0_bt H _ w,fun w' X _ _ => zst_sti w'⟩
 ·rw [hx] at h
  obtain ⟨v,rfl,hv⟩:=h
  obtain ⟨x,rfl,h2,h3,h4⟩:=hv.ke (read_dec hB hx).1 hH
  exact ⟨x,rfl,h2,h3,h4,fun w' X k hX => by rw [h2]; exact (hv.kx k hX).st⟩
theorem RdD.ke2 {H : Nat} {B : List Int} (hB : Byt B) {e : Ending} {w : World} (h : RdD H (rread B) e w) : ∃ x : KE,e = .returned (.tuple #[x.val,.int .i64 (rPl (rread B)),.int .i64 (rEr (rread B))]) ∧ x.s = rSt (rread B) ∧ KRd H w.heap.size w x ∧ ∀ (w' : World) (X : Nat → Prop),KX X w w' → (∀ b,X b → b < H) → StI w' x.val x.s:=by
 rcases hx : rread B with ⟨er,pl⟩ | ⟨s,q⟩
 ·rw [hx] at h
  exact ⟨ke0,h,rfl,ke0_rd H _ w,fun w' X _ _ => zst_sti w'⟩
 ·rw [hx] at h
  obtain ⟨v,rfl,hv⟩:=h
  obtain ⟨x,rfl,h2,h3⟩:=hv.ke (read_dec hB hx).1
  exact ⟨x,rfl,h2,h3,fun w' X k hX => by rw [h2]; exact (hv.kx k hX).st⟩
theorem st_under : Try.prog.underlying 25 = some (.slice 35):=by kernel_rfl
theorem st_info : (Try.prog.info? 35).map (fun i => (i.zero,i.size,i.bytes)) = some (some (.agg #[.int .i64 0,.int .i64 0,.int .i64 0,.slice none 0 0,.slice none 0 0,.int .i64 0,.int .i64 0]),7,88):=by kernel_rfl
/-- One more state. -/
theorem st_app (w : World) (kv : Value) (n : Nat) (V : List Value) (h : MS 7 35 0 w kv n V) (hn : n ≤ 1000) (a b d : Int) (pa : Option Addr) (pn pc : Nat) (qa : Option Addr) (qn qc : Nat) (lo ra : Int) :
  ∃ va vc w',(∀ ty,(Builtin.append_ #[25,25] ty #[kv,.slice (some ⟨w.heap.size,0,none⟩) 1 1]).run Try.prog (w.alloc (.cells #[.int .i64 a,.int .i64 b,.int .i64 d,.slice pa pn pc,.slice qa qn qc,.int .i64 lo,.int .i64 ra] 35)) = .ok (.slice va (n + 1) vc) w') ∧ MS 7 35 0 w' (.slice va (n + 1) vc) (n + 1) (V ++ [.int .i64 a,.int .i64 b,.int .i64 d,.slice pa pn pc,.slice qa qn qc,.int .i64 lo,.int .i64 ra]) ∧ KX (bkv kv) w w' ∧ ∀ b,bkv (.slice va (n + 1) vc) b → bkv kv b ∨ w.heap.size ≤ b:=by
 have hK : Kept w (w.alloc (.cells #[.int .i64 a,.int .i64 b,.int .i64 d,.slice pa pn pc,.slice qa qn qc,.int .i64 lo,.int .i64 ra] 35)):=(Kept.refl w).alloc _ _
 have hX : MS 7 35 0 (w.alloc (.cells #[.int .i64 a,.int .i64 b,.int .i64 d,.slice pa pn pc,.slice qa qn qc,.int .i64 lo,.int .i64 ra] 35)) (.slice (some ⟨w.heap.size,0,none⟩) 1 1) 1 [.int .i64 a,.int .i64 b,.int .i64 d,.slice pa pn pc,.slice qa qn qc,.int .i64 lo,.int .i64 ra]:=.inr ⟨w.heap.size,1,rfl,Nat.zero_le _,rfl,Nat.le_refl _,_,heap_alloc_new w _,Nat.le_refl 7,by simp [maxLen],rfl,rfl⟩
 obtain ⟨v',w',hr,hm,hk,hb⟩:=app_list2 25 35 st_under _ 7 88 st_info rfl (by decide) 0 _ kv n V (h.kept hK) _ 1 _ hX (fun u hu => by
  simp only [List.mem_cons,List.not_mem_nil,or_false] at hu
  rcases hu with rfl | rfl | rfl | rfl | rfl | rfl | rfl <;> rfl) (Nat.zero_le _) (by omega)
 obtain ⟨va,vc,rfl⟩:=hm.form
 exact ⟨va,vc,w',hr,hm,(hK.kx _).trans hk,fun b h => (hb b h).imp id fun h => Nat.le_trans hK.below.size h⟩
end Go.Proofs.Ytocjfdiimapojaa
