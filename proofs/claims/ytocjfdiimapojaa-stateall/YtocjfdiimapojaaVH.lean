/- Package state: the sum of bytes. -/
import Derived.Test.YtocjfdiimapojaaVF
namespace Go.Proofs.Ytocjfdiimapojaa
open Go.ChangeShapes Go.WideShapes Go.ChangeAt Go.RowKit
set_option maxHeartbeats 16000000
set_option maxRecDepth 100000
set_option linter.unusedVariables false
set_option linter.unusedSimpArgs false
/-- A slice of bytes. -/
def SlB (w : World) (v : Value) (B : List Int) : Prop:=∃ ao cap,v = .slice ao B.length cap ∧ B.length ≤ cap ∧ cap ≤ maxLen ∧ (B ≠ [] → ∃ b off,ao = some ⟨b,off,none⟩ ∧ b < w.heap.size ∧ BR w b off B)
theorem SlB.kept {w w' : World} {v : Value} {B : List Int} (h : SlB w v B) (k : Kept w w') : SlB w' v B:=by
 obtain ⟨ao,cap,e,hc,hm,hr⟩:=h
 refine ⟨ao,cap,e,hc,hm,fun hne => ?_⟩
 obtain ⟨b,off,e2,hb,hr⟩:=hr hne
 exact ⟨b,off,e2,Nat.lt_of_lt_of_le hb k.below.size,fun i hi => (k.below.cell (p:=⟨b,off + i,none⟩) hb).trans (hr i hi)⟩
theorem sz_app (i : Nat) (A C : List Int) : sz i (A ++ C) = sz i A + sz (i + A.length) C:=by
 induction A generalizing i with
 | nil => simp [sz]
 | cons a A ih =>
  show _ + sz (i + 1) (A ++ C) = _ + sz (i + 1) A + _
  rw [ih (i + 1),List.length_cons,show i + 1 + A.length = i + (A.length + 1) by omega]
  omega
theorem sz_step (B : List Int) (i : Nat) (hi : i < B.length) : sz 0 (B.take (i + 1)) = sz 0 (B.take i) + ((i : Int) + 1) * B.getD i 0:=by
 have e : B.getD i 0 = B[i]:=by simp [List.getD_eq_getElem?_getD,List.getElem?_eq_getElem hi]
 rw [List.take_succ_eq_append_getElem hi,sz_app,List.length_take,Nat.min_eq_left (by omega),e]
 simp [sz]
theorem sum_any (ao : Option Addr) (cap : Nat) (B : List Int) (hB : Byt B) (hlen : B.length ≤ 100000000) (w : World) (hS : B ≠ [] → ∃ b off,ao = some ⟨b,off,none⟩ ∧ b < w.heap.size ∧ BR w b off B) :
  Calls Try.prog 15 #[.slice ao B.length cap] w fun e w' => e = .returned (.int .i64 (sumB B)) ∧ Kept w w':=by
 obtain ⟨f,hf⟩ : ∃ f : Nat → Int,∀ i,sz 0 (B.take i) % 4294967296 = f i:=⟨_,fun _ => rfl⟩
 obtain ⟨h,hh⟩ : ∃ h : Nat → Int,∀ i,B.getD i 0 = h i:=⟨_,fun _ => rfl⟩
 have h0 : f 0 = 0:=by rw [← hf]; rfl
 have hN : sumB B = f B.length:=by rw [← hf,List.take_length]; rfl
 have HS : Hid (∀ i,i < B.length → ∃ b off,ao = some ⟨b,off,none⟩ ∧ ∀ u,Kept w u → u.cell? ⟨b,off + i,none⟩ = some (.int .u8 (h i))):=fun i hi => by
  obtain ⟨b,off,e,hb,hr⟩:=hS (by intro hx; subst hx; simp at hi)
  exact ⟨b,off,e,fun u k => by rw [← hh]; exact (k.below.cell (p:=⟨b,off + i,none⟩) hb).trans (hr i hi)⟩
 have HF : Hid (∀ i,i < B.length → (f i + ((i : Int) + 1) * (h i % 4294967296) % 4294967296) % 4294967296 = f (i + 1)):=fun i hi => by
  have hb:=hB.at i
  rw [hh] at hb
  rw [← hf (i + 1),sz_step B i hi,← hf i,hh]
  rw [show h i % 4294967296 = h i by omega]
  generalize ((i : Int) + 1) * h i = x
  omega
 have HG : Hid (∀ i,0 ≤ f i ∧ f i < 4294967296):=fun i => by rw [← hf]; omega
 rw [hN]
 obtain ⟨m,hm⟩ : ∃ m,B.length = m:=⟨_,rfl⟩
 rw [hm] at HS HF hlen ⊢
 clear hS hf hh hm hN hB
 go_enter Try.func15,Try.ntmps15
 go_wp2_with fail
 go_loopw [3,7] (fun sv iv wr => ∃ i : Nat,i ≤ m ∧ sv = .int .u32 (f i) ∧ iv = .int .i64 (i : Int) ∧ Kept w wr) (fun _ iv _ => m - (intOf iv).toNat)
 case atStart => exact ⟨0,Nat.zero_le _,by rw [h0],rfl,Kept.refl w⟩
 case round =>
  obtain ⟨i,hi,rfl,rfl,kr⟩:=hrel
  by_cases him : i < m
  ·obtain ⟨b,off,rfl,hc⟩:=HS.out i him
   have c0:=hc wr kr
   have hbd : (0 : Int) ≤ (i : Int) ∧ (i : Int) < (m : Int):=by omega
   have hbd2 : (i : Int) < (m : Int):=by omega
   have z2 : IntKind.i64.wrap ((i : Int) + 1) = (i : Int) + 1:=by rw [wrap_i64]; omega
   have hF:=hid (HF.out i him)
   clear hc HS HF
   go_wp2_with fail
   go_roundw
   case rel => exact ⟨i + 1,by omega,congrArg _ hF.out,by go_num,kr⟩
   case measure => simp [intOf]; omega
  ·obtain rfl : i = m:=by omega
   have z3 : IntKind.i64.wrap (f i) = f i:=by have:=HG.out i; rw [wrap_i64]; omega
   go_wp2_with fail
   go_ret
   exact ⟨rfl,kr⟩
end Go.Proofs.Ytocjfdiimapojaa
