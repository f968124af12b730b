/- The document's reader: a fault,a number. The document's reader: a number within bounds. -/
import Derived.Test.YtocjfdiimapojaaZB
namespace Go.Proofs.Ytocjfdiimapojaa
open Go.ChangeShapes Go.WideShapes Go.ChangeAt Go.RowKit
set_option maxHeartbeats 16000000
set_option maxRecDepth 100000
set_option linter.unusedVariables false
set_option linter.unusedSimpArgs false
/-- The document's reader in its block: its bytes,the next place,the first thing wrong and its place. -/
structure RQ (u : World) (R : Nat) (ao : Option Addr) (B : List Int) (cap q : Nat) (er pl : Int) : Prop where
 bk : Bk u R [.slice ao B.length cap,.int .i64 (q : Int),.int .i64 er,.int .i64 pl]
 rd : B ≠ [] → ∃ b off,ao = some ⟨b,off,none⟩ ∧ b ≠ R ∧ b < u.heap.size ∧ BR u b off B
 le : q ≤ B.length
theorem RQ.kx {u u' : World} {R : Nat} {ao : Option Addr} {B : List Int} {cap q : Nat} {er pl : Int} (h : RQ u R ao B cap q er pl) {X : Nat → Prop} (k : KX X u u') (hR : ¬ X R) (hB : B ≠ [] → ∀ b off,ao = some ⟨b,off,none⟩ → b < u.heap.size → ¬ X b) : RQ u' R ao B cap q er pl :=
 ⟨h.bk.kx k hR,fun hne => by
  obtain ⟨b,off,e,h1,h2,h3⟩:=h.rd hne
  exact ⟨b,off,e,h1,Nat.lt_of_lt_of_le h2 k.size,fun i hi => (World.cell?_of_block (k.block b h2 (hB hne b off e h2))).trans (h3 i hi)⟩,h.le⟩
theorem RQ.kept {u u' : World} {R : Nat} {ao : Option Addr} {B : List Int} {cap q : Nat} {er pl : Int} (h : RQ u R ao B cap q er pl) (k : Kept u u') : RQ u' R ao B cap q er pl:=h.kx (k.kx fun _ => False) id (fun _ _ _ _ _ h => h)
theorem RQ.rd2 {u : World} {R : Nat} {ao : Option Addr} {B : List Int} {cap q : Nat} {er pl : Int} (h : RQ u R ao B cap q er pl) (i : Nat) (v : Value) : B ≠ [] → ∃ b off,ao = some ⟨b,off,none⟩ ∧ b ≠ R ∧ b < (u.setCell ⟨R,i,none⟩ v).heap.size ∧ BR (u.setCell ⟨R,i,none⟩ v) b off B:=fun hne => by
 obtain ⟨b,off,e,h1,h2,h3⟩:=h.rd hne
 exact ⟨b,off,e,h1,by simpa using h2,fun j hj => (World.cell?_of_block (Below.heap_setCell u ⟨R,i,none⟩ v b h1)).trans (h3 j hj)⟩
theorem RQ.at {u : World} {R : Nat} {ao : Option Addr} {B : List Int} {cap q : Nat} {er pl : Int} (h : RQ u R ao B cap q er pl) (q2 : Nat) (h2 : q2 ≤ B.length) : RQ (u.setCell ⟨R,1,none⟩ (.int .i64 (q2 : Int))) R ao B cap q2 er pl:=⟨h.bk.set 1 _,h.rd2 1 _,h2⟩
theorem RQ.er {u : World} {R : Nat} {ao : Option Addr} {B : List Int} {cap q : Nat} {er pl : Int} (h : RQ u R ao B cap q er pl) (e : Int) : RQ (u.setCell ⟨R,2,none⟩ (.int .i64 e)) R ao B cap q e pl:=⟨h.bk.set 2 _,h.rd2 2 _,h.le⟩
theorem RQ.pl {u : World} {R : Nat} {ao : Option Addr} {B : List Int} {cap q : Nat} {er pl : Int} (h : RQ u R ao B cap q er pl) (p : Int) : RQ (u.setCell ⟨R,3,none⟩ (.int .i64 p)) R ao B cap q er p:=⟨h.bk.set 3 _,h.rd2 3 _,h.le⟩
theorem rbad_any (R : Nat) (ao : Option Addr) (B : List Int) (cap q : Nat) (er pl e p : Int) (u : World) (h : RQ u R ao B cap q er pl) : Calls Try.prog 33 #[.pointer (some ⟨R,0,none⟩),.int .i64 e,.int .i64 p] u fun x w' => x = .returned (.tuple #[]) ∧ KX (fun b => b = R) u w' ∧ (er = 0 → RQ w' R ao B cap q e p) ∧ (er ≠ 0 → RQ w' R ao B cap q er pl):=by
 have c2:=h.bk.c 2 _ rfl
 have c3:=h.bk.c 3 _ rfl
 have hf:=h.bk.fz
 have HH:=hid h
 by_cases he : er = 0
 ·subst he
  clear h
  go_enter Try.func33,Try.ntmps33
  go_wp2_with fail
  go_end0
  exact ⟨rfl,(((Grw.refl R u).setCell 2 _).setCell 3 _).kx,fun _ => (HH.out.er e).pl p,fun h => absurd rfl h⟩
 ·have d1 : (er == 0) = false:=by simpa using he
  clear h
  go_enter Try.func33,Try.ntmps33
  go_wp2_with fail
  go_end0
  exact ⟨rfl,(Kept.refl u).kx _,fun h => absurd h he,fun _ => HH.out⟩
/-- Behind a number: read,or too early an end. -/
def GtP (R : Nat) (ao : Option Addr) (B : List Int) (cap q : Nat) (pl : Int) (k : Nat) (e : Ending) (w' : World) : Prop:=(q + k ≤ B.length ∧ e = .returned (.int .i64 (numv k B q)) ∧ RQ w' R ao B cap (q + k) 0 pl) ∨ (B.length < q + k ∧ e = .returned (.int .i64 0) ∧ RQ w' R ao B cap q 50 B.length)
theorem un_nn (k : Nat) (B : List Int) (q : Nat) (hB : Byt B) : 0 ≤ un k B q ∧ un k B q < 256 ^ k:=un_rng k B q hB
theorem rget_err (R : Nat) (ao : Option Addr) (B : List Int) (cap q : Nat) (er pl : Int) (he : er ≠ 0) (k : Int) (u : World) (h : RQ u R ao B cap q er pl) : Calls Try.prog 32 #[.pointer (some ⟨R,0,none⟩),.int .i64 k] u fun x w' => x = .returned (.int .i64 0) ∧ Kept u w':=by
 have c2:=h.bk.c 2 _ rfl
 have d1 : (er == 0) = false:=by simpa using he
 have d2 : (er != 0) = true:=by simpa using he
 clear h
 go_enter Try.func32,Try.ntmps32
 go_wp2_with fail
 go_ret
 exact ⟨rfl,Kept.refl u⟩
theorem rget_any (R : Nat) (ao : Option Addr) (B : List Int) (cap q : Nat) (pl : Int) (hB : Byt B) (hlen : B.length ≤ 100000000) (k : Nat) (hk : k ≤ 8) (hk0 : 0 < k) (u : World) (h : RQ u R ao B cap q 0 pl) : Calls Try.prog 32 #[.pointer (some ⟨R,0,none⟩),.int .i64 (k : Int)] u fun x w' => KX (fun b => b = R) u w' ∧ GtP R ao B cap q pl k x w':=by
 obtain ⟨n,hn⟩ : ∃ n,B.length = n:=⟨_,rfl⟩
 have HH:=hid h
 have HBad:=hid (fun (w : World) (kw : Kept u w) => rbad_any R ao B cap q 0 pl 50 (n : Int) w (h.kept kw))
 have HN:=hid hn
 have hqn : q ≤ n:=by rw [← hn]; exact h.le
 have HQN:=hid (show q ≤ n ∧ n ≤ 100000000 ∧ k ≤ 8 ∧ 0 < k from ⟨hqn,by omega,hk,hk0⟩)
 have HRd : Hid (∀ w i,Kept u w → q + i < n → ∃ b off,ao = some ⟨b,off,none⟩ ∧ w.cell? ⟨b,off + (q + i),none⟩ = some (.int .u8 (B.getD (q + i) 0))):=fun w i kw hi => by
  obtain ⟨b,off,e,-,h2,h3⟩:=(h.kept kw).rd (by intro e; rw [e] at hn; simp at hn; omega)
  exact ⟨b,off,e,h3 (q + i) (by omega)⟩
 have HC : Hid (∀ w,Kept u w → w.cell? ⟨R,0,none⟩ = some (.slice ao n cap) ∧ w.cell? ⟨R,1,none⟩ = some (.int .i64 (q : Int)) ∧ w.cell? ⟨R,2,none⟩ = some (.int .i64 0)):=fun w kw => by
  rw [← hn]
  exact ⟨(h.kept kw).bk.c 0 _ rfl,(h.kept kw).bk.c 1 _ rfl,(h.kept kw).bk.c 2 _ rfl⟩
 have HBy:=hid hB
 obtain ⟨c0,c1,c2⟩:=HC.out u (Kept.refl u)
 obtain ⟨dd,hdd⟩ : ∃ dd : Int,(n : Int) - (q : Int) = dd:=⟨_,rfl⟩
 have z1 : IntKind.i64.wrap ((n : Int) - (q : Int)) = dd:=by rw [hdd,wrap_i64]; omega
 have zk1 : IntKind.i64.wrap ((k : Int) - 1) = (k : Int) - 1:=by rw [wrap_i64]; omega
 clear h hB hn
 by_cases hlt : dd < (k : Int)
 ·have d1 : decide (dd < (k : Int)) = true:=decide_eq_true hlt
  have HLt:=hid (show n < q + k by omega)
  clear hqn hk hk0 hlen hdd
  go_enter Try.func32,Try.ntmps32
  go_wp2_with fail
  refine wp_region_late [] (fun u => u.cell? ⟨R,0,none⟩ = some (.slice ao n cap) ∧ u.cell? ⟨R,1,none⟩ = some (.int .i64 (q : Int))) (by kernel_rfl) (show u.drew.cell? _ = _ ∧ u.drew.cell? _ = _ from ⟨c0,c1⟩) (fun hHeld => ?_)
  refine tkD (i:=0) (v:=?_) rfl hHeld ?_
  (try simp only [Act.put,zA,zB,zC,zD,zE,zF])
  refine tkD (i:=1) (v:=?_) rfl hHeld ?_
  (try simp only [Act.put,zA,zB,zC,zD,zE,zF])
  refine tkD (i:=2) (v:=?_) rfl hHeld ?_
  (try simp only [Act.put,zA,zB,zC,zD,zE,zF])
  refine tkD (i:=3) (v:=?_) rfl hHeld ?_
  (try simp only [Act.put,zA,zB,zC,zD,zE,zF])
  refine tkD (i:=4) (v:=?_) rfl hHeld ?_
  (try simp only [Act.put,zA,zB,zC,zD,zE,zF])
  refine tkD (i:=5) (v:=?_) rfl hHeld ?_
  (try simp only [Act.put,zA,zB,zC,zD,zE,zF])
  refine tkD (i:=6) (v:=?_) rfl hHeld ?_
  (try simp only [Act.put,zA,zB,zC,zD,zE,zF])
  refine tkD (i:=7) (v:=?_) rfl hHeld ?_
  (try simp only [Act.put,zA,zB,zC,zD,zE,zF])
  refine tkD (i:=8) (v:=?_) rfl hHeld ?_
  (try simp only [Act.put,zA,zB,zC,zD,zE,zF])
  refine tkD (i:=9) (v:=?_) rfl hHeld ?_
  (try simp only [Act.put,zA,zB,zC,zD,zE,zF])
  refine tkD (i:=10) (v:=?_) rfl hHeld ?_
  (try simp only [Act.put,zA,zB,zC,zD,zE,zF])
  refine tkD (i:=11) (v:=?_) rfl hHeld ?_
  (try simp only [Act.put,zA,zB,zC,zD,zE,zF])
  refine wpAnyD_done (by kernel_rfl) ?_ _
  (try simp only [Act.put,zA,zB,zC,zD,zE,zF])
  have KD:=hid ((Kept.refl u).drew)
  clear hHeld c0 c1 c2
  obtain ⟨c0,c1,c2⟩:=HC.out _ KD.out
  go_wp2_with fail
  go_at_call 33
  refine (HBad.out _ KD.out).mono ?_
  rintro e w1 ⟨rfl,kx,hr,-⟩
  have HR:=hid (hr (by first | rfl | trivial))
  have HKX:=hid ((KD.out.kx _).trans kx)
  clear hr kx c0 c1 c2
  go_wp2_with fail
  go_ret
  exact ⟨HKX.out,.inr ⟨by rw [HN.out]; exact HLt.out,rfl,by rw [HN.out]; exact HR.out⟩⟩
 ·have d1 : decide (dd < (k : Int)) = false:=decide_eq_false hlt
  have HLe:=hid (show q + k ≤ n by omega)
  clear hqn hk hk0 hlen hdd
  go_enter Try.func32,Try.ntmps32
  go_wp2_with fail
  refine wp_region_late [] (fun u => u.cell? ⟨R,0,none⟩ = some (.slice ao n cap) ∧ u.cell? ⟨R,1,none⟩ = some (.int .i64 (q : Int))) (by kernel_rfl) (show u.drew.cell? _ = _ ∧ u.drew.cell? _ = _ from ⟨c0,c1⟩) (fun hHeld => ?_)
  refine tkD (i:=0) (v:=?_) rfl hHeld ?_
  (try simp only [Act.put,zA,zB,zC,zD,zE,zF])
  refine tkD (i:=1) (v:=?_) rfl hHeld ?_
  (try simp only [Act.put,zA,zB,zC,zD,zE,zF])
  refine tkD (i:=2) (v:=?_) rfl hHeld ?_
  (try simp only [Act.put,zA,zB,zC,zD,zE,zF])
  refine tkD (i:=3) (v:=?_) rfl hHeld ?_
  (try simp only [Act.put,zA,zB,zC,zD,zE,zF])
  refine tkD (i:=4) (v:=?_) rfl hHeld ?_
  (try simp only [Act.put,zA,zB,zC,zD,zE,zF])
  refine tkD (i:=5) (v:=?_) rfl hHeld ?_
  (try simp only [Act.put,zA,zB,zC,zD,zE,zF])
  refine tkD (i:=6) (v:=?_) rfl hHeld ?_
  (try simp only [Act.put,zA,zB,zC,zD,zE,zF])
  refine tkD (i:=7) (v:=?_) rfl hHeld ?_
  (try simp only [Act.put,zA,zB,zC,zD,zE,zF])
  refine tkD (i:=8) (v:=?_) rfl hHeld ?_
  (try simp only [Act.put,zA,zB,zC,zD,zE,zF])
  refine tkD (i:=9) (v:=?_) rfl hHeld ?_
  (try simp only [Act.put,zA,zB,zC,zD,zE,zF])
  refine tkD (i:=10) (v:=?_) rfl hHeld ?_
  (try simp only [Act.put,zA,zB,zC,zD,zE,zF])
  refine tkD (i:=11) (v:=?_) rfl hHeld ?_
  (try simp only [Act.put,zA,zB,zC,zD,zE,zF])
  refine wpAnyD_done (by kernel_rfl) ?_ _
  (try simp only [Act.put,zA,zB,zC,zD,zE,zF])
  have KD:=hid ((Kept.refl u).drew)
  clear hHeld c0 c1 c2
  go_wp2_with fail
  go_loopw [5,6] (fun uv iv wr => ∃ (j : Nat) (x : Int),j ≤ k ∧ uv = .int .u64 x ∧ iv = .int .i64 ((j : Int) - 1) ∧ Kept u wr ∧ un k B q = un j B q + x * 256 ^ j ∧ 0 ≤ x ∧ x < 256 ^ (k - j)) (fun _ iv _ => (intOf iv + 1).toNat)
  case atStart => exact ⟨k,0,Nat.le_refl _,rfl,rfl,KD.out,by simp,by decide,by rw [Nat.sub_self]; decide⟩
  case round =>
   obtain ⟨j,x,hj,rfl,rfl,kr,hx,hx0,hx1⟩:=hrel
   obtain ⟨iz,hiz⟩ : ∃ iz : Int,(j : Int) - 1 = iz:=⟨_,rfl⟩
   rw [hiz]
   obtain ⟨c0,c1,c2⟩:=HC.out _ kr
   have KR:=hid kr
   by_cases hj0 : j = 0
   ·subst hj0
    obtain rfl : iz = -1:=by omega
    have hxu : x = un k B q:=by rw [hx]; simp [un]
    have HXU:=hid (show IntKind.i64.wrap x = numv k B q by rw [hxu]; rfl)
    obtain ⟨nv,hnv⟩ : ∃ nv,numv k B q = nv:=⟨_,rfl⟩
    have zx : IntKind.i64.wrap x = nv:=by rw [← hnv]; exact HXU.out
    have HNv:=hid hnv
    have zq : IntKind.i64.wrap ((q : Int) + (k : Int)) = ((q + k : Nat) : Int):=by have:=HQN.out; rw [wrap_i64]; omega
    have hf:=(HH.out.kept kr).bk.fz
    have HR:=hid ((HH.out.kept kr).at (q + k) (by rw [HN.out]; exact HLe.out))
    have HKX:=hid ((KR.out.kx _).trans ((Grw.refl R wr).setCell 1 (.int .i64 ((q + k : Nat) : Int))).kx)
    clear hx hx0 hx1 hj hiz kr hxu hnv
    go_wp2_with fail
    go_ret
    exact ⟨HKX.out,.inl ⟨by rw [HN.out]; exact HLe.out,by rw [HNv.out]; rfl,HR.out⟩⟩
   ·obtain ⟨i,rfl⟩ : ∃ i : Nat,iz = (i : Int):=Int.eq_ofNat_of_zero_le (by omega)
    obtain rfl : j = i + 1:=by omega
    obtain ⟨b,off,rfl,e0⟩:=HRd.out wr i kr (by have:=HLe.out; omega)
    have hby:=HBy.out.at (q + i)
    have hpw : x * 256 < 256 ^ (k - i):=by
     have h1 : (256 : Int) ^ (k - i) = 256 ^ (k - (i + 1)) * 256:=by rw [show k - i = (k - (i + 1)) + 1 by omega,Int.pow_succ]
     rw [h1]; omega
    have hun : un k B q = un i B q + (x * 256 + B.getD (q + i) 0) * 256 ^ i:=by
     rw [hx]
     show un i B q + B.getD (q + i) 0 * (256 : Int) ^ i + x * 256 ^ (i + 1) = _
     rw [Int.pow_succ,Int.add_mul]
     have : x * (256 ^ i * 256) = x * 256 * 256 ^ i:=by rw [Int.mul_comm (256 ^ i) 256,Int.mul_assoc]
     rw [this]
     omega
    have hx256 : x * 256 + 256 ≤ 256 ^ (k - i):=by
     have h1 : (256 : Int) ^ (k - i) = 256 ^ (k - (i + 1)) * 256:=by rw [show k - i = (k - (i + 1)) + 1 by omega,Int.pow_succ]
     rw [h1]; omega
    have h64 : (256 : Int) ^ (k - i) ≤ 18446744073709551616:=by
     have h1 : (256 : Int) ^ (k - i) ≤ 256 ^ 8:=by
      have h9:=Int.ofNat_le.2 (Nat.pow_le_pow_right (n:=256) (by decide) (show k - i ≤ 8 by have:=HQN.out; omega))
      rw [Int.natCast_pow,Int.natCast_pow] at h9
      exact h9
     have h2 : (256 : Int) ^ 8 = 18446744073709551616:=by decide
     omega
    obtain ⟨y,hy⟩ : ∃ y,B.getD (q + i) 0 = y:=⟨_,rfl⟩
    rw [hy] at e0 hby hun
    have hpn : q + i < n:=by have:=HLe.out; omega
    have zi : IntKind.i64.wrap ((q : Int) + (i : Int)) = ((q + i : Nat) : Int):=by have:=HQN.out; rw [wrap_i64]; omega
    have z1 : IntKind.u64.wrap (x * 256) = x * 256:=by rw [IntKind.wrap_u64]; omega
    have z2 : IntKind.u64.wrap y = y:=by rw [IntKind.wrap_u64]; omega
    have z3 : IntKind.u64.wrap (x * 256 + y) = x * 256 + y:=by rw [IntKind.wrap_u64]; omega
    have z4 : IntKind.i64.wrap ((i : Int) - 1) = (i : Int) - 1:=by have:=HQN.out; rw [wrap_i64]; omega
    have hb1 : (0 : Int) ≤ ((q + i : Nat) : Int) ∧ ((q + i : Nat) : Int) < (n : Int):=by omega
    have HNX:=hid (show un k B q = un i B q + (x * 256 + y) * 256 ^ i ∧ 0 ≤ x * 256 + y ∧ x * 256 + y < 256 ^ (k - i) from ⟨hun,by omega,by omega⟩)
    have HII:=hid hj
    obtain ⟨p,hp⟩ : ∃ p,q + i = p:=⟨_,rfl⟩
    rw [hp] at zi hb1 e0
    clear hx hx0 hx1 hj hiz kr hby hpw hun hx256 h64 hpn hj0 hy
    go_wp2_with fail
    refine wp_region_late [] (fun u => u.cell? ⟨R,0,none⟩ = some (.slice (some ⟨b,off,none⟩) n cap) ∧ u.cell? ⟨R,1,none⟩ = some (.int .i64 (q : Int)) ∧ u.cell? ⟨b,off + p,none⟩ = some (.int .u8 y)) (by kernel_rfl) (show wr.drew.cell? _ = _ ∧ wr.drew.cell? _ = _ ∧ wr.drew.cell? _ = _ from ⟨c0,c1,e0⟩) (fun hHeld => ?_)
    refine tkD (i:=0) (v:=?_) rfl hHeld ?_
    (try simp only [Act.put,zA,zB,zC,zD,zE,zF])
    refine tkD (i:=1) (v:=?_) rfl hHeld ?_
    (try simp only [Act.put,zA,zB,zC,zD,zE,zF])
    refine tkD (i:=2) (v:=?_) rfl hHeld ?_
    (try simp only [Act.put,zA,zB,zC,zD,zE,zF])
    refine tkD (i:=3) (v:=?_) rfl hHeld ?_
    (try simp only [Act.put,zA,zB,zC,zD,zE,zF])
    refine tkD (i:=4) (v:=?_) rfl hHeld ?_
    (try simp only [Act.put,zA,zB,zC,zD,zE,zF])
    refine tkD (i:=5) (v:=?_) rfl hHeld ?_
    (try simp only [Act.put,zA,zB,zC,zD,zE,zF])
    refine tkD (i:=6) (v:=?_) rfl hHeld ?_
    (try simp only [Act.put,zA,zB,zC,zD,zE,zF])
    refine tkD (i:=7) (v:=?_) rfl hHeld ?_
    (try simp only [Act.put,zA,zB,zC,zD,zE,zF])
    refine tkD (i:=8) (v:=?_) rfl hHeld ?_
    (try simp only [Act.put,zA,zB,zC,zD,zE,zF])
    refine tkD (i:=9) (v:=?_) rfl hHeld ?_
    (try simp only [Act.put,zA,zB,zC,zD,zE,zF])
    refine tkD (i:=10) (v:=?_) rfl hHeld ?_
    (try simp only [Act.put,zA,zB,zC,zD,zE,zF])
    refine tkD (i:=11) (v:=?_) rfl hHeld ?_
    (try simp only [Act.put,zA,zB,zC,zD,zE,zF])
    refine tkD (i:=12) (v:=?_) rfl hHeld ?_
    (try simp only [Act.put,zA,zB,zC,zD,zE,zF])
    refine tkD (i:=13) (v:=?_) rfl hHeld ?_
    (try simp only [Act.put,zA,zB,zC,zD,zE,zF])
    refine tkD (i:=14) (v:=?_) rfl hHeld ?_
    (try simp only [Act.put,zA,zB,zC,zD,zE,zF])
    refine tkD (i:=15) (v:=?_) rfl hHeld ?_
    (try simp only [Act.put,zA,zB,zC,zD,zE,zF])
    refine tkD (i:=16) (v:=?_) rfl hHeld ?_
    (try simp only [Act.put,zA,zB,zC,zD,zE,zF])
    refine wpAnyD_done (by kernel_rfl) ?_ _
    (try simp only [Act.put,zA,zB,zC,zD,zE,zF])
    have KD2:=hid (KR.out.trans (Kept.refl wr).drew)
    clear hHeld c0 c1 c2 e0
    go_wp2_with fail
    go_roundw
    case rel => exact ⟨i,_,by have:=HII.out; omega,rfl,by go_num,KD2.out,HNX.out.1,HNX.out.2.1,HNX.out.2.2⟩
    case measure => first | (simp [intOf]; done) | (simp [intOf]; omega)
end Go.Proofs.Ytocjfdiimapojaa
namespace Go.Proofs.Ytocjfdiimapojaa
open Go.ChangeShapes Go.WideShapes Go.ChangeAt Go.RowKit
set_option maxHeartbeats 16000000
set_option maxRecDepth 100000
set_option linter.unusedVariables false
set_option linter.unusedSimpArgs false
def betw (lo hi : Int) (n : Int) : Bool:=decide (lo ≤ n ∧ n ≤ hi)
/-- Behind a reading: what was read,or a fault; the reader is where the pure reader is. -/
def RdP {α : Type} (R : Nat) (ao : Option Addr) (B : List Int) (cap : Nat) (pl : Int) (x : Res α) (P : α → World → Value → Prop) (N : World → Value → Prop) (e : Ending) (w' : World) : Prop:=match x with
 | .ok a q2 => ∃ v,e = .returned v ∧ P a w' v ∧ RQ w' R ao B cap q2 0 pl
 | .no er p => er ≠ 0 ∧ ∃ v,e = .returned v ∧ N w' v ∧ ∃ q2,RQ w' R ao B cap q2 er p
theorem rwant_err (R : Nat) (ao : Option Addr) (B : List Int) (cap q : Nat) (er pl : Int) (he : er ≠ 0) (k lo hi : Int) (u : World) (h : RQ u R ao B cap q er pl) : Calls Try.prog 34 #[.pointer (some ⟨R,0,none⟩),.int .i64 k,.int .i64 lo,.int .i64 hi] u fun x w' => x = .returned (.int .i64 0) ∧ Kept u w':=by
 have HG:=hid (rget_err R ao B cap q er pl he k u h)
 have c1:=h.bk.c 1 _ rfl
 have HC:=hid (fun (w : World) (kw : Kept u w) => (h.kept kw).bk.c 2 _ rfl)
 have d1 : (er == 0) = false:=by simpa using he
 have d2 : (er != 0) = true:=by simpa using he
 clear h
 go_enter Try.func34,Try.ntmps34
 go_wp2_with fail
 go_at_call 32
 refine HG.out.mono ?_
 rintro e w1 ⟨rfl,k1⟩
 have c2:=HC.out _ k1
 have K1:=hid k1
 clear k1
 go_wp2_with fail
 go_ret
 exact ⟨rfl,K1.out⟩
theorem rwant_any (R : Nat) (ao : Option Addr) (B : List Int) (cap q : Nat) (pl : Int) (hB : Byt B) (hlen : B.length ≤ 100000000) (k : Nat) (hk : k ≤ 8) (hk0 : 0 < k) (lo hi : Int) (u : World) (h : RQ u R ao B cap q 0 pl) : Calls Try.prog 34 #[.pointer (some ⟨R,0,none⟩),.int .i64 (k : Int),.int .i64 lo,.int .i64 hi] u fun x w' => KX (fun b => b = R) u w' ∧ RdP R ao B cap pl (pnum k (betw lo hi) B q) (fun n _ v => v = .int .i64 n) (fun _ v => v = .int .i64 0) x w':=by
 have HG:=hid (rget_any R ao B cap q pl hB hlen k hk hk0 u h)
 have c1:=h.bk.c 1 _ rfl
 have HPn : Hid (q + k ≤ B.length → betw lo hi (numv k B q) = true → pnum k (betw lo hi) B q = .ok (numv k B q) (q + k)):=fun h1 h2 => by unfold pnum; rw [if_pos h1,if_pos h2]
 have HPb : Hid (q + k ≤ B.length → betw lo hi (numv k B q) = false → pnum k (betw lo hi) B q = .no 51 q):=fun h1 h2 => by unfold pnum; rw [if_pos h1,if_neg (by rw [h2]; decide)]
 have HPe : Hid (B.length < q + k → pnum k (betw lo hi) B q = .no 50 B.length):=fun h1 => by unfold pnum; rw [if_neg (by omega)]
 clear h hk hk0 hB hlen
 go_enter Try.func34,Try.ntmps34
 go_wp2_with fail
 go_at_call 32
 refine HG.out.mono ?_
 rintro e w1 ⟨kx1,hg⟩
 have KX1:=hid kx1
 clear c1 kx1
 rcases (show _ ∨ _ from hg) with ⟨hle,rfl,hr⟩ | ⟨hlt,rfl,hr⟩
 ·have c2:=hr.bk.c 2 _ rfl
  have HR:=hid hr
  have HLe:=hid hle
  obtain ⟨n,hn⟩ : ∃ n,numv k B q = n:=⟨_,rfl⟩
  rw [hn] at HPn HPb ⊢
  by_cases h1 : n < lo
  ·have d1 : decide (n < lo) = true:=decide_eq_true h1
   have hb : betw lo hi n = false:=decide_eq_false (fun h => by omega)
   have HP:=hid (HPb.out hle hb)
   have HBd:=hid (rbad_any R ao B cap (q + k) 0 pl 51 (q : Int) w1 hr)
   clear hg hle hr hn h1 hb HPn HPb HPe
   go_wp2_with fail
   go_at_call 33
   refine HBd.out.mono ?_
   rintro e w2 ⟨rfl,kx2,hr2,-⟩
   have HR2:=hid (hr2 (by first | rfl | trivial))
   have KX2:=hid (KX1.out.trans kx2)
   clear hr2 kx2 c2
   go_wp2_with fail
   go_ret
   exact ⟨KX2.out,by rw [HP.out]; exact ⟨by decide,_,rfl,rfl,_,HR2.out⟩⟩
  have d1 : decide (n < lo) = false:=decide_eq_false h1
  by_cases h2 : hi < n
  ·have d2 : decide (hi < n) = true:=decide_eq_true h2
   have hb : betw lo hi n = false:=decide_eq_false (fun h => by omega)
   have HP:=hid (HPb.out hle hb)
   have HBd:=hid (rbad_any R ao B cap (q + k) 0 pl 51 (q : Int) w1 hr)
   clear hg hle hr hn h1 h2 hb HPn HPb HPe
   go_wp2_with fail
   go_at_call 33
   refine HBd.out.mono ?_
   rintro e w2 ⟨rfl,kx2,hr2,-⟩
   have HR2:=hid (hr2 (by first | rfl | trivial))
   have KX2:=hid (KX1.out.trans kx2)
   clear hr2 kx2 c2
   go_wp2_with fail
   go_ret
   exact ⟨KX2.out,by rw [HP.out]; exact ⟨by decide,_,rfl,rfl,_,HR2.out⟩⟩
  ·have d2 : decide (hi < n) = false:=decide_eq_false h2
   have hb : betw lo hi n = true:=decide_eq_true (by omega)
   have HP:=hid (HPn.out hle hb)
   clear hg hle hr hn h1 h2 hb HPn HPb HPe
   go_wp2_with fail
   go_ret
   exact ⟨KX1.out,by rw [HP.out]; exact ⟨_,rfl,rfl,HR.out⟩⟩
 ·have c2:=hr.bk.c 2 _ rfl
  have HR:=hid hr
  have HP:=hid (HPe.out hlt)
  clear hg hlt hr HPn HPb HPe
  go_wp2_with fail
  go_ret
  exact ⟨KX1.out,by rw [HP.out]; exact ⟨by decide,_,rfl,rfl,_,HR.out⟩⟩
end Go.Proofs.Ytocjfdiimapojaa
