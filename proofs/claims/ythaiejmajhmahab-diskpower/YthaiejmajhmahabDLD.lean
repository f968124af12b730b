/- Package disk: a disk as numbers, names and bytes, and how it lies. -/
import Derived.Test.YthaiejmajhmahabDLC
namespace Go.Proofs.Ythaiejmajhmahab
open Go.ChangeShapes Go.WideShapes Go.ChangeAt Go.RowKit Go.Maps
set_option linter.unusedVariables false
set_option linter.unusedSimpArgs false

theorem MS.onb {sz : Nat} {e : TypeId} {H : Nat} {w w' : World} {v : Value} {k : Nat} {V : List Value} (h : MS sz e H w v k V) (kk : ∀ b cur, w.heap[b]? = some (.cells cur e (0, 0)) → (∃ n c, v = .slice (some ⟨b, 0, none⟩) n c) → w'.heap[b]? = w.heap[b]?) : MS sz e H w' v k V := by
  rcases h with h | ⟨g, cap, h1, h2, h3, h4, h5⟩
  · exact .inl h
  · refine .inr ⟨g, cap, h1, h2, h3, h4, h5.on ?_⟩
    obtain ⟨cur, hg, -⟩ := h5
    exact kk g cur hg ⟨_, _, h1⟩
/-- Bytes as cells. -/
def bv (l : List UInt8) : List Value := l.map fun x => .int .u8 (x.toNat : Int)
theorem bv_len (l : List UInt8) : (bv l).length = l.length := by simp [bv]
theorem bv_app (l k : List UInt8) : bv (l ++ k) = bv l ++ bv k := by simp [bv]
theorem bv_one (l : List UInt8) : ∀ u ∈ bv l, u.oneCell' = true := fun u hu => by
  obtain ⟨x, -, rfl⟩ := List.mem_map.1 hu
  rfl
/-- A slice of bytes, alone in a block of its own, or none. -/
abbrev Rb (w : World) (v : Value) (l : List UInt8) : Prop := MS 1 5 0 w v l.length (bv l)
/-- The block that a slice lies in. -/
def ob (v : Value) (b : Nat) : Prop := ∃ n c, v = .slice (some ⟨b, 0, none⟩) n c
theorem ob_nil (b : Nat) : ¬ ob (.slice none 0 0) b := fun ⟨_, _, h⟩ => by cases h
theorem ob_some (g n c b : Nat) : ob (.slice (some ⟨g, 0, none⟩) n c) b ↔ b = g := ⟨fun ⟨_, _, h⟩ => by cases h; rfl, fun h => by subst h; exact ⟨_, _, rfl⟩⟩
theorem MS.ob {sz : Nat} {e : TypeId} {H : Nat} {w : World} {v : Value} {k : Nat} {V : List Value} (h : MS sz e H w v k V) {b : Nat} (hb : ob v b) : ∃ cur, w.heap[b]? = some (.cells cur e (0, 0)) := by
  rcases h with ⟨-, -, rfl⟩ | ⟨g, cap, rfl, -, -, -, cur, hg, -⟩
  · exact absurd hb (ob_nil b)
  · obtain rfl := (ob_some _ _ _ _).1 hb
    exact ⟨cur, hg⟩
theorem Rb.form {w : World} {v : Value} {l : List UInt8} (h : Rb w v l) : ∃ ao c, v = .slice ao l.length c := MS.form h
theorem ne_ty {w : World} {b : Nat} {c c' : Array Value} {t t' : TypeId} (h : w.heap[b]? = some (.cells c t (0, 0))) (h' : w.heap[b]? = some (.cells c' t' (0, 0))) : t = t' := by
  rw [h] at h'
  cases h'
  rfl

/-- A work. -/
structure Wk where
  kind : Int
  nm : ByteArray
  to_ : ByteArray
  len : Int
  file : Nat
  bytes : List UInt8
def wcell (x : Wk) (v : Value) : List Value := [.int .i64 x.kind, .string x.nm, .string x.to_, .int .i64 x.len, .pointer (some ⟨x.file, 0, none⟩), v]
def wcs (W : List Wk) (vb : List Value) : List Value := (List.zipWith wcell W vb).flatten
theorem wcs_app {W : List Wk} {vb : List Value} (h : vb.length = W.length) (x : Wk) (v : Value) : wcs (W ++ [x]) (vb ++ [v]) = wcs W vb ++ wcell x v := by
  unfold wcs
  rw [List.zipWith_append h.symm]
  simp
theorem wcs_len {vb : List Value} : ∀ {W : List Wk}, vb.length = W.length → (wcs W vb).length = W.length * 6 := by
  induction vb with
  | nil => intro W h; have : W = [] := List.length_eq_zero_iff.1 h.symm; subst this; rfl
  | cons v r ih =>
    intro W h
    rcases W with _ | ⟨x, W⟩
    · cases h
    · have := ih (W := W) (by simpa using h)
      unfold wcs at this ⊢
      simp only [List.zipWith_cons_cons, List.flatten_cons, List.length_append, this, List.length_cons]
      show 6 + _ = _
      omega
theorem wcs_at {vb : List Value} : ∀ {W : List Wk} (h : vb.length = W.length) (i j : Nat) (x : Wk) (v : Value), W[i]? = some x → vb[i]? = some v → j < 6 → (wcs W vb)[i * 6 + j]? = (wcell x v)[j]? := by
  induction vb with
  | nil => intro W h i j x v h1 h2; cases h2
  | cons u r ih =>
    intro W h i j x v h1 h2 hj
    rcases W with _ | ⟨y, W⟩
    · cases h
    · have hl : (wcell y u).length = 6 := rfl
      have e : wcs (y :: W) (u :: r) = wcell y u ++ wcs W r := by simp [wcs]
      rw [e]
      rcases i with _ | i
      · cases h1; cases h2
        rw [List.getElem?_append_left (by omega)]
        simp
      · rw [List.getElem?_append_right (by omega), hl, show (i + 1) * 6 + j - 6 = i * 6 + j by omega]
        exact ih (by simpa using h) i j x v (by simpa using h1) (by simpa using h2) hj

/-- A disk. (nn, nf: no fewer than the names there are.) -/
structure Dk where
  on : Bool
  fused : Bool
  left : Int
  rf : Int
  rb : Int
  nN : Nms
  nF : Nms
  nn : Nat
  nf : Nat
  cn : Nat → List UInt8
  cf : Nat → List UInt8
  W : List Wk
/-- Where it lies: its maps, its works, its files and their bytes. -/
structure Da where
  mN : Nat
  mF : Nat
  pv : Value
  Fs : Nat → Prop
  rn : Nat → Value
  rf : Nat → Value
  vb : List Value
structure Fls (w : World) (O : Nat → Prop) (a : Da) (cn cf : Nat → List UInt8) : Prop where
  blk : ∀ f, a.Fs f → Arr w f 64 [a.rn f, a.rf f]
  rn : ∀ f, a.Fs f → Rb w (a.rn f) (cn f)
  rf : ∀ f, a.Fs f → Rb w (a.rf f) (cf f)
  of : ∀ f, a.Fs f → O f
  on : ∀ f b, a.Fs f → ob (a.rn f) b → O b
  off : ∀ f b, a.Fs f → ob (a.rf f) b → O b
  nn : ∀ f g b, a.Fs f → a.Fs g → ob (a.rn f) b → ob (a.rn g) b → f = g
  ff : ∀ f g b, a.Fs f → a.Fs g → ob (a.rf f) b → ob (a.rf g) b → f = g
  nf : ∀ f g b, a.Fs f → a.Fs g → ob (a.rn f) b → ¬ ob (a.rf g) b
structure WkOk (w : World) (O : Nat → Prop) (a : Da) (x : Wk) (v : Value) : Prop where
  rb : Rb w v x.bytes
  ow : ∀ b, ob v b → O b
  far : ∀ b f, ob v b → a.Fs f → ¬ ob (a.rn f) b ∧ ¬ ob (a.rf f) b
  fs : a.Fs x.file
  nm : x.nm.size ≤ 32
  to_ : x.to_.size ≤ 32
structure Wks (w : World) (O : Nat → Prop) (a : Da) (pv : Value) (W : List Wk) (vb : List Value) : Prop where
  len : vb.length = W.length
  ms : MS 6 59 0 w pv W.length (wcs W vb)
  ok : ∀ (i : Nat) x v, W[i]? = some x → vb[i]? = some v → WkOk w O a x v
  ow : ∀ b, ob pv b → O b
def dcell (a : Da) (d : Dk) : List Value := pc d.on d.fused d.left [.int .i64 d.rf, .int .i64 d.rb, .map (some a.mN), .map (some a.mF), a.pv]
structure DSt (w : World) (O : Nat → Prop) (B : Nat) (a : Da) (d : Dk) : Prop where
  blk : Arr w B 47 (dcell a d)
  oB : O B
  olt : ∀ b, O b → b < w.heap.size
  mN : Mp w a.mN d.nn d.nN
  mF : Mp w a.mF d.nf d.nF
  oN : O a.mN
  oF : O a.mF
  ne : a.mN ≠ a.mF
  inN : ∀ s f, d.nN s = some f → a.Fs f ∧ s.size ≤ 32
  inF : ∀ s f, d.nF s = some f → a.Fs f ∧ s.size ≤ 32
  fls : Fls w O a d.cn d.cf
  wks : Wks w O a a.pv d.W a.vb

theorem Fls.onb {w w' : World} {O O' : Nat → Prop} {a : Da} {cn cf : Nat → List UInt8} (h : Fls w O a cn cf) (hO : ∀ b, O b → O' b) (k : ∀ b cur t, O b → w.heap[b]? = some (.cells cur t (0, 0)) → (t = 64 ∨ t = 5) → w'.heap[b]? = w.heap[b]?) : Fls w' O' a cn cf :=
  ⟨fun f hf => (h.blk f hf).on (k f _ _ (h.of f hf) (h.blk f hf) (.inl rfl)), fun f hf => (h.rn f hf).onb fun b cur hb ho => k b cur _ (h.on f b hf ho) hb (.inr rfl), fun f hf => (h.rf f hf).onb fun b cur hb ho => k b cur _ (h.off f b hf ho) hb (.inr rfl),
    fun f hf => hO _ (h.of f hf), fun f b hf hb => hO _ (h.on f b hf hb), fun f b hf hb => hO _ (h.off f b hf hb), h.nn, h.ff, h.nf⟩
theorem WkOk.onb {w w' : World} {O O' : Nat → Prop} {a : Da} {x : Wk} {v : Value} (h : WkOk w O a x v) (hO : ∀ b, O b → O' b) (k : ∀ b cur, O b → w.heap[b]? = some (.cells cur 5 (0, 0)) → ob v b → w'.heap[b]? = w.heap[b]?) : WkOk w' O' a x v :=
  ⟨h.rb.onb fun b cur hb ho => k b cur (h.ow b ho) hb ho, fun b hb => hO _ (h.ow b hb), h.far, h.fs, h.nm, h.to_⟩
theorem Wks.onb {w w' : World} {O O' : Nat → Prop} {a : Da} {pv : Value} {W : List Wk} {vb : List Value} (h : Wks w O a pv W vb) (hO : ∀ b, O b → O' b) (k : ∀ b cur t, O b → w.heap[b]? = some (.cells cur t (0, 0)) → (t = 59 ∨ (t = 5 ∧ ∀ f, a.Fs f → ¬ ob (a.rn f) b ∧ ¬ ob (a.rf f) b)) → w'.heap[b]? = w.heap[b]?) : Wks w' O' a pv W vb :=
  ⟨h.len, h.ms.onb fun b cur hb ho => k b cur _ (h.ow b ho) hb (.inl rfl), fun i x v h1 h2 => (h.ok i x v h1 h2).onb hO fun b cur hO hb ho => k b cur _ hO hb (.inr ⟨rfl, fun f hf => (h.ok i x v h1 h2).far b f ho hf⟩), fun b hb => hO _ (h.ow b hb)⟩
/-- Nothing of it is written. -/
theorem DSt.onb {w w' : World} {O O' : Nat → Prop} {B : Nat} {a : Da} {d : Dk} (h : DSt w O B a d) (hO : ∀ b, O b → O' b) (hl : ∀ b, O' b → b < w'.heap.size) (k : ∀ b, O b → w'.heap[b]? = w.heap[b]?) : DSt w' O' B a d := by
  have hw := h.wks
  exact ⟨h.blk.on (k _ h.oB), hO _ h.oB, hl, h.mN.on (k _ h.oN), h.mF.on (k _ h.oF), hO _ h.oN, hO _ h.oF, h.ne, h.inN, h.inF, h.fls.onb hO fun b _ _ hb _ _ => k b hb, hw.onb hO fun b _ _ hb _ _ => k b hb⟩
theorem DSt.kx {w w' : World} {O X : Nat → Prop} {B : Nat} {a : Da} {d : Dk} (h : DSt w O B a d) (k : KX X w w') (hX : ∀ b, X b → ¬ O b) : DSt w' O B a d :=
  h.onb (fun _ h => h) (fun b hb => Nat.lt_of_lt_of_le (h.olt b hb) k.size) fun b hb => k.block b (h.olt b hb) fun hx => hX b hx hb
theorem DSt.kept {w w' : World} {O : Nat → Prop} {B : Nat} {a : Da} {d : Dk} (h : DSt w O B a d) (k : Kept w w') : DSt w' O B a d := h.kx (k.kx fun _ => False) fun _ h => h.elim

/-- A step of a disk: of all that lay, only what is the disk's has turned. -/
structure Stp (w : World) (O : Nat → Prop) (w' : World) (O' : Nat → Prop) : Prop where
  kx : KX O w w'
  new : ∀ b, O' b → O b ∨ w.heap.size ≤ b
theorem Stp.refl (w : World) (O : Nat → Prop) : Stp w O w O := ⟨KX.refl _ _, fun b h => .inl h⟩
theorem Stp.trans {w w1 w2 : World} {O O1 O2 : Nat → Prop} (h : Stp w O w1 O1) (k : Stp w1 O1 w2 O2) : Stp w O w2 O2 := by
  refine ⟨⟨k.kx.os.trans h.kx.os, k.kx.tape.trans h.kx.tape, k.kx.output.trans h.kx.output, Nat.le_trans h.kx.size k.kx.size, fun i hi hn => ?_, fun x hx => (k.kx.frozen x (Nat.lt_of_lt_of_le hx h.kx.size)).trans (h.kx.frozen x hx)⟩, fun b hb => ?_⟩
  · refine (k.kx.block i (Nat.lt_of_lt_of_le hi h.kx.size) fun h1 => ?_).trans (h.kx.block i hi hn)
    rcases h.new i h1 with h2 | h2
    · exact hn h2
    · omega
  · rcases k.new b hb with h1 | h1
    · exact h.new b h1
    · exact .inr (Nat.le_trans h.kx.size h1)
theorem Stp.kept {w w1 w2 : World} {O O1 : Nat → Prop} (h : Stp w O w1 O1) (k : Kept w1 w2) : Stp w O w2 O1 := h.trans ⟨k.kx _, fun b hb => .inl hb⟩
theorem Kept.stp {w w1 w2 : World} {O O1 : Nat → Prop} (k : Kept w w1) (h : Stp w1 O w2 O1) : Stp w O w2 O1 := Stp.trans ⟨k.kx _, fun b hb => .inl hb⟩ h
/-- What is the disk's behind a step, at the most. -/
def Ow (O : Nat → Prop) (w w' : World) (b : Nat) : Prop := O b ∨ (w.heap.size ≤ b ∧ b < w'.heap.size)
theorem Ow.of {O : Nat → Prop} {w w' : World} (b : Nat) (h : O b) : Ow O w w' b := .inl h
theorem stp_ow {w w' : World} {O X : Nat → Prop} (k : KX X w w') (hX : ∀ b, X b → b < w.heap.size → O b) : Stp w O w' (Ow O w w') :=
  ⟨⟨k.os, k.tape, k.output, k.size, fun i hi hn => k.block i hi fun hx => hn (hX i hx hi), k.frozen⟩, fun b h => h.imp id (·.1)⟩
end Go.Proofs.Ythaiejmajhmahab
