/- A matrix that is lent,in all orders that the draw allows. -/
import Derived.Test.YtocjfdiimapojaaT2
import Derived.Test.YtocjfdiimapojaaTD
namespace Go.Proofs.Ytocjfdiimapojaa
open Go.ChangeShapes Go.WideShapes Go.ChangeAt Go.RowKit
set_option maxHeartbeats 16000000
set_option maxRecDepth 100000
set_option linter.unusedVariables false
set_option linter.unusedSimpArgs false
/-- Both appends,from any world: first the list to nil,then one more. -/
theorem lent_a (L : List Int) (hlen : L.length < 10000000) (ao : Option Addr) (c : Nat) (w : World) (h : Sl w (.slice ao L.length c) L) :
  ∃ v1 w1 g cap w2,(∀ ty,(Builtin.append_ #[52,52] ty #[.slice none 0 0,.slice ao L.length c]).run Try.prog w = .ok v1 w1) ∧ Kept w w1 ∧ (∀ ty,(Builtin.append_ #[52,52] ty #[v1,.slice (some ⟨w1.heap.size,0,none⟩) 1 1]).run Try.prog (w1.alloc (.cells #[.int .i64 (-77)] 3)) = .ok (.slice (some ⟨g,0,none⟩) (L.length + 1) cap) w2) ∧ w.heap.size ≤ g ∧ Own w2 g cap (L ++ [-77]) ∧ Kept w w2:=by
 obtain ⟨v1,w1,hr1,k1,hrow⟩:=app_nil L (by omega) _ w h
 have hM : MR w.heap.size w1 v1 L:=by
  rcases hrow with h | ⟨g,cap,e,hg,hO⟩
  ·exact .inl h
  ·exact .inr ⟨g,cap,e,hg,hO⟩
 obtain ⟨v2,w2,hr2,hM2,hk2⟩:=app_step w.heap.size w1 v1 L hM (-77) k1.below.size hlen
 rcases hM2 with ⟨e,-⟩ | ⟨g,cap,rfl,hg,hO⟩
 ·simp at e
 ·refine ⟨v1,w1,g,cap,w2,hr1,k1,fun ty => ?_,hg,hO,hk2 w (Nat.le_refl _) k1⟩
  have:=hr2 ty
  simpa using this
theorem lent_b (L : List Int) (hlen : L.length < 10000000) (ao : Option Addr) (c : Nat) (w : World) (h : Sl w (.slice ao L.length c) L) :
  ∃ v1 w1 g cap w2,(∀ ty,(Builtin.append_ #[52,52] ty #[.slice none 0 0,.slice ao L.length c]).run Try.prog (w.alloc (.cells #[.int .i64 (-77)] 3)) = .ok v1 w1) ∧ Kept w w1 ∧ (∀ ty,(Builtin.append_ #[52,52] ty #[v1,.slice (some ⟨w.heap.size,0,none⟩) 1 1]).run Try.prog w1 = .ok (.slice (some ⟨g,0,none⟩) (L.length + 1) cap) w2) ∧ w.heap.size ≤ g ∧ Own w2 g cap (L ++ [-77]) ∧ Kept w w2:=by
 have kB : Kept w (w.alloc (.cells #[.int .i64 (-77)] 3)):=(Kept.refl w).alloc _ _
 obtain ⟨v1,w1,hr1,k1,hrow⟩:=app_nil L (by omega) _ _ (h.kept kB)
 have hR : Rw w1 v1 3 (L.map (Value.int .i64)):=by
  rcases hrow with ⟨rfl,rfl⟩ | ⟨g,cap,rfl,hg,hO⟩
  ·exact .inl ⟨rfl,rfl⟩
  ·exact .inr ⟨g,cap,by rw [List.length_map],own_v.1 hO⟩
 obtain ⟨g,cap,w2,hr2,hO2,hk2⟩:=app_gen 52 3 li_under (.int .i64 0) 8 int_info (by simp [Value.cells]) (by omega) w1 v1 (L.map (Value.int .i64)) [.int .i64 (-77)] hR ⟨w.heap.size,0,none⟩ 1 1 rfl (fun j u hj => by
  rw [Addr.add_lit,Nat.zero_add]
  rcases j with _ | j
  ·cases hj
   exact (k1.below.cell (p:=⟨w.heap.size,0,none⟩) (by simp)).trans (by simp [go_sem])
  ·simp at hj) (fun u hu => by rw [List.mem_singleton.1 hu]; rfl) (by omega) (by rw [List.length_map]; omega)
 rw [List.length_map] at hr2 hk2
 have kw:=kB.trans k1
 have hs:=k1.below.size
 simp only [World.size_alloc] at hs
 refine ⟨v1,w1,g,cap,w2,hr1,kw,hr2,?_,own_v.2 (by simpa using hO2),?_⟩
 ·rcases hk2 with ⟨rfl,-⟩ | ⟨e,-⟩
  ·omega
  ·rcases hrow with ⟨-,rfl⟩ | ⟨g',cap',rfl,hg,-⟩
   ·cases e
   ·cases e
    simp at hg
    omega
 ·rcases hk2 with ⟨-,k⟩ | ⟨e,k⟩
  ·exact kw.trans k
  ·rcases hrow with ⟨-,rfl⟩ | ⟨g',cap',rfl,hg,-⟩
   ·cases e
   ·cases e
    simp at hg
    exact kw.grw (by omega) k
end Go.Proofs.Ytocjfdiimapojaa
namespace Go.Proofs.Ytocjfdiimapojaa
open Go.ChangeShapes Go.WideShapes Go.ChangeAt Go.RowKit
set_option maxHeartbeats 16000000
set_option maxRecDepth 100000
theorem lentM_any (r c n : Int) (L : List Int) (hlen : L.length < 1000000) (ao : Option Addr) (cp : Nat) (w : World) (h : Sl w (.slice ao L.length cp) L) : Calls Try.prog 57 #[.agg #[.int .i64 r,.int .i64 c,.int .i64 n,.slice ao L.length cp]] w fun e w' => ∃ g cap,e = .returned (.agg #[.int .i64 r,.int .i64 c,.int .i64 n,.slice (some ⟨g,0,none⟩) L.length cap]) ∧ w.heap.size ≤ g ∧ Own w' g cap (L ++ [-77]) ∧ Kept w w':=by
 obtain ⟨X,hX⟩ : ∃ X,X = (w.alloc (.cells #[.int .i64 r,.int .i64 c,.int .i64 n,.slice ao L.length cp] 54)).alloc (.cells #[.int .i64 0,.int .i64 0,.int .i64 0,.slice none 0 0] 54):=⟨_,rfl⟩
 have hK : Kept w X:=by rw [hX]; exact ((Kept.refl w).alloc _ _).alloc _ _
 have hXs : X.heap.size = w.heap.size + 2:=by rw [hX]; simp
 have hM : M4 X w.heap.size (.int .i64 r) (.int .i64 c) (.int .i64 n) (.slice ao L.length cp):=by rw [hX]; exact ⟨by simp [go_sem],by simp [go_sem],by simp [go_sem],by simp [go_sem]⟩
 have hR : M4 X (w.heap.size + 1) (.int .i64 0) (.int .i64 0) (.int .i64 0) (.slice none 0 0):=by rw [hX]; exact ⟨by simp [go_sem],by simp [go_sem],by simp [go_sem],by simp [go_sem]⟩
 have hF : ∀ o,X.frozen? ⟨w.heap.size,o,none⟩ = false ∧ X.frozen? ⟨w.heap.size + 1,o,none⟩ = false:=fun o => by rw [hX]; simp [go_sem]
 have hd : Kept X X.drew:=(Kept.refl X).drew
 obtain ⟨va,wa1,ga,ca,wa2,ra1,ka1,ra2,hga,oa2,ka2⟩:=lent_a L (by omega) ao cp X.drew ((h.kept hK).kept hd)
 obtain ⟨vb,wb1,gb,cb,wb2,rb1,kb1,rb2,hgb,ob2,kb2⟩:=lent_b L (by omega) ao cp X.drew ((h.kept hK).kept hd)
 replace ka1:=hd.trans ka1
 replace ka2:=hd.trans ka2
 replace kb1:=hd.trans kb1
 replace kb2:=hd.trans kb2
 have hga' : X.heap.size ≤ ga:=hga
 have hgb' : X.heap.size ≤ gb:=hgb
 have rb1' : ∀ ty,(Builtin.append_ #[52,52] ty #[.slice none 0 0,.slice ao L.length cp]).run Try.prog (X.alloc (.cells #[.int .i64 (-77)] 3)).drew = .ok vb wb1:=rb1
 have rb2' : ∀ ty,(Builtin.append_ #[52,52] ty #[vb,.slice (some ⟨w.heap.size + 2,0,none⟩) 1 1]).run Try.prog wb1 = .ok (.slice (some ⟨gb,0,none⟩) (L.length + 1) cb) wb2:=fun ty => by have:=rb2 ty; rw [show X.drew.heap.size = w.heap.size + 2 from hXs] at this; exact this
 have c1:=(hM.bl ka1.bl).c3
 have c2:=(hM.bl kb1.bl).c3
 have A2:=hM.bl ka2.bl
 have B2:=hM.bl kb2.bl
 have RA:=hR.bl ka2.bl
 have RB:=hR.bl kb2.bl
 have fa : ∀ o,wa2.frozen? ⟨w.heap.size,o,none⟩ = false:=fun o => (ka2.frozen _).trans (hF o).1
 have fa' : ∀ o,wa2.frozen? ⟨w.heap.size + 1,o,none⟩ = false:=fun o => (ka2.frozen _).trans (hF o).2
 have fb : ∀ o,wb2.frozen? ⟨w.heap.size,o,none⟩ = false:=fun o => (kb2.frozen _).trans (hF o).1
 have fb' : ∀ o,wb2.frozen? ⟨w.heap.size + 1,o,none⟩ = false:=fun o => (kb2.frozen _).trans (hF o).2
 have na1 : ¬ w.heap.size = wa1.heap.size:=by have:=ka1.below.size; omega
 have gca : L.length + 1 ≤ ca:=by obtain ⟨cur,-,a,-⟩:=oa2; simpa using a
 have gcb : L.length + 1 ≤ cb:=by obtain ⟨cur,-,a,-⟩:=ob2; simpa using a
 have gla : L.length ≤ ca:=by omega
 have glb : L.length ≤ cb:=by omega
 have HOA : Hid (Own wa2 ga ca (L ++ [-77])):=oa2
 have HOB : Hid (Own wb2 gb cb (L ++ [-77])):=ob2
 clear rb1 rb2 oa2 ob2 h hga hgb hR hF
 generalize L.length = l at *
 go_enter Try.func57,Try.ntmps57
 go_upto_region 1 with fail
 rw [← hX]
 clear hX
 obtain ⟨m0,m1,m2,m3⟩:=hM
 obtain ⟨a0,a1,a2,a3⟩:=A2
 obtain ⟨b0,b1,b2,b3⟩:=B2
 obtain ⟨x0,x1,x2,x3⟩:=RA
 obtain ⟨y0,y1,y2,y3⟩:=RB
 have HA1 : Hid _:=ra1
 have HA2 : Hid _:=ra2
 have HB1 : Hid _:=rb1'
 have HB2 : Hid _:=rb2'
 clear ra1 ra2 rb1' rb2'
 have c1a : (wa1.alloc (.cells #[.int .i64 (-77)] 3)).cell? ⟨w.heap.size,3,none⟩ = some (.slice ao l cp):=(((Bl.refl wa1).alloc (.cells #[.int .i64 (-77)] 3)).cell w.heap.size 3 (by have:=ka1.below.size; omega)).trans c1
 have cXa : (X.alloc (.cells #[.int .i64 (-77)] 3)).cell? ⟨w.heap.size,3,none⟩ = some (.slice ao l cp):=(((Bl.refl X).alloc (.cells #[.int .i64 (-77)] 3)).cell w.heap.size 3 (by omega)).trans m3
 have ca0 : ¬ ca = 0:=by omega
 have cb0 : ¬ cb = 0:=by omega
 refine wp_region_any (by kernel_rfl) ?_
 change wpAny _ _ _ _ _ _ _ (World.drew _)
 refine wpAny_take (i:=0) (v:=?_) rfl (by kernel_rfl) (by kernel_rfl) (by kernel_rfl) (fun _ _ _ h => h) (Or.inl ⟨by rfl,?hy1⟩) ?_
 case hy1 => (intro w; go_simp; try (with_reducible rfl))
 try simp only [Act.put,zA,zC,zD,zE,zF]
 refine wpAny_take (i:=5) (v:=?_) rfl (by kernel_rfl) (by kernel_rfl) (by kernel_rfl) (fun _ _ _ h => h) (Or.inl ⟨by rfl,?hy2⟩) ?_
 case hy2 => (intro w; go_simp; try (with_reducible rfl))
 try simp only [Act.put,zA,zB,zC,zD,zE,zF]
 refine wpAny_ready (rs:=[1,3,6]) (by kernel_rfl) (by simp) ?_
 refine AllReady.cons rfl (fun K hK9 => ?_) (AllReady.cons rfl (fun K hK9 => ?_) (AllReady.cons rfl (fun K hK9 => ?_) AllReady.nil))
 ·skip
  go_simp
  refine hK9 _ _ ?_
  clear hK9 K
  try simp only [Act.put,zA,zB,zC,zD,zE,zF]
  refine wpAny_ready (rs:=[2,3,6]) (by kernel_rfl) (by simp) ?_
  refine AllReady.cons rfl (fun K hK9 => ?_) (AllReady.cons rfl (fun K hK9 => ?_) (AllReady.cons rfl (fun K hK9 => ?_) AllReady.nil))
  ·skip
   rw [if_pos (by rfl)]
   refine oper_append_run _ _ _ rfl _ _ rfl rfl _ _ (HA1.out _) ?_
   refine hK9 _ _ ?_
   clear hK9 K
   try simp only [Act.put,zA,zB,zC,zD,zE,zF]
   refine wpAny_ready (rs:=[3,6]) (by kernel_rfl) (by simp) ?_
   refine AllReady.cons rfl (fun K hK9 => ?_) (AllReady.cons rfl (fun K hK9 => ?_) AllReady.nil)
   ·skip
    go_simp
    refine hK9 _ _ ?_
    clear hK9 K
    try simp only [Act.put,zA,zB,zC,zD,zE,zF]
    refine wpAny_ready (rs:=[4,6]) (by kernel_rfl) (by simp) ?_
    refine AllReady.cons rfl (fun K hK9 => ?_) (AllReady.cons rfl (fun K hK9 => ?_) AllReady.nil)
    ·skip
     rw [if_pos (by rfl)]
     refine oper_append_run _ _ _ rfl _ _ rfl rfl _ _ (HA2.out _) ?_
     refine hK9 _ _ ?_
     clear hK9 K
     try simp only [Act.put,zA,zB,zC,zD,zE,zF]
     refine wpAny_ready (rs:=[6]) (by kernel_rfl) (by simp) ?_
     refine AllReady.cons rfl (fun K hK9 => ?_) AllReady.nil
     ·skip
      go_simp
      refine hK9 _ _ ?_
      clear hK9 K
      try simp only [Act.put,zA,zB,zC,zD,zE,zF]
      refine wpAny_take (i:=7) (v:=?_) rfl (by kernel_rfl) (by kernel_rfl) (by kernel_rfl) (fun _ _ _ h => h) (Or.inl ⟨by rfl,?hy3⟩) ?_
      case hy3 => (intro w; go_simp; try (with_reducible rfl))
      try simp only [Act.put,zA,zB,zC,zD,zE,zF]
      refine wpAny_ready (rs:=[8]) (by kernel_rfl) (by simp) ?_
      refine AllReady.cons rfl (fun K hK9 => ?_) AllReady.nil
      ·skip
       go_simp
       refine hK9 _ _ ?_
       clear hK9 K
       try simp only [Act.put,zA,zB,zC,zD,zE,zF]
       refine wpAny_take (i:=9) (v:=?_) rfl (by kernel_rfl) (by kernel_rfl) (by kernel_rfl) (fun _ _ _ h => h) (Or.inl ⟨by rfl,?hy4⟩) ?_
       case hy4 => (intro w; go_simp; try (with_reducible rfl))
       try simp only [Act.put,zA,zB,zC,zD,zE,zF]
       refine wpAny_ready (rs:=[10]) (by kernel_rfl) (by simp) ?_
       refine AllReady.cons rfl (fun K hK9 => ?_) AllReady.nil
       ·skip
        go_simp
        refine hK9 _ _ ?_
        clear hK9 K
        try simp only [Act.put,zA,zB,zC,zD,zE,zF]
        refine wpAny_done (by kernel_rfl) ?_ _
        (try simp only [List.getElem_toArray,List.getElem_cons_succ,List.getElem_cons_zero,List.setIfInBounds_toArray,List.set_cons_zero,List.set_cons_succ])
        go_wp2_with fail
        refine bodyPost_ret (v:=.agg #[.int .i64 r,.int .i64 c,.int .i64 n,.slice (some ⟨ga,0,none⟩) l ca]) (by simp [results,Try.results57,go_sem, *]) rfl ⟨ga,ca,rfl,by omega,?_,((((hK.trans ka2).setCell (by simp) _).setCell (by simp) _).setCell (by simp) _ |>.setCell (by simp) _ |>.setCell (by simp) _)⟩
        have o5:=HOA.out
        rw [own_v] at o5 ⊢
        exact ((((o5.setOther (by simp; omega) _).setOther (by simp; omega) _).setOther (by simp; omega) _).setOther (by simp; omega) _).setOther (by simp; omega) _
    ·skip
     go_simp
     refine hK9 _ _ ?_
     clear hK9 K
     try simp only [Act.put,zA,zB,zC,zD,zE,zF]
     refine wpAny_take (i:=7) (v:=?_) rfl (by kernel_rfl) (by kernel_rfl) (by kernel_rfl) (fun _ _ _ h => h) (Or.inl ⟨by rfl,?hy5⟩) ?_
     case hy5 => (intro w; go_simp; try (with_reducible rfl))
     try simp only [Act.put,zA,zB,zC,zD,zE,zF]
     refine wpAny_ready (rs:=[4]) (by kernel_rfl) (by simp) ?_
     refine AllReady.cons rfl (fun K hK9 => ?_) AllReady.nil
     ·skip
      rw [if_pos (by rfl)]
      refine oper_append_run _ _ _ rfl _ _ rfl rfl _ _ (HA2.out _) ?_
      refine hK9 _ _ ?_
      clear hK9 K
      try simp only [Act.put,zA,zB,zC,zD,zE,zF]
      refine wpAny_ready (rs:=[8]) (by kernel_rfl) (by simp) ?_
      refine AllReady.cons rfl (fun K hK9 => ?_) AllReady.nil
      ·skip
       go_simp
       refine hK9 _ _ ?_
       clear hK9 K
       try simp only [Act.put,zA,zB,zC,zD,zE,zF]
       refine wpAny_take (i:=9) (v:=?_) rfl (by kernel_rfl) (by kernel_rfl) (by kernel_rfl) (fun _ _ _ h => h) (Or.inl ⟨by rfl,?hy6⟩) ?_
       case hy6 => (intro w; go_simp; try (with_reducible rfl))
       try simp only [Act.put,zA,zB,zC,zD,zE,zF]
       refine wpAny_ready (rs:=[10]) (by kernel_rfl) (by simp) ?_
       refine AllReady.cons rfl (fun K hK9 => ?_) AllReady.nil
       ·skip
        go_simp
        refine hK9 _ _ ?_
        clear hK9 K
        try simp only [Act.put,zA,zB,zC,zD,zE,zF]
        refine wpAny_done (by kernel_rfl) ?_ _
        (try simp only [List.getElem_toArray,List.getElem_cons_succ,List.getElem_cons_zero,List.setIfInBounds_toArray,List.set_cons_zero,List.set_cons_succ])
        go_wp2_with fail
        refine bodyPost_ret (v:=.agg #[.int .i64 r,.int .i64 c,.int .i64 n,.slice (some ⟨ga,0,none⟩) l ca]) (by simp [results,Try.results57,go_sem, *]) rfl ⟨ga,ca,rfl,by omega,?_,((((hK.trans ka2).setCell (by simp) _).setCell (by simp) _).setCell (by simp) _ |>.setCell (by simp) _ |>.setCell (by simp) _)⟩
        have o5:=HOA.out
        rw [own_v] at o5 ⊢
        exact ((((o5.setOther (by simp; omega) _).setOther (by simp; omega) _).setOther (by simp; omega) _).setOther (by simp; omega) _).setOther (by simp; omega) _
   ·skip
    go_simp
    refine hK9 _ _ ?_
    clear hK9 K
    try simp only [Act.put,zA,zB,zC,zD,zE,zF]
    refine wpAny_take (i:=7) (v:=?_) rfl (by kernel_rfl) (by kernel_rfl) (by kernel_rfl) (fun _ _ _ h => h) (Or.inl ⟨by rfl,?hy7⟩) ?_
    case hy7 => (intro w; go_simp; try (with_reducible rfl))
    try simp only [Act.put,zA,zB,zC,zD,zE,zF]
    refine wpAny_ready (rs:=[3]) (by kernel_rfl) (by simp) ?_
    refine AllReady.cons rfl (fun K hK9 => ?_) AllReady.nil
    ·skip
     go_simp
     refine hK9 _ _ ?_
     clear hK9 K
     try simp only [Act.put,zA,zB,zC,zD,zE,zF]
     refine wpAny_ready (rs:=[4]) (by kernel_rfl) (by simp) ?_
     refine AllReady.cons rfl (fun K hK9 => ?_) AllReady.nil
     ·skip
      rw [if_pos (by rfl)]
      refine oper_append_run _ _ _ rfl _ _ rfl rfl _ _ (HA2.out _) ?_
      refine hK9 _ _ ?_
      clear hK9 K
      try simp only [Act.put,zA,zB,zC,zD,zE,zF]
      refine wpAny_ready (rs:=[8]) (by kernel_rfl) (by simp) ?_
      refine AllReady.cons rfl (fun K hK9 => ?_) AllReady.nil
      ·skip
       go_simp
       refine hK9 _ _ ?_
       clear hK9 K
       try simp only [Act.put,zA,zB,zC,zD,zE,zF]
       refine wpAny_take (i:=9) (v:=?_) rfl (by kernel_rfl) (by kernel_rfl) (by kernel_rfl) (fun _ _ _ h => h) (Or.inl ⟨by rfl,?hy8⟩) ?_
       case hy8 => (intro w; go_simp; try (with_reducible rfl))
       try simp only [Act.put,zA,zB,zC,zD,zE,zF]
       refine wpAny_ready (rs:=[10]) (by kernel_rfl) (by simp) ?_
       refine AllReady.cons rfl (fun K hK9 => ?_) AllReady.nil
       ·skip
        go_simp
        refine hK9 _ _ ?_
        clear hK9 K
        try simp only [Act.put,zA,zB,zC,zD,zE,zF]
        refine wpAny_done (by kernel_rfl) ?_ _
        (try simp only [List.getElem_toArray,List.getElem_cons_succ,List.getElem_cons_zero,List.setIfInBounds_toArray,List.set_cons_zero,List.set_cons_succ])
        go_wp2_with fail
        refine bodyPost_ret (v:=.agg #[.int .i64 r,.int .i64 c,.int .i64 n,.slice (some ⟨ga,0,none⟩) l ca]) (by simp [results,Try.results57,go_sem, *]) rfl ⟨ga,ca,rfl,by omega,?_,((((hK.trans ka2).setCell (by simp) _).setCell (by simp) _).setCell (by simp) _ |>.setCell (by simp) _ |>.setCell (by simp) _)⟩
        have o5:=HOA.out
        rw [own_v] at o5 ⊢
        exact ((((o5.setOther (by simp; omega) _).setOther (by simp; omega) _).setOther (by simp; omega) _).setOther (by simp; omega) _).setOther (by simp; omega) _
  ·skip
   go_simp
   refine hK9 _ _ ?_
   clear hK9 K
   try simp only [Act.put,zA,zB,zC,zD,zE,zF]
   refine wpAny_ready (rs:=[2,6]) (by kernel_rfl) (by simp) ?_
   refine AllReady.cons rfl (fun K hK9 => ?_) (AllReady.cons rfl (fun K hK9 => ?_) AllReady.nil)
   ·skip
    rw [if_pos (by rfl)]
    refine oper_append_run _ _ _ rfl _ _ rfl rfl _ _ (HB1.out _) ?_
    refine hK9 _ _ ?_
    clear hK9 K
    try simp only [Act.put,zA,zB,zC,zD,zE,zF]
    refine wpAny_ready (rs:=[4,6]) (by kernel_rfl) (by simp) ?_
    refine AllReady.cons rfl (fun K hK9 => ?_) (AllReady.cons rfl (fun K hK9 => ?_) AllReady.nil)
    ·skip
     rw [if_pos (by rfl)]
     refine oper_append_run _ _ _ rfl _ _ rfl rfl _ _ (HB2.out _) ?_
     refine hK9 _ _ ?_
     clear hK9 K
     try simp only [Act.put,zA,zB,zC,zD,zE,zF]
     refine wpAny_ready (rs:=[6]) (by kernel_rfl) (by simp) ?_
     refine AllReady.cons rfl (fun K hK9 => ?_) AllReady.nil
     ·skip
      go_simp
      refine hK9 _ _ ?_
      clear hK9 K
      try simp only [Act.put,zA,zB,zC,zD,zE,zF]
      refine wpAny_take (i:=7) (v:=?_) rfl (by kernel_rfl) (by kernel_rfl) (by kernel_rfl) (fun _ _ _ h => h) (Or.inl ⟨by rfl,?hy9⟩) ?_
      case hy9 => (intro w; go_simp; try (with_reducible rfl))
      try simp only [Act.put,zA,zB,zC,zD,zE,zF]
      refine wpAny_ready (rs:=[8]) (by kernel_rfl) (by simp) ?_
      refine AllReady.cons rfl (fun K hK9 => ?_) AllReady.nil
      ·skip
       go_simp
       refine hK9 _ _ ?_
       clear hK9 K
       try simp only [Act.put,zA,zB,zC,zD,zE,zF]
       refine wpAny_take (i:=9) (v:=?_) rfl (by kernel_rfl) (by kernel_rfl) (by kernel_rfl) (fun _ _ _ h => h) (Or.inl ⟨by rfl,?hy10⟩) ?_
       case hy10 => (intro w; go_simp; try (with_reducible rfl))
       try simp only [Act.put,zA,zB,zC,zD,zE,zF]
       refine wpAny_ready (rs:=[10]) (by kernel_rfl) (by simp) ?_
       refine AllReady.cons rfl (fun K hK9 => ?_) AllReady.nil
       ·skip
        go_simp
        refine hK9 _ _ ?_
        clear hK9 K
        try simp only [Act.put,zA,zB,zC,zD,zE,zF]
        refine wpAny_done (by kernel_rfl) ?_ _
        (try simp only [List.getElem_toArray,List.getElem_cons_succ,List.getElem_cons_zero,List.setIfInBounds_toArray,List.set_cons_zero,List.set_cons_succ])
        go_wp2_with fail
        refine bodyPost_ret (v:=.agg #[.int .i64 r,.int .i64 c,.int .i64 n,.slice (some ⟨gb,0,none⟩) l cb]) (by simp [results,Try.results57,go_sem, *]) rfl ⟨gb,cb,rfl,by omega,?_,((((hK.trans kb2).setCell (by simp) _).setCell (by simp) _).setCell (by simp) _ |>.setCell (by simp) _ |>.setCell (by simp) _)⟩
        have o5:=HOB.out
        rw [own_v] at o5 ⊢
        exact ((((o5.setOther (by simp; omega) _).setOther (by simp; omega) _).setOther (by simp; omega) _).setOther (by simp; omega) _).setOther (by simp; omega) _
    ·skip
     go_simp
     refine hK9 _ _ ?_
     clear hK9 K
     try simp only [Act.put,zA,zB,zC,zD,zE,zF]
     refine wpAny_take (i:=7) (v:=?_) rfl (by kernel_rfl) (by kernel_rfl) (by kernel_rfl) (fun _ _ _ h => h) (Or.inl ⟨by rfl,?hy11⟩) ?_
     case hy11 => (intro w; go_simp; try (with_reducible rfl))
     try simp only [Act.put,zA,zB,zC,zD,zE,zF]
     refine wpAny_ready (rs:=[4]) (by kernel_rfl) (by simp) ?_
     refine AllReady.cons rfl (fun K hK9 => ?_) AllReady.nil
     ·skip
      rw [if_pos (by rfl)]
      refine oper_append_run _ _ _ rfl _ _ rfl rfl _ _ (HB2.out _) ?_
      refine hK9 _ _ ?_
      clear hK9 K
      try simp only [Act.put,zA,zB,zC,zD,zE,zF]
      refine wpAny_ready (rs:=[8]) (by kernel_rfl) (by simp) ?_
      refine AllReady.cons rfl (fun K hK9 => ?_) AllReady.nil
      ·skip
       go_simp
       refine hK9 _ _ ?_
       clear hK9 K
       try simp only [Act.put,zA,zB,zC,zD,zE,zF]
       refine wpAny_take (i:=9) (v:=?_) rfl (by kernel_rfl) (by kernel_rfl) (by kernel_rfl) (fun _ _ _ h => h) (Or.inl ⟨by rfl,?hy12⟩) ?_
       case hy12 => (intro w; go_simp; try (with_reducible rfl))
       try simp only [Act.put,zA,zB,zC,zD,zE,zF]
       refine wpAny_ready (rs:=[10]) (by kernel_rfl) (by simp) ?_
       refine AllReady.cons rfl (fun K hK9 => ?_) AllReady.nil
       ·skip
        go_simp
        refine hK9 _ _ ?_
        clear hK9 K
        try simp only [Act.put,zA,zB,zC,zD,zE,zF]
        refine wpAny_done (by kernel_rfl) ?_ _
        (try simp only [List.getElem_toArray,List.getElem_cons_succ,List.getElem_cons_zero,List.setIfInBounds_toArray,List.set_cons_zero,List.set_cons_succ])
        go_wp2_with fail
        refine bodyPost_ret (v:=.agg #[.int .i64 r,.int .i64 c,.int .i64 n,.slice (some ⟨gb,0,none⟩) l cb]) (by simp [results,Try.results57,go_sem, *]) rfl ⟨gb,cb,rfl,by omega,?_,((((hK.trans kb2).setCell (by simp) _).setCell (by simp) _).setCell (by simp) _ |>.setCell (by simp) _ |>.setCell (by simp) _)⟩
        have o5:=HOB.out
        rw [own_v] at o5 ⊢
        exact ((((o5.setOther (by simp; omega) _).setOther (by simp; omega) _).setOther (by simp; omega) _).setOther (by simp; omega) _).setOther (by simp; omega) _
   ·skip
    go_simp
    refine hK9 _ _ ?_
    clear hK9 K
    try simp only [Act.put,zA,zB,zC,zD,zE,zF]
    refine wpAny_take (i:=7) (v:=?_) rfl (by kernel_rfl) (by kernel_rfl) (by kernel_rfl) (fun _ _ _ h => h) (Or.inl ⟨by rfl,?hy13⟩) ?_
    case hy13 => (intro w; go_simp; try (with_reducible rfl))
    try simp only [Act.put,zA,zB,zC,zD,zE,zF]
    refine wpAny_ready (rs:=[2]) (by kernel_rfl) (by simp) ?_
    refine AllReady.cons rfl (fun K hK9 => ?_) AllReady.nil
    ·skip
     rw [if_pos (by rfl)]
     refine oper_append_run _ _ _ rfl _ _ rfl rfl _ _ (HB1.out _) ?_
     refine hK9 _ _ ?_
     clear hK9 K
     try simp only [Act.put,zA,zB,zC,zD,zE,zF]
     refine wpAny_ready (rs:=[4]) (by kernel_rfl) (by simp) ?_
     refine AllReady.cons rfl (fun K hK9 => ?_) AllReady.nil
     ·skip
      rw [if_pos (by rfl)]
      refine oper_append_run _ _ _ rfl _ _ rfl rfl _ _ (HB2.out _) ?_
      refine hK9 _ _ ?_
      clear hK9 K
      try simp only [Act.put,zA,zB,zC,zD,zE,zF]
      refine wpAny_ready (rs:=[8]) (by kernel_rfl) (by simp) ?_
      refine AllReady.cons rfl (fun K hK9 => ?_) AllReady.nil
      ·skip
       go_simp
       refine hK9 _ _ ?_
       clear hK9 K
       try simp only [Act.put,zA,zB,zC,zD,zE,zF]
       refine wpAny_take (i:=9) (v:=?_) rfl (by kernel_rfl) (by kernel_rfl) (by kernel_rfl) (fun _ _ _ h => h) (Or.inl ⟨by rfl,?hy14⟩) ?_
       case hy14 => (intro w; go_simp; try (with_reducible rfl))
       try simp only [Act.put,zA,zB,zC,zD,zE,zF]
       refine wpAny_ready (rs:=[10]) (by kernel_rfl) (by simp) ?_
       refine AllReady.cons rfl (fun K hK9 => ?_) AllReady.nil
       ·skip
        go_simp
        refine hK9 _ _ ?_
        clear hK9 K
        try simp only [Act.put,zA,zB,zC,zD,zE,zF]
        refine wpAny_done (by kernel_rfl) ?_ _
        (try simp only [List.getElem_toArray,List.getElem_cons_succ,List.getElem_cons_zero,List.setIfInBounds_toArray,List.set_cons_zero,List.set_cons_succ])
        go_wp2_with fail
        refine bodyPost_ret (v:=.agg #[.int .i64 r,.int .i64 c,.int .i64 n,.slice (some ⟨gb,0,none⟩) l cb]) (by simp [results,Try.results57,go_sem, *]) rfl ⟨gb,cb,rfl,by omega,?_,((((hK.trans kb2).setCell (by simp) _).setCell (by simp) _).setCell (by simp) _ |>.setCell (by simp) _ |>.setCell (by simp) _)⟩
        have o5:=HOB.out
        rw [own_v] at o5 ⊢
        exact ((((o5.setOther (by simp; omega) _).setOther (by simp; omega) _).setOther (by simp; omega) _).setOther (by simp; omega) _).setOther (by simp; omega) _
  ·skip
   go_simp
   refine hK9 _ _ ?_
   clear hK9 K
   try simp only [Act.put,zA,zB,zC,zD,zE,zF]
   refine wpAny_take (i:=7) (v:=?_) rfl (by kernel_rfl) (by kernel_rfl) (by kernel_rfl) (fun _ _ _ h => h) (Or.inl ⟨by rfl,?hy15⟩) ?_
   case hy15 => (intro w; go_simp; try (with_reducible rfl))
   try simp only [Act.put,zA,zB,zC,zD,zE,zF]
   refine wpAny_ready (rs:=[2,3]) (by kernel_rfl) (by simp) ?_
   refine AllReady.cons rfl (fun K hK9 => ?_) (AllReady.cons rfl (fun K hK9 => ?_) AllReady.nil)
   ·skip
    rw [if_pos (by rfl)]
    refine oper_append_run _ _ _ rfl _ _ rfl rfl _ _ (HA1.out _) ?_
    refine hK9 _ _ ?_
    clear hK9 K
    try simp only [Act.put,zA,zB,zC,zD,zE,zF]
    refine wpAny_ready (rs:=[3]) (by kernel_rfl) (by simp) ?_
    refine AllReady.cons rfl (fun K hK9 => ?_) AllReady.nil
    ·skip
     go_simp
     refine hK9 _ _ ?_
     clear hK9 K
     try simp only [Act.put,zA,zB,zC,zD,zE,zF]
     refine wpAny_ready (rs:=[4]) (by kernel_rfl) (by simp) ?_
     refine AllReady.cons rfl (fun K hK9 => ?_) AllReady.nil
     ·skip
      rw [if_pos (by rfl)]
      refine oper_append_run _ _ _ rfl _ _ rfl rfl _ _ (HA2.out _) ?_
      refine hK9 _ _ ?_
      clear hK9 K
      try simp only [Act.put,zA,zB,zC,zD,zE,zF]
      refine wpAny_ready (rs:=[8]) (by kernel_rfl) (by simp) ?_
      refine AllReady.cons rfl (fun K hK9 => ?_) AllReady.nil
      ·skip
       go_simp
       refine hK9 _ _ ?_
       clear hK9 K
       try simp only [Act.put,zA,zB,zC,zD,zE,zF]
       refine wpAny_take (i:=9) (v:=?_) rfl (by kernel_rfl) (by kernel_rfl) (by kernel_rfl) (fun _ _ _ h => h) (Or.inl ⟨by rfl,?hy16⟩) ?_
       case hy16 => (intro w; go_simp; try (with_reducible rfl))
       try simp only [Act.put,zA,zB,zC,zD,zE,zF]
       refine wpAny_ready (rs:=[10]) (by kernel_rfl) (by simp) ?_
       refine AllReady.cons rfl (fun K hK9 => ?_) AllReady.nil
       ·skip
        go_simp
        refine hK9 _ _ ?_
        clear hK9 K
        try simp only [Act.put,zA,zB,zC,zD,zE,zF]
        refine wpAny_done (by kernel_rfl) ?_ _
        (try simp only [List.getElem_toArray,List.getElem_cons_succ,List.getElem_cons_zero,List.setIfInBounds_toArray,List.set_cons_zero,List.set_cons_succ])
        go_wp2_with fail
        refine bodyPost_ret (v:=.agg #[.int .i64 r,.int .i64 c,.int .i64 n,.slice (some ⟨ga,0,none⟩) l ca]) (by simp [results,Try.results57,go_sem, *]) rfl ⟨ga,ca,rfl,by omega,?_,((((hK.trans ka2).setCell (by simp) _).setCell (by simp) _).setCell (by simp) _ |>.setCell (by simp) _ |>.setCell (by simp) _)⟩
        have o5:=HOA.out
        rw [own_v] at o5 ⊢
        exact ((((o5.setOther (by simp; omega) _).setOther (by simp; omega) _).setOther (by simp; omega) _).setOther (by simp; omega) _).setOther (by simp; omega) _
   ·skip
    go_simp
    refine hK9 _ _ ?_
    clear hK9 K
    try simp only [Act.put,zA,zB,zC,zD,zE,zF]
    refine wpAny_ready (rs:=[2]) (by kernel_rfl) (by simp) ?_
    refine AllReady.cons rfl (fun K hK9 => ?_) AllReady.nil
    ·skip
     rw [if_pos (by rfl)]
     refine oper_append_run _ _ _ rfl _ _ rfl rfl _ _ (HB1.out _) ?_
     refine hK9 _ _ ?_
     clear hK9 K
     try simp only [Act.put,zA,zB,zC,zD,zE,zF]
     refine wpAny_ready (rs:=[4]) (by kernel_rfl) (by simp) ?_
     refine AllReady.cons rfl (fun K hK9 => ?_) AllReady.nil
     ·skip
      rw [if_pos (by rfl)]
      refine oper_append_run _ _ _ rfl _ _ rfl rfl _ _ (HB2.out _) ?_
      refine hK9 _ _ ?_
      clear hK9 K
      try simp only [Act.put,zA,zB,zC,zD,zE,zF]
      refine wpAny_ready (rs:=[8]) (by kernel_rfl) (by simp) ?_
      refine AllReady.cons rfl (fun K hK9 => ?_) AllReady.nil
      ·skip
       go_simp
       refine hK9 _ _ ?_
       clear hK9 K
       try simp only [Act.put,zA,zB,zC,zD,zE,zF]
       refine wpAny_take (i:=9) (v:=?_) rfl (by kernel_rfl) (by kernel_rfl) (by kernel_rfl) (fun _ _ _ h => h) (Or.inl ⟨by rfl,?hy17⟩) ?_
       case hy17 => (intro w; go_simp; try (with_reducible rfl))
       try simp only [Act.put,zA,zB,zC,zD,zE,zF]
       refine wpAny_ready (rs:=[10]) (by kernel_rfl) (by simp) ?_
       refine AllReady.cons rfl (fun K hK9 => ?_) AllReady.nil
       ·skip
        go_simp
        refine hK9 _ _ ?_
        clear hK9 K
        try simp only [Act.put,zA,zB,zC,zD,zE,zF]
        refine wpAny_done (by kernel_rfl) ?_ _
        (try simp only [List.getElem_toArray,List.getElem_cons_succ,List.getElem_cons_zero,List.setIfInBounds_toArray,List.set_cons_zero,List.set_cons_succ])
        go_wp2_with fail
        refine bodyPost_ret (v:=.agg #[.int .i64 r,.int .i64 c,.int .i64 n,.slice (some ⟨gb,0,none⟩) l cb]) (by simp [results,Try.results57,go_sem, *]) rfl ⟨gb,cb,rfl,by omega,?_,((((hK.trans kb2).setCell (by simp) _).setCell (by simp) _).setCell (by simp) _ |>.setCell (by simp) _ |>.setCell (by simp) _)⟩
        have o5:=HOB.out
        rw [own_v] at o5 ⊢
        exact ((((o5.setOther (by simp; omega) _).setOther (by simp; omega) _).setOther (by simp; omega) _).setOther (by simp; omega) _).setOther (by simp; omega) _
 ·skip
  go_simp
  refine hK9 _ _ ?_
  clear hK9 K
  try simp only [Act.put,zA,zB,zC,zD,zE,zF]
  refine wpAny_ready (rs:=[1,6]) (by kernel_rfl) (by simp) ?_
  refine AllReady.cons rfl (fun K hK9 => ?_) (AllReady.cons rfl (fun K hK9 => ?_) AllReady.nil)
  ·skip
   go_simp
   refine hK9 _ _ ?_
   clear hK9 K
   try simp only [Act.put,zA,zB,zC,zD,zE,zF]
   refine wpAny_ready (rs:=[2,6]) (by kernel_rfl) (by simp) ?_
   refine AllReady.cons rfl (fun K hK9 => ?_) (AllReady.cons rfl (fun K hK9 => ?_) AllReady.nil)
   ·skip
    rw [if_pos (by rfl)]
    refine oper_append_run _ _ _ rfl _ _ rfl rfl _ _ (HB1.out _) ?_
    refine hK9 _ _ ?_
    clear hK9 K
    try simp only [Act.put,zA,zB,zC,zD,zE,zF]
    refine wpAny_ready (rs:=[4,6]) (by kernel_rfl) (by simp) ?_
    refine AllReady.cons rfl (fun K hK9 => ?_) (AllReady.cons rfl (fun K hK9 => ?_) AllReady.nil)
    ·skip
     rw [if_pos (by rfl)]
     refine oper_append_run _ _ _ rfl _ _ rfl rfl _ _ (HB2.out _) ?_
     refine hK9 _ _ ?_
     clear hK9 K
     try simp only [Act.put,zA,zB,zC,zD,zE,zF]
     refine wpAny_ready (rs:=[6]) (by kernel_rfl) (by simp) ?_
     refine AllReady.cons rfl (fun K hK9 => ?_) AllReady.nil
     ·skip
      go_simp
      refine hK9 _ _ ?_
      clear hK9 K
      try simp only [Act.put,zA,zB,zC,zD,zE,zF]
      refine wpAny_take (i:=7) (v:=?_) rfl (by kernel_rfl) (by kernel_rfl) (by kernel_rfl) (fun _ _ _ h => h) (Or.inl ⟨by rfl,?hy18⟩) ?_
      case hy18 => (intro w; go_simp; try (with_reducible rfl))
      try simp only [Act.put,zA,zB,zC,zD,zE,zF]
      refine wpAny_ready (rs:=[8]) (by kernel_rfl) (by simp) ?_
      refine AllReady.cons rfl (fun K hK9 => ?_) AllReady.nil
      ·skip
       go_simp
       refine hK9 _ _ ?_
       clear hK9 K
       try simp only [Act.put,zA,zB,zC,zD,zE,zF]
       refine wpAny_take (i:=9) (v:=?_) rfl (by kernel_rfl) (by kernel_rfl) (by kernel_rfl) (fun _ _ _ h => h) (Or.inl ⟨by rfl,?hy19⟩) ?_
       case hy19 => (intro w; go_simp; try (with_reducible rfl))
       try simp only [Act.put,zA,zB,zC,zD,zE,zF]
       refine wpAny_ready (rs:=[10]) (by kernel_rfl) (by simp) ?_
       refine AllReady.cons rfl (fun K hK9 => ?_) AllReady.nil
       ·skip
        go_simp
        refine hK9 _ _ ?_
        clear hK9 K
        try simp only [Act.put,zA,zB,zC,zD,zE,zF]
        refine wpAny_done (by kernel_rfl) ?_ _
        (try simp only [List.getElem_toArray,List.getElem_cons_succ,List.getElem_cons_zero,List.setIfInBounds_toArray,List.set_cons_zero,List.set_cons_succ])
        go_wp2_with fail
        refine bodyPost_ret (v:=.agg #[.int .i64 r,.int .i64 c,.int .i64 n,.slice (some ⟨gb,0,none⟩) l cb]) (by simp [results,Try.results57,go_sem, *]) rfl ⟨gb,cb,rfl,by omega,?_,((((hK.trans kb2).setCell (by simp) _).setCell (by simp) _).setCell (by simp) _ |>.setCell (by simp) _ |>.setCell (by simp) _)⟩
        have o5:=HOB.out
        rw [own_v] at o5 ⊢
        exact ((((o5.setOther (by simp; omega) _).setOther (by simp; omega) _).setOther (by simp; omega) _).setOther (by simp; omega) _).setOther (by simp; omega) _
    ·skip
     go_simp
     refine hK9 _ _ ?_
     clear hK9 K
     try simp only [Act.put,zA,zB,zC,zD,zE,zF]
     refine wpAny_take (i:=7) (v:=?_) rfl (by kernel_rfl) (by kernel_rfl) (by kernel_rfl) (fun _ _ _ h => h) (Or.inl ⟨by rfl,?hy20⟩) ?_
     case hy20 => (intro w; go_simp; try (with_reducible rfl))
     try simp only [Act.put,zA,zB,zC,zD,zE,zF]
     refine wpAny_ready (rs:=[4]) (by kernel_rfl) (by simp) ?_
     refine AllReady.cons rfl (fun K hK9 => ?_) AllReady.nil
     ·skip
      rw [if_pos (by rfl)]
      refine oper_append_run _ _ _ rfl _ _ rfl rfl _ _ (HB2.out _) ?_
      refine hK9 _ _ ?_
      clear hK9 K
      try simp only [Act.put,zA,zB,zC,zD,zE,zF]
      refine wpAny_ready (rs:=[8]) (by kernel_rfl) (by simp) ?_
      refine AllReady.cons rfl (fun K hK9 => ?_) AllReady.nil
      ·skip
       go_simp
       refine hK9 _ _ ?_
       clear hK9 K
       try simp only [Act.put,zA,zB,zC,zD,zE,zF]
       refine wpAny_take (i:=9) (v:=?_) rfl (by kernel_rfl) (by kernel_rfl) (by kernel_rfl) (fun _ _ _ h => h) (Or.inl ⟨by rfl,?hy21⟩) ?_
       case hy21 => (intro w; go_simp; try (with_reducible rfl))
       try simp only [Act.put,zA,zB,zC,zD,zE,zF]
       refine wpAny_ready (rs:=[10]) (by kernel_rfl) (by simp) ?_
       refine AllReady.cons rfl (fun K hK9 => ?_) AllReady.nil
       ·skip
        go_simp
        refine hK9 _ _ ?_
        clear hK9 K
        try simp only [Act.put,zA,zB,zC,zD,zE,zF]
        refine wpAny_done (by kernel_rfl) ?_ _
        (try simp only [List.getElem_toArray,List.getElem_cons_succ,List.getElem_cons_zero,List.setIfInBounds_toArray,List.set_cons_zero,List.set_cons_succ])
        go_wp2_with fail
        refine bodyPost_ret (v:=.agg #[.int .i64 r,.int .i64 c,.int .i64 n,.slice (some ⟨gb,0,none⟩) l cb]) (by simp [results,Try.results57,go_sem, *]) rfl ⟨gb,cb,rfl,by omega,?_,((((hK.trans kb2).setCell (by simp) _).setCell (by simp) _).setCell (by simp) _ |>.setCell (by simp) _ |>.setCell (by simp) _)⟩
        have o5:=HOB.out
        rw [own_v] at o5 ⊢
        exact ((((o5.setOther (by simp; omega) _).setOther (by simp; omega) _).setOther (by simp; omega) _).setOther (by simp; omega) _).setOther (by simp; omega) _
   ·skip
    go_simp
    refine hK9 _ _ ?_
    clear hK9 K
    try simp only [Act.put,zA,zB,zC,zD,zE,zF]
    refine wpAny_take (i:=7) (v:=?_) rfl (by kernel_rfl) (by kernel_rfl) (by kernel_rfl) (fun _ _ _ h => h) (Or.inl ⟨by rfl,?hy22⟩) ?_
    case hy22 => (intro w; go_simp; try (with_reducible rfl))
    try simp only [Act.put,zA,zB,zC,zD,zE,zF]
    refine wpAny_ready (rs:=[2]) (by kernel_rfl) (by simp) ?_
    refine AllReady.cons rfl (fun K hK9 => ?_) AllReady.nil
    ·skip
     rw [if_pos (by rfl)]
     refine oper_append_run _ _ _ rfl _ _ rfl rfl _ _ (HB1.out _) ?_
     refine hK9 _ _ ?_
     clear hK9 K
     try simp only [Act.put,zA,zB,zC,zD,zE,zF]
     refine wpAny_ready (rs:=[4]) (by kernel_rfl) (by simp) ?_
     refine AllReady.cons rfl (fun K hK9 => ?_) AllReady.nil
     ·skip
      rw [if_pos (by rfl)]
      refine oper_append_run _ _ _ rfl _ _ rfl rfl _ _ (HB2.out _) ?_
      refine hK9 _ _ ?_
      clear hK9 K
      try simp only [Act.put,zA,zB,zC,zD,zE,zF]
      refine wpAny_ready (rs:=[8]) (by kernel_rfl) (by simp) ?_
      refine AllReady.cons rfl (fun K hK9 => ?_) AllReady.nil
      ·skip
       go_simp
       refine hK9 _ _ ?_
       clear hK9 K
       try simp only [Act.put,zA,zB,zC,zD,zE,zF]
       refine wpAny_take (i:=9) (v:=?_) rfl (by kernel_rfl) (by kernel_rfl) (by kernel_rfl) (fun _ _ _ h => h) (Or.inl ⟨by rfl,?hy23⟩) ?_
       case hy23 => (intro w; go_simp; try (with_reducible rfl))
       try simp only [Act.put,zA,zB,zC,zD,zE,zF]
       refine wpAny_ready (rs:=[10]) (by kernel_rfl) (by simp) ?_
       refine AllReady.cons rfl (fun K hK9 => ?_) AllReady.nil
       ·skip
        go_simp
        refine hK9 _ _ ?_
        clear hK9 K
        try simp only [Act.put,zA,zB,zC,zD,zE,zF]
        refine wpAny_done (by kernel_rfl) ?_ _
        (try simp only [List.getElem_toArray,List.getElem_cons_succ,List.getElem_cons_zero,List.setIfInBounds_toArray,List.set_cons_zero,List.set_cons_succ])
        go_wp2_with fail
        refine bodyPost_ret (v:=.agg #[.int .i64 r,.int .i64 c,.int .i64 n,.slice (some ⟨gb,0,none⟩) l cb]) (by simp [results,Try.results57,go_sem, *]) rfl ⟨gb,cb,rfl,by omega,?_,((((hK.trans kb2).setCell (by simp) _).setCell (by simp) _).setCell (by simp) _ |>.setCell (by simp) _ |>.setCell (by simp) _)⟩
        have o5:=HOB.out
        rw [own_v] at o5 ⊢
        exact ((((o5.setOther (by simp; omega) _).setOther (by simp; omega) _).setOther (by simp; omega) _).setOther (by simp; omega) _).setOther (by simp; omega) _
  ·skip
   go_simp
   refine hK9 _ _ ?_
   clear hK9 K
   try simp only [Act.put,zA,zB,zC,zD,zE,zF]
   refine wpAny_take (i:=7) (v:=?_) rfl (by kernel_rfl) (by kernel_rfl) (by kernel_rfl) (fun _ _ _ h => h) (Or.inl ⟨by rfl,?hy24⟩) ?_
   case hy24 => (intro w; go_simp; try (with_reducible rfl))
   try simp only [Act.put,zA,zB,zC,zD,zE,zF]
   refine wpAny_ready (rs:=[1]) (by kernel_rfl) (by simp) ?_
   refine AllReady.cons rfl (fun K hK9 => ?_) AllReady.nil
   ·skip
    go_simp
    refine hK9 _ _ ?_
    clear hK9 K
    try simp only [Act.put,zA,zB,zC,zD,zE,zF]
    refine wpAny_ready (rs:=[2]) (by kernel_rfl) (by simp) ?_
    refine AllReady.cons rfl (fun K hK9 => ?_) AllReady.nil
    ·skip
     rw [if_pos (by rfl)]
     refine oper_append_run _ _ _ rfl _ _ rfl rfl _ _ (HB1.out _) ?_
     refine hK9 _ _ ?_
     clear hK9 K
     try simp only [Act.put,zA,zB,zC,zD,zE,zF]
     refine wpAny_ready (rs:=[4]) (by kernel_rfl) (by simp) ?_
     refine AllReady.cons rfl (fun K hK9 => ?_) AllReady.nil
     ·skip
      rw [if_pos (by rfl)]
      refine oper_append_run _ _ _ rfl _ _ rfl rfl _ _ (HB2.out _) ?_
      refine hK9 _ _ ?_
      clear hK9 K
      try simp only [Act.put,zA,zB,zC,zD,zE,zF]
      refine wpAny_ready (rs:=[8]) (by kernel_rfl) (by simp) ?_
      refine AllReady.cons rfl (fun K hK9 => ?_) AllReady.nil
      ·skip
       go_simp
       refine hK9 _ _ ?_
       clear hK9 K
       try simp only [Act.put,zA,zB,zC,zD,zE,zF]
       refine wpAny_take (i:=9) (v:=?_) rfl (by kernel_rfl) (by kernel_rfl) (by kernel_rfl) (fun _ _ _ h => h) (Or.inl ⟨by rfl,?hy25⟩) ?_
       case hy25 => (intro w; go_simp; try (with_reducible rfl))
       try simp only [Act.put,zA,zB,zC,zD,zE,zF]
       refine wpAny_ready (rs:=[10]) (by kernel_rfl) (by simp) ?_
       refine AllReady.cons rfl (fun K hK9 => ?_) AllReady.nil
       ·skip
        go_simp
        refine hK9 _ _ ?_
        clear hK9 K
        try simp only [Act.put,zA,zB,zC,zD,zE,zF]
        refine wpAny_done (by kernel_rfl) ?_ _
        (try simp only [List.getElem_toArray,List.getElem_cons_succ,List.getElem_cons_zero,List.setIfInBounds_toArray,List.set_cons_zero,List.set_cons_succ])
        go_wp2_with fail
        refine bodyPost_ret (v:=.agg #[.int .i64 r,.int .i64 c,.int .i64 n,.slice (some ⟨gb,0,none⟩) l cb]) (by simp [results,Try.results57,go_sem, *]) rfl ⟨gb,cb,rfl,by omega,?_,((((hK.trans kb2).setCell (by simp) _).setCell (by simp) _).setCell (by simp) _ |>.setCell (by simp) _ |>.setCell (by simp) _)⟩
        have o5:=HOB.out
        rw [own_v] at o5 ⊢
        exact ((((o5.setOther (by simp; omega) _).setOther (by simp; omega) _).setOther (by simp; omega) _).setOther (by simp; omega) _).setOther (by simp; omega) _
 ·skip
  go_simp
  refine hK9 _ _ ?_
  clear hK9 K
  try simp only [Act.put,zA,zB,zC,zD,zE,zF]
  refine wpAny_take (i:=7) (v:=?_) rfl (by kernel_rfl) (by kernel_rfl) (by kernel_rfl) (fun _ _ _ h => h) (Or.inl ⟨by rfl,?hy26⟩) ?_
  case hy26 => (intro w; go_simp; try (with_reducible rfl))
  try simp only [Act.put,zA,zB,zC,zD,zE,zF]
  refine wpAny_ready (rs:=[1,3]) (by kernel_rfl) (by simp) ?_
  refine AllReady.cons rfl (fun K hK9 => ?_) (AllReady.cons rfl (fun K hK9 => ?_) AllReady.nil)
  ·skip
   go_simp
   refine hK9 _ _ ?_
   clear hK9 K
   try simp only [Act.put,zA,zB,zC,zD,zE,zF]
   refine wpAny_ready (rs:=[2,3]) (by kernel_rfl) (by simp) ?_
   refine AllReady.cons rfl (fun K hK9 => ?_) (AllReady.cons rfl (fun K hK9 => ?_) AllReady.nil)
   ·skip
    rw [if_pos (by rfl)]
    refine oper_append_run _ _ _ rfl _ _ rfl rfl _ _ (HA1.out _) ?_
    refine hK9 _ _ ?_
    clear hK9 K
    try simp only [Act.put,zA,zB,zC,zD,zE,zF]
    refine wpAny_ready (rs:=[3]) (by kernel_rfl) (by simp) ?_
    refine AllReady.cons rfl (fun K hK9 => ?_) AllReady.nil
    ·skip
     go_simp
     refine hK9 _ _ ?_
     clear hK9 K
     try simp only [Act.put,zA,zB,zC,zD,zE,zF]
     refine wpAny_ready (rs:=[4]) (by kernel_rfl) (by simp) ?_
     refine AllReady.cons rfl (fun K hK9 => ?_) AllReady.nil
     ·skip
      rw [if_pos (by rfl)]
      refine oper_append_run _ _ _ rfl _ _ rfl rfl _ _ (HA2.out _) ?_
      refine hK9 _ _ ?_
      clear hK9 K
      try simp only [Act.put,zA,zB,zC,zD,zE,zF]
      refine wpAny_ready (rs:=[8]) (by kernel_rfl) (by simp) ?_
      refine AllReady.cons rfl (fun K hK9 => ?_) AllReady.nil
      ·skip
       go_simp
       refine hK9 _ _ ?_
       clear hK9 K
       try simp only [Act.put,zA,zB,zC,zD,zE,zF]
       refine wpAny_take (i:=9) (v:=?_) rfl (by kernel_rfl) (by kernel_rfl) (by kernel_rfl) (fun _ _ _ h => h) (Or.inl ⟨by rfl,?hy27⟩) ?_
       case hy27 => (intro w; go_simp; try (with_reducible rfl))
       try simp only [Act.put,zA,zB,zC,zD,zE,zF]
       refine wpAny_ready (rs:=[10]) (by kernel_rfl) (by simp) ?_
       refine AllReady.cons rfl (fun K hK9 => ?_) AllReady.nil
       ·skip
        go_simp
        refine hK9 _ _ ?_
        clear hK9 K
        try simp only [Act.put,zA,zB,zC,zD,zE,zF]
        refine wpAny_done (by kernel_rfl) ?_ _
        (try simp only [List.getElem_toArray,List.getElem_cons_succ,List.getElem_cons_zero,List.setIfInBounds_toArray,List.set_cons_zero,List.set_cons_succ])
        go_wp2_with fail
        refine bodyPost_ret (v:=.agg #[.int .i64 r,.int .i64 c,.int .i64 n,.slice (some ⟨ga,0,none⟩) l ca]) (by simp [results,Try.results57,go_sem, *]) rfl ⟨ga,ca,rfl,by omega,?_,((((hK.trans ka2).setCell (by simp) _).setCell (by simp) _).setCell (by simp) _ |>.setCell (by simp) _ |>.setCell (by simp) _)⟩
        have o5:=HOA.out
        rw [own_v] at o5 ⊢
        exact ((((o5.setOther (by simp; omega) _).setOther (by simp; omega) _).setOther (by simp; omega) _).setOther (by simp; omega) _).setOther (by simp; omega) _
   ·skip
    go_simp
    refine hK9 _ _ ?_
    clear hK9 K
    try simp only [Act.put,zA,zB,zC,zD,zE,zF]
    refine wpAny_ready (rs:=[2]) (by kernel_rfl) (by simp) ?_
    refine AllReady.cons rfl (fun K hK9 => ?_) AllReady.nil
    ·skip
     rw [if_pos (by rfl)]
     refine oper_append_run _ _ _ rfl _ _ rfl rfl _ _ (HB1.out _) ?_
     refine hK9 _ _ ?_
     clear hK9 K
     try simp only [Act.put,zA,zB,zC,zD,zE,zF]
     refine wpAny_ready (rs:=[4]) (by kernel_rfl) (by simp) ?_
     refine AllReady.cons rfl (fun K hK9 => ?_) AllReady.nil
     ·skip
      rw [if_pos (by rfl)]
      refine oper_append_run _ _ _ rfl _ _ rfl rfl _ _ (HB2.out _) ?_
      refine hK9 _ _ ?_
      clear hK9 K
      try simp only [Act.put,zA,zB,zC,zD,zE,zF]
      refine wpAny_ready (rs:=[8]) (by kernel_rfl) (by simp) ?_
      refine AllReady.cons rfl (fun K hK9 => ?_) AllReady.nil
      ·skip
       go_simp
       refine hK9 _ _ ?_
       clear hK9 K
       try simp only [Act.put,zA,zB,zC,zD,zE,zF]
       refine wpAny_take (i:=9) (v:=?_) rfl (by kernel_rfl) (by kernel_rfl) (by kernel_rfl) (fun _ _ _ h => h) (Or.inl ⟨by rfl,?hy28⟩) ?_
       case hy28 => (intro w; go_simp; try (with_reducible rfl))
       try simp only [Act.put,zA,zB,zC,zD,zE,zF]
       refine wpAny_ready (rs:=[10]) (by kernel_rfl) (by simp) ?_
       refine AllReady.cons rfl (fun K hK9 => ?_) AllReady.nil
       ·skip
        go_simp
        refine hK9 _ _ ?_
        clear hK9 K
        try simp only [Act.put,zA,zB,zC,zD,zE,zF]
        refine wpAny_done (by kernel_rfl) ?_ _
        (try simp only [List.getElem_toArray,List.getElem_cons_succ,List.getElem_cons_zero,List.setIfInBounds_toArray,List.set_cons_zero,List.set_cons_succ])
        go_wp2_with fail
        refine bodyPost_ret (v:=.agg #[.int .i64 r,.int .i64 c,.int .i64 n,.slice (some ⟨gb,0,none⟩) l cb]) (by simp [results,Try.results57,go_sem, *]) rfl ⟨gb,cb,rfl,by omega,?_,((((hK.trans kb2).setCell (by simp) _).setCell (by simp) _).setCell (by simp) _ |>.setCell (by simp) _ |>.setCell (by simp) _)⟩
        have o5:=HOB.out
        rw [own_v] at o5 ⊢
        exact ((((o5.setOther (by simp; omega) _).setOther (by simp; omega) _).setOther (by simp; omega) _).setOther (by simp; omega) _).setOther (by simp; omega) _
  ·skip
   go_simp
   refine hK9 _ _ ?_
   clear hK9 K
   try simp only [Act.put,zA,zB,zC,zD,zE,zF]
   refine wpAny_ready (rs:=[1]) (by kernel_rfl) (by simp) ?_
   refine AllReady.cons rfl (fun K hK9 => ?_) AllReady.nil
   ·skip
    go_simp
    refine hK9 _ _ ?_
    clear hK9 K
    try simp only [Act.put,zA,zB,zC,zD,zE,zF]
    refine wpAny_ready (rs:=[2]) (by kernel_rfl) (by simp) ?_
    refine AllReady.cons rfl (fun K hK9 => ?_) AllReady.nil
    ·skip
     rw [if_pos (by rfl)]
     refine oper_append_run _ _ _ rfl _ _ rfl rfl _ _ (HB1.out _) ?_
     refine hK9 _ _ ?_
     clear hK9 K
     try simp only [Act.put,zA,zB,zC,zD,zE,zF]
     refine wpAny_ready (rs:=[4]) (by kernel_rfl) (by simp) ?_
     refine AllReady.cons rfl (fun K hK9 => ?_) AllReady.nil
     ·skip
      rw [if_pos (by rfl)]
      refine oper_append_run _ _ _ rfl _ _ rfl rfl _ _ (HB2.out _) ?_
      refine hK9 _ _ ?_
      clear hK9 K
      try simp only [Act.put,zA,zB,zC,zD,zE,zF]
      refine wpAny_ready (rs:=[8]) (by kernel_rfl) (by simp) ?_
      refine AllReady.cons rfl (fun K hK9 => ?_) AllReady.nil
      ·skip
       go_simp
       refine hK9 _ _ ?_
       clear hK9 K
       try simp only [Act.put,zA,zB,zC,zD,zE,zF]
       refine wpAny_take (i:=9) (v:=?_) rfl (by kernel_rfl) (by kernel_rfl) (by kernel_rfl) (fun _ _ _ h => h) (Or.inl ⟨by rfl,?hy29⟩) ?_
       case hy29 => (intro w; go_simp; try (with_reducible rfl))
       try simp only [Act.put,zA,zB,zC,zD,zE,zF]
       refine wpAny_ready (rs:=[10]) (by kernel_rfl) (by simp) ?_
       refine AllReady.cons rfl (fun K hK9 => ?_) AllReady.nil
       ·skip
        go_simp
        refine hK9 _ _ ?_
        clear hK9 K
        try simp only [Act.put,zA,zB,zC,zD,zE,zF]
        refine wpAny_done (by kernel_rfl) ?_ _
        (try simp only [List.getElem_toArray,List.getElem_cons_succ,List.getElem_cons_zero,List.setIfInBounds_toArray,List.set_cons_zero,List.set_cons_succ])
        go_wp2_with fail
        refine bodyPost_ret (v:=.agg #[.int .i64 r,.int .i64 c,.int .i64 n,.slice (some ⟨gb,0,none⟩) l cb]) (by simp [results,Try.results57,go_sem, *]) rfl ⟨gb,cb,rfl,by omega,?_,((((hK.trans kb2).setCell (by simp) _).setCell (by simp) _).setCell (by simp) _ |>.setCell (by simp) _ |>.setCell (by simp) _)⟩
        have o5:=HOB.out
        rw [own_v] at o5 ⊢
        exact ((((o5.setOther (by simp; omega) _).setOther (by simp; omega) _).setOther (by simp; omega) _).setOther (by simp; omega) _).setOther (by simp; omega) _
end Go.Proofs.Ytocjfdiimapojaa
