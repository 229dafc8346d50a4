/-
  A command done on a book, by the model, whichever way it goes: put together.
-/
import Derived.Test.YtbakanofkghmiaaGreatUj42
import Derived.Test.YtbakanofkghmiaaGreatUj43
import Derived.Test.YtbakanofkghmiaaGreatUj44
set_option linter.unusedVariables false
set_option maxHeartbeats 6400000
set_option maxRecDepth 100000
namespace Go.Proofs.YtbakanofkghmiaaGreat
open Go.RowKit
theorem l04Step_any (next:Int) (vb:Value) (l:List Od) (c:Cm) (w:World) (hr:RdR Od.vs 6 w vb l) (hs:SlOk vb) (hg:GoodL l) (uC:∀ x ∈ l,x.side = 1 ∨ x.side = 2) (h0:0 ≤ next) (G:next ≤ 1000000) (ht:c.g.size ≤ maxLen) :
  Calls Tryz.prog 44 #[.agg #[H next,vb],cmV c] w fun e w'=>∃ vq vg,e = yl (.tuple #[.agg #[H (stN next l c),vq],vg])∧ORow w' w.heap.size vq (stL next l c)∧ERow w' w.heap.size vg (stE next l c)∧ym w w':=by
 by_cases vi:refR next l c = 0
 ·rcases cY vi with hk | hk | hk | hk
  ·exact l04Step_a next vb l c w ⟨vi,hk⟩ hr hs hg uC h0 G ht
  ·exact l04Step_c next vb l c w ⟨vi,hk⟩ hr hs hg uC h0 G ht
  ·exact l04Step_d next vb l c w ⟨vi,hk⟩ hr hs hg uC h0 G ht
  ·exact l04Step_y next vb l c w ⟨vi,hk⟩ hr hs hg uC h0 G ht
 ·exact l04Step_r next vb l c w vi hr hs hg uC h0 G ht

theorem look_only {d i:Nat}:∀ {ks:List (Nat × Nat)} {j:Nat},ks.lookup j = some d→ks.all (fun p=>p.2 != d || p.1 == i) = true→j = i
 | [],_,h,_=>by cases h
 | (a,b) :: r,j,h,Q=>by
  rw [List.lookup_cons] at h
  simp only [List.all_cons,xc] at Q
  by_cases e:j = a
  ·subst e
   simp at h
   subst h
   have:=Q.1
   simp at this
   exact this
  ·have:(j == a) = false:=by rw [xb]; exact e
   rw [this] at h
   exact look_only h Q.2
theorem hit_len {l:List Od} {k:Nat} {o:Od} {q:Int}:(aB l k o q).length ≤ l.length:=by
 rw [aB]
 split
 ·simp only [yN,List.length_take,List.length_drop]; omega
 ·simp
theorem stL_len {next:Int} {l:List Od} {c:Cm} (hg:GoodL l):(stL next l c).length ≤ 100:=by
 have hl:=hg.len
 rw [stL]
 split
 ·next hr =>
  split
  ·next hk =>
   have hq:=cJ hr hk
   have G:=(bR (c:=c) (id:=next) 21 l c.q [] hg (by omega) hq.2).1.len
   rw [accL]
   split
   ·simp; omega
   ·omega
  ·split
   ·split
    ·have:=@hit_len l (plc l c.i).toNat; rename_i o _; have:=@hit_len l (plc l c.i).toNat o o.left; omega
    ·omega
   ·split
    ·split
     ·simp; omega
     ·omega
    ·exact yL (List.length_filter_le _ _) (by omega)
 ·omega
theorem stE_len {next:Int} {l:List Od} {c:Cm} (hg:GoodL l):(stE next l c).length ≤ 100:=by
 have hl:=hg.len
 rw [stE]
 split
 ·split
  ·have G:=dr (c:=c) (id:=next) 21 l c.q []
   rw [accE]
   simp only [yN,List.length_cons,List.length_nil] at G ⊢
   split <;> simp <;> omega
  ·split
   ·split <;> simp
   ·split
    ·simp
    ·have G:(l.filter dyB).length ≤ 20:=yL (List.length_filter_le _ _) hl
     simp only [List.length_cons,List.length_map]; omega
 ·simp
def DL (vs:List Value) (ks:List (Nat × Nat)) (S:Nat) (n eD rc:Int) (l tg:List Od) (hR:List Ev) (p:Prop) (W:World) (j:Nat) (v:Value):Prop :=
 match ks.lookup j with
 | none=>∀ u,vs[j]? = some u→v = u
 | some 1=>¬ p→∃ ad cp,v = .agg #[H n,.slice (some ad) l.length cp]∧RdR Od.vs 6 W (.slice (some ad) l.length cp) l
 | some 2=>∃ aq cq ag cg,v = .tuple #[.agg #[H eD,.slice aq tg.length cq],.slice ag hR.length cg,H rc]∧ORow W S (.slice aq tg.length cq) tg∧ERow W S (.slice ag hR.length cg) hR
 | some 3=>∃ aq cq,v = .agg #[H eD,.slice aq tg.length cq]∧ORow W S (.slice aq tg.length cq) tg
 | some 4=>∃ ag cg,v = .slice ag hR.length cg∧ERow W S (.slice ag hR.length cg) hR
 | some 5=>∃ b,v = I b 0∧S ≤ b∧b < W.heap.size∧W.there b 0 2∧(∃ xp,W.heap[b]? = some (.cells xp 28 (0,0)))∧(p→∃ aq cq,W.rangeAt b 0 [H eD,.slice aq tg.length cq]∧ORow W S (.slice aq tg.length cq) tg)
 | some _=>True
section
variable {vs:List Value} {ks:List (Nat × Nat)} {S:Nat} {n eD rc:Int} {l tg:List Od} {hR:List Ev} {p:Prop} {W W':World} {j d:Nat} {v u:Value}
theorem dl_val (h:DL vs ks S n eD rc l tg hR p W j v) (hk:ks.lookup j = none) (hu:vs[j]? = some u):v = u:=by
 rw [DL,hk] at h; exact h u hu
theorem dl_mkv (hk:ks.lookup j = none) (hu:vs[j]? = some v):DL vs ks S n eD rc l tg hR p W j v:=by
 rw [DL,hk]; intro u h; rw [hu] at h; cases h; rfl
theorem dl_2 (h:DL vs ks S n eD rc l tg hR p W j v) (hk:ks.lookup j = some 2):∃ aq cq ag cg,v = .tuple #[.agg #[H eD,.slice aq tg.length cq],.slice ag hR.length cg,H rc]∧ORow W S (.slice aq tg.length cq) tg∧ERow W S (.slice ag hR.length cg) hR:=by
 rw [DL,hk] at h; exact h
theorem dl_mk2 (hk:ks.lookup j = some 2) (h:∃ aq cq ag cg,v = .tuple #[.agg #[H eD,.slice aq tg.length cq],.slice ag hR.length cg,H rc]∧ORow W S (.slice aq tg.length cq) tg∧ERow W S (.slice ag hR.length cg) hR):DL vs ks S n eD rc l tg hR p W j v:=by
 rw [DL,hk]; exact h
theorem dl_3 (h:DL vs ks S n eD rc l tg hR p W j v) (hk:ks.lookup j = some 3):∃ aq cq,v = .agg #[H eD,.slice aq tg.length cq]∧ORow W S (.slice aq tg.length cq) tg:=by
 rw [DL,hk] at h; exact h
theorem dl_mk3 (hk:ks.lookup j = some 3) (h:∃ aq cq,v = .agg #[H eD,.slice aq tg.length cq]∧ORow W S (.slice aq tg.length cq) tg):DL vs ks S n eD rc l tg hR p W j v:=by
 rw [DL,hk]; exact h
theorem dl_4 (h:DL vs ks S n eD rc l tg hR p W j v) (hk:ks.lookup j = some 4):∃ ag cg,v = .slice ag hR.length cg∧ERow W S (.slice ag hR.length cg) hR:=by
 rw [DL,hk] at h; exact h
theorem dl_mk4 (hk:ks.lookup j = some 4) (h:∃ ag cg,v = .slice ag hR.length cg∧ERow W S (.slice ag hR.length cg) hR):DL vs ks S n eD rc l tg hR p W j v:=by
 rw [DL,hk]; exact h
theorem dl_5 (h:DL vs ks S n eD rc l tg hR p W j v) (hk:ks.lookup j = some 5):∃ b,v = I b 0∧S ≤ b∧b < W.heap.size∧W.there b 0 2∧(∃ xp,W.heap[b]? = some (.cells xp 28 (0,0)))∧(p→∃ aq cq,W.rangeAt b 0 [H eD,.slice aq tg.length cq]∧ORow W S (.slice aq tg.length cq) tg):=by
 rw [DL,hk] at h; exact h
theorem dl_mk5 (hk:ks.lookup j = some 5) (hp:¬ p) (hS:S ≤ W.heap.size):DL vs ks S n eD rc l tg hR p (W.alloc (N #[H 0,.slice none 0 0] 28)) j (yn W 0):=by
 rw [DL,hk]; exact ⟨W.heap.size,rfl,hS,by rw [zf]; omega,zt W [H 0,.slice none 0 0] _,⟨_,heap_alloc_new W _⟩,fun h=>absurd h hp⟩
theorem dl_mk9 (hk:ks.lookup j = some 9):DL vs ks S n eD rc l tg hR p W j v:=by rw [DL,hk]; trivial
theorem dl_grow:∀ p W W' j v,ym W W'→DL vs ks S n eD rc l tg hR p W j v→DL vs ks S n eD rc l tg hR p W' j v:=by
 intro p W W' j v O h
 unfold DL at h ⊢
 split
 ·next hk=>rw [hk] at h; exact h
 ·next hk=>rw [hk] at h; intro hp; obtain ⟨ad,cp,G,D⟩:=h hp; exact ⟨ad,cp,G,zh D O hb⟩
 ·next hk=>rw [hk] at h; obtain ⟨aq,cq,ag,cg,G,D,h3⟩:=h; exact ⟨aq,cq,ag,cg,G,zj D O,zI h3 O⟩
 ·next hk=>rw [hk] at h; obtain ⟨aq,cq,G,D⟩:=h; exact ⟨aq,cq,G,zj D O⟩
 ·next hk=>rw [hk] at h; obtain ⟨ag,cg,G,D⟩:=h; exact ⟨ag,cg,G,zI D O⟩
 ·next hk=>rw [hk] at h; obtain ⟨b,G,D,h3,h4,⟨xp,h5⟩,h6⟩:=h; exact ⟨b,G,D,yH h3 O.size,ze h4 O h3,⟨xp,(O.block b h3).trans h5⟩,fun hp=>by obtain ⟨aq,cq,h7,h8⟩:=h6 hp; exact ⟨aq,cq,zb h7 O h3,zj h8 O⟩⟩
 ·trivial
theorem dl_store {b:Nat} {aq:Option Addr} {cq:Nat} (hS:S ≤ b) (xE:W.there b 0 2) (xI:b < W.heap.size) (vp:∃ xp,W.heap[b]? = some (.cells xp 28 (0,0))) (Z:ORow W S (.slice aq tg.length cq) tg) (h5:ks.lookup j = some 5→v = I b 0) (h:DL vs ks S n eD rc l tg hR False W j v):DL vs ks S n eD rc l tg hR True (W.setCells b 0 [H eD,.slice aq tg.length cq]) j v:=by
 have hO:∀ {v tg},ORow W S v tg→ORow (W.setCells b 0 [H eD,.slice aq tg.length cq]) S v tg:=fun h=>bJ (zl h vp (by decide)) _ _ _ h
 have hO':∀ {v:Value} {L':List Od},ORow W S v L'→ORow (W.setCells b 0 [H eD,.slice aq tg.length cq]) S v L':=fun h=>bJ (zl h vp (by decide)) _ _ _ h
 have hE:∀ {v:Value} {E':List Ev},ERow W S v E'→ERow (W.setCells b 0 [H eD,.slice aq tg.length cq]) S v E':=fun h=>bJ (zl h vp (by decide)) _ _ _ h
 unfold DL at h ⊢
 split
 ·next hk=>rw [hk] at h; exact h
 ·next hk=>intro hp; exact absurd trivial hp
 ·next hk=>rw [hk] at h; obtain ⟨aq,cq,ag,cg,G,D,h3⟩:=h; exact ⟨aq,cq,ag,cg,G,hO' D,hE h3⟩
 ·next hk=>rw [hk] at h; obtain ⟨aq,cq,G,D⟩:=h; exact ⟨aq,cq,G,hO' D⟩
 ·next hk=>rw [hk] at h; obtain ⟨ag,cg,G,D⟩:=h; exact ⟨ag,cg,G,hE D⟩
 ·next hk =>
  refine ⟨b,h5 hk,hS,by rw [bK]; exact xI,yZ xE _ _ _,?_,fun _=>⟨aq,cq,yV W b 0 _ (fun j K=>xE j K),hO' Z⟩⟩
  obtain ⟨xp,hc⟩:=vp
  exact kind_setC W b _ 0 hc
 ·trivial
end
theorem rg_write2 {base W W':World} {k:Nat} {h2:Prop→World→Nat→Value→Prop} {x:List Bool} {f:Nat→Value} (O:ym base W') (h:∀ j,x[j]? = some true→h2 (x[k]? = some true) W j (f j)) (hk:x[k]? = some false) (hm:∀ j,j ≠ k→x[j]? = some true→h2 False W j (f j)→h2 True W' j (f j)) (hv:h2 True W' k (f k)) :
  ym base W'∧∀ j,(x.set k true)[j]? = some true→h2 ((x.set k true)[k]? = some true) W' j (f j):=by
 have e:((x.set k true)[k]? = some true) = True:=by
  rw [List.getElem?_set_self (yE.1 hk).1]; simp
 refine ⟨O,fun j K=>?_⟩
 rw [e]
 by_cases hji:j = k
 ·subst hji; exact hv
 ·rw [yU (fun e=>hji e.symm)] at K
  refine hm j hji K ?_
  have:=h j K
  rw [hk] at this
  simpa using this
def DP (vs:List Value) (ks:List (Nat × Nat)) (S:Nat) (n eD:Int) (l tg:List Od) (hR:List Ev) (p:Prop) (W:World) (j:Nat) (v:Value):Prop :=
 match ks.lookup j with
 | none=>∀ u,vs[j]? = some u→v = u
 | some 1=>¬ p→∃ ad cp,v = .agg #[H n,.slice (some ad) l.length cp]∧RdR Od.vs 6 W (.slice (some ad) l.length cp) l
 | some 2=>∃ aq cq ag cg,v = .tuple #[.agg #[H eD,.slice aq tg.length cq],.slice ag hR.length cg]∧ORow W S (.slice aq tg.length cq) tg∧ERow W S (.slice ag hR.length cg) hR
 | some 3=>∃ aq cq,v = .agg #[H eD,.slice aq tg.length cq]∧ORow W S (.slice aq tg.length cq) tg
 | some 4=>∃ ag cg,v = .slice ag hR.length cg∧ERow W S (.slice ag hR.length cg) hR
 | some 5=>∃ b,v = I b 0∧S ≤ b∧b < W.heap.size∧W.there b 0 2∧(∃ xp,W.heap[b]? = some (.cells xp 28 (0,0)))∧(p→∃ aq cq,W.rangeAt b 0 [H eD,.slice aq tg.length cq]∧ORow W S (.slice aq tg.length cq) tg)
 | some _=>True
section
variable {vs:List Value} {ks:List (Nat × Nat)} {S:Nat} {n eD:Int} {l tg:List Od} {hR:List Ev} {p:Prop} {W W':World} {j d:Nat} {v u:Value}
theorem dp_val (h:DP vs ks S n eD l tg hR p W j v) (hk:ks.lookup j = none) (hu:vs[j]? = some u):v = u:=by
 rw [DP,hk] at h; exact h u hu
theorem dp_mkv (hk:ks.lookup j = none) (hu:vs[j]? = some v):DP vs ks S n eD l tg hR p W j v:=by
 rw [DP,hk]; intro u h; rw [hu] at h; cases h; rfl
theorem dp_2 (h:DP vs ks S n eD l tg hR p W j v) (hk:ks.lookup j = some 2):∃ aq cq ag cg,v = .tuple #[.agg #[H eD,.slice aq tg.length cq],.slice ag hR.length cg]∧ORow W S (.slice aq tg.length cq) tg∧ERow W S (.slice ag hR.length cg) hR:=by
 rw [DP,hk] at h; exact h
theorem dp_mk2 (hk:ks.lookup j = some 2) (h:∃ aq cq ag cg,v = .tuple #[.agg #[H eD,.slice aq tg.length cq],.slice ag hR.length cg]∧ORow W S (.slice aq tg.length cq) tg∧ERow W S (.slice ag hR.length cg) hR):DP vs ks S n eD l tg hR p W j v:=by
 rw [DP,hk]; exact h
theorem dp_3 (h:DP vs ks S n eD l tg hR p W j v) (hk:ks.lookup j = some 3):∃ aq cq,v = .agg #[H eD,.slice aq tg.length cq]∧ORow W S (.slice aq tg.length cq) tg:=by
 rw [DP,hk] at h; exact h
theorem dp_mk3 (hk:ks.lookup j = some 3) (h:∃ aq cq,v = .agg #[H eD,.slice aq tg.length cq]∧ORow W S (.slice aq tg.length cq) tg):DP vs ks S n eD l tg hR p W j v:=by
 rw [DP,hk]; exact h
theorem dp_4 (h:DP vs ks S n eD l tg hR p W j v) (hk:ks.lookup j = some 4):∃ ag cg,v = .slice ag hR.length cg∧ERow W S (.slice ag hR.length cg) hR:=by
 rw [DP,hk] at h; exact h
theorem dp_mk4 (hk:ks.lookup j = some 4) (h:∃ ag cg,v = .slice ag hR.length cg∧ERow W S (.slice ag hR.length cg) hR):DP vs ks S n eD l tg hR p W j v:=by
 rw [DP,hk]; exact h
theorem dp_5 (h:DP vs ks S n eD l tg hR p W j v) (hk:ks.lookup j = some 5):∃ b,v = I b 0∧S ≤ b∧b < W.heap.size∧W.there b 0 2∧(∃ xp,W.heap[b]? = some (.cells xp 28 (0,0)))∧(p→∃ aq cq,W.rangeAt b 0 [H eD,.slice aq tg.length cq]∧ORow W S (.slice aq tg.length cq) tg):=by
 rw [DP,hk] at h; exact h
theorem dp_mk5 (hk:ks.lookup j = some 5) (hp:¬ p) (hS:S ≤ W.heap.size):DP vs ks S n eD l tg hR p (W.alloc (N #[H 0,.slice none 0 0] 28)) j (yn W 0):=by
 rw [DP,hk]; exact ⟨W.heap.size,rfl,hS,by rw [zf]; omega,zt W [H 0,.slice none 0 0] _,⟨_,heap_alloc_new W _⟩,fun h=>absurd h hp⟩
theorem dp_mk9 (hk:ks.lookup j = some 9):DP vs ks S n eD l tg hR p W j v:=by rw [DP,hk]; trivial
theorem dp_grow:∀ p W W' j v,ym W W'→DP vs ks S n eD l tg hR p W j v→DP vs ks S n eD l tg hR p W' j v:=by
 intro p W W' j v O h
 unfold DP at h ⊢
 split
 ·next hk=>rw [hk] at h; exact h
 ·next hk=>rw [hk] at h; intro hp; obtain ⟨ad,cp,G,D⟩:=h hp; exact ⟨ad,cp,G,zh D O hb⟩
 ·next hk=>rw [hk] at h; obtain ⟨aq,cq,ag,cg,G,D,h3⟩:=h; exact ⟨aq,cq,ag,cg,G,zj D O,zI h3 O⟩
 ·next hk=>rw [hk] at h; obtain ⟨aq,cq,G,D⟩:=h; exact ⟨aq,cq,G,zj D O⟩
 ·next hk=>rw [hk] at h; obtain ⟨ag,cg,G,D⟩:=h; exact ⟨ag,cg,G,zI D O⟩
 ·next hk=>rw [hk] at h; obtain ⟨b,G,D,h3,h4,⟨xp,h5⟩,h6⟩:=h; exact ⟨b,G,D,yH h3 O.size,ze h4 O h3,⟨xp,(O.block b h3).trans h5⟩,fun hp=>by obtain ⟨aq,cq,h7,h8⟩:=h6 hp; exact ⟨aq,cq,zb h7 O h3,zj h8 O⟩⟩
 ·trivial
theorem dp_store {b:Nat} {aq:Option Addr} {cq:Nat} (hS:S ≤ b) (xE:W.there b 0 2) (xI:b < W.heap.size) (vp:∃ xp,W.heap[b]? = some (.cells xp 28 (0,0))) (Z:ORow W S (.slice aq tg.length cq) tg) (h5:ks.lookup j = some 5→v = I b 0) (h:DP vs ks S n eD l tg hR False W j v):DP vs ks S n eD l tg hR True (W.setCells b 0 [H eD,.slice aq tg.length cq]) j v:=by
 have hO:∀ {v tg},ORow W S v tg→ORow (W.setCells b 0 [H eD,.slice aq tg.length cq]) S v tg:=fun h=>bJ (zl h vp (by decide)) _ _ _ h
 have hO':∀ {v:Value} {L':List Od},ORow W S v L'→ORow (W.setCells b 0 [H eD,.slice aq tg.length cq]) S v L':=fun h=>bJ (zl h vp (by decide)) _ _ _ h
 have hE:∀ {v:Value} {E':List Ev},ERow W S v E'→ERow (W.setCells b 0 [H eD,.slice aq tg.length cq]) S v E':=fun h=>bJ (zl h vp (by decide)) _ _ _ h
 unfold DP at h ⊢
 split
 ·next hk=>rw [hk] at h; exact h
 ·next hk=>intro hp; exact absurd trivial hp
 ·next hk=>rw [hk] at h; obtain ⟨aq,cq,ag,cg,G,D,h3⟩:=h; exact ⟨aq,cq,ag,cg,G,hO' D,hE h3⟩
 ·next hk=>rw [hk] at h; obtain ⟨aq,cq,G,D⟩:=h; exact ⟨aq,cq,G,hO' D⟩
 ·next hk=>rw [hk] at h; obtain ⟨ag,cg,G,D⟩:=h; exact ⟨ag,cg,G,hE D⟩
 ·next hk =>
  refine ⟨b,h5 hk,hS,by rw [bK]; exact xI,yZ xE _ _ _,?_,fun _=>⟨aq,cq,yV W b 0 _ (fun j K=>xE j K),hO' Z⟩⟩
  obtain ⟨xp,hc⟩:=vp
  exact kind_setC W b _ 0 hc
 ·trivial
end
theorem grs_rd {W:World} {B:Nat} {gv:Value} {gs:List Value} {gl:List (List Ev)} (hg:GRow W B gv gs) (hl:gs.length = gl.length) (he:∀ (i:Nat) (g:Value) (es:List Ev),gs[i]? = some g→gl[i]? = some es→ERow W B g es) (hn:gl.length ≤ 1000) (hm:∀ es ∈ gl,es.length ≤ 1000):RdG W gv gl:=by
 rcases hg.2 with ⟨e,h0⟩ | ⟨g',A,xp,e,O,jV,h4,h5,h6,h7⟩
 ·refine ⟨none,0,?_,by omega,fun xA=>absurd (List.length_eq_zero_iff.1 (by omega)) xA⟩
  have:gl.length = 0:=by omega
  rw [e,this]
 ·refine ⟨some (J g' 0),A,by rw [e,hl],by omega,fun _=>⟨g',0,rfl,(yW.1 jV).1,fun i es hi=>?_⟩⟩
  have xI:i < gs.length:=by rw [hl]; exact (yE.1 hi).1
  obtain ⟨g,qk⟩:∃ g,gs[i]? = some g:=⟨_,yF xI⟩
  refine ⟨g,?_,cw (bB Ev.len (by have:=hm es (yM hi); omega) (he i g es qk hi))⟩
  rw [cell_of_row W g' (0 + i) xp _ (0,0) jV]
  have h8:=congrArg (fun l=>l[i]?) h7
  simp [qk,List.getElem?_take] at h8
  simpa using h8.2
structure LG (w W:World) (gv:Value) (gs:List Value) (vq:Value) (s:RunSt):Prop where
 r:W.rangeAt (w.heap.size + 1) 0 [gv,.int .i64 s.n,vq,.int .i64 0,.int .i64 0,.int .i64 0,.int .i64 0,.int .i64 0,.int .i64 0,.int .i64 0,.int .i64 0]
 t:W.there (w.heap.size + 1) 0 11
 o:W.there w.heap.size 0 11
 bx:∃ cur,W.heap[w.heap.size + 1]? = some (.cells cur 32 (0,0))
 g:GRow W (w.heap.size + 1 + 1) gv gs
 gl:gs.length = s.g.length
 ge:∀ (i:Nat) (g:Value) (es:List Ev),gs[i]? = some g→s.g[i]? = some es→ERow W (w.heap.size + 1 + 1) g es
 q:ORow W (w.heap.size + 1 + 1) vq s.l
 b:Below w.heap.size w W
 z:w.heap.size + 1 + 1 ≤ W.heap.size
theorem lg_below {w W V:World} {gv:Value} {gs:List Value} {vq:Value} {s:RunSt} (h:LG w W gv gs vq s) (O:ym W V):LG w V gv gs vq s:=by
 have hz:=h.z
 have hk:∀ {e sz n:Nat} {v:Value} {xs:List Value},W.ownsRow (w.heap.size + 1 + 1) e sz v n xs→V.ownsRow (w.heap.size + 1 + 1) e sz v n xs:=fun {e sz n v xs} hr=>World.ownsRow.kept (row:=none) hr (aO O hb) (by cases v.ownBlock <;> simp)
 refine ⟨zb h.r O (by omega),ze h.t O (by omega),ze h.o O (by omega),?_,hk h.g,h.gl,fun i g es hg he=>hk (h.ge i g es hg he),hk h.q,h.b.trans (O.mono h.b.size),yL hz O.size⟩
 obtain ⟨xp,hc⟩:=h.bx
 exact ⟨xp,(O.block _ (by omega)).trans hc⟩
theorem lg_book {w W:World} {gv:Value} {gs:List Value} {vq vw:Value} {s:RunSt} (h:LG w W gv gs vq s) (eD:Int) (tg:List Od) (Z:ORow W (w.heap.size + 1 + 1) vw tg):LG w ((W.setCell (J (w.heap.size + 1) 1) (H eD)).setCell (J (w.heap.size + 1) 2) vw) gv gs vw ⟨eD,tg,s.g,s.t⟩:=by
 have hk:∀ {e sz n:Nat} {v:Value} {xs:List Value},32 ≠ e→W.ownsRow (w.heap.size + 1 + 1) e sz v n xs→World.ownsRow ((W.setCell (J (w.heap.size + 1) 1) (H eD)).setCell (J (w.heap.size + 1) 2) vw) (w.heap.size + 1 + 1) e sz v n xs:=fun {e sz n v xs} xA hr=>zw (zw hr (zl hr h.bx xA) 1 _) (zl hr h.bx xA) 2 _
 have r1:=bZ (j:=1) (u:=H eD) h.r (by simp)
 have r2:=bZ (j:=2) (u:=vw) r1 (by simp)
 refine ⟨r2,zD (zD h.t),zD (zD h.o),?_,hk (by decide) h.g,h.gl,fun i g es hg he=>hk (by decide) (h.ge i g es hg he),hk (by decide) Z,(h.b.setCell (p:=(J (w.heap.size + 1) 1)) (show w.heap.size ≤ w.heap.size + 1 by omega) _).setCell (p:=(J (w.heap.size + 1) 2)) (show w.heap.size ≤ w.heap.size + 1 by omega) _,by simp only [World.setCell,Array.size_modify]; exact h.z⟩
 obtain ⟨xp,hc⟩:=h.bx
 obtain ⟨c1,G⟩:=zS W (w.heap.size + 1) 1 (H eD) hc
 exact zS _ (w.heap.size + 1) 2 vw G
theorem lg_group {w W V:World} {gv qz g0:Value} {gs:List Value} {vq:Value} {n:Int} {l:List Od} {gl:List (List Ev)} {t:Tot} {hR:List Ev} (h:LG w W gv gs vq ⟨n,l,gl,t⟩) (he:ERow W (w.heap.size + 1 + 1) g0 hR) (hg:GRow V (w.heap.size + 1 + 1) qz (gs ++ [g0])) (uc:W.grownBy V gv.ownBlock):LG w (V.setCell (J (w.heap.size + 1) 0) qz) qz (gs ++ [g0]) vq ⟨n,l,gl ++ [hR],t⟩:=by
 have hz:=h.z
 have hnm:some (w.heap.size + 1) ≠ gv.ownBlock:=zl h.g h.bx (by decide)
 have hn0:some w.heap.size ≠ gv.ownBlock:=fun e=>by have:=(h.g.lt _ e.symm).1; omega
 have vp:∃ xp,V.heap[w.heap.size + 1]? = some (.cells xp 32 (0,0)):=by
  obtain ⟨xp,hc⟩:=h.bx
  exact ⟨xp,(uc.block _ (by omega) hnm).trans hc⟩
 have hk:∀ {e sz m:Nat} {v:Value} {xs:List Value},32 ≠ e→38 ≠ e→W.ownsRow (w.heap.size + 1 + 1) e sz v m xs→World.ownsRow (V.setCell (J (w.heap.size + 1) 0) qz) (w.heap.size + 1 + 1) e sz v m xs:=fun {e sz m v xs} G D hr =>
  have h3:V.ownsRow (w.heap.size + 1 + 1) e sz v m xs:=World.ownsRow.kept hr uc (zC hr h.g (fun e'=>D e'.symm))
  zw h3 (zl h3 vp G) 0 _
 have r0:=bZ (j:=0) (u:=qz) (zu h.r uc (by omega) hnm) (by simp)
 refine ⟨r0,zD (bw h.t uc (by omega) hnm),zD (bw h.o uc (by omega) hn0),?_,zw hg (zl hg vp (by decide)) 0 _,by simp [h.gl],?_,hk (by decide) (by decide) h.q,?_,by simp only [World.setCell,Array.size_modify]; exact yL hz uc.size⟩
 ·obtain ⟨xp,hc⟩:=vp
  exact zS V (w.heap.size + 1) 0 qz hc
 ·intro i g es qk vQ
  have oD:gs.length = gl.length:=h.gl
  by_cases hi:i < gs.length
  ·rw [List.getElem?_append_left hi] at qk
   rw [List.getElem?_append_left (by omega)] at vQ
   exact hk (by decide) (by decide) (h.ge i g es qk vQ)
  ·rw [List.getElem?_append_right (by omega)] at qk
   rw [List.getElem?_append_right (by omega)] at vQ
   rw [oD] at qk
   cases hd:i - gl.length with
   | zero=>rw [hd] at qk vQ; cases qk; cases vQ; exact hk (by decide) (by decide) he
   | succ d=>rw [hd] at qk; simp at qk
 ·have hb0:ym w V:=⟨uc.os.trans h.b.os,uc.tape.trans h.b.tape,uc.output.trans h.b.output,yL h.b.size uc.size,fun k kR=>(uc.block k (by omega) (fun e=>by have:=(h.g.lt _ e.symm).1; omega)).trans (h.b.block k kR)⟩
  exact hb0.setCell (p:=(J (w.heap.size + 1) 0)) (show w.heap.size ≤ w.heap.size + 1 by omega) _
end Go.Proofs.YtbakanofkghmiaaGreat
