/-
  A command done on a book, by the model, whichever way it goes: put together.
-/
import Derived.Test.YtdliebbfcmdmaaaGreatMj41
import Derived.Test.YtdliebbfcmdmaaaGreatMj43
import Derived.Test.YtdliebbfcmdmaaaGreatMj44
import Derived.Test.YtdliebbfcmdmaaaGreatMj45
import Derived.Test.YtdliebbfcmdmaaaGreatMj46
set_option linter.unusedVariables false
set_option maxHeartbeats 6400000
set_option maxRecDepth 100000
namespace Go.Proofs.YtdliebbfcmdmaaaGreat
open Go.RowKit
theorem l04Step_any (next:Int) (vb:Value) (l:List Od) (c:Cm) (w:World) (hr:RdR Od.vs 6 w vb l) (hs:SlOk vb) (hg:GoodL l) (uF:∀ x ∈ l,x.side = 1 ∨ x.side = 2) (h0:0 ≤ next) (Q:next ≤ 1000000) (ht:c.g.size ≤ maxLen) :
  Calls Tryz.prog 36 #[.agg #[H next,vb],cmV c] w fun e w'=>∃ vq vg,e = ym (.tuple #[.agg #[H (stN next l c),vq],vg])∧ORow w' w.heap.size vq (stL next l c)∧ERow w' w.heap.size vg (stE next l c)∧yn w w':=by
 by_cases vf:refR next l c = 0
 ·rcases cN vf with hk | hk | hk | hk
  ·exact l04Step_a next vb l c w ⟨vf,hk⟩ hr hs hg uF h0 Q ht
  ·exact l04Step_c next vb l c w ⟨vf,hk⟩ hr hs hg uF h0 Q ht
  ·exact l04Step_d next vb l c w ⟨vf,hk⟩ hr hs hg uF h0 Q ht
  ·exact l04Step_y next vb l c w ⟨vf,hk⟩ hr hs hg uF h0 Q ht
 ·exact l04Step_r next vb l c w vf hr hs hg uF h0 Q ht

theorem look_only {d i:Nat}:∀ {ks:List (Nat × Nat)} {j:Nat},ks.lookup j = some d→ks.all (fun p=>p.2 != d || p.1 == i) = true→j = i
 | [],_,h,_=>by cases h
 | (a,b) :: r,j,h,D=>by
  rw [List.lookup_cons] at h
  simp only [List.all_cons,xe] at D
  by_cases e:j = a
  ·subst e
   simp at h
   subst h
   have:=D.1
   simp at this
   exact this
  ·have:(j == a) = false:=by rw [xd]; exact e
   rw [this] at h
   exact look_only h D.2
theorem hit_len {l:List Od} {k:Nat} {o:Od} {q:Int}:(az l k o q).length ≤ l.length:=by
 rw [az]
 split
 ·simp only [yP,List.length_take,List.length_drop]; omega
 ·simp
theorem stL_len {next:Int} {l:List Od} {c:Cm} (hg:GoodL l):(stL next l c).length ≤ 100:=by
 have hl:=hg.len
 rw [stL]
 split
 ·next hr =>
  split
  ·next hk =>
   have hq:=bY hr hk
   have Q:=(bV (c:=c) (id:=next) 21 l c.q [] hg (by omega) hq.2).1.len
   rw [accL]
   split
   ·simp; omega
   ·omega
  ·split
   ·split
    ·have:=@hit_len l (plc l c.i).toNat; rename_i o _; have:=@hit_len l (plc l c.i).toNat o o.left; omega
    ·omega
   ·split
    ·split
     ·simp; omega
     ·omega
    ·exact yN (List.length_filter_le _ _) (by omega)
 ·omega
theorem stE_len {next:Int} {l:List Od} {c:Cm} (hg:GoodL l):(stE next l c).length ≤ 100:=by
 have hl:=hg.len
 rw [stE]
 split
 ·split
  ·have Q:=dh (c:=c) (id:=next) 21 l c.q []
   rw [accE]
   simp only [yP,List.length_cons,List.length_nil] at Q ⊢
   split <;> simp <;> omega
  ·split
   ·split <;> simp
   ·split
    ·simp
    ·have Q:(l.filter dyB).length ≤ 20:=yN (List.length_filter_le _ _) hl
     simp only [List.length_cons,List.length_map]; omega
 ·simp
section
variable {vs:List Value} {ks:List (Nat × Nat)} {S:Nat} {n h2 rc:Int} {l hb:List Od} {eg:List Ev} {p:Prop} {W W':World} {j d:Nat} {v u:Value}
end
theorem rg_write2 {base W W':World} {k:Nat} {xj:Prop→World→Nat→Value→Prop} {x:List Bool} {f:Nat→Value} (L:yn base W') (h:∀ j,x[j]? = some true→xj (x[k]? = some true) W j (f j)) (hk:x[k]? = some false) (hm:∀ j,j ≠ k→x[j]? = some true→xj False W j (f j)→xj True W' j (f j)) (hv:xj True W' k (f k)) :
  yn base W'∧∀ j,(x.set k true)[j]? = some true→xj ((x.set k true)[k]? = some true) W' j (f j):=by
 have e:((x.set k true)[k]? = some true) = True:=by
  rw [List.getElem?_set_self (yG.1 hk).1]; simp
 refine ⟨L,fun j R=>?_⟩
 rw [e]
 by_cases hji:j = k
 ·subst hji; exact hv
 ·rw [yW (fun e=>hji e.symm)] at R
  refine hm j hji R ?_
  have:=h j R
  rw [hk] at this
  simpa using this
def DP (vs:List Value) (ks:List (Nat × Nat)) (S:Nat) (n h2:Int) (l hb:List Od) (eg:List Ev) (p:Prop) (W:World) (j:Nat) (v:Value):Prop :=
 match ks.lookup j with
 | none=>∀ u,vs[j]? = some u→v = u
 | some 1=>¬ p→∃ ad cp,v = .agg #[H n,.slice (some ad) l.length cp]∧RdR Od.vs 6 W (.slice (some ad) l.length cp) l
 | some 2=>∃ aq cq ag cg,v = .tuple #[.agg #[H h2,.slice aq hb.length cq],.slice ag eg.length cg]∧ORow W S (.slice aq hb.length cq) hb∧ERow W S (.slice ag eg.length cg) eg
 | some 3=>∃ aq cq,v = .agg #[H h2,.slice aq hb.length cq]∧ORow W S (.slice aq hb.length cq) hb
 | some 4=>∃ ag cg,v = .slice ag eg.length cg∧ERow W S (.slice ag eg.length cg) eg
 | some 5=>∃ b,v = I b 0∧S ≤ b∧b < W.heap.size∧W.there b 0 2∧(∃ xr,W.heap[b]? = some (.cells xr 31 (0,0)))∧(p→∃ aq cq,W.rangeAt b 0 [H h2,.slice aq hb.length cq]∧ORow W S (.slice aq hb.length cq) hb)
 | some _=>True
section
variable {vs:List Value} {ks:List (Nat × Nat)} {S:Nat} {n h2:Int} {l hb:List Od} {eg:List Ev} {p:Prop} {W W':World} {j d:Nat} {v u:Value}
theorem dp_val (h:DP vs ks S n h2 l hb eg p W j v) (hk:ks.lookup j = none) (hu:vs[j]? = some u):v = u:=by
 rw [DP,hk] at h; exact h u hu
theorem dp_mkv (hk:ks.lookup j = none) (hu:vs[j]? = some v):DP vs ks S n h2 l hb eg p W j v:=by
 rw [DP,hk]; intro u h; rw [hu] at h; cases h; rfl
theorem dp_2 (h:DP vs ks S n h2 l hb eg p W j v) (hk:ks.lookup j = some 2):∃ aq cq ag cg,v = .tuple #[.agg #[H h2,.slice aq hb.length cq],.slice ag eg.length cg]∧ORow W S (.slice aq hb.length cq) hb∧ERow W S (.slice ag eg.length cg) eg:=by
 rw [DP,hk] at h; exact h
theorem dp_mk2 (hk:ks.lookup j = some 2) (h:∃ aq cq ag cg,v = .tuple #[.agg #[H h2,.slice aq hb.length cq],.slice ag eg.length cg]∧ORow W S (.slice aq hb.length cq) hb∧ERow W S (.slice ag eg.length cg) eg):DP vs ks S n h2 l hb eg p W j v:=by
 rw [DP,hk]; exact h
theorem dp_3 (h:DP vs ks S n h2 l hb eg p W j v) (hk:ks.lookup j = some 3):∃ aq cq,v = .agg #[H h2,.slice aq hb.length cq]∧ORow W S (.slice aq hb.length cq) hb:=by
 rw [DP,hk] at h; exact h
theorem dp_mk3 (hk:ks.lookup j = some 3) (h:∃ aq cq,v = .agg #[H h2,.slice aq hb.length cq]∧ORow W S (.slice aq hb.length cq) hb):DP vs ks S n h2 l hb eg p W j v:=by
 rw [DP,hk]; exact h
theorem dp_4 (h:DP vs ks S n h2 l hb eg p W j v) (hk:ks.lookup j = some 4):∃ ag cg,v = .slice ag eg.length cg∧ERow W S (.slice ag eg.length cg) eg:=by
 rw [DP,hk] at h; exact h
theorem dp_mk4 (hk:ks.lookup j = some 4) (h:∃ ag cg,v = .slice ag eg.length cg∧ERow W S (.slice ag eg.length cg) eg):DP vs ks S n h2 l hb eg p W j v:=by
 rw [DP,hk]; exact h
theorem dp_5 (h:DP vs ks S n h2 l hb eg p W j v) (hk:ks.lookup j = some 5):∃ b,v = I b 0∧S ≤ b∧b < W.heap.size∧W.there b 0 2∧(∃ xr,W.heap[b]? = some (.cells xr 31 (0,0)))∧(p→∃ aq cq,W.rangeAt b 0 [H h2,.slice aq hb.length cq]∧ORow W S (.slice aq hb.length cq) hb):=by
 rw [DP,hk] at h; exact h
theorem dp_mk5 (hk:ks.lookup j = some 5) (hp:¬ p) (hS:S ≤ W.heap.size):DP vs ks S n h2 l hb eg p (W.alloc (E #[H 0,.slice none 0 0] 31)) j (yp W 0):=by
 rw [DP,hk]; exact ⟨W.heap.size,rfl,hS,by rw [ze]; omega,zu W [H 0,.slice none 0 0] _,⟨_,heap_alloc_new W _⟩,fun h=>absurd h hp⟩
theorem dp_mk9 (hk:ks.lookup j = some 9):DP vs ks S n h2 l hb eg p W j v:=by rw [DP,hk]; trivial
theorem dp_grow:∀ p W W' j v,yn W W'→DP vs ks S n h2 l hb eg p W j v→DP vs ks S n h2 l hb eg p W' j v:=by
 intro p W W' j v L h
 unfold DP at h ⊢
 split
 ·next hk=>rw [hk] at h; exact h
 ·next hk=>rw [hk] at h; intro hp; obtain ⟨ad,cp,Q,N⟩:=h hp; exact ⟨ad,cp,Q,zl N L tg⟩
 ·next hk=>rw [hk] at h; obtain ⟨aq,cq,ag,cg,Q,N,h3⟩:=h; exact ⟨aq,cq,ag,cg,Q,zk N L,zG h3 L⟩
 ·next hk=>rw [hk] at h; obtain ⟨aq,cq,Q,N⟩:=h; exact ⟨aq,cq,Q,zk N L⟩
 ·next hk=>rw [hk] at h; obtain ⟨ag,cg,Q,N⟩:=h; exact ⟨ag,cg,Q,zG N L⟩
 ·next hk=>rw [hk] at h; obtain ⟨b,Q,N,h3,h4,⟨xr,h5⟩,h6⟩:=h; exact ⟨b,Q,N,yJ h3 L.size,zf h4 L h3,⟨xr,(L.block b h3).trans h5⟩,fun hp=>by obtain ⟨aq,cq,h7,h8⟩:=h6 hp; exact ⟨aq,cq,zb h7 L h3,zk h8 L⟩⟩
 ·trivial
theorem dp_store {b:Nat} {aq:Option Addr} {cq:Nat} (hS:S ≤ b) (xG:W.there b 0 2) (xK:b < W.heap.size) (qZ:∃ xr,W.heap[b]? = some (.cells xr 31 (0,0))) (Z:ORow W S (.slice aq hb.length cq) hb) (h5:ks.lookup j = some 5→v = I b 0) (h:DP vs ks S n h2 l hb eg False W j v):DP vs ks S n h2 l hb eg True (W.setCells b 0 [H h2,.slice aq hb.length cq]) j v:=by
 have hO:∀ {v hb},ORow W S v hb→ORow (W.setCells b 0 [H h2,.slice aq hb.length cq]) S v hb:=fun h=>ch (zj h qZ (by decide)) _ _ _ h
 have hO':∀ {v:Value} {L':List Od},ORow W S v L'→ORow (W.setCells b 0 [H h2,.slice aq hb.length cq]) S v L':=fun h=>ch (zj h qZ (by decide)) _ _ _ h
 have hE:∀ {v:Value} {E':List Ev},ERow W S v E'→ERow (W.setCells b 0 [H h2,.slice aq hb.length cq]) S v E':=fun h=>ch (zj h qZ (by decide)) _ _ _ h
 unfold DP at h ⊢
 split
 ·next hk=>rw [hk] at h; exact h
 ·next hk=>intro hp; exact absurd trivial hp
 ·next hk=>rw [hk] at h; obtain ⟨aq,cq,ag,cg,Q,N,h3⟩:=h; exact ⟨aq,cq,ag,cg,Q,hO' N,hE h3⟩
 ·next hk=>rw [hk] at h; obtain ⟨aq,cq,Q,N⟩:=h; exact ⟨aq,cq,Q,hO' N⟩
 ·next hk=>rw [hk] at h; obtain ⟨ag,cg,Q,N⟩:=h; exact ⟨ag,cg,Q,hE N⟩
 ·next hk =>
  refine ⟨b,h5 hk,hS,by rw [bM]; exact xK,xb xG _ _ _,?_,fun _=>⟨aq,cq,yX W b 0 _ (fun j R=>xG j R),hO' Z⟩⟩
  obtain ⟨xr,hc⟩:=qZ
  exact kind_setC W b _ 0 hc
 ·trivial
end
theorem grs_rd {W:World} {B:Nat} {gv:Value} {gs:List Value} {gl:List (List Ev)} (hg:GRow W B gv gs) (hl:gs.length = gl.length) (he:∀ (i:Nat) (g:Value) (es:List Ev),gs[i]? = some g→gl[i]? = some es→ERow W B g es) (hn:gl.length ≤ 1000) (hm:∀ es ∈ gl,es.length ≤ 1000):RdG W gv gl:=by
 rcases hg.2 with ⟨e,h0⟩ | ⟨g',A,xr,e,L,kM,h4,h5,h6,h7⟩
 ·refine ⟨none,0,?_,by omega,fun xB=>absurd (List.length_eq_zero_iff.1 (by omega)) xB⟩
  have:gl.length = 0:=by omega
  rw [e,this]
 ·refine ⟨some (J g' 0),A,by rw [e,hl],by omega,fun _=>⟨g',0,rfl,(yY.1 kM).1,fun i es hi=>?_⟩⟩
  have xK:i < gs.length:=by rw [hl]; exact (yG.1 hi).1
  obtain ⟨g,vV⟩:∃ g,gs[i]? = some g:=⟨_,yH xK⟩
  refine ⟨g,?_,ownR_rd (bS Ev.len (by have:=hm es (yO hi); omega) (he i g es vV hi))⟩
  rw [cell_of_row W g' (0 + i) xr _ (0,0) kM]
  have h8:=congrArg (fun l=>l[i]?) h7
  simp [vV,List.getElem?_take] at h8
  simpa using h8.2
structure LG (w W:World) (gv:Value) (gs:List Value) (vq:Value) (s:RunSt):Prop where
 r:W.rangeAt (w.heap.size + 1) 0 [gv,.int .i64 s.n,vq,.int .i64 0,.int .i64 0,.int .i64 0,.int .i64 0,.int .i64 0,.int .i64 0,.int .i64 0,.int .i64 0]
 t:W.there (w.heap.size + 1) 0 11
 o:W.there w.heap.size 0 11
 bx:∃ cur,W.heap[w.heap.size + 1]? = some (.cells cur 35 (0,0))
 g:GRow W (w.heap.size + 1 + 1) gv gs
 gl:gs.length = s.g.length
 ge:∀ (i:Nat) (g:Value) (es:List Ev),gs[i]? = some g→s.g[i]? = some es→ERow W (w.heap.size + 1 + 1) g es
 q:ORow W (w.heap.size + 1 + 1) vq s.l
 b:Below w.heap.size w W
 z:w.heap.size + 1 + 1 ≤ W.heap.size
theorem lg_below {w W V:World} {gv:Value} {gs:List Value} {vq:Value} {s:RunSt} (h:LG w W gv gs vq s) (L:yn W V):LG w V gv gs vq s:=by
 have hz:=h.z
 have hk:∀ {e sz n:Nat} {v:Value} {xs:List Value},W.ownsRow (w.heap.size + 1 + 1) e sz v n xs→V.ownsRow (w.heap.size + 1 + 1) e sz v n xs:=fun {e sz n v xs} hr=>World.ownsRow.kept (row:=none) hr (zX L tg) (by cases v.ownBlock <;> simp)
 refine ⟨zb h.r L (by omega),zf h.t L (by omega),zf h.o L (by omega),?_,hk h.g,h.gl,fun i g es hg he=>hk (h.ge i g es hg he),hk h.q,h.b.trans (L.mono h.b.size),yN hz L.size⟩
 obtain ⟨xr,hc⟩:=h.bx
 exact ⟨xr,(L.block _ (by omega)).trans hc⟩
theorem lg_book {w W:World} {gv:Value} {gs:List Value} {vq vw:Value} {s:RunSt} (h:LG w W gv gs vq s) (h2:Int) (hb:List Od) (Z:ORow W (w.heap.size + 1 + 1) vw hb):LG w ((W.setCell (J (w.heap.size + 1) 1) (H h2)).setCell (J (w.heap.size + 1) 2) vw) gv gs vw ⟨h2,hb,s.g,s.t⟩:=by
 have hk:∀ {e sz n:Nat} {v:Value} {xs:List Value},35 ≠ e→W.ownsRow (w.heap.size + 1 + 1) e sz v n xs→World.ownsRow ((W.setCell (J (w.heap.size + 1) 1) (H h2)).setCell (J (w.heap.size + 1) 2) vw) (w.heap.size + 1 + 1) e sz v n xs:=fun {e sz n v xs} xB hr=>zr (zr hr (zj hr h.bx xB) 1 _) (zj hr h.bx xB) 2 _
 have r1:=bW (j:=1) (u:=H h2) h.r (by simp)
 have r2:=bW (j:=2) (u:=vw) r1 (by simp)
 refine ⟨r2,zB (zB h.t),zB (zB h.o),?_,hk (by decide) h.g,h.gl,fun i g es hg he=>hk (by decide) (h.ge i g es hg he),hk (by decide) Z,(h.b.setCell (p:=(J (w.heap.size + 1) 1)) (show w.heap.size ≤ w.heap.size + 1 by omega) _).setCell (p:=(J (w.heap.size + 1) 2)) (show w.heap.size ≤ w.heap.size + 1 by omega) _,by simp only [World.setCell,Array.size_modify]; exact h.z⟩
 obtain ⟨xr,hc⟩:=h.bx
 obtain ⟨c1,Q⟩:=zM W (w.heap.size + 1) 1 (H h2) hc
 exact zM _ (w.heap.size + 1) 2 vw Q
theorem lg_group {w W V:World} {gv qx g0:Value} {gs:List Value} {vq:Value} {n:Int} {l:List Od} {gl:List (List Ev)} {t:Tot} {eg:List Ev} (h:LG w W gv gs vq ⟨n,l,gl,t⟩) (he:ERow W (w.heap.size + 1 + 1) g0 eg) (hg:GRow V (w.heap.size + 1 + 1) qx (gs ++ [g0])) (ub:W.grownBy V gv.ownBlock):LG w (V.setCell (J (w.heap.size + 1) 0) qx) qx (gs ++ [g0]) vq ⟨n,l,gl ++ [eg],t⟩:=by
 have hz:=h.z
 have hnm:some (w.heap.size + 1) ≠ gv.ownBlock:=zj h.g h.bx (by decide)
 have hn0:some w.heap.size ≠ gv.ownBlock:=fun e=>by have:=(h.g.lt _ e.symm).1; omega
 have qZ:∃ xr,V.heap[w.heap.size + 1]? = some (.cells xr 35 (0,0)):=by
  obtain ⟨xr,hc⟩:=h.bx
  exact ⟨xr,(ub.block _ (by omega) hnm).trans hc⟩
 have hk:∀ {e sz m:Nat} {v:Value} {xs:List Value},35 ≠ e→39 ≠ e→W.ownsRow (w.heap.size + 1 + 1) e sz v m xs→World.ownsRow (V.setCell (J (w.heap.size + 1) 0) qx) (w.heap.size + 1 + 1) e sz v m xs:=fun {e sz m v xs} Q N hr =>
  have h3:V.ownsRow (w.heap.size + 1 + 1) e sz v m xs:=World.ownsRow.kept hr ub (zA hr h.g (fun e'=>N e'.symm))
  zr h3 (zj h3 qZ Q) 0 _
 have r0:=bW (j:=0) (u:=qx) (zq h.r ub (by omega) hnm) (by simp)
 refine ⟨r0,zB (zZ h.t ub (by omega) hnm),zB (zZ h.o ub (by omega) hn0),?_,zr hg (zj hg qZ (by decide)) 0 _,by simp [h.gl],?_,hk (by decide) (by decide) h.q,?_,by simp only [World.setCell,Array.size_modify]; exact yN hz ub.size⟩
 ·obtain ⟨xr,hc⟩:=qZ
  exact zM V (w.heap.size + 1) 0 qx hc
 ·intro i g es vV vi
  have kX:gs.length = gl.length:=h.gl
  by_cases hi:i < gs.length
  ·rw [List.getElem?_append_left hi] at vV
   rw [List.getElem?_append_left (by omega)] at vi
   exact hk (by decide) (by decide) (h.ge i g es vV vi)
  ·rw [List.getElem?_append_right (by omega)] at vV
   rw [List.getElem?_append_right (by omega)] at vi
   rw [kX] at vV
   cases hd:i - gl.length with
   | zero=>rw [hd] at vV vi; cases vV; cases vi; exact hk (by decide) (by decide) he
   | succ d=>rw [hd] at vV; simp at vV
 ·have hb0:yn w V:=⟨ub.os.trans h.b.os,ub.tape.trans h.b.tape,ub.output.trans h.b.output,yN h.b.size ub.size,fun k kY=>(ub.block k (by omega) (fun e=>by have:=(h.g.lt _ e.symm).1; omega)).trans (h.b.block k kY)⟩
  exact hb0.setCell (p:=(J (w.heap.size + 1) 0)) (show w.heap.size ≤ w.heap.size + 1 by omega) _
end Go.Proofs.YtdliebbfcmdmaaaGreat
