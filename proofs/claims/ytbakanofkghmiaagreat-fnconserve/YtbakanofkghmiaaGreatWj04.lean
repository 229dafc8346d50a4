/-
  A tree of levels in memory: one block of 318 cells; what a write turns; no function walked.
-/
import Derived.Test.YtbakanofkghmiaaGreatWj03
import Derived.Deep.RegionWith
import Derived.Deep.LoopGhost
import Derived.BigRegion
set_option linter.unusedVariables false
set_option maxHeartbeats 6400000
set_option maxRecDepth 100000
namespace Go.Proofs.YtbakanofkghmiaaGreat
open Go.RowKit
def Od.vs (o:Od):List Value:=(yv o.id o.side o.ticks o.left o.life o.tag)
theorem Od.len (o:Od):o.vs.length = 6:=rfl
def Od.val (o:Od):Value:=.agg (yv o.id o.side o.ticks o.left o.life o.tag).toArray
def Nd.vs (n:Nd):List Value:=[H n.side,H n.ticks,H n.qty,H n.count,H n.be,H n.wo,H n.el,H n.yo]
def Qo.vs (q:Qo):List Value:=[H q.od.id,H q.od.side,H q.od.ticks,H q.od.left,H q.od.life,yk q.od.tag,H q.yg]
structure TM (T:TypeId) (w:World) (b:Nat) (S:TS):Prop where
  root:w.cell? ⟨b,0,none⟩ = some (.int .i64 S.root)
  lc:w.cell? ⟨b,1,none⟩ = some (.int .i64 S.lc)
  nd:∀ i,i < 21→w.rangeAt b (2 + i * 8) (S.nd i).vs
  oc:w.cell? ⟨b,170,none⟩ = some (.int .i64 S.oc)
  qo:∀ i,i < 21→w.rangeAt b (171 + i * 7) (S.qo i).vs
  fr:∀ o,w.frozen? ⟨b,o,none⟩ = false
  obj:∃ cur,w.heap[b]? = some (.cells cur T (0,0))
theorem obj_set {w:World} {b o:Nat} {v:Value} {T:TypeId} (h:∃ xr,w.heap[b]? = some (.cells xr T (0,0))):∃ xr,(w.setCell (J b o) v).heap[b]? = some (.cells xr T (0,0)):=by
  obtain ⟨xr,h⟩:=h
  exact ⟨xr.setIfInBounds o v,by simp [World.setCell,Array.getElem?_modify,h]⟩
theorem tm_lt {w:World} {b:Nat} {S:TS} {T:TypeId} (h:TM T w b S):b < w.heap.size:=yK w _ h.root
theorem bu {w w':World} {b:Nat} {S:TS} {T:TypeId} (h:TM T w b S) (F:w'.heap[b]? = w.heap[b]?):TM T w' b S :=
  ⟨(yQ (a:=(J b 0)) F).trans h.root,(yQ (a:=(J b 1)) F).trans h.lc,
   fun i hi j v hv=>(yQ (a:=(J b (2 + i * 8 + j))) F).trans (h.nd i hi j v hv),(yQ (a:=(J b 170)) F).trans h.oc,
   fun i hi j v hv=>(yQ (a:=(J b (171 + i * 7 + j))) F).trans (h.qo i hi j v hv),fun o=>(World.frozen?_of_block (a:=(J b o)) F).trans (h.fr o),by rw [F]; exact h.obj⟩
theorem cY {w w':World} {b C:Nat} {S:TS} {T:TypeId} (h:TM T w b S) (F:Below C w w') (hC:b < C):TM T w' b S:=bu h (F.block b hC)
theorem dH {w w':World} {b:Nat} {h1:Option Nat} {S:TS} {T:TypeId} (h:TM T w b S) (hg:w.grownBy w' h1) (xB:some b ≠ h1):TM T w' b S:=bu h (hg.block b (tm_lt h) xB)
theorem cB {w:World} {b o n:Nat} {v:Value} {cs:List Value} (h:w.rangeAt b o cs) (hn:n < o ∨ o + cs.length ≤ n):(w.setCell (J b n) v).rangeAt b o cs:=fun j u hu=>by
  have K:=(yG.1 hu).1
  rw [yL _ _ _ _ (zP (by omega))]
  exact h j u hu
theorem ek {w:World} {b o j0:Nat} {v:Value} {cs:List Value} (h:w.rangeAt b o cs) (jj:j0 < cs.length):(w.setCell (J b (o + j0)) v).rangeAt b o (cs.set j0 v):=fun j u hu=>by
  by_cases K:j = j0
  · subst K
    rw [List.getElem?_set_self jj] at hu
    obtain rfl:=Option.some.inj hu
    exact yM _ _ _ (h j _ (yH jj))
  · rw [yW (fun e=>K e.symm)] at hu
    rw [yL _ _ _ _ (zP (by omega))]
    exact h j u hu
theorem bR {w:World} {b o n:Nat} {v u:Value} (h:w.cell? (J b o) = some u) (hn:o ≠ n):(w.setCell (J b n) v).cell? (J b o) = some u:=by
  rw [yL _ _ _ _ (zP (by omega))]; exact h
theorem Nd.len (n:Nd):n.vs.length = 8:=rfl
theorem Qo.len (n:Qo):n.vs.length = 7:=rfl
theorem tm_root {w:World} {b:Nat} {S:TS} {T:TypeId} (h:TM T w b S) (n:Nat):TM T (w.setCell (J b 0) (H n)) b { S with root:=n } :=
  ⟨yM _ _ _ h.root,bR h.lc (by omega),fun i hi=>cB (h.nd i hi) (by omega),bR h.oc (by omega),fun i hi=>cB (h.qo i hi) (by omega),fun o=>by rw [World.frozen?_setCell]; exact h.fr o,obj_set h.obj⟩
theorem tm_lc {w:World} {b:Nat} {S:TS} {T:TypeId} (h:TM T w b S) (n:Nat):TM T (w.setCell (J b 1) (H n)) b { S with lc:=n } :=
  ⟨bR h.root (by omega),yM _ _ _ h.lc,fun i hi=>cB (h.nd i hi) (by omega),bR h.oc (by omega),fun i hi=>cB (h.qo i hi) (by omega),fun o=>by rw [World.frozen?_setCell]; exact h.fr o,obj_set h.obj⟩
theorem tm_oc {w:World} {b:Nat} {S:TS} {T:TypeId} (h:TM T w b S) (n:Nat):TM T (w.setCell (J b 170) (H n)) b { S with oc:=n } :=
  ⟨bR h.root (by omega),bR h.lc (by omega),fun i hi=>cB (h.nd i hi) (by rw [Nd.len]; omega),yM _ _ _ h.oc,fun i hi=>cB (h.qo i hi) (by omega),fun o=>by rw [World.frozen?_setCell]; exact h.fr o,obj_set h.obj⟩
theorem aX {w:World} {b:Nat} {S:TS} {T:TypeId} (h:TM T w b S) (i0 j0:Nat) (uH:i0 < 21) (jj:j0 < 8) (v:Value) (n':Nd) (hn:n'.vs = (S.nd i0).vs.set j0 v) (o:Nat) (Z:o = 2 + i0 * 8 + j0) :
    TM T (w.setCell (J b o) v) b { S with nd:=upd S.nd i0 n' }:=by
  subst Z
  refine ⟨bR h.root (by omega),bR h.lc (by omega),fun i hi=>?_,bR h.oc (by omega),fun i hi=>cB (h.qo i hi) (by omega),fun o=>by rw [World.frozen?_setCell]; exact h.fr o,obj_set h.obj⟩
  by_cases hii:i = i0
  · subst hii
    show World.rangeAt _ _ _ (upd S.nd i n' i).vs
    rw [zp,hn]
    exact ek (h.nd i hi) jj
  · show World.rangeAt _ _ _ (upd S.nd i0 n' i).vs
    rw [zq _ _ hii]
    exact cB (h.nd i hi) (by rw [Nd.len]; omega)
theorem tm_qo {w:World} {b:Nat} {S:TS} {T:TypeId} (h:TM T w b S) (i0 j0:Nat) (uH:i0 < 21) (jj:j0 < 7) (v:Value) (n':Qo) (hn:n'.vs = (S.qo i0).vs.set j0 v) (o:Nat) (Z:o = 171 + i0 * 7 + j0) :
    TM T (w.setCell (J b o) v) b { S with qo:=upd S.qo i0 n' }:=by
  subst Z
  refine ⟨bR h.root (by omega),bR h.lc (by omega),fun i hi=>cB (h.nd i hi) (by rw [Nd.len]; omega),bR h.oc (by omega),fun i hi=>?_,fun o=>by rw [World.frozen?_setCell]; exact h.fr o,obj_set h.obj⟩
  by_cases hii:i = i0
  · subst hii
    show World.rangeAt _ _ _ (upd S.qo i n' i).vs
    rw [zp,hn]
    exact ek (h.qo i hi) jj
  · show World.rangeAt _ _ _ (upd S.qo i0 n' i).vs
    rw [zq _ _ hii]
    exact cB (h.qo i hi) (by rw [Qo.len]; omega)
theorem zL {w:World} {b o:Nat} {n:Nd} (h:w.rangeAt b o n.vs) :
    w.cell? (J b o) = some (H n.side)∧w.cell? (J b (o + 1)) = some (H n.ticks)∧w.cell? (J b (o + 2)) = some (H n.qty)∧w.cell? (J b (o + 3)) = some (H n.count) ∧
    w.cell? (J b (o + 4)) = some (H n.be)∧w.cell? (J b (o + 5)) = some (H n.wo)∧w.cell? (J b (o + 6)) = some (H n.el)∧w.cell? (J b (o + 7)) = some (H n.yo) :=
  ⟨h 0 _ rfl,h 1 _ rfl,h 2 _ rfl,h 3 _ rfl,h 4 _ rfl,h 5 _ rfl,h 6 _ rfl,h 7 _ rfl⟩
theorem dF {w:World} {b o:Nat} {n:Qo} (h:w.rangeAt b o n.vs) :
    w.cell? (J b o) = some (H n.od.id)∧w.cell? (J b (o + 1)) = some (H n.od.side)∧w.cell? (J b (o + 2)) = some (H n.od.ticks)∧w.cell? (J b (o + 3)) = some (H n.od.left) ∧
    w.cell? (J b (o + 4)) = some (H n.od.life)∧w.cell? (J b (o + 5)) = some (yk n.od.tag)∧w.cell? (J b (o + 6)) = some (H n.yg) :=
  ⟨h 0 _ rfl,h 1 _ rfl,h 2 _ rfl,h 3 _ rfl,h 4 _ rfl,h 5 _ rfl,h 6 _ rfl⟩
theorem zz {w:World} {b o:Nat} {n:Od} (h:w.rangeAt b o n.vs) :
    w.cell? (J b o) = some (H n.id)∧w.cell? (J b (o + 1)) = some (H n.side)∧w.cell? (J b (o + 2)) = some (H n.ticks)∧w.cell? (J b (o + 3)) = some (H n.left) ∧
    w.cell? (J b (o + 4)) = some (H n.life)∧w.cell? (J b (o + 5)) = some (yk n.tag) :=
  ⟨h 0 _ rfl,h 1 _ rfl,h 2 _ rfl,h 3 _ rfl,h 4 _ rfl,h 5 _ rfl⟩
def Cur.off:Cur→Nat
  | .root=>0
  | .be h=>2 + h * 8 + 4
  | .wo h=>2 + h * 8 + 5
def Cur.ok:Cur→Prop
  | .root=>True
  | .be h=>h < 21
  | .wo h=>h < 21
theorem cur_cell {w:World} {b:Nat} {S:TS} {T:TypeId} (h:TM T w b S) (c:Cur) (hc:c.ok):w.cell? (J b c.off) = some (H (S.rd c)):=by
  cases c with
  | root=>exact h.root
  | be a=>exact (zL (h.nd a hc)).2.2.2.2.1
  | wo a=>exact (zL (h.nd a hc)).2.2.2.2.2.1
theorem tm_cur {w:World} {b:Nat} {S:TS} {T:TypeId} (h:TM T w b S) (c:Cur) (hc:c.ok) (n:Nat):TM T (w.setCell (J b c.off) (H n)) b (S.wr n c):=by
  cases c with
  | root=>exact tm_root h n
  | be a=>exact aX h a 4 hc (by omega) (H n) { S.nd a with be:=n } rfl _ rfl
  | wo a=>exact aX h a 5 hc (by omega) (H n) { S.nd a with wo:=n } rfl _ rfl
theorem cO {α:Type} (f:Nat→α) (i:Nat) (x y:α):upd (upd f i x) i y = upd f i y:=by
  funext j; simp only [upd]; split <;> rfl
theorem zi (w:World) (cs:List Value) (t:TypeId):(w.alloc (Obj.cells cs.toArray t)).rangeAt w.heap.size 0 cs:=fun j u h=>by
  rw [cell_of_row _ w.heap.size (0 + j) cs.toArray t (0,0) (heap_alloc_new w _)]
  simpa using h
theorem zh (w:World) (o:Obj):(w.alloc o).heap.size = w.heap.size + 1:=by simp
theorem gr_drew {a w:World} {h1:Option Nat} (h:a.grownBy w h1):a.grownBy w.drew h1:=⟨h.os,h.tape,h.output,h.size,h.block⟩
theorem bc {P:Program} {ops:Array Oper} {C:World→Prop} {xj:Act→Prop} {a:Act} {o:Oper} {rest:List Oper} {v:Value} (G:Region.wanted o (yielded ops a.tmps) = true) (E:∀ w',C w'→o.quietAt P a C w' v)
    (h3:∀ hj:Act→Prop,(∀ a,wpQuiet P ops C xj rest a→hj a)→hj (a.put o.dst v)):wpQuiet P ops C xj (o :: rest) a :=
  wpQuiet_step fun hj hK=>by rw [if_pos G]; exact ⟨v,E,h3 hj hK⟩
theorem dn {P:Program} {id:Nat} {xj:Exit→Act→World→Prop} {a:Act} {w W:World} {l:List Oper} (hm:P.follows .mixedOrders = true) (hB:Region.lexB .any l.toArray = true) (hg:W.grownBy w none)
    (h:wpQuiet P l.toArray (fun w'=>W.grownBy w' none) (fun a'=>∀ w',W.grownBy w' none→xj .normal a' w') l a):(Code.region id l.toArray true).wp P xj a w :=
  wp_region_quiet (C:=fun w'=>W.grownBy w' none) hm hB ⟨hg.os,hg.tape,hg.output,hg.size,hg.block⟩ (by simpa using h)
theorem zM {a w:World} {b:Nat} (h:a.grownBy w (some b)) (o:Nat) (v:Value):a.grownBy (w.setCell (J b o) v) (some b) :=
  ⟨h.os,h.tape,h.output,by rw [World.setCell]; simpa using h.size,fun k hk xB=>(yS w _ _ k (fun e=>xB (by rw [e]))).trans (h.block k hk xB)⟩
theorem grow_eq (S:TS) (cu:Cur) (o:Od) (m:Nat) (hm:m = S.lc + 1) :
    ({ root:=({ S with lc:=m }.wr m cu).root,lc:=({ S with lc:=m }.wr m cu).lc,oc:=({ S with lc:=m }.wr m cu).oc,
       nd:=upd ({ S with lc:=m }.wr m cu).nd m { (({ S with lc:=m }.wr m cu).nd m) with side:=o.side,ticks:=o.ticks,qty:=0,count:=0 },qo:=({ S with lc:=m }.wr m cu).qo }:TS) = S.grow cu o.side o.ticks:=by
  subst hm
  cases cu <;> rfl
def LFI (s:Bool) (b:Nat) (S:TS) (t:Tr) (kk:Int) (W:World) (k:Nat) (p:Value) (wr:World):Prop :=
  ∃ c u,p = I b ((zU c).off)∧u.hs.length ≤ k∧Way s S t kk c u∧W.grownBy wr none
def LFEnd (s:Bool) (T:TypeId) (b:Nat) (S:TS) (t:Tr) (o:Od) (w:World) (h:Nat) (w':World):Prop :=
  ∃ (S':TS),TM T w' b S'∧w.grownBy w' (some b) ∧
    ((h ∈ t.hs∧(S.nd h).ticks = o.ticks∧S' = S) ∨ (∃ c u,Way s S t o.ticks c u∧S.rd (zU c) = 0∧h = S.lc + 1∧S' = S.grow (zU c) o.side o.ticks))
theorem cur_ok {s:Bool} {S:TS} {t:Tr} {k:Int} {c:Ctx} {u:Tr} (hi:TI s S t) (h:Way s S t k c u) (qK:S.lc < 20):(zU c).ok:=by
  have hm:∀ a ∈ cl c ++ cr c,a < 21:=fun a ha=>by
    have:=hi.range a (by rw [h.plug,db]; simp at ha ⊢; rcases ha with h | h <;> simp [h])
    omega
  match c,hm with
  | [],_=>trivial
  | (true,a,r) :: c,hm=>exact hm a (by simp [cr])
  | (false,a,l) :: c,hm=>exact hm a (by simp [cl])
theorem tm_put {w:World} {b:Nat} {S:TS} {T:TypeId} (h:TM T w b S) (i:Nat) (hi:i < 21) (o:Od) :
    TM T (((((((w.setCell (J b (171 + i * 7)) (H o.id)).setCell (J b (171 + i * 7 + 1)) (H o.side)).setCell (J b (171 + i * 7 + 2)) (H o.ticks)).setCell (J b (171 + i * 7 + 3)) (H o.left)).setCell
      (J b (171 + i * 7 + 4)) (H o.life)).setCell (J b (171 + i * 7 + 5)) (yk o.tag)).setCell (J b (171 + i * 7 + 6)) (H 0)) b { S with qo:=upd S.qo i ⟨o,0⟩ }:=by
  have h0:=tm_qo h i 0 hi (by omega) (H o.id) { (TS.qo _ i) with od:={ (TS.qo _ i).od with id:=o.id } } rfl _ rfl
  have G:=tm_qo h0 i 1 hi (by omega) (H o.side) { (TS.qo _ i) with od:={ (TS.qo _ i).od with side:=o.side } } rfl _ rfl
  have E:=tm_qo G i 2 hi (by omega) (H o.ticks) { (TS.qo _ i) with od:={ (TS.qo _ i).od with ticks:=o.ticks } } rfl _ rfl
  have h3:=tm_qo E i 3 hi (by omega) (H o.left) { (TS.qo _ i) with od:={ (TS.qo _ i).od with left:=o.left } } rfl _ rfl
  have h4:=tm_qo h3 i 4 hi (by omega) (H o.life) { (TS.qo _ i) with od:={ (TS.qo _ i).od with life:=o.life } } rfl _ rfl
  have h5:=tm_qo h4 i 5 hi (by omega) (yk o.tag) { (TS.qo _ i) with od:={ (TS.qo _ i).od with tag:=o.tag } } rfl _ rfl
  have h6:=tm_qo h5 i 6 hi (by omega) (H 0) { (TS.qo _ i) with yg:=0 } rfl _ rfl
  simp only [cO,zp] at h6
  exact h6
theorem gr_put {w:World} {b:Nat} (o:Od) (i:Nat) :
    w.grownBy (((((((w.setCell (J b (171 + i * 7)) (H o.id)).setCell (J b (171 + i * 7 + 1)) (H o.side)).setCell (J b (171 + i * 7 + 2)) (H o.ticks)).setCell (J b (171 + i * 7 + 3)) (H o.left)).setCell
      (J b (171 + i * 7 + 4)) (H o.life)).setCell (J b (171 + i * 7 + 5)) (yk o.tag)).setCell (J b (171 + i * 7 + 6)) (H 0)) (some b) :=
  zM (zM (zM (zM (zM (zM (zM (yR _ _) _ _) _ _) _ _) _ _) _ _) _ _) _ _
theorem lf_lt {s:Bool} {T:TypeId} {b:Nat} {S:TS} {t:Tr} {o:Od} {w w':World} {h:Nat} (he:LFEnd s T b S t o w h w') (hi:TI s S t) (qK:S.lc < 20):(h:Int) < 21:=by
  obtain ⟨S',_,_,⟨G,_,_⟩ | ⟨c,u,_,_,G,_⟩⟩:=he
  · have:=(hi.range h G).2; omega
  · omega
theorem link_eq0 (S:TS) (h m:Nat) (lf:Int) (hy:(S.nd h).yo = 0) :
    ({ S with nd:=upd S.nd h { (S.nd h) with qty:=(S.nd h).qty + lf,count:=(S.nd h).count + 1,el:=m,yo:=m } }:TS) = S.link h m lf:=by
  simp [TS.link,hy]
theorem link_eq1 (S:TS) (h m:Nat) (lf:Int) (hy:¬ (S.nd h).yo = 0) :
    ({ S with nd:=upd S.nd h { (S.nd h) with qty:=(S.nd h).qty + lf,count:=(S.nd h).count + 1,yo:=m },qo:=upd S.qo (S.nd h).yo { S.qo (S.nd h).yo with yg:=m } }:TS) = S.link h m lf:=by
  simp [TS.link,hy]
theorem cC {a w w':World} {h1:Option Nat} (h:a.grownBy w h1) (G:w'.os = w.os) (E:w'.tape = w.tape) (h3:w'.output = w.output) (h4:w'.heap = w.heap):a.grownBy w' h1 :=
  ⟨G.trans h.os,E.trans h.tape,h3.trans h.output,by rw [h4]; exact h.size,fun k hk xB=>by rw [h4]; exact h.block k hk xB⟩
def aS (T:TypeId) (s:Bool) (w:World) (b:Nat) (sd:Int) (seq:List Od):Prop:=∃ S t,TM T w b S∧TI s S t∧QI S t sd seq∧S.lc ≤ seq.length
theorem tm_zero (w:World) (ho:Array Value) (T:TypeId) (h0:ho[0]? = some (H 0)) (G:ho[1]? = some (H 0)) (E:∀ i,i < 21→(ho.toList.drop (2 + i * 8)).take 8 = zNd.vs) (h3:ho[170]? = some (H 0)) (h4:∀ i,i < 21→(ho.toList.drop (171 + i * 7)).take 7 = zQo.vs) :
    TM T (w.alloc (Obj.cells ho T)) w.heap.size zTS:=by
  have hh:=heap_alloc_new w (Obj.cells ho T)
  have xq:∀ o,(w.alloc (Obj.cells ho T)).cell? (yq w o) = ho[o]?:=fun o=>cell_of_row _ w.heap.size o ho T (0,0) hh
  have uU:∀ (o n:Nat) (cs:List Value),(ho.toList.drop o).take n = cs→(w.alloc (Obj.cells ho T)).rangeAt w.heap.size o cs:=fun o n cs ol j v hv=>by
    rw [xq,← hv,← ol,List.getElem?_take,List.getElem?_drop,Array.getElem?_toList]
    rw [← ol,List.getElem?_take] at hv
    split
    · rfl
    · next K=>rw [if_neg K] at hv; cases hv
  exact ⟨(xq 0).trans h0,(xq 1).trans G,fun i hi=>uU _ 8 _ (E i hi),(xq 170).trans h3,fun i hi=>uU _ 7 _ (h4 i hi),fun o=>by simp only [World.frozen?,hh]; simp,ho,hh⟩
theorem zG {T:TypeId} {s:Bool} {w w':World} {b:Nat} {sd:Int} {seq:List Od} (h:aS T s w b sd seq) (F:w'.heap[b]? = w.heap[b]?):aS T s w' b sd seq:=by
  obtain ⟨S,t,G,E⟩:=h
  exact ⟨S,t,bu G F,E⟩
theorem bz {T:TypeId} {s:Bool} {w:World} {b:Nat} {sd:Int} {seq:List Od} (h:aS T s w b sd seq):b < w.heap.size:=by
  obtain ⟨S,t,G,_⟩:=h; exact tm_lt G
theorem sumL_bound:∀ l:List Od,(∀ o ∈ l,0 ≤ o.left∧o.left ≤ 1000000)→0 ≤ sumL l∧sumL l ≤ 1000000 * l.length
  | [],_=>by simp [sumL]
  | a :: l,h=>by
    have G:=h a (by simp)
    have E:=sumL_bound l (fun o Z=>h o (by simp [Z]))
    simp only [sumL,List.length_cons]
    omega
def insT (s:Bool) (k:Int):List Int→List Int
 | []=>[k]
 | a :: r=>if bt s k a then k :: a :: r else if k = a then a :: r else a :: insT s k r
theorem insT_mem (s:Bool) (k x:Int):∀ T:List Int,x ∈ insT s k T ↔ x = k ∨ x ∈ T
 | []=>by simp [insT]
 | a :: r=>by
  rw [insT]
  split
  ·simp
  ·split
   ·next h=>subst h; simp
   ·simp [insT_mem s k x r]; constructor
    ·rintro (h | h | h) <;> simp [h]
    ·rintro (h | h | h) <;> simp [h]
theorem insT_sorted (s:Bool) (k:Int):∀ T:List Int,T.Pairwise (bt s)→(insT s k T).Pairwise (bt s)
 | [],_=>by simp [insT]
 | a :: r,h=>by
  obtain ⟨p1,p2⟩:=List.pairwise_cons.1 h
  rw [insT]
  split
  ·next hk=>exact List.pairwise_cons.2 ⟨fun x hx=>by
    rcases List.mem_cons.1 hx with rfl | hx
    ·exact hk
    ·exact bt_trans hk (p1 x hx),h⟩
  ·next hk =>
   split
   ·exact h
   ·next xB =>
    refine List.pairwise_cons.2 ⟨fun x hx=>?_,insT_sorted s k r p2⟩
    rcases (insT_mem s k x r).1 hx with rfl | hx
    ·rcases bt_total s x a with G | G | G
     ·exact absurd G hk
     ·exact absurd G xB
     ·exact G
    ·exact p1 x hx
def tks (s:Bool):List Od→List Int
 | []=>[]
 | o :: r=>insT s o.ticks (tks s r)
theorem bG (s:Bool):∀ seq:List Od,IsT s seq (tks s seq)
 | []=>⟨by simp [tks],by simp [tks]⟩
 | o :: r=>by
  have ih:=bG s r
  refine ⟨insT_sorted s _ _ ih.sorted,fun k=>?_⟩
  rw [tks,insT_mem,ih.mem]
  constructor
  ·rintro (rfl | ⟨o',G,E⟩)
   ·exact ⟨o,by simp,rfl⟩
   ·exact ⟨o',by simp [G],E⟩
  ·rintro ⟨o',G,E⟩
   rcases List.mem_cons.1 G with rfl | G
   ·exact .inl E.symm
   ·exact .inr ⟨o',G,E⟩
theorem eB {s:Bool}:∀ {xm B:List Int},xm.Pairwise (bt s)→B.Pairwise (bt s)→(∀ k,k ∈ xm ↔ k ∈ B)→xm = B
 | [],B,_,_,h=>by
  cases B with
  | nil=>rfl
  | cons b r=>exact absurd ((h b).2 (by simp)) (by simp)
 | a :: xm,[],_,_,h=>absurd ((h a).1 (by simp)) (by simp)
 | a :: xm,b :: B,hA,hB,h=>by
  obtain ⟨p1,p2⟩:=List.pairwise_cons.1 hA
  obtain ⟨q1,q2⟩:=List.pairwise_cons.1 hB
  have hab:a = b:=by
   rcases List.mem_cons.1 ((h a).1 (by simp)) with e | e
   ·exact e
   ·rcases List.mem_cons.1 ((h b).2 (by simp)) with e' | e'
    ·exact e'.symm
    ·exact absurd (p1 b e') (bt_asymm (q1 a e))
  subst hab
  rw [eB p2 q2 fun k=>⟨fun hk=>?_,fun hk=>?_⟩]
  ·rcases List.mem_cons.1 ((h k).1 (by simp [hk])) with e | e
   ·subst e; exact absurd (p1 _ hk) (cD _ _)
   ·exact e
  ·rcases List.mem_cons.1 ((h k).2 (by simp [hk])) with e | e
   ·subst e; exact absurd (q1 _ hk) (cD _ _)
   ·exact e
theorem isT_unique {s:Bool} {seq:List Od} {xm:List Int} (hA:IsT s seq xm):xm = tks s seq :=
 eB hA.sorted (bG s seq).sorted fun k=>(hA.mem k).trans ((bG s seq).mem k).symm
structure Lv where
 side:Int
 ticks:Int
 qty:Int
 count:Int
def Lv.vs (n:Lv):List Value:=[H n.side,H n.ticks,H n.qty,H n.count]
theorem Lv.len (o:Lv):o.vs.length = 4:=rfl
def lvAt (sd:Int) (seq:List Od) (k:Int):Lv:=⟨sd,k,sumL (atK seq k),(atK seq k).length⟩
def aW (s:Bool) (sd:Int) (seq:List Od):List Lv:=(tks s seq).map (lvAt sd seq)
def quOf (s:Bool) (seq:List Od):List Od:=(tks s seq).flatMap (atK seq)
def Nd.lv (n:Nd):Lv:=⟨n.side,n.ticks,n.qty,n.count⟩
theorem dZ {s:Bool} {S:TS} {t:Tr} {sd:Int} {seq:List Od} (hi:TI s S t) (hq:QI S t sd seq):(t.hs.map fun h=>(S.nd h).lv) = aW s sd seq:=by
 rw [aW,← isT_unique (isT_of hi hq),List.map_map]
 refine List.map_congr_left fun h hh=>?_
 have hQ:=hq.q h hh
 show Lv.mk _ _ _ _ = Lv.mk _ _ _ _
 rw [hQ.side,hQ.qty,hQ.cnt]
theorem tree_orders {s:Bool} {S:TS} {t:Tr} {sd:Int} {seq:List Od} (hi:TI s S t) (hq:QI S t sd seq):(t.hs.flatMap fun h=>(qs seq (S.nd h).ticks).map fun i=>(S.qo i).od) = quOf s seq:=by
 rw [quOf,← isT_unique (isT_of hi hq),List.flatMap_map]
 rw [List.flatMap_def,List.flatMap_def]
 congr 1
 refine List.map_congr_left fun h hh=>?_
 exact qsF_map _ _ seq 1 (fun i o Z=>hq.od i o Z)
def zOdv:Value:=.agg (yv 0 0 0 0 0 ⟨#[]⟩).toArray
def frOf (q:List Od):Value:=match q.head? with
 | some o=>.tuple #[o.val,.bool true]
 | none=>.tuple #[zOdv,.bool false]
def betB (n a b:Int):Bool:=decide (a ≤ n) && decide (n ≤ b)
theorem dU (n a b:Int) (w:World) :
  Calls Tryz.prog 35 #[H n,H a,H b] w fun e w'=>e = ym (.bool (betB n a b))∧w' = w:=by
 go_enter Tryz.func35,Tryz.ntmps35
 go_wp2
 all_goals go_ret
 all_goals exact ⟨zB (by rw [Bool.eq_iff_iff]; simp [betB]; omega),rfl⟩
theorem isSide_any (n:Int) (w:World) :
  Calls Tryz.prog 72 #[H n] w fun e w'=>e = ym (.bool (betB n 1 2))∧w' = w:=by
 go_enter Tryz.func72,Tryz.ntmps72
 go_wp2
 all_goals go_ret
 all_goals exact ⟨zB (by rw [Bool.eq_iff_iff]; simp [betB]; omega),rfl⟩
theorem isLife_any (n:Int) (w:World) :
  Calls Tryz.prog 73 #[H n] w fun e w'=>e = ym (.bool (betB n 0 1))∧w' = w:=by
 go_enter Tryz.func73,Tryz.ntmps73
 go_wp2
 all_goals go_ret
 all_goals exact ⟨zB (by rw [Bool.eq_iff_iff]; simp [betB]; omega),rfl⟩
def tagC (c:UInt8):Bool:=betB c.toNat 32 126
def tagB (s:ByteArray):Bool:=decide (s.size ≤ 12) && s.data.toList.all tagC
theorem drop_cons (s:ByteArray) (k:Nat) (h:k < s.size):s.data.toList.drop k = s[k] :: s.data.toList.drop (k + 1):=by
 rw [get_nat s k h]
 exact xc (by rw [data_len]; exact h)
theorem tag_yes (s:ByteArray) (h:s.size ≤ 12) (hk:s.data.toList.all tagC = true):tagB s = true:=by simp only [tagB,hk,decide_eq_true h,Bool.and_true]
theorem tag_long (s:ByteArray) (h:¬ s.size ≤ 12):tagB s = false:=by simp only [tagB,decide_eq_false h,Bool.false_and]
theorem tag_no (s:ByteArray) (hk:s.data.toList.all tagC = false):tagB s = false:=by simp only [tagB,hk,Bool.and_false]
theorem isTag_any (s:ByteArray) (w:World) (hs:s.size ≤ maxLen) :
  Calls Tryz.prog 74 #[yk s] w fun e w'=>e = ym (.bool (tagB s))∧w' = w:=by
 unfold maxLen at hs
 by_cases hl:s.size ≤ 12
 ·have hl':¬ ((12:Int) < s.size):=by omega
  go_enter Tryz.func74,Tryz.ntmps74
  go_wp2_with fail
  go_loop [9] (fun i=>∃ k:Nat,k ≤ s.size∧i = H k∧Hid (s.data.toList.all tagC = (s.data.toList.drop k).all tagC)) (fun i=>s.size - (intOf i).toNat)
  case atStart=>exact ⟨0,Nat.zero_le _,rfl,by simp [Hid]⟩
  case round =>
   obtain ⟨k,hk,rfl,Q⟩:=hrel
   by_cases xJ:k < s.size
   ·have un:(k:Int) < s.size:=by omega
    have om:=drop_cons s k xJ
    have hgen:∃ c,c = s[k]:=⟨_,rfl⟩
    obtain ⟨c,hc⟩:=hgen
    have hw:betB (wrap64 (s[k].toNat:Int)) 32 126 = tagC c:=by
     have hlt256:=UInt8.toNat_lt s[k]
     rw [hc,show wrap64 (s[k].toNat:Int) = (s[k].toNat:Int) by unfold wrap64; omega]; rfl
    cases ht:tagC c
    ·rw [ht] at hw
     have HT:Hid (s.data.toList.all tagC = false):=by
      have:=U Q
      rw [om,List.all_cons,← hc,ht,Bool.false_and] at this
      exact this
     clear om hc ht
     go_wp2_with fail
     refine (dU (wrap64 (s[k].toNat:Int)) 32 126 w).mono ?_
     rintro e w1 ⟨rfl,rfl⟩
     go_wp2_with fail
     go_ret
     exact ⟨zB (tag_no s (U HT)).symm,rfl⟩
    ·rw [ht] at hw
     have HN:Hid (s.data.toList.all tagC = (s.data.toList.drop (k + 1)).all tagC):=by
      have:=U Q
      rw [om,List.all_cons,← hc,ht,Bool.true_and] at this
      exact this
     clear om hc ht
     go_wp2_with fail
     refine (dU (wrap64 (s[k].toNat:Int)) 32 126 w).mono ?_
     rintro e w1 ⟨rfl,rfl⟩
     go_wp2_with fail
     go_round
     case rel=>exact ⟨k + 1,by omega,by go_num,U HN⟩
     case measure=>simp [intOf]; omega
   ·go_wp2_with fail
    go_ret
    have h:=U Q
    rw [xa (by rw [data_len]; omega)] at h
    exact ⟨zB (tag_yes s hl (by rw [h]; rfl)).symm,rfl⟩
 ·have hl':(12:Int) < s.size:=by omega
  go_enter Tryz.func74,Tryz.ntmps74
  go_wp2_with fail
  go_ret
  exact ⟨zB (tag_long s hl).symm,rfl⟩
def ordB (o:Od):Bool:=betB o.side 1 2 && betB o.life 0 1 && tagB o.tag && betB o.ticks 1 1000000 && betB o.left 1 1000000
end Go.Proofs.YtbakanofkghmiaaGreat
