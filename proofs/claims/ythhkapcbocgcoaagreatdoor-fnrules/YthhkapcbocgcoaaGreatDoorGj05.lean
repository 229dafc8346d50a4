/-
  A tree of levels in memory: one block of 318 cells; what a write turns; no function walked.
-/
import Derived.Test.YthhkapcbocgcoaaGreatDoorGj04
import Derived.Deep.LoopGhost
import Derived.BigRegion
import Derived.StillTailTactics
set_option linter.unusedVariables false
set_option maxHeartbeats 6400000
set_option maxRecDepth 100000
namespace Go.Proofs.YthhkapcbocgcoaaGreatDoor
open Go.RowKit
def Od.vs (o:Od):List Value:=(yw o.id o.side o.ticks o.left o.life o.tag)
theorem Od.len (o:Od):o.vs.length = 6:=rfl
def Od.val (o:Od):Value:=.agg (yw o.id o.side o.ticks o.left o.life o.tag).toArray
def Nd.vs (n:Nd):List Value:=[H n.side,H n.ticks,H n.qty,H n.count,H n.be,H n.wo,H n.el,H n.yo]
def Qo.vs (q:Qo):List Value:=[H q.od.id,H q.od.side,H q.od.ticks,H q.od.left,H q.od.life,yk q.od.tag,H q.yg]
structure TM (T:TypeId) (w:World) (b:Nat) (S:TS):Prop where
  root:w.cell? ⟨b,0,none⟩ = some (.int .i64 S.root)
  lc:w.cell? ⟨b,1,none⟩ = some (.int .i64 S.lc)
  nd:∀ i,i < 21→w.rangeAt b (2 + i * 8) (S.nd i).vs
  oc:w.cell? ⟨b,170,none⟩ = some (.int .i64 S.oc)
  qo:∀ i,i < 21→w.rangeAt b (171 + i * 7) (S.qo i).vs
  fr:∀ o,w.frozen? ⟨b,o,none⟩ = false
  obj:∃ cur,w.heap[b]? = some (.cells cur T (0,0))
theorem obj_set {w:World} {b o:Nat} {v:Value} {T:TypeId} (h:∃ xz,w.heap[b]? = some (.cells xz T (0,0))):∃ xz,(w.setCell (J b o) v).heap[b]? = some (.cells xz T (0,0)):=by
  obtain ⟨xz,h⟩:=h
  exact ⟨xz.setIfInBounds o v,by simp [World.setCell,Array.getElem?_modify,h]⟩
theorem tm_lt {w:World} {b:Nat} {S:TS} {T:TypeId} (h:TM T w b S):b < w.heap.size:=yL w _ h.root
theorem cO {w w':World} {b:Nat} {S:TS} {T:TypeId} (h:TM T w b S) (A:w'.heap[b]? = w.heap[b]?):TM T w' b S :=
  ⟨(yR (a:=(J b 0)) A).trans h.root,(yR (a:=(J b 1)) A).trans h.lc,
   fun i hi j v hv=>(yR (a:=(J b (2 + i * 8 + j))) A).trans (h.nd i hi j v hv),(yR (a:=(J b 170)) A).trans h.oc,
   fun i hi j v hv=>(yR (a:=(J b (171 + i * 7 + j))) A).trans (h.qo i hi j v hv),fun o=>(World.frozen?_of_block (a:=(J b o)) A).trans (h.fr o),by rw [A]; exact h.obj⟩
theorem eK {w w':World} {b C:Nat} {S:TS} {T:TypeId} (h:TM T w b S) (A:Below C w w') (hC:b < C):TM T w' b S:=cO h (A.block b hC)
theorem fL {w w':World} {b:Nat} {G:Option Nat} {S:TS} {T:TypeId} (h:TM T w b S) (hg:w.grownBy w' G) (xC:some b ≠ G):TM T w' b S:=cO h (hg.block b (tm_lt h) xC)
theorem dZ {w:World} {b o n:Nat} {v:Value} {cs:List Value} (h:w.rangeAt b o cs) (hn:n < o ∨ o + cs.length ≤ n):(w.setCell (J b n) v).rangeAt b o cs:=fun j u hu=>by
  have hj:=(yH.1 hu).1
  rw [yM _ _ _ _ (bZ (by omega))]
  exact h j u hu
theorem gL {w:World} {b o j0:Nat} {v:Value} {cs:List Value} (h:w.rangeAt b o cs) (jM:j0 < cs.length):(w.setCell (J b (o + j0)) v).rangeAt b o (cs.set j0 v):=fun j u hu=>by
  by_cases hj:j = j0
  · subst hj
    rw [List.getElem?_set_self jM] at hu
    obtain rfl:=Option.some.inj hu
    exact yN _ _ _ (h j _ (yI jM))
  · rw [yX (fun e=>hj e.symm)] at hu
    rw [yM _ _ _ _ (bZ (by omega))]
    exact h j u hu
theorem dJ {w:World} {b o n:Nat} {v u:Value} (h:w.cell? (J b o) = some u) (hn:o ≠ n):(w.setCell (J b n) v).cell? (J b o) = some u:=by
  rw [yM _ _ _ _ (bZ (by omega))]; exact h
theorem Nd.len (n:Nd):n.vs.length = 8:=rfl
theorem Qo.len (n:Qo):n.vs.length = 7:=rfl
theorem tm_root {w:World} {b:Nat} {S:TS} {T:TypeId} (h:TM T w b S) (n:Nat):TM T (w.setCell (J b 0) (H n)) b { S with root:=n } :=
  ⟨yN _ _ _ h.root,dJ h.lc (by omega),fun i hi=>dZ (h.nd i hi) (by omega),dJ h.oc (by omega),fun i hi=>dZ (h.qo i hi) (by omega),fun o=>by rw [World.frozen?_setCell]; exact h.fr o,obj_set h.obj⟩
theorem tm_lc {w:World} {b:Nat} {S:TS} {T:TypeId} (h:TM T w b S) (n:Nat):TM T (w.setCell (J b 1) (H n)) b { S with lc:=n } :=
  ⟨dJ h.root (by omega),yN _ _ _ h.lc,fun i hi=>dZ (h.nd i hi) (by omega),dJ h.oc (by omega),fun i hi=>dZ (h.qo i hi) (by omega),fun o=>by rw [World.frozen?_setCell]; exact h.fr o,obj_set h.obj⟩
theorem tm_oc {w:World} {b:Nat} {S:TS} {T:TypeId} (h:TM T w b S) (n:Nat):TM T (w.setCell (J b 170) (H n)) b { S with oc:=n } :=
  ⟨dJ h.root (by omega),dJ h.lc (by omega),fun i hi=>dZ (h.nd i hi) (by rw [Nd.len]; omega),yN _ _ _ h.oc,fun i hi=>dZ (h.qo i hi) (by omega),fun o=>by rw [World.frozen?_setCell]; exact h.fr o,obj_set h.obj⟩
theorem cA {w:World} {b:Nat} {S:TS} {T:TypeId} (h:TM T w b S) (i0 j0:Nat) (uJ:i0 < 21) (jM:j0 < 8) (v:Value) (n':Nd) (hn:n'.vs = (S.nd i0).vs.set j0 v) (o:Nat) (Y:o = 2 + i0 * 8 + j0) :
    TM T (w.setCell (J b o) v) b { S with nd:=upd S.nd i0 n' }:=by
  subst Y
  refine ⟨dJ h.root (by omega),dJ h.lc (by omega),fun i hi=>?_,dJ h.oc (by omega),fun i hi=>dZ (h.qo i hi) (by omega),fun o=>by rw [World.frozen?_setCell]; exact h.fr o,obj_set h.obj⟩
  by_cases hii:i = i0
  · subst hii
    show World.rangeAt _ _ _ (upd S.nd i n' i).vs
    rw [zt,hn]
    exact gL (h.nd i hi) jM
  · show World.rangeAt _ _ _ (upd S.nd i0 n' i).vs
    rw [zq _ _ hii]
    exact dZ (h.nd i hi) (by rw [Nd.len]; omega)
theorem tm_qo {w:World} {b:Nat} {S:TS} {T:TypeId} (h:TM T w b S) (i0 j0:Nat) (uJ:i0 < 21) (jM:j0 < 7) (v:Value) (n':Qo) (hn:n'.vs = (S.qo i0).vs.set j0 v) (o:Nat) (Y:o = 171 + i0 * 7 + j0) :
    TM T (w.setCell (J b o) v) b { S with qo:=upd S.qo i0 n' }:=by
  subst Y
  refine ⟨dJ h.root (by omega),dJ h.lc (by omega),fun i hi=>dZ (h.nd i hi) (by rw [Nd.len]; omega),dJ h.oc (by omega),fun i hi=>?_,fun o=>by rw [World.frozen?_setCell]; exact h.fr o,obj_set h.obj⟩
  by_cases hii:i = i0
  · subst hii
    show World.rangeAt _ _ _ (upd S.qo i n' i).vs
    rw [zt,hn]
    exact gL (h.qo i hi) jM
  · show World.rangeAt _ _ _ (upd S.qo i0 n' i).vs
    rw [zq _ _ hii]
    exact dZ (h.qo i hi) (by rw [Qo.len]; omega)
theorem zJ {w:World} {b o:Nat} {n:Nd} (h:w.rangeAt b o n.vs) :
    w.cell? (J b o) = some (H n.side)∧w.cell? (J b (o + 1)) = some (H n.ticks)∧w.cell? (J b (o + 2)) = some (H n.qty)∧w.cell? (J b (o + 3)) = some (H n.count) ∧
    w.cell? (J b (o + 4)) = some (H n.be)∧w.cell? (J b (o + 5)) = some (H n.wo)∧w.cell? (J b (o + 6)) = some (H n.el)∧w.cell? (J b (o + 7)) = some (H n.yo) :=
  ⟨h 0 _ rfl,h 1 _ rfl,h 2 _ rfl,h 3 _ rfl,h 4 _ rfl,h 5 _ rfl,h 6 _ rfl,h 7 _ rfl⟩
theorem fJ {w:World} {b o:Nat} {n:Qo} (h:w.rangeAt b o n.vs) :
    w.cell? (J b o) = some (H n.od.id)∧w.cell? (J b (o + 1)) = some (H n.od.side)∧w.cell? (J b (o + 2)) = some (H n.od.ticks)∧w.cell? (J b (o + 3)) = some (H n.od.left) ∧
    w.cell? (J b (o + 4)) = some (H n.od.life)∧w.cell? (J b (o + 5)) = some (yk n.od.tag)∧w.cell? (J b (o + 6)) = some (H n.yg) :=
  ⟨h 0 _ rfl,h 1 _ rfl,h 2 _ rfl,h 3 _ rfl,h 4 _ rfl,h 5 _ rfl,h 6 _ rfl⟩
theorem zC {w:World} {b o:Nat} {n:Od} (h:w.rangeAt b o n.vs) :
    w.cell? (J b o) = some (H n.id)∧w.cell? (J b (o + 1)) = some (H n.side)∧w.cell? (J b (o + 2)) = some (H n.ticks)∧w.cell? (J b (o + 3)) = some (H n.left) ∧
    w.cell? (J b (o + 4)) = some (H n.life)∧w.cell? (J b (o + 5)) = some (yk n.tag) :=
  ⟨h 0 _ rfl,h 1 _ rfl,h 2 _ rfl,h 3 _ rfl,h 4 _ rfl,h 5 _ rfl⟩
def Cur.off:Cur→Nat
  | .root=>0
  | .be h=>2 + h * 8 + 4
  | .wo h=>2 + h * 8 + 5
def Cur.ok:Cur→Prop
  | .root=>True
  | .be h=>h < 21
  | .wo h=>h < 21
theorem cur_cell {w:World} {b:Nat} {S:TS} {T:TypeId} (h:TM T w b S) (c:Cur) (hc:c.ok):w.cell? (J b c.off) = some (H (S.rd c)):=by
  cases c with
  | root=>exact h.root
  | be a=>exact (zJ (h.nd a hc)).2.2.2.2.1
  | wo a=>exact (zJ (h.nd a hc)).2.2.2.2.2.1
theorem tm_cur {w:World} {b:Nat} {S:TS} {T:TypeId} (h:TM T w b S) (c:Cur) (hc:c.ok) (n:Nat):TM T (w.setCell (J b c.off) (H n)) b (S.wr n c):=by
  cases c with
  | root=>exact tm_root h n
  | be a=>exact cA h a 4 hc (by omega) (H n) { S.nd a with be:=n } rfl _ rfl
  | wo a=>exact cA h a 5 hc (by omega) (H n) { S.nd a with wo:=n } rfl _ rfl
theorem ez {α:Type} (f:Nat→α) (i:Nat) (x y:α):upd (upd f i x) i y = upd f i y:=by
  funext j; simp only [upd]; split <;> rfl
theorem zm (w:World) (cs:List Value) (t:TypeId):(w.alloc (Obj.cells cs.toArray t)).rangeAt w.heap.size 0 cs:=fun j u h=>by
  rw [cell_of_row _ w.heap.size (0 + j) cs.toArray t (0,0) (heap_alloc_new w _)]
  simpa using h
theorem zi (w:World) (o:Obj):(w.alloc o).heap.size = w.heap.size + 1:=by simp
theorem gr_drew {a w:World} {G:Option Nat} (h:a.grownBy w G):a.grownBy w.drew G:=⟨h.os,h.tape,h.output,h.size,h.block⟩
theorem cH {P:Program} {ops:Array Oper} {C:World→Prop} {h1:Act→Prop} {a:Act} {o:Oper} {rest:List Oper} {v:Value} (Q:Region.wanted o (yielded ops a.tmps) = true) (D:∀ w',C w'→o.quietAt P a C w' v)
    (X:∀ xh:Act→Prop,(∀ a,wpQuiet P ops C h1 rest a→xh a)→xh (a.put o.dst v)):wpQuiet P ops C h1 (o :: rest) a :=
  wpQuiet_step fun xh hK=>by rw [if_pos Q]; exact ⟨v,D,X xh hK⟩
theorem fq {P:Program} {id:Nat} {h1:Exit→Act→World→Prop} {a:Act} {w W:World} {l:List Oper} (hm:P.follows .mixedOrders = true) (hB:Region.lexB .any l.toArray = true) (hg:W.grownBy w none)
    (h:wpQuiet P l.toArray (fun w'=>W.grownBy w' none) (fun a'=>∀ w',W.grownBy w' none→h1 .normal a' w') l a):(Code.region id l.toArray true).wp P h1 a w :=
  wp_region_quiet (C:=fun w'=>W.grownBy w' none) hm hB ⟨hg.os,hg.tape,hg.output,hg.size,hg.block⟩ (by simpa using h)
theorem zK {a w:World} {b:Nat} (h:a.grownBy w (some b)) (o:Nat) (v:Value):a.grownBy (w.setCell (J b o) v) (some b) :=
  ⟨h.os,h.tape,h.output,by rw [World.setCell]; simpa using h.size,fun k E xC=>(yT w _ _ k (fun e=>xC (by rw [e]))).trans (h.block k E xC)⟩
theorem grow_eq (S:TS) (cu:Cur) (o:Od) (m:Nat) (hm:m = S.lc + 1) :
    ({ root:=({ S with lc:=m }.wr m cu).root,lc:=({ S with lc:=m }.wr m cu).lc,oc:=({ S with lc:=m }.wr m cu).oc,
       nd:=upd ({ S with lc:=m }.wr m cu).nd m { (({ S with lc:=m }.wr m cu).nd m) with side:=o.side,ticks:=o.ticks,qty:=0,count:=0 },qo:=({ S with lc:=m }.wr m cu).qo }:TS) = S.grow cu o.side o.ticks:=by
  subst hm
  cases cu <;> rfl
def LFI (s:Bool) (b:Nat) (S:TS) (t:Tr) (kk:Int) (W:World) (k:Nat) (p:Value) (wr:World):Prop :=
  ∃ c u,p = I b ((zQ c).off)∧u.hs.length ≤ k∧Way s S t kk c u∧W.grownBy wr none
def LFEnd (s:Bool) (T:TypeId) (b:Nat) (S:TS) (t:Tr) (o:Od) (w:World) (h:Nat) (w':World):Prop :=
  ∃ (S':TS),TM T w' b S'∧w.grownBy w' (some b) ∧
    ((h ∈ t.hs∧(S.nd h).ticks = o.ticks∧S' = S) ∨ (∃ c u,Way s S t o.ticks c u∧S.rd (zQ c) = 0∧h = S.lc + 1∧S' = S.grow (zQ c) o.side o.ticks))
theorem cur_ok {s:Bool} {S:TS} {t:Tr} {k:Int} {c:Ctx} {u:Tr} (hi:TI s S t) (h:Way s S t k c u) (vB:S.lc < 20):(zQ c).ok:=by
  have hm:∀ a ∈ cl c ++ cr c,a < 21:=fun a ha=>by
    have:=hi.range a (by rw [h.plug,eM]; simp at ha ⊢; rcases ha with h | h <;> simp [h])
    omega
  match c,hm with
  | [],_=>trivial
  | (true,a,r) :: c,hm=>exact hm a (by simp [cr])
  | (false,a,l) :: c,hm=>exact hm a (by simp [cl])
theorem tm_put {w:World} {b:Nat} {S:TS} {T:TypeId} (h:TM T w b S) (i:Nat) (hi:i < 21) (o:Od) :
    TM T (((((((w.setCell (J b (171 + i * 7)) (H o.id)).setCell (J b (171 + i * 7 + 1)) (H o.side)).setCell (J b (171 + i * 7 + 2)) (H o.ticks)).setCell (J b (171 + i * 7 + 3)) (H o.left)).setCell
      (J b (171 + i * 7 + 4)) (H o.life)).setCell (J b (171 + i * 7 + 5)) (yk o.tag)).setCell (J b (171 + i * 7 + 6)) (H 0)) b { S with qo:=upd S.qo i ⟨o,0⟩ }:=by
  have h0:=tm_qo h i 0 hi (by omega) (H o.id) { (TS.qo _ i) with od:={ (TS.qo _ i).od with id:=o.id } } rfl _ rfl
  have Q:=tm_qo h0 i 1 hi (by omega) (H o.side) { (TS.qo _ i) with od:={ (TS.qo _ i).od with side:=o.side } } rfl _ rfl
  have D:=tm_qo Q i 2 hi (by omega) (H o.ticks) { (TS.qo _ i) with od:={ (TS.qo _ i).od with ticks:=o.ticks } } rfl _ rfl
  have X:=tm_qo D i 3 hi (by omega) (H o.left) { (TS.qo _ i) with od:={ (TS.qo _ i).od with left:=o.left } } rfl _ rfl
  have h4:=tm_qo X i 4 hi (by omega) (H o.life) { (TS.qo _ i) with od:={ (TS.qo _ i).od with life:=o.life } } rfl _ rfl
  have h5:=tm_qo h4 i 5 hi (by omega) (yk o.tag) { (TS.qo _ i) with od:={ (TS.qo _ i).od with tag:=o.tag } } rfl _ rfl
  have h6:=tm_qo h5 i 6 hi (by omega) (H 0) { (TS.qo _ i) with yg:=0 } rfl _ rfl
  simp only [ez,zt] at h6
  exact h6
theorem gr_put {w:World} {b:Nat} (o:Od) (i:Nat) :
    w.grownBy (((((((w.setCell (J b (171 + i * 7)) (H o.id)).setCell (J b (171 + i * 7 + 1)) (H o.side)).setCell (J b (171 + i * 7 + 2)) (H o.ticks)).setCell (J b (171 + i * 7 + 3)) (H o.left)).setCell
      (J b (171 + i * 7 + 4)) (H o.life)).setCell (J b (171 + i * 7 + 5)) (yk o.tag)).setCell (J b (171 + i * 7 + 6)) (H 0)) (some b) :=
  zK (zK (zK (zK (zK (zK (zK (yS _ _) _ _) _ _) _ _) _ _) _ _) _ _) _ _
theorem lf_lt {s:Bool} {T:TypeId} {b:Nat} {S:TS} {t:Tr} {o:Od} {w w':World} {h:Nat} (he:LFEnd s T b S t o w h w') (hi:TI s S t) (vB:S.lc < 20):(h:Int) < 21:=by
  obtain ⟨S',_,_,⟨Q,_,_⟩ | ⟨c,u,_,_,Q,_⟩⟩:=he
  · have:=(hi.range h Q).2; omega
  · omega
theorem link_eq0 (S:TS) (h m:Nat) (lf:Int) (hy:(S.nd h).yo = 0) :
    ({ S with nd:=upd S.nd h { (S.nd h) with qty:=(S.nd h).qty + lf,count:=(S.nd h).count + 1,el:=m,yo:=m } }:TS) = S.link h m lf:=by
  simp [TS.link,hy]
theorem link_eq1 (S:TS) (h m:Nat) (lf:Int) (hy:¬ (S.nd h).yo = 0) :
    ({ S with nd:=upd S.nd h { (S.nd h) with qty:=(S.nd h).qty + lf,count:=(S.nd h).count + 1,yo:=m },qo:=upd S.qo (S.nd h).yo { S.qo (S.nd h).yo with yg:=m } }:TS) = S.link h m lf:=by
  simp [TS.link,hy]
theorem ef {a w w':World} {G:Option Nat} (h:a.grownBy w G) (Q:w'.os = w.os) (D:w'.tape = w.tape) (X:w'.output = w.output) (h4:w'.heap = w.heap):a.grownBy w' G :=
  ⟨Q.trans h.os,D.trans h.tape,X.trans h.output,by rw [h4]; exact h.size,fun k E xC=>by rw [h4]; exact h.block k E xC⟩
def bY (T:TypeId) (s:Bool) (w:World) (b:Nat) (sd:Int) (seq:List Od):Prop:=∃ S t,TM T w b S∧TI s S t∧QI S t sd seq∧S.lc ≤ seq.length
theorem tm_zero (w:World) (yl:Array Value) (T:TypeId) (h0:yl[0]? = some (H 0)) (Q:yl[1]? = some (H 0)) (D:∀ i,i < 21→(yl.toList.drop (2 + i * 8)).take 8 = zNd.vs) (X:yl[170]? = some (H 0)) (h4:∀ i,i < 21→(yl.toList.drop (171 + i * 7)).take 7 = zQo.vs) :
    TM T (w.alloc (Obj.cells yl T)) w.heap.size zTS:=by
  have hh:=heap_alloc_new w (Obj.cells yl T)
  have xr:∀ o,(w.alloc (Obj.cells yl T)).cell? (yq w o) = yl[o]?:=fun o=>cell_of_row _ w.heap.size o yl T (0,0) hh
  have ur:∀ (o n:Nat) (cs:List Value),(yl.toList.drop o).take n = cs→(w.alloc (Obj.cells yl T)).rangeAt w.heap.size o cs:=fun o n cs hcs j v hv=>by
    rw [xr,← hv,← hcs,List.getElem?_take,List.getElem?_drop,Array.getElem?_toList]
    rw [← hcs,List.getElem?_take] at hv
    split
    · rfl
    · next hj=>rw [if_neg hj] at hv; cases hv
  exact ⟨(xr 0).trans h0,(xr 1).trans Q,fun i hi=>ur _ 8 _ (D i hi),(xr 170).trans X,fun i hi=>ur _ 7 _ (h4 i hi),fun o=>by simp only [World.frozen?,hh]; simp,yl,hh⟩
theorem zu {T:TypeId} {s:Bool} {w w':World} {b:Nat} {sd:Int} {seq:List Od} (h:bY T s w b sd seq) (A:w'.heap[b]? = w.heap[b]?):bY T s w' b sd seq:=by
  obtain ⟨S,t,Q,D⟩:=h
  exact ⟨S,t,cO Q A,D⟩
theorem zG {T:TypeId} {s:Bool} {w:World} {b:Nat} {sd:Int} {seq:List Od} (h:bY T s w b sd seq):b < w.heap.size:=by
  obtain ⟨S,t,Q,_⟩:=h; exact tm_lt Q
theorem sumL_bound:∀ l:List Od,(∀ o ∈ l,0 ≤ o.left∧o.left ≤ 1000000)→0 ≤ sumL l∧sumL l ≤ 1000000 * l.length
  | [],_=>by simp [sumL]
  | a :: l,h=>by
    have Q:=h a (by simp)
    have D:=sumL_bound l (fun o Y=>h o (by simp [Y]))
    simp only [sumL,List.length_cons]
    omega
theorem count_set:∀ (x:List Bool) (i:Nat),x[i]? = some false→(x.set i true).count false + 1 = x.count false
 | [],i,h=>by simp at h
 | b :: r,0,h=>by simp at h; subst h; simp
 | b :: r,i + 1,h=>by
  have ih:=count_set r i (by simpa using h)
  simp only [List.set_cons_succ,List.count_cons]
  omega
theorem no_false {x:List Bool} (h:x.count false = 0) (i:Nat):x[i]? ≠ some false:=fun e=>by
 have:=List.count_pos_iff.2 (yP e)
 omega
section
variable {P:Program} {h1:Exit→Act→World→Prop} {l:List Oper} (R:List Bool→Act→World→Prop)

theorem ready_facts {x:List Bool} (hx:x.length = l.length) {i:Nat} (h:i ∈ Region.ready .any l.toArray x.toArray) :
  ∃ o,l[i]? = some o∧x[i]? = some false∧∀ e ∈ o.after,Region.binds .any e = true→x[e.on]? = some true:=by
 obtain ⟨Q,o,D,X⟩:=mem_ready.1 h
 refine ⟨o,by simpa using D,?_,fun e he A=>?_⟩
 ·by_cases hi:i < x.length
  ·simp [hi] at Q; simp [hi,Q]
  ·simp [hi] at Q
 ·have:=X e he A
  by_cases hi:e.on < x.length
  ·simp [hi] at this; simp [hi,this]
  ·simp [hi] at this
theorem dX {x:List Bool} (h:Region.ready .any l.toArray x.toArray = []) (hx:x.length = l.length) (i:Nat) (o:Oper) (Y:l[i]? = some o) (K:∀ e ∈ o.after,Region.binds .any e = true→x[e.on]? = some true):x[i]? = some true:=by
 have hi:i < x.length:=by rw [hx]; exact (yH.1 Y).1
 cases A:x[i]
 ·exfalso
  have:i ∈ Region.ready .any l.toArray x.toArray:=mem_ready.2 ⟨by simp [hi,A],o,by simpa using Y,fun e he hbd=>by
   have:=K e he hbd
   obtain ⟨Q,D⟩:=yH.1 this
   simp [Q,D]⟩
  rw [h] at this; simp at this
 ·simp [hi,A]
theorem wpAny_inv
  (uU:∀ x a w,R x a w→x.length = l.length→Region.ready .any l.toArray x.toArray = []→h1 .normal a w)
  (oi:∀ x a w i o,R x a w→x.length = l.length→l[i]? = some o→x[i]? = some false→(∀ e ∈ o.after,Region.binds .any e = true→x[e.on]? = some true) →
   (if Region.wanted o (yielded l.toArray a.tmps) then o.wp P a w (fun a' w'=>R (x.set i true) a' w') h1 else R (x.set i true) (a.put o.dst Z) w)) :
  ∀ (n:Nat) (x:List Bool) (a:Act) (w:World),x.count false = n→x.length = l.length→R x a w→wpAny P .any l.toArray h1 n x.toArray a w
 | 0,x,a,w,hn,hx,F=>by
  have hr:Region.ready .any l.toArray x.toArray = []:=by
   apply List.eq_nil_iff_forall_not_mem.2
   intro i hi
   obtain ⟨o,_,D,_⟩:=ready_facts hx hi
   exact no_false hn i D
  exact ⟨hr,uU x a w F hx hr⟩
 | n + 1,x,a,w,hn,hx,F=>by
  refine ⟨fun hr=>uU x a w F hx hr,fun i hi=>?_⟩
  obtain ⟨o,Q,D,X⟩:=ready_facts hx hi
  have hs:=oi x a w i o F hx Q D X
  have hc:=count_set x i D
  have hnext:∀ a' w',R (x.set i true) a' w'→wpAny P .any l.toArray h1 n (x.toArray.setIfInBounds i true) a' w':=fun a' w' h=>by
   have:=wpAny_inv uU oi n (x.set i true) a' w' (by omega) (by simpa using hx) h
   simpa using this
  have Y:l.toArray[i]? = some o:=by simpa using Q
  unfold wpOp
  rw [Y]
  simp only
  split
  ·next hw=>rw [if_pos hw] at hs; exact .inl (Oper.wp_mono hnext hs)
  ·next hw=>rw [if_neg hw] at hs; exact hnext _ _ hs
theorem fu {id:Nat} {a:Act} {w:World} (hm:P.follows .mixedOrders = true)
  (h0:R (List.replicate l.length false) a { w with drawn:=w.drawn + 1 })
  (uU:∀ x a w,R x a w→x.length = l.length→Region.ready .any l.toArray x.toArray = []→h1 .normal a w)
  (oi:∀ x a w i o,R x a w→x.length = l.length→l[i]? = some o→x[i]? = some false→(∀ e ∈ o.after,Region.binds .any e = true→x[e.on]? = some true) →
   (if Region.wanted o (yielded l.toArray a.tmps) then o.wp P a w (fun a' w'=>R (x.set i true) a' w') h1 else R (x.set i true) (a.put o.dst Z) w)) :
  (Code.region id l.toArray true).wp P h1 a w:=by
 refine wp_region_any hm ?_
 have:=wpAny_inv R uU oi l.length (List.replicate l.length false) a { w with drawn:=w.drawn + 1 } (by simp) (by simp) h0
 simpa using this
end
def RGrow (base:World) (hR:(Nat→Value)→Act) (C:Nat→Value→Prop) (x:List Bool) (hb:Act) (W:World):Prop :=
 ∃ f,hb = hR f∧yn base W∧∀ j,x[j]? = some true→C j (f j)
theorem zF {C:Nat→Value→Prop} {x:List Bool} {f:Nat→Value} {i:Nat} {v:Value} (h:∀ j,x[j]? = some true→C j (f j)) (hv:C i v):∀ j,(x.set i true)[j]? = some true→C j (upd f i v j):=fun j hj=>by
 by_cases hji:j = i
 ·subst hji; rw [zt]; exact hv
 ·rw [zq _ _ hji]; rw [yX (fun e=>hji e.symm)] at hj; exact h j hj
theorem zX {l:List Oper} {x:List Bool} (h:Region.ready .any l.toArray x.toArray = []) (hx:x.length = l.length) (hacy:∀ (i:Nat) (o:Oper),l[i]? = some o→∀ e ∈ o.after,e.on < i):∀ i,i < l.length→x[i]? = some true:=by
 intro i
 induction i using Nat.strongRecOn with
 | _ i ih =>
  intro hi
  refine dX h hx i l[i] (yI hi) fun e he _=>?_
  have:=hacy i l[i] (yI hi) e he
  exact ih e.on this (by omega)
def RG (base:World) (hR:(Nat→Value)→Act) (k:Nat) (h2:Prop→World→Nat→Value→Prop) (x:List Bool) (hb:Act) (W:World):Prop :=
 ∃ f,hb = hR f∧yn base W∧∀ j,x[j]? = some true→h2 (x[k]? = some true) W j (f j)
section
variable {base W W':World} {hR:(Nat→Value)→Act} {k:Nat} {h2:Prop→World→Nat→Value→Prop} {x:List Bool} {f:Nat→Value}
theorem rg_grow (hm:∀ p W W' j v,yn W W'→h2 p W j v→h2 p W' j v) (A:yn base W) (h:∀ j,x[j]? = some true→h2 (x[k]? = some true) W j (f j)) (hg:yn W W') {i:Nat} (hik:i ≠ k) {v:Value} (hv:h2 (x[k]? = some true) W' i v) :
  yn base W'∧∀ j,(x.set i true)[j]? = some true→h2 ((x.set i true)[k]? = some true) W' j (upd f i v j):=by
 refine ⟨A.trans (hg.mono A.size),fun j hj=>?_⟩
 rw [yX hik]
 by_cases hji:j = i
 ·subst hji; rw [zt]; exact hv
 ·rw [zq _ _ hji]
  rw [yX (fun e=>hji e.symm)] at hj
  exact hm _ _ _ _ _ hg (h j hj)
theorem zf (A:yn base W) (h:∀ j,x[j]? = some true→h2 (x[k]? = some true) W j (f j)) {i:Nat} (hik:i ≠ k) {v:Value} (hv:h2 (x[k]? = some true) W i v) :
  yn base W∧∀ j,(x.set i true)[j]? = some true→h2 ((x.set i true)[k]? = some true) W j (upd f i v j):=by
 refine ⟨A,fun j hj=>?_⟩
 rw [yX hik]
 by_cases hji:j = i
 ·subst hji; rw [zt]; exact hv
 ·rw [zq _ _ hji]
  rw [yX (fun e=>hji e.symm)] at hj
  exact h j hj
end
theorem set_monoG {x:List Bool} {i j:Nat} (h:x[j]? = some true):(x.set i true)[j]? = some true:=by
 by_cases oT:i = j
 ·subst oT; exact List.getElem?_set_self (yH.1 h).1
 ·rw [yX oT]; exact h
def Closed (l:List Oper) (x:List Bool):Prop:=∀ (i:Nat) (o:Oper),l[i]? = some o→x[i]? = some true→∀ e ∈ o.after,Region.binds .any e = true→x[e.on]? = some true
theorem closed_step {l:List Oper} {x:List Bool} {i:Nat} {o:Oper} (h:Closed l x) (Y:l[i]? = some o) (K:∀ e ∈ o.after,Region.binds .any e = true→x[e.on]? = some true):Closed l (x.set i true):=by
 intro j o' vu hj e he A
 by_cases hji:j = i
 ·subst hji
  rw [Y] at vu
  obtain rfl:=ya vu
  exact set_monoG (K e he A)
 ·rw [yX (fun e=>hji e.symm)] at hj
  exact set_monoG (h j o' vu hj e he A)
theorem zn {P:Program} {h1:Exit→Act→World→Prop} {l:List Oper} (R:List Bool→Act→World→Prop) {id:Nat} {a:Act} {w:World} (hm:P.follows .mixedOrders = true)
  (h0:R (List.replicate l.length false) a { w with drawn:=w.drawn + 1 })
  (uU:∀ x a w,R x a w→x.length = l.length→Region.ready .any l.toArray x.toArray = []→h1 .normal a w)
  (oi:∀ x a w i o,R x a w→Closed l x→x.length = l.length→l[i]? = some o→x[i]? = some false→(∀ e ∈ o.after,Region.binds .any e = true→x[e.on]? = some true) →
   (if Region.wanted o (yielded l.toArray a.tmps) then o.wp P a w (fun a' w'=>R (x.set i true) a' w') h1 else R (x.set i true) (a.put o.dst Z) w)) :
  (Code.region id l.toArray true).wp P h1 a w:=by
 refine fu (fun x a w=>R x a w∧Closed l x) hm ⟨h0,fun i o _ hi=>by rw [yJ] at hi; split at hi <;> simp at hi⟩ (fun x a w h=>uU x a w h.1) ?_
 intro x a w i o h hx Y xu K
 have hs:=oi x a w i o h.1 h.2 hx Y xu K
 have hc:=closed_step h.2 Y K
 split
 ·next hw=>rw [if_pos hw] at hs; exact Oper.wp_mono (fun a' w' F=>⟨F,hc⟩) hs
 ·next hw=>rw [if_neg hw] at hs; exact ⟨hs,hc⟩
theorem zS {P:Program} {id:Nat} {h1:Exit→Act→World→Prop} {a:Act} {w:World} {l:List Oper} (n:Nat) (hm:P.follows .mixedOrders = true) (hB:Region.lexTailB .any l.toArray n = true)
  (h:wpStill P l.toArray w.drew (fun a'=>wpList P l.toArray h1 (l.drop n) a' w.drew) (l.take n) a):(Code.region id l.toArray true).wp P h1 a w:=wp_region_still_tail n hm hB h
theorem gY {P:Program} {w:World} {o:Oper} {a:Act} {xh:Act→World→Prop} {h1:Exit→Act→World→Prop} (s x:Operand) (t:TypeId)
  (Y:o.op = .call { callee:=.builtin .append,args:=#[s,x],argTypes:=#[t,t] })
  (base:Nat) (e:TypeId) (i:TypeInfo) (size:Nat) (ht:P.underlying t = some (.slice e)) (hi:P.info? e = some i)
  (v:Value) (n:Nat) (xs:List Value) (hs:a.eval s = v) (xS:w.ownsRow base e size v n xs) (hx:a.eval x = .slice none 0 0)
  (h:xh (a.put o.dst v) w):o.wp P a w xh h1:=by
 have hrun:=run_append_owned_none (P:=P) (w:=w) base t o.type e i size ht hi v n xs xS
 unfold Oper.wp
 simp [execOp,Y,resolve,invoke,builtin,hs,hx,hrun,Result.andThen]
 exact h
theorem yf {l : List Oper} {x : List Bool} (h : Closed l x) (i : Nat) {o : Oper} (Y : l[i]? = some o) (hi : x[i]? = some true) (j : Nat) (hm : (o.after.toList.any fun e => e.on == j && Region.binds .any e) = true) : x[j]? = some true := ye (h i o Y hi) j hm
section
variable {B0:Nat→World→Prop} {W W':World} {k:Nat} {h2:Prop→World→Nat→Value→Prop} {x:List Bool} {f:Nat→Value}
end
def PrO (k a b c:Nat):Prop:=∀ W:World,(convert 3 31 (H k)).run Tryz.prog W = .ok (yj a) W∧(binOp .quo 31 (yj a) (yj 4616189618054758400)).run Tryz.prog W = .ok (yj b) W∧(binOp .add 31 (yj 4636666922610458624) (yj b)).run Tryz.prog W = .ok (yj c) W
theorem prO_of {k a b c:Nat} (Q:∀ W:World,(convert 3 31 (H k)).run Tryz.prog W = .ok (yj a) W) (D:FloatKind.f64.format.div a 4616189618054758400 = some b) (X:FloatKind.f64.format.add 4636666922610458624 b = some c):PrO k a b c :=
 fun W=>⟨Q W,by simp [binOp,Op.floatArith,D],by simp [binOp,Op.floatArith,X]⟩
theorem prO_0:PrO 0 0 0 4636666922610458624:=prO_of (fun W=>by kernel_rfl) (by kernel_rfl) (by kernel_rfl)
theorem prO_1:PrO 1 4607182418800017408 4598175219545276416 4636684514796503040:=prO_of (fun W=>by kernel_rfl) (by kernel_rfl) (by kernel_rfl)
theorem prO_2:PrO 2 4611686018427387904 4602678819172646912 4636702106982547456:=prO_of (fun W=>by kernel_rfl) (by kernel_rfl) (by kernel_rfl)
theorem prO_3:PrO 3 4613937818241073152 4604930618986332160 4636719699168591872:=prO_of (fun W=>by kernel_rfl) (by kernel_rfl) (by kernel_rfl)
theorem prO_4:PrO 4 4616189618054758400 4607182418800017408 4636737291354636288:=prO_of (fun W=>by kernel_rfl) (by kernel_rfl) (by kernel_rfl)
theorem prO_5:PrO 5 4617315517961601024 4608308318706860032 4636754883540680704:=prO_of (fun W=>by kernel_rfl) (by kernel_rfl) (by kernel_rfl)
theorem prO_6:PrO 6 4618441417868443648 4609434218613702656 4636772475726725120:=prO_of (fun W=>by kernel_rfl) (by kernel_rfl) (by kernel_rfl)
theorem prO_7:PrO 7 4619567317775286272 4610560118520545280 4636790067912769536:=prO_of (fun W=>by kernel_rfl) (by kernel_rfl) (by kernel_rfl)
theorem prO_8:PrO 8 4620693217682128896 4611686018427387904 4636807660098813952:=prO_of (fun W=>by kernel_rfl) (by kernel_rfl) (by kernel_rfl)
def insT (s:Bool) (k:Int):List Int→List Int
 | []=>[k]
 | a :: r=>if bt s k a then k :: a :: r else if k = a then a :: r else a :: insT s k r
theorem insT_mem (s:Bool) (k x:Int):∀ T:List Int,x ∈ insT s k T ↔ x = k ∨ x ∈ T
 | []=>by simp [insT]
 | a :: r=>by
  rw [insT]
  split
  ·simp
  ·split
   ·next h=>subst h; simp
   ·simp [insT_mem s k x r]; constructor
    ·rintro (h | h | h) <;> simp [h]
    ·rintro (h | h | h) <;> simp [h]
theorem insT_sorted (s:Bool) (k:Int):∀ T:List Int,T.Pairwise (bt s)→(insT s k T).Pairwise (bt s)
 | [],_=>by simp [insT]
 | a :: r,h=>by
  obtain ⟨p1,p2⟩:=List.pairwise_cons.1 h
  rw [insT]
  split
  ·next E=>exact List.pairwise_cons.2 ⟨fun x hx=>by
    rcases List.mem_cons.1 hx with rfl | hx
    ·exact E
    ·exact bt_trans E (p1 x hx),h⟩
  ·next E =>
   split
   ·exact h
   ·next xC =>
    refine List.pairwise_cons.2 ⟨fun x hx=>?_,insT_sorted s k r p2⟩
    rcases (insT_mem s k x r).1 hx with rfl | hx
    ·rcases bt_total s x a with Q | Q | Q
     ·exact absurd Q E
     ·exact absurd Q xC
     ·exact Q
    ·exact p1 x hx
def tks (s:Bool):List Od→List Int
 | []=>[]
 | o :: r=>insT s o.ticks (tks s r)
theorem cV (s:Bool):∀ seq:List Od,IsT s seq (tks s seq)
 | []=>⟨by simp [tks],by simp [tks]⟩
 | o :: r=>by
  have ih:=cV s r
  refine ⟨insT_sorted s _ _ ih.sorted,fun k=>?_⟩
  rw [tks,insT_mem,ih.mem]
  constructor
  ·rintro (rfl | ⟨o',Q,D⟩)
   ·exact ⟨o,by simp,rfl⟩
   ·exact ⟨o',by simp [Q],D⟩
  ·rintro ⟨o',Q,D⟩
   rcases List.mem_cons.1 Q with rfl | Q
   ·exact .inl D.symm
   ·exact .inr ⟨o',Q,D⟩
theorem gX {s:Bool}:∀ {hb B:List Int},hb.Pairwise (bt s)→B.Pairwise (bt s)→(∀ k,k ∈ hb ↔ k ∈ B)→hb = B
 | [],B,_,_,h=>by
  cases B with
  | nil=>rfl
  | cons b r=>exact absurd ((h b).2 (by simp)) (by simp)
 | a :: hb,[],_,_,h=>absurd ((h a).1 (by simp)) (by simp)
 | a :: hb,b :: B,hA,hB,h=>by
  obtain ⟨p1,p2⟩:=List.pairwise_cons.1 hA
  obtain ⟨q1,q2⟩:=List.pairwise_cons.1 hB
  have hab:a = b:=by
   rcases List.mem_cons.1 ((h a).1 (by simp)) with e | e
   ·exact e
   ·rcases List.mem_cons.1 ((h b).2 (by simp)) with e' | e'
    ·exact e'.symm
    ·exact absurd (p1 b e') (bt_asymm (q1 a e))
  subst hab
  rw [gX p2 q2 fun k=>⟨fun E=>?_,fun E=>?_⟩]
  ·rcases List.mem_cons.1 ((h k).1 (by simp [E])) with e | e
   ·subst e; exact absurd (p1 _ E) (eg _ _)
   ·exact e
  ·rcases List.mem_cons.1 ((h k).2 (by simp [E])) with e | e
   ·subst e; exact absurd (q1 _ E) (eg _ _)
   ·exact e
theorem isT_unique {s:Bool} {seq:List Od} {hb:List Int} (hA:IsT s seq hb):hb = tks s seq :=
 gX hA.sorted (cV s seq).sorted fun k=>(hA.mem k).trans ((cV s seq).mem k).symm
structure Lv where
 side:Int
 ticks:Int
 qty:Int
 count:Int
def Lv.vs (n:Lv):List Value:=[H n.side,H n.ticks,H n.qty,H n.count]
theorem Lv.len (o:Lv):o.vs.length = 4:=rfl
def lvAt (sd:Int) (seq:List Od) (k:Int):Lv:=⟨sd,k,sumL (atK seq k),(atK seq k).length⟩
def bX (s:Bool) (sd:Int) (seq:List Od):List Lv:=(tks s seq).map (lvAt sd seq)
def quOf (s:Bool) (seq:List Od):List Od:=(tks s seq).flatMap (atK seq)
def Nd.lv (n:Nd):Lv:=⟨n.side,n.ticks,n.qty,n.count⟩
theorem gx {s:Bool} {S:TS} {t:Tr} {sd:Int} {seq:List Od} (hi:TI s S t) (hq:QI S t sd seq):(t.hs.map fun h=>(S.nd h).lv) = bX s sd seq:=by
 rw [bX,← isT_unique (isT_of hi hq),List.map_map]
 refine List.map_congr_left fun h hh=>?_
 have hQ:=hq.q h hh
 show Lv.mk _ _ _ _ = Lv.mk _ _ _ _
 rw [hQ.side,hQ.qty,hQ.cnt]
theorem tree_orders {s:Bool} {S:TS} {t:Tr} {sd:Int} {seq:List Od} (hi:TI s S t) (hq:QI S t sd seq):(t.hs.flatMap fun h=>(qs seq (S.nd h).ticks).map fun i=>(S.qo i).od) = quOf s seq:=by
 rw [quOf,← isT_unique (isT_of hi hq),List.flatMap_map]
 rw [List.flatMap_def,List.flatMap_def]
 congr 1
 refine List.map_congr_left fun h hh=>?_
 exact qsF_map _ _ seq 1 (fun i o Y=>hq.od i o Y)
def zOdv:Value:=.agg (yw 0 0 0 0 0 ⟨#[]⟩).toArray
def frOf (q:List Od):Value:=match q.head? with
 | some o=>.tuple #[o.val,.bool true]
 | none=>.tuple #[zOdv,.bool false]
def betB (n a b:Int):Bool:=decide (a ≤ n) && decide (n ≤ b)
theorem zH (n a b:Int) (w:World) :
  Calls Tryz.prog 72 #[H n,H a,H b] w fun e w'=>e = ym (.bool (betB n a b))∧w' = w:=by
 go_enter Tryz.func72,Tryz.ntmps72
 go_wp2
 all_goals go_ret
 all_goals exact ⟨zo (by rw [Bool.eq_iff_iff]; simp [betB]; omega),rfl⟩
theorem eQ (n:Int) (w:World) :
  Calls Tryz.prog 119 #[H n] w fun e w'=>e = ym (.bool (betB n 1 2))∧w' = w:=by
 go_enter Tryz.func119,Tryz.ntmps119
 go_wp2
 all_goals go_ret
 all_goals exact ⟨zo (by rw [Bool.eq_iff_iff]; simp [betB]; omega),rfl⟩
theorem eP (n:Int) (w:World) :
  Calls Tryz.prog 120 #[H n] w fun e w'=>e = ym (.bool (betB n 0 1))∧w' = w:=by
 go_enter Tryz.func120,Tryz.ntmps120
 go_wp2
 all_goals go_ret
 all_goals exact ⟨zo (by rw [Bool.eq_iff_iff]; simp [betB]; omega),rfl⟩
def tagC (c:UInt8):Bool:=betB c.toNat 32 126
def tagB (s:ByteArray):Bool:=decide (s.size ≤ 12) && s.data.toList.all tagC
theorem drop_cons (s:ByteArray) (k:Nat) (h:k < s.size):s.data.toList.drop k = s[k] :: s.data.toList.drop (k + 1):=by
 rw [get_nat s k h]
 exact xd (by rw [data_len]; exact h)
theorem tag_yes (s:ByteArray) (h:s.size ≤ 12) (E:s.data.toList.all tagC = true):tagB s = true:=by simp only [tagB,E,decide_eq_true h,Bool.and_true]
theorem tag_long (s:ByteArray) (h:¬ s.size ≤ 12):tagB s = false:=by simp only [tagB,decide_eq_false h,Bool.false_and]
theorem tag_no (s:ByteArray) (E:s.data.toList.all tagC = false):tagB s = false:=by simp only [tagB,E,Bool.and_false]
theorem isTag_any (s:ByteArray) (w:World) (hs:s.size ≤ maxLen) :
  Calls Tryz.prog 121 #[yk s] w fun e w'=>e = ym (.bool (tagB s))∧w' = w:=by
 unfold maxLen at hs
 by_cases hl:s.size ≤ 12
 ·have hl':¬ ((12:Int) < s.size):=by omega
  go_enter Tryz.func121,Tryz.ntmps121
  go_wp2_with fail
  go_loop [9] (fun i=>∃ k:Nat,k ≤ s.size∧i = H k∧Hid (s.data.toList.all tagC = (s.data.toList.drop k).all tagC)) (fun i=>s.size - (intOf i).toNat)
  case atStart=>exact ⟨0,Nat.zero_le _,rfl,by simp [Hid]⟩
  case round =>
   obtain ⟨k,E,rfl,K⟩:=hrel
   by_cases xM:k < s.size
   ·have vj:(k:Int) < s.size:=by omega
    have vR:=drop_cons s k xM
    have hgen:∃ c,c = s[k]:=⟨_,rfl⟩
    obtain ⟨c,hc⟩:=hgen
    have hw:betB (wrap64 (s[k].toNat:Int)) 32 126 = tagC c:=by
     have hlt256:=UInt8.toNat_lt s[k]
     rw [hc,show wrap64 (s[k].toNat:Int) = (s[k].toNat:Int) by unfold wrap64; omega]; rfl
    cases ht:tagC c
    ·rw [ht] at hw
     have HT:Hid (s.data.toList.all tagC = false):=by
      have:=U K
      rw [vR,List.all_cons,← hc,ht,Bool.false_and] at this
      exact this
     clear vR hc ht
     go_wp2_with fail
     refine (zH (wrap64 (s[k].toNat:Int)) 32 126 w).mono ?_
     rintro e w1 ⟨rfl,rfl⟩
     go_wp2_with fail
     go_ret
     exact ⟨zo (tag_no s (U HT)).symm,rfl⟩
    ·rw [ht] at hw
     have HN:Hid (s.data.toList.all tagC = (s.data.toList.drop (k + 1)).all tagC):=by
      have:=U K
      rw [vR,List.all_cons,← hc,ht,Bool.true_and] at this
      exact this
     clear vR hc ht
     go_wp2_with fail
     refine (zH (wrap64 (s[k].toNat:Int)) 32 126 w).mono ?_
     rintro e w1 ⟨rfl,rfl⟩
     go_wp2_with fail
     go_round
     case rel=>exact ⟨k + 1,by omega,by go_num,U HN⟩
     case measure=>simp [intOf]; omega
   ·go_wp2_with fail
    go_ret
    have h:=U K
    rw [xb (by rw [data_len]; omega)] at h
    exact ⟨zo (tag_yes s hl (by rw [h]; rfl)).symm,rfl⟩
 ·have hl':(12:Int) < s.size:=by omega
  go_enter Tryz.func121,Tryz.ntmps121
  go_wp2_with fail
  go_ret
  exact ⟨zo (tag_long s hl).symm,rfl⟩
def ordB (o:Od):Bool:=betB o.side 1 2 && betB o.life 0 1 && tagB o.tag && betB o.ticks 1 1000000 && betB o.left 1 1000000
theorem orderOK_any (o:Od) (w:World) (hs:o.tag.size ≤ maxLen) :
  Calls Tryz.prog 74 #[.agg (yw o.id o.side o.ticks o.left o.life o.tag).toArray] w fun e w'=>e = ym (.bool (ordB o))∧yn w w':=by
 have HT:=M (fun W=>isTag_any o.tag W hs)
 clear hs
 cases Q:betB o.side 1 2
 ·go_enter Tryz.func74,Tryz.ntmps74
  go_wp2_with (first | (go_at_call 119; refine (eQ _ _).mono ?_; rintro e w' ⟨rfl,rfl⟩) | (go_at_call 120; refine (eP _ _).mono ?_; rintro e w' ⟨rfl,rfl⟩) | (go_at_call 121; refine (U HT _).mono ?_; rintro e w' ⟨rfl,rfl⟩) | (go_at_call 72; refine (zH _ _ _ _).mono ?_; rintro e w' ⟨rfl,rfl⟩))
  go_ret
  exact ⟨zo (by simp [ordB,Q]),by go_grown⟩
 ·
  cases D:betB o.life 0 1
  ·go_enter Tryz.func74,Tryz.ntmps74
   go_wp2_with (first | (go_at_call 119; refine (eQ _ _).mono ?_; rintro e w' ⟨rfl,rfl⟩) | (go_at_call 120; refine (eP _ _).mono ?_; rintro e w' ⟨rfl,rfl⟩) | (go_at_call 121; refine (U HT _).mono ?_; rintro e w' ⟨rfl,rfl⟩) | (go_at_call 72; refine (zH _ _ _ _).mono ?_; rintro e w' ⟨rfl,rfl⟩))
   go_ret
   exact ⟨zo (by simp [ordB,Q,D]),by go_grown⟩
  ·
   cases X:tagB o.tag
   ·go_enter Tryz.func74,Tryz.ntmps74
    go_wp2_with (first | (go_at_call 119; refine (eQ _ _).mono ?_; rintro e w' ⟨rfl,rfl⟩) | (go_at_call 120; refine (eP _ _).mono ?_; rintro e w' ⟨rfl,rfl⟩) | (go_at_call 121; refine (U HT _).mono ?_; rintro e w' ⟨rfl,rfl⟩) | (go_at_call 72; refine (zH _ _ _ _).mono ?_; rintro e w' ⟨rfl,rfl⟩))
    go_ret
    exact ⟨zo (by simp [ordB,Q,D,X]),by go_grown⟩
   ·
    cases h4:betB o.ticks 1 1000000
    ·go_enter Tryz.func74,Tryz.ntmps74
     go_wp2_with (first | (go_at_call 119; refine (eQ _ _).mono ?_; rintro e w' ⟨rfl,rfl⟩) | (go_at_call 120; refine (eP _ _).mono ?_; rintro e w' ⟨rfl,rfl⟩) | (go_at_call 121; refine (U HT _).mono ?_; rintro e w' ⟨rfl,rfl⟩) | (go_at_call 72; refine (zH _ _ _ _).mono ?_; rintro e w' ⟨rfl,rfl⟩))
     go_ret
     exact ⟨zo (by simp [ordB,Q,D,X,h4]),by go_grown⟩
    ·
     cases h5:betB o.left 1 1000000
     ·go_enter Tryz.func74,Tryz.ntmps74
      go_wp2_with (first | (go_at_call 119; refine (eQ _ _).mono ?_; rintro e w' ⟨rfl,rfl⟩) | (go_at_call 120; refine (eP _ _).mono ?_; rintro e w' ⟨rfl,rfl⟩) | (go_at_call 121; refine (U HT _).mono ?_; rintro e w' ⟨rfl,rfl⟩) | (go_at_call 72; refine (zH _ _ _ _).mono ?_; rintro e w' ⟨rfl,rfl⟩))
      go_ret
      exact ⟨zo (by simp [ordB,Q,D,X,h4,h5]),by go_grown⟩
     ·go_enter Tryz.func74,Tryz.ntmps74
      go_wp2_with (first | (go_at_call 119; refine (eQ _ _).mono ?_; rintro e w' ⟨rfl,rfl⟩) | (go_at_call 120; refine (eP _ _).mono ?_; rintro e w' ⟨rfl,rfl⟩) | (go_at_call 121; refine (U HT _).mono ?_; rintro e w' ⟨rfl,rfl⟩) | (go_at_call 72; refine (zH _ _ _ _).mono ?_; rintro e w' ⟨rfl,rfl⟩))
      go_ret
      exact ⟨zo (by simp [ordB,Q,D,X,h4,h5]),by go_grown⟩
end Go.Proofs.YthhkapcbocgcoaaGreatDoor
