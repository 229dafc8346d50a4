/-
  A tree of levels in memory: one block of 318 cells; what a write turns; no function walked.
-/
import Derived.Test.YtopjoogdpjaocaaGreatTj03
import Derived.Deep.RegionWith
import Derived.Deep.LoopGhost
import Derived.BigRegion
set_option linter.unusedVariables false
set_option maxHeartbeats 6400000
set_option maxRecDepth 100000
namespace Go.Proofs.YtopjoogdpjaocaaGreat
open Go.RowKit
def Od.vs (o:Od):List Value:=[.int .i64 o.id,.int .i64 o.side,.int .i64 o.ticks,.int .i64 o.left,.int .i64 o.life,.string o.tag]
theorem Od.len (o:Od):o.vs.length = 6:=rfl
def Od.val (o:Od):Value:=.agg #[.int .i64 o.id,.int .i64 o.side,.int .i64 o.ticks,.int .i64 o.left,.int .i64 o.life,.string o.tag]
def Nd.vs (n:Nd):List Value:=[.int .i64 n.side,.int .i64 n.ticks,.int .i64 n.qty,.int .i64 n.count,.int .i64 n.be,.int .i64 n.wo,.int .i64 n.el,.int .i64 n.yo]
def Qo.vs (q:Qo):List Value:=[.int .i64 q.od.id,.int .i64 q.od.side,.int .i64 q.od.ticks,.int .i64 q.od.left,.int .i64 q.od.life,.string q.od.tag,.int .i64 q.yg]
structure TM (T:TypeId) (w:World) (b:Nat) (S:TS):Prop where
  root:w.cell? ⟨b,0,none⟩ = some (.int .i64 S.root)
  lc:w.cell? ⟨b,1,none⟩ = some (.int .i64 S.lc)
  nd:∀ i,i < 21→w.rangeAt b (2 + i * 8) (S.nd i).vs
  oc:w.cell? ⟨b,170,none⟩ = some (.int .i64 S.oc)
  qo:∀ i,i < 21→w.rangeAt b (171 + i * 7) (S.qo i).vs
  fr:∀ o,w.frozen? ⟨b,o,none⟩ = false
  obj:∃ cur,w.heap[b]? = some (.cells cur T (0,0))
theorem obj_set {w:World} {b o:Nat} {v:Value} {T:TypeId} (h:∃ cur,w.heap[b]? = some (.cells cur T (0,0))):∃ cur,(w.setCell ⟨b,o,none⟩ v).heap[b]? = some (.cells cur T (0,0)):=by
  obtain ⟨cur,h⟩:=h
  exact ⟨cur.setIfInBounds o v,by simp [World.setCell,Array.getElem?_modify,h]⟩
theorem tm_lt {w:World} {b:Nat} {S:TS} {T:TypeId} (h:TM T w b S):b < w.heap.size:=World.block_lt_of_cell? w _ h.root
theorem zan {w w':World} {b:Nat} {S:TS} {T:TypeId} (h:TM T w b S) (hb:w'.heap[b]? = w.heap[b]?):TM T w' b S :=
  ⟨(World.cell?_of_block (a:=⟨b,0,none⟩) hb).trans h.root,(World.cell?_of_block (a:=⟨b,1,none⟩) hb).trans h.lc,
   fun i hi j v hv=>(World.cell?_of_block (a:=⟨b,2 + i * 8 + j,none⟩) hb).trans (h.nd i hi j v hv),(World.cell?_of_block (a:=⟨b,170,none⟩) hb).trans h.oc,
   fun i hi j v hv=>(World.cell?_of_block (a:=⟨b,171 + i * 7 + j,none⟩) hb).trans (h.qo i hi j v hv),fun o=>(World.frozen?_of_block (a:=⟨b,o,none⟩) hb).trans (h.fr o),by rw [hb]; exact h.obj⟩
theorem zby {w w':World} {b C:Nat} {S:TS} {T:TypeId} (h:TM T w b S) (hb:Below C w w') (hC:b < C):TM T w' b S:=zan h (hb.block b hC)
theorem zcg {w w':World} {b:Nat} {G:Option Nat} {S:TS} {T:TypeId} (h:TM T w b S) (hg:w.grownBy w' G) (hne:some b ≠ G):TM T w' b S:=zan h (hg.block b (tm_lt h) hne)
theorem zaC {w:World} {b o n:Nat} {v:Value} {cs:List Value} (h:w.rangeAt b o cs) (hn:n < o ∨ o + cs.length ≤ n):(w.setCell ⟨b,n,none⟩ v).rangeAt b o cs:=fun j u hu=>by
  have hj:=(List.getElem?_eq_some_iff.1 hu).1
  rw [World.cell?_setCell_other _ _ _ _ (zX (by omega))]
  exact h j u hu
theorem set_range_in {w:World} {b o j0:Nat} {v:Value} {cs:List Value} (h:w.rangeAt b o cs) (hj0:j0 < cs.length):(w.setCell ⟨b,o + j0,none⟩ v).rangeAt b o (cs.set j0 v):=fun j u hu=>by
  by_cases hj:j = j0
  · subst hj
    rw [List.getElem?_set_self hj0] at hu
    obtain rfl:=Option.some.inj hu
    exact World.cell?_setCell_same _ _ _ (h j _ (List.getElem?_eq_getElem hj0))
  · rw [List.getElem?_set_ne (fun e=>hj e.symm)] at hu
    rw [World.cell?_setCell_other _ _ _ _ (zX (by omega))]
    exact h j u hu
theorem zaE {w:World} {b o n:Nat} {v u:Value} (h:w.cell? ⟨b,o,none⟩ = some u) (hn:o ≠ n):(w.setCell ⟨b,n,none⟩ v).cell? ⟨b,o,none⟩ = some u:=by
  rw [World.cell?_setCell_other _ _ _ _ (zX (by omega))]; exact h
theorem Nd.len (n:Nd):n.vs.length = 8:=rfl
theorem Qo.len (n:Qo):n.vs.length = 7:=rfl
theorem tm_root {w:World} {b:Nat} {S:TS} {T:TypeId} (h:TM T w b S) (n:Nat):TM T (w.setCell ⟨b,0,none⟩ (.int .i64 n)) b { S with root:=n } :=
  ⟨World.cell?_setCell_same _ _ _ h.root,zaE h.lc (by omega),fun i hi=>zaC (h.nd i hi) (by omega),zaE h.oc (by omega),fun i hi=>zaC (h.qo i hi) (by omega),fun o=>by rw [World.frozen?_setCell]; exact h.fr o,obj_set h.obj⟩
theorem tm_lc {w:World} {b:Nat} {S:TS} {T:TypeId} (h:TM T w b S) (n:Nat):TM T (w.setCell ⟨b,1,none⟩ (.int .i64 n)) b { S with lc:=n } :=
  ⟨zaE h.root (by omega),World.cell?_setCell_same _ _ _ h.lc,fun i hi=>zaC (h.nd i hi) (by omega),zaE h.oc (by omega),fun i hi=>zaC (h.qo i hi) (by omega),fun o=>by rw [World.frozen?_setCell]; exact h.fr o,obj_set h.obj⟩
theorem tm_oc {w:World} {b:Nat} {S:TS} {T:TypeId} (h:TM T w b S) (n:Nat):TM T (w.setCell ⟨b,170,none⟩ (.int .i64 n)) b { S with oc:=n } :=
  ⟨zaE h.root (by omega),zaE h.lc (by omega),fun i hi=>zaC (h.nd i hi) (by rw [Nd.len]; omega),World.cell?_setCell_same _ _ _ h.oc,fun i hi=>zaC (h.qo i hi) (by omega),fun o=>by rw [World.frozen?_setCell]; exact h.fr o,obj_set h.obj⟩
theorem zbi {w:World} {b:Nat} {S:TS} {T:TypeId} (h:TM T w b S) (i0 j0:Nat) (hi0:i0 < 21) (hj0:j0 < 8) (v:Value) (n':Nd) (hn:n'.vs = (S.nd i0).vs.set j0 v) (o:Nat) (ho:o = 2 + i0 * 8 + j0) :
    TM T (w.setCell ⟨b,o,none⟩ v) b { S with nd:=upd S.nd i0 n' }:=by
  subst ho
  refine ⟨zaE h.root (by omega),zaE h.lc (by omega),fun i hi=>?_,zaE h.oc (by omega),fun i hi=>zaC (h.qo i hi) (by omega),fun o=>by rw [World.frozen?_setCell]; exact h.fr o,obj_set h.obj⟩
  by_cases hii:i = i0
  · subst hii
    show World.rangeAt _ _ _ (upd S.nd i n' i).vs
    rw [zp,hn]
    exact set_range_in (h.nd i hi) hj0
  · show World.rangeAt _ _ _ (upd S.nd i0 n' i).vs
    rw [zq _ _ hii]
    exact zaC (h.nd i hi) (by rw [Nd.len]; omega)
theorem tm_qo {w:World} {b:Nat} {S:TS} {T:TypeId} (h:TM T w b S) (i0 j0:Nat) (hi0:i0 < 21) (hj0:j0 < 7) (v:Value) (n':Qo) (hn:n'.vs = (S.qo i0).vs.set j0 v) (o:Nat) (ho:o = 171 + i0 * 7 + j0) :
    TM T (w.setCell ⟨b,o,none⟩ v) b { S with qo:=upd S.qo i0 n' }:=by
  subst ho
  refine ⟨zaE h.root (by omega),zaE h.lc (by omega),fun i hi=>zaC (h.nd i hi) (by rw [Nd.len]; omega),zaE h.oc (by omega),fun i hi=>?_,fun o=>by rw [World.frozen?_setCell]; exact h.fr o,obj_set h.obj⟩
  by_cases hii:i = i0
  · subst hii
    show World.rangeAt _ _ _ (upd S.qo i n' i).vs
    rw [zp,hn]
    exact set_range_in (h.qo i hi) hj0
  · show World.rangeAt _ _ _ (upd S.qo i0 n' i).vs
    rw [zq _ _ hii]
    exact zaC (h.qo i hi) (by rw [Qo.len]; omega)
theorem zK {w:World} {b o:Nat} {n:Nd} (h:w.rangeAt b o n.vs) :
    w.cell? ⟨b,o,none⟩ = some (.int .i64 n.side)∧w.cell? ⟨b,o + 1,none⟩ = some (.int .i64 n.ticks)∧w.cell? ⟨b,o + 2,none⟩ = some (.int .i64 n.qty)∧w.cell? ⟨b,o + 3,none⟩ = some (.int .i64 n.count) ∧
    w.cell? ⟨b,o + 4,none⟩ = some (.int .i64 n.be)∧w.cell? ⟨b,o + 5,none⟩ = some (.int .i64 n.wo)∧w.cell? ⟨b,o + 6,none⟩ = some (.int .i64 n.el)∧w.cell? ⟨b,o + 7,none⟩ = some (.int .i64 n.yo) :=
  ⟨h 0 _ rfl,h 1 _ rfl,h 2 _ rfl,h 3 _ rfl,h 4 _ rfl,h 5 _ rfl,h 6 _ rfl,h 7 _ rfl⟩
theorem zcc {w:World} {b o:Nat} {n:Qo} (h:w.rangeAt b o n.vs) :
    w.cell? ⟨b,o,none⟩ = some (.int .i64 n.od.id)∧w.cell? ⟨b,o + 1,none⟩ = some (.int .i64 n.od.side)∧w.cell? ⟨b,o + 2,none⟩ = some (.int .i64 n.od.ticks)∧w.cell? ⟨b,o + 3,none⟩ = some (.int .i64 n.od.left) ∧
    w.cell? ⟨b,o + 4,none⟩ = some (.int .i64 n.od.life)∧w.cell? ⟨b,o + 5,none⟩ = some (.string n.od.tag)∧w.cell? ⟨b,o + 6,none⟩ = some (.int .i64 n.yg) :=
  ⟨h 0 _ rfl,h 1 _ rfl,h 2 _ rfl,h 3 _ rfl,h 4 _ rfl,h 5 _ rfl,h 6 _ rfl⟩
theorem zD {w:World} {b o:Nat} {n:Od} (h:w.rangeAt b o n.vs) :
    w.cell? ⟨b,o,none⟩ = some (.int .i64 n.id)∧w.cell? ⟨b,o + 1,none⟩ = some (.int .i64 n.side)∧w.cell? ⟨b,o + 2,none⟩ = some (.int .i64 n.ticks)∧w.cell? ⟨b,o + 3,none⟩ = some (.int .i64 n.left) ∧
    w.cell? ⟨b,o + 4,none⟩ = some (.int .i64 n.life)∧w.cell? ⟨b,o + 5,none⟩ = some (.string n.tag) :=
  ⟨h 0 _ rfl,h 1 _ rfl,h 2 _ rfl,h 3 _ rfl,h 4 _ rfl,h 5 _ rfl⟩
def Cur.off:Cur→Nat
  | .root=>0
  | .be h=>2 + h * 8 + 4
  | .wo h=>2 + h * 8 + 5
def Cur.ok:Cur→Prop
  | .root=>True
  | .be h=>h < 21
  | .wo h=>h < 21
theorem cur_cell {w:World} {b:Nat} {S:TS} {T:TypeId} (h:TM T w b S) (c:Cur) (hc:c.ok):w.cell? ⟨b,c.off,none⟩ = some (.int .i64 (S.rd c)):=by
  cases c with
  | root=>exact h.root
  | be a=>exact (zK (h.nd a hc)).2.2.2.2.1
  | wo a=>exact (zK (h.nd a hc)).2.2.2.2.2.1
theorem tm_cur {w:World} {b:Nat} {S:TS} {T:TypeId} (h:TM T w b S) (c:Cur) (hc:c.ok) (n:Nat):TM T (w.setCell ⟨b,c.off,none⟩ (.int .i64 n)) b (S.wr n c):=by
  cases c with
  | root=>exact tm_root h n
  | be a=>exact zbi h a 4 hc (by omega) (.int .i64 n) { S.nd a with be:=n } rfl _ rfl
  | wo a=>exact zbi h a 5 hc (by omega) (.int .i64 n) { S.nd a with wo:=n } rfl _ rfl
theorem zbM {α:Type} (f:Nat→α) (i:Nat) (x y:α):upd (upd f i x) i y = upd f i y:=by
  funext j; simp only [upd]; split <;> rfl
theorem zh (w:World) (cs:List Value) (t:TypeId):(w.alloc (Obj.cells cs.toArray t)).rangeAt w.heap.size 0 cs:=fun j u h=>by
  rw [cell_of_row _ w.heap.size (0 + j) cs.toArray t (0,0) (heap_alloc_new w _)]
  simpa using h
theorem ze (w:World) (o:Obj):(w.alloc o).heap.size = w.heap.size + 1:=by simp
theorem gr_drew {a w:World} {G:Option Nat} (h:a.grownBy w G):a.grownBy w.drew G:=⟨h.os,h.tape,h.output,h.size,h.block⟩
theorem zah {P:Program} {ops:Array Oper} {C:World→Prop} {Q:Act→Prop} {a:Act} {o:Oper} {rest:List Oper} {v:Value} (h1:Region.wanted o (yielded ops a.tmps) = true) (h2:∀ w',C w'→o.quietAt P a C w' v)
    (h3:∀ K:Act→Prop,(∀ a,wpQuiet P ops C Q rest a→K a)→K (a.put o.dst v)):wpQuiet P ops C Q (o :: rest) a :=
  wpQuiet_step fun K hK=>by rw [if_pos h1]; exact ⟨v,h2,h3 K hK⟩
theorem zat {P:Program} {id:Nat} {Q:Exit→Act→World→Prop} {a:Act} {w W:World} {l:List Oper} (hm:P.follows .mixedOrders = true) (hB:Region.lexB .any l.toArray = true) (hg:W.grownBy w none)
    (h:wpQuiet P l.toArray (fun w'=>W.grownBy w' none) (fun a'=>∀ w',W.grownBy w' none→Q .normal a' w') l a):(Code.region id l.toArray true).wp P Q a w :=
  wp_region_quiet (C:=fun w'=>W.grownBy w' none) hm hB ⟨hg.os,hg.tape,hg.output,hg.size,hg.block⟩ (by simpa using h)
theorem zL {a w:World} {b:Nat} (h:a.grownBy w (some b)) (o:Nat) (v:Value):a.grownBy (w.setCell ⟨b,o,none⟩ v) (some b) :=
  ⟨h.os,h.tape,h.output,by rw [World.setCell]; simpa using h.size,fun k hk hne=>(Below.heap_setCell w _ _ k (fun e=>hne (by rw [e]))).trans (h.block k hk hne)⟩
theorem grow_eq (S:TS) (cu:Cur) (o:Od) (m:Nat) (hm:m = S.lc + 1) :
    ({ root:=({ S with lc:=m }.wr m cu).root,lc:=({ S with lc:=m }.wr m cu).lc,oc:=({ S with lc:=m }.wr m cu).oc,
       nd:=upd ({ S with lc:=m }.wr m cu).nd m { (({ S with lc:=m }.wr m cu).nd m) with side:=o.side,ticks:=o.ticks,qty:=0,count:=0 },qo:=({ S with lc:=m }.wr m cu).qo }:TS) = S.grow cu o.side o.ticks:=by
  subst hm
  cases cu <;> rfl
def LFI (s:Bool) (b:Nat) (S:TS) (t:Tr) (kk:Int) (W:World) (k:Nat) (p:Value) (wr:World):Prop :=
  ∃ c u,p = .pointer (some ⟨b,(zR c).off,none⟩)∧u.hs.length ≤ k∧Way s S t kk c u∧W.grownBy wr none
def LFEnd (s:Bool) (T:TypeId) (b:Nat) (S:TS) (t:Tr) (o:Od) (w:World) (h:Nat) (w':World):Prop :=
  ∃ (S':TS),TM T w' b S'∧w.grownBy w' (some b) ∧
    ((h ∈ t.hs∧(S.nd h).ticks = o.ticks∧S' = S) ∨ (∃ c u,Way s S t o.ticks c u∧S.rd (zR c) = 0∧h = S.lc + 1∧S' = S.grow (zR c) o.side o.ticks))
theorem cur_ok {s:Bool} {S:TS} {t:Tr} {k:Int} {c:Ctx} {u:Tr} (hi:TI s S t) (h:Way s S t k c u) (hlc:S.lc < 20):(zR c).ok:=by
  have hm:∀ a ∈ cl c ++ cr c,a < 21:=fun a ha=>by
    have:=hi.range a (by rw [h.plug,zbV]; simp at ha ⊢; rcases ha with h | h <;> simp [h])
    omega
  match c,hm with
  | [],_=>trivial
  | (true,a,r) :: c,hm=>exact hm a (by simp [cr])
  | (false,a,l) :: c,hm=>exact hm a (by simp [cl])
theorem tm_put {w:World} {b:Nat} {S:TS} {T:TypeId} (h:TM T w b S) (i:Nat) (hi:i < 21) (o:Od) :
    TM T (((((((w.setCell ⟨b,171 + i * 7,none⟩ (.int .i64 o.id)).setCell ⟨b,171 + i * 7 + 1,none⟩ (.int .i64 o.side)).setCell ⟨b,171 + i * 7 + 2,none⟩ (.int .i64 o.ticks)).setCell ⟨b,171 + i * 7 + 3,none⟩ (.int .i64 o.left)).setCell
      ⟨b,171 + i * 7 + 4,none⟩ (.int .i64 o.life)).setCell ⟨b,171 + i * 7 + 5,none⟩ (.string o.tag)).setCell ⟨b,171 + i * 7 + 6,none⟩ (.int .i64 0)) b { S with qo:=upd S.qo i ⟨o,0⟩ }:=by
  have h0:=tm_qo h i 0 hi (by omega) (.int .i64 o.id) { (TS.qo _ i) with od:={ (TS.qo _ i).od with id:=o.id } } rfl _ rfl
  have h1:=tm_qo h0 i 1 hi (by omega) (.int .i64 o.side) { (TS.qo _ i) with od:={ (TS.qo _ i).od with side:=o.side } } rfl _ rfl
  have h2:=tm_qo h1 i 2 hi (by omega) (.int .i64 o.ticks) { (TS.qo _ i) with od:={ (TS.qo _ i).od with ticks:=o.ticks } } rfl _ rfl
  have h3:=tm_qo h2 i 3 hi (by omega) (.int .i64 o.left) { (TS.qo _ i) with od:={ (TS.qo _ i).od with left:=o.left } } rfl _ rfl
  have h4:=tm_qo h3 i 4 hi (by omega) (.int .i64 o.life) { (TS.qo _ i) with od:={ (TS.qo _ i).od with life:=o.life } } rfl _ rfl
  have h5:=tm_qo h4 i 5 hi (by omega) (.string o.tag) { (TS.qo _ i) with od:={ (TS.qo _ i).od with tag:=o.tag } } rfl _ rfl
  have h6:=tm_qo h5 i 6 hi (by omega) (.int .i64 0) { (TS.qo _ i) with yg:=0 } rfl _ rfl
  simp only [zbM,zp] at h6
  exact h6
theorem gr_put {w:World} {b:Nat} (o:Od) (i:Nat) :
    w.grownBy (((((((w.setCell ⟨b,171 + i * 7,none⟩ (.int .i64 o.id)).setCell ⟨b,171 + i * 7 + 1,none⟩ (.int .i64 o.side)).setCell ⟨b,171 + i * 7 + 2,none⟩ (.int .i64 o.ticks)).setCell ⟨b,171 + i * 7 + 3,none⟩ (.int .i64 o.left)).setCell
      ⟨b,171 + i * 7 + 4,none⟩ (.int .i64 o.life)).setCell ⟨b,171 + i * 7 + 5,none⟩ (.string o.tag)).setCell ⟨b,171 + i * 7 + 6,none⟩ (.int .i64 0)) (some b) :=
  zL (zL (zL (zL (zL (zL (zL (World.grownBy.refl _ _) _ _) _ _) _ _) _ _) _ _) _ _) _ _
theorem lf_lt {s:Bool} {T:TypeId} {b:Nat} {S:TS} {t:Tr} {o:Od} {w w':World} {h:Nat} (he:LFEnd s T b S t o w h w') (hi:TI s S t) (hlc:S.lc < 20):(h:Int) < 21:=by
  obtain ⟨S',_,_,⟨h1,_,_⟩ | ⟨c,u,_,_,h1,_⟩⟩:=he
  · have:=(hi.range h h1).2; omega
  · omega
theorem link_eq0 (S:TS) (h m:Nat) (lf:Int) (hy:(S.nd h).yo = 0) :
    ({ S with nd:=upd S.nd h { (S.nd h) with qty:=(S.nd h).qty + lf,count:=(S.nd h).count + 1,el:=m,yo:=m } }:TS) = S.link h m lf:=by
  simp [TS.link,hy]
theorem link_eq1 (S:TS) (h m:Nat) (lf:Int) (hy:¬ (S.nd h).yo = 0) :
    ({ S with nd:=upd S.nd h { (S.nd h) with qty:=(S.nd h).qty + lf,count:=(S.nd h).count + 1,yo:=m },qo:=upd S.qo (S.nd h).yo { S.qo (S.nd h).yo with yg:=m } }:TS) = S.link h m lf:=by
  simp [TS.link,hy]
theorem zaW {a w w':World} {G:Option Nat} (h:a.grownBy w G) (h1:w'.os = w.os) (h2:w'.tape = w.tape) (h3:w'.output = w.output) (h4:w'.heap = w.heap):a.grownBy w' G :=
  ⟨h1.trans h.os,h2.trans h.tape,h3.trans h.output,by rw [h4]; exact h.size,fun k hk hne=>by rw [h4]; exact h.block k hk hne⟩
def zak (T:TypeId) (s:Bool) (w:World) (b:Nat) (sd:Int) (seq:List Od):Prop:=∃ S t,TM T w b S∧TI s S t∧QI S t sd seq∧S.lc ≤ seq.length
theorem tm_zero (w:World) (Z:Array Value) (T:TypeId) (h0:Z[0]? = some (.int .i64 0)) (h1:Z[1]? = some (.int .i64 0)) (h2:∀ i,i < 21→(Z.toList.drop (2 + i * 8)).take 8 = zNd.vs) (h3:Z[170]? = some (.int .i64 0)) (h4:∀ i,i < 21→(Z.toList.drop (171 + i * 7)).take 7 = zQo.vs) :
    TM T (w.alloc (Obj.cells Z T)) w.heap.size zTS:=by
  have hh:=heap_alloc_new w (Obj.cells Z T)
  have hcell:∀ o,(w.alloc (Obj.cells Z T)).cell? ⟨w.heap.size,o,none⟩ = Z[o]?:=fun o=>cell_of_row _ w.heap.size o Z T (0,0) hh
  have hrow:∀ (o n:Nat) (cs:List Value),(Z.toList.drop o).take n = cs→(w.alloc (Obj.cells Z T)).rangeAt w.heap.size o cs:=fun o n cs hcs j v hv=>by
    rw [hcell,← hv,← hcs,List.getElem?_take,List.getElem?_drop,Array.getElem?_toList]
    rw [← hcs,List.getElem?_take] at hv
    split
    · rfl
    · next hj=>rw [if_neg hj] at hv; cases hv
  exact ⟨(hcell 0).trans h0,(hcell 1).trans h1,fun i hi=>hrow _ 8 _ (h2 i hi),(hcell 170).trans h3,fun i hi=>hrow _ 7 _ (h4 i hi),fun o=>by simp only [World.frozen?,hh]; simp,Z,hh⟩
theorem zG {T:TypeId} {s:Bool} {w w':World} {b:Nat} {sd:Int} {seq:List Od} (h:zak T s w b sd seq) (hb:w'.heap[b]? = w.heap[b]?):zak T s w' b sd seq:=by
  obtain ⟨S,t,h1,h2⟩:=h
  exact ⟨S,t,zan h1 hb,h2⟩
theorem zaf {T:TypeId} {s:Bool} {w:World} {b:Nat} {sd:Int} {seq:List Od} (h:zak T s w b sd seq):b < w.heap.size:=by
  obtain ⟨S,t,h1,_⟩:=h; exact tm_lt h1
theorem sumL_bound:∀ l:List Od,(∀ o ∈ l,0 ≤ o.left∧o.left ≤ 1000000)→0 ≤ sumQ l∧sumQ l ≤ 1000000 * l.length
  | [],_=>by simp [sumQ]
  | a :: l,h=>by
    have h1:=h a (by simp)
    have h2:=sumL_bound l (fun o ho=>h o (by simp [ho]))
    simp only [sumQ,List.length_cons]
    omega
def insT (s:Bool) (k:Int):List Int→List Int
 | []=>[k]
 | a :: r=>if bt s k a then k :: a :: r else if k = a then a :: r else a :: insT s k r
theorem insT_mem (s:Bool) (k x:Int):∀ T:List Int,x ∈ insT s k T ↔ x = k ∨ x ∈ T
 | []=>by simp [insT]
 | a :: r=>by
  rw [insT]
  split
  ·simp
  ·split
   ·next h=>subst h; simp
   ·simp [insT_mem s k x r]; constructor
    ·rintro (h | h | h) <;> simp [h]
    ·rintro (h | h | h) <;> simp [h]
theorem insT_sorted (s:Bool) (k:Int):∀ T:List Int,T.Pairwise (bt s)→(insT s k T).Pairwise (bt s)
 | [],_=>by simp [insT]
 | a :: r,h=>by
  obtain ⟨p1,p2⟩:=List.pairwise_cons.1 h
  rw [insT]
  split
  ·next hk=>exact List.pairwise_cons.2 ⟨fun x hx=>by
    rcases List.mem_cons.1 hx with rfl | hx
    ·exact hk
    ·exact bt_trans hk (p1 x hx),h⟩
  ·next hk =>
   split
   ·exact h
   ·next hne =>
    refine List.pairwise_cons.2 ⟨fun x hx=>?_,insT_sorted s k r p2⟩
    rcases (insT_mem s k x r).1 hx with rfl | hx
    ·rcases bt_total s x a with h1 | h1 | h1
     ·exact absurd h1 hk
     ·exact absurd h1 hne
     ·exact h1
    ·exact p1 x hx
def tks (s:Bool):List Od→List Int
 | []=>[]
 | o :: r=>insT s o.ticks (tks s r)
theorem zcm (s:Bool):∀ seq:List Od,IsT s seq (tks s seq)
 | []=>⟨by simp [tks],by simp [tks]⟩
 | o :: r=>by
  have ih:=zcm s r
  refine ⟨insT_sorted s _ _ ih.sorted,fun k=>?_⟩
  rw [tks,insT_mem,ih.mem]
  constructor
  ·rintro (rfl | ⟨o',h1,h2⟩)
   ·exact ⟨o,by simp,rfl⟩
   ·exact ⟨o',by simp [h1],h2⟩
  ·rintro ⟨o',h1,h2⟩
   rcases List.mem_cons.1 h1 with rfl | h1
   ·exact .inl h2.symm
   ·exact .inr ⟨o',h1,h2⟩
theorem zci {s:Bool}:∀ {A B:List Int},A.Pairwise (bt s)→B.Pairwise (bt s)→(∀ k,k ∈ A ↔ k ∈ B)→A = B
 | [],B,_,_,h=>by
  cases B with
  | nil=>rfl
  | cons b r=>exact absurd ((h b).2 (by simp)) (by simp)
 | a :: A,[],_,_,h=>absurd ((h a).1 (by simp)) (by simp)
 | a :: A,b :: B,hA,hB,h=>by
  obtain ⟨p1,p2⟩:=List.pairwise_cons.1 hA
  obtain ⟨q1,q2⟩:=List.pairwise_cons.1 hB
  have hab:a = b:=by
   rcases List.mem_cons.1 ((h a).1 (by simp)) with e | e
   ·exact e
   ·rcases List.mem_cons.1 ((h b).2 (by simp)) with e' | e'
    ·exact e'.symm
    ·exact absurd (p1 b e') (bt_asymm (q1 a e))
  subst hab
  rw [zci p2 q2 fun k=>⟨fun hk=>?_,fun hk=>?_⟩]
  ·rcases List.mem_cons.1 ((h k).1 (by simp [hk])) with e | e
   ·subst e; exact absurd (p1 _ hk) (bt_irr _ _)
   ·exact e
  ·rcases List.mem_cons.1 ((h k).2 (by simp [hk])) with e | e
   ·subst e; exact absurd (q1 _ hk) (bt_irr _ _)
   ·exact e
theorem isT_unique {s:Bool} {seq:List Od} {A:List Int} (hA:IsT s seq A):A = tks s seq :=
 zci hA.sorted (zcm s seq).sorted fun k=>(hA.mem k).trans ((zcm s seq).mem k).symm
structure Lv where
 side:Int
 ticks:Int
 qty:Int
 count:Int
def Lv.vs (n:Lv):List Value:=[.int .i64 n.side,.int .i64 n.ticks,.int .i64 n.qty,.int .i64 n.count]
theorem Lv.len (o:Lv):o.vs.length = 4:=rfl
def lvAt (sd:Int) (seq:List Od) (k:Int):Lv:=⟨sd,k,sumQ (atK seq k),(atK seq k).length⟩
def zbg (s:Bool) (sd:Int) (seq:List Od):List Lv:=(tks s seq).map (lvAt sd seq)
def quOf (s:Bool) (seq:List Od):List Od:=(tks s seq).flatMap (atK seq)
def Nd.lv (n:Nd):Lv:=⟨n.side,n.ticks,n.qty,n.count⟩
theorem zbL {s:Bool} {S:TS} {t:Tr} {sd:Int} {seq:List Od} (hi:TI s S t) (hq:QI S t sd seq):(t.hs.map fun h=>(S.nd h).lv) = zbg s sd seq:=by
 rw [zbg,← isT_unique (isT_of hi hq),List.map_map]
 refine List.map_congr_left fun h hh=>?_
 have hQ:=hq.q h hh
 show Lv.mk _ _ _ _ = Lv.mk _ _ _ _
 rw [hQ.side,hQ.qty,hQ.cnt]
theorem tree_orders {s:Bool} {S:TS} {t:Tr} {sd:Int} {seq:List Od} (hi:TI s S t) (hq:QI S t sd seq):(t.hs.flatMap fun h=>(qs seq (S.nd h).ticks).map fun i=>(S.qo i).od) = quOf s seq:=by
 rw [quOf,← isT_unique (isT_of hi hq),List.flatMap_map]
 rw [List.flatMap_def,List.flatMap_def]
 congr 1
 refine List.map_congr_left fun h hh=>?_
 exact qsF_map _ _ seq 1 (fun i o ho=>hq.od i o ho)
def zOdv:Value:=.agg #[.int .i64 0,.int .i64 0,.int .i64 0,.int .i64 0,.int .i64 0,.string ⟨#[]⟩]
def frOf (q:List Od):Value:=match q.head? with
 | some o=>.tuple #[o.val,.bool true]
 | none=>.tuple #[zOdv,.bool false]
def betB (n a b:Int):Bool:=decide (a ≤ n) && decide (n ≤ b)
theorem zaL (n a b:Int) (w:World) :
  Calls Tryz.prog 103 #[.int .i64 n,.int .i64 a,.int .i64 b] w fun e w'=>e = .returned (.bool (betB n a b))∧w' = w:=by
 go_enter Tryz.func103,Tryz.ntmps103
 go_wp2
 all_goals go_ret
 all_goals exact ⟨zy (by rw [Bool.eq_iff_iff]; simp [betB]; omega),rfl⟩
theorem isSide_any (n:Int) (w:World) :
  Calls Tryz.prog 85 #[.int .i64 n] w fun e w'=>e = .returned (.bool (betB n 1 2))∧w' = w:=by
 go_enter Tryz.func85,Tryz.ntmps85
 go_wp2
 all_goals go_ret
 all_goals exact ⟨zy (by rw [Bool.eq_iff_iff]; simp [betB]; omega),rfl⟩
theorem isLife_any (n:Int) (w:World) :
  Calls Tryz.prog 87 #[.int .i64 n] w fun e w'=>e = .returned (.bool (betB n 0 1))∧w' = w:=by
 go_enter Tryz.func87,Tryz.ntmps87
 go_wp2
 all_goals go_ret
 all_goals exact ⟨zy (by rw [Bool.eq_iff_iff]; simp [betB]; omega),rfl⟩
def tagC (c:UInt8):Bool:=betB c.toNat 32 126
def tagB (s:ByteArray):Bool:=decide (s.size ≤ 12) && s.data.toList.all tagC
theorem drop_cons (s:ByteArray) (k:Nat) (h:k < s.size):s.data.toList.drop k = s[k] :: s.data.toList.drop (k + 1):=by
 rw [get_nat s k h]
 exact List.drop_eq_getElem_cons (by rw [data_len]; exact h)
theorem tag_yes (s:ByteArray) (h:s.size ≤ 12) (hk:s.data.toList.all tagC = true):tagB s = true:=by simp only [tagB,hk,decide_eq_true h,Bool.and_true]
theorem tag_long (s:ByteArray) (h:¬ s.size ≤ 12):tagB s = false:=by simp only [tagB,decide_eq_false h,Bool.false_and]
theorem tag_no (s:ByteArray) (hk:s.data.toList.all tagC = false):tagB s = false:=by simp only [tagB,hk,Bool.and_false]
set_option maxHeartbeats 400000 in
theorem isTag_any (s:ByteArray) (w:World) (hs:s.size ≤ maxLen) :
  Calls Tryz.prog 90 #[.string s] w fun e w'=>e = .returned (.bool (tagB s))∧w' = w:=by
 unfold maxLen at hs
 by_cases hl:s.size ≤ 12
 ·have hl':¬ ((12:Int) < s.size):=by omega
  go_enter Tryz.func90,Tryz.ntmps90
  go_wp2_with fail
  go_loop [9] (fun i=>∃ k:Nat,k ≤ s.size∧i = .int .i64 k∧Hid (s.data.toList.all tagC = (s.data.toList.drop k).all tagC)) (fun i=>s.size - (intOf i).toNat)
  case atStart=>exact ⟨0,Nat.zero_le _,rfl,by simp [Hid]⟩
  case round =>
   obtain ⟨k,hk,rfl,hall⟩:=hrel
   by_cases hlt:k < s.size
   ·have hlt':(k:Int) < s.size:=by omega
    have hdr:=drop_cons s k hlt
    have hgen:∃ c,c = s[k]:=⟨_,rfl⟩
    obtain ⟨c,hc⟩:=hgen
    have hw:betB (wrap64 (s[k].toNat:Int)) 32 126 = tagC c:=by
     have hlt256:=UInt8.toNat_lt s[k]
     rw [hc,show wrap64 (s[k].toNat:Int) = (s[k].toNat:Int) by unfold wrap64; omega]; rfl
    cases ht:tagC c
    ·rw [ht] at hw
     have HT:Hid (s.data.toList.all tagC = false):=by
      have:=za hall
      rw [hdr,List.all_cons,← hc,ht,Bool.false_and] at this
      exact this
     clear hdr hc ht
     go_wp2_with fail
     refine (zaL (wrap64 (s[k].toNat:Int)) 32 126 w).mono ?_
     rintro e w1 ⟨rfl,rfl⟩
     go_wp2_with fail
     go_ret
     exact ⟨zy (tag_no s (za HT)).symm,rfl⟩
    ·rw [ht] at hw
     have HN:Hid (s.data.toList.all tagC = (s.data.toList.drop (k + 1)).all tagC):=by
      have:=za hall
      rw [hdr,List.all_cons,← hc,ht,Bool.true_and] at this
      exact this
     clear hdr hc ht
     go_wp2_with fail
     refine (zaL (wrap64 (s[k].toNat:Int)) 32 126 w).mono ?_
     rintro e w1 ⟨rfl,rfl⟩
     go_wp2_with fail
     go_round
     case rel=>exact ⟨k + 1,by omega,by go_num,za HN⟩
     case measure=>simp [intOf]; omega
   ·go_wp2_with fail
    go_ret
    have h:=za hall
    rw [List.drop_of_length_le (by rw [data_len]; omega)] at h
    exact ⟨zy (tag_yes s hl (by rw [h]; rfl)).symm,rfl⟩
 ·have hl':(12:Int) < s.size:=by omega
  go_enter Tryz.func90,Tryz.ntmps90
  go_wp2_with fail
  go_ret
  exact ⟨zy (tag_long s hl).symm,rfl⟩
end Go.Proofs.YtopjoogdpjaocaaGreat
