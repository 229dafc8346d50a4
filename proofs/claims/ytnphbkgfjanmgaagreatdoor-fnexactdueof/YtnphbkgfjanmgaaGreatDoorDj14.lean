/-
  What comes of a new order, by the program: the book copied, the taker laid beside it. Proved by walking the function.
-/
import Derived.Test.YtnphbkgfjanmgaaGreatDoorDj13
set_option linter.unusedVariables false
set_option maxHeartbeats 6400000
set_option maxRecDepth 100000
namespace Go.Proofs.YtnphbkgfjanmgaaGreatDoor
open Go.RowKit
section
variable {base W W':World} {cl:(Nat→Value)→Act} {k:Nat} {xh:Prop→World→Nat→Value→Prop} {x:List Bool} {f:Nat→Value}
theorem bc (E:yp base W) (h:∀ j,x[j]? = some true→xh (x[k]? = some true) W j (f j)) (hg:yp W W') {i:Nat} (hik:i ≠ k) (hm:∀ j v,xh (x[k]? = some true) W j v→xh (x[k]? = some true) W' j v) {v:Value} (hv:xh (x[k]? = some true) W' i v) :
  yp base W'∧∀ j,(x.set i true)[j]? = some true→xh ((x.set i true)[k]? = some true) W' j (upd f i v j):=by
 refine ⟨E.trans (hg.mono E.size),fun j V=>?_⟩
 rw [yX hik]
 by_cases hji:j = i
 ·subst hji; rw [zr]; exact hv
 ·rw [zk _ _ hji]
  rw [yX (fun e=>hji e.symm)] at V
  exact hm _ _ (h j V)
theorem rgx_last (E:yp base W') (h:∀ j,x[j]? = some true→xh (x[k]? = some true) W j (f j)) (hk:x[k]? = some false) (hm:∀ j,j ≠ k→x[j]? = some true→xh False W j (f j)→xh True W' j (f j)) {v:Value} (hv:xh True W' k v) :
  yp base W'∧∀ j,(x.set k true)[j]? = some true→xh ((x.set k true)[k]? = some true) W' j (upd f k v j):=by
 have e:((x.set k true)[k]? = some true) = True:=by
  rw [List.getElem?_set_self (yH.1 hk).1]; simp
 refine ⟨E,fun j V=>?_⟩
 rw [e]
 by_cases hji:j = k
 ·subst hji; rw [zr]; exact hv
 ·rw [zk _ _ hji]
  rw [yX (fun e=>hji e.symm)] at V
  refine hm j hji V ?_
  have:=h j V
  rw [hk] at this
  simpa using this
end
theorem matS_made {hj:World} {mb B:Nat} {next:Int} {a4:Option Addr} {c4:Nat} {l:List Od} {c:Cm} (ht:hj.there mb 0 9) (E:∃ xF,hj.heap[mb]? = some (.cells xF 254 (0,0))) (Z:ORow hj B (.slice a4 l.length c4) l) (hB:B ≤ hj.heap.size) :
  MatS mb B (hj.setCells mb 0 [I next,.slice a4 l.length c4,I next,I c.s,I (tk c.p),I c.q,I c.l,yl c.g,.slice none 0 0]) next (.slice a4 l.length c4) l (ordO c next) (.slice none 0 0) []:=by
 have hn:some mb ≠ (Value.slice a4 l.length c4).ownBlock:=bU Z E (by decide)
 have hr:=yY hj mb 0 [I next,.slice a4 l.length c4,I next,I c.s,I (tk c.p),I c.q,I c.l,yl c.g,.slice none 0 0] (fun j V=>ht j V)
 refine ⟨hr,fun j V=>⟨?_,?_⟩,?_,World.ownsRow_nil _ _ _ _,?_,?_⟩
 ·obtain ⟨u,hu⟩:∃ u,[I next,.slice a4 l.length c4,I next,I c.s,I (tk c.p),I c.q,I c.l,yl c.g,.slice none 0 0][j]? = some u:=⟨_,yI (by simpa using V)⟩
  rw [hr j u hu]; rfl
 ·have:=(ht j V).2
  simp only [World.setCells,World.frozen?_setCell]
  exact this
 ·simp only [World.setCells]
  exact bd (bd (bd (bd (bd (bd (bd (bd (bd Z hn _ _) hn _ _) hn _ _) hn _ _) hn _ _) hn _ _) hn _ _) hn _ _) hn _ _
 ·obtain ⟨xF,E⟩:=E
  simp only [World.setCells]
  obtain ⟨_,N⟩:=bN hj mb 0 (I next) E
  obtain ⟨_,N⟩:=bN _ mb 1 (.slice a4 l.length c4) N
  obtain ⟨_,N⟩:=bN _ mb 2 (I next) N
  obtain ⟨_,N⟩:=bN _ mb 3 (I c.s) N
  obtain ⟨_,N⟩:=bN _ mb 4 (I (tk c.p)) N
  obtain ⟨_,N⟩:=bN _ mb 5 (I c.q) N
  obtain ⟨_,N⟩:=bN _ mb 6 (I c.l) N
  obtain ⟨_,N⟩:=bN _ mb 7 (yl c.g) N
  exact bN _ mb 8 (.slice none 0 0) N
 ·simp only [World.setCells,World.setCell,Array.size_modify]; exact hB
def DM (b2 B:Nat) (base:World) (next:Int) (a:Option Addr) (cap:Nat) (l:List Od) (c:Cm) (p:Prop) (hj:World):Nat→Value→Prop
 | 0,v=>v = .agg #[I next,.slice a l.length cap]
 | 1,v=>∃ a4 c4,v = .agg #[I next,.slice a4 l.length c4]∧(¬ p→ORow hj B (.slice a4 l.length c4) l)
 | 2,v=>v = .agg #[I c.s,I c.t,I c.l,I c.q,yk c.p,yl c.g]
 | 3,v=>v = J b2 0
 | 4,v=>v = I next
 | 5,v=>v = .agg (yx next c.s (tk c.p) c.q c.l c.g).toArray
 | 6,v=>∃ a4 c4,v = .agg #[I next,.slice a4 l.length c4,I next,I c.s,I (tk c.p),I c.q,I c.l,yl c.g,.slice none 0 0]∧(¬ p→ORow hj B (.slice a4 l.length c4) l)
 | 7,v=>∃ mb,v = J mb 0∧base.heap.size ≤ mb∧(¬ p→hj.there mb 0 9∧∃ xF,hj.heap[mb]? = some (.cells xF 254 (0,0)))∧(p→∃ a4 c4,MatS mb B hj next (.slice a4 l.length c4) l (ordO c next) (.slice none 0 0) [])
 | _,_=>True
section
variable {b2 B:Nat} {base hj V':World} {next:Int} {a:Option Addr} {cap:Nat} {l:List Od} {c:Cm} {p:Prop}
theorem dm_grow (hp:¬ p) (E:yp hj V'):∀ j v,DM b2 B base next a cap l c p hj j v→DM b2 B base next a cap l c p V' j v:=by
 intro j v h
 match j with
 | 0 | 2 | 3 | 4 | 5=>exact h
 | 1=>obtain ⟨a4,c4,N,Y⟩:=h; exact ⟨a4,c4,N,fun hp=>zM (Y hp) E⟩
 | 6=>obtain ⟨a4,c4,N,Y⟩:=h; exact ⟨a4,c4,N,fun hp=>zM (Y hp) E⟩
 | 7 =>
  obtain ⟨mb,N,Y,h3,h4⟩:=h
  refine ⟨mb,N,Y,fun hp=>?_,fun h=>absurd h hp⟩
  obtain ⟨h5,xF,h6⟩:=h3 hp
  have xJ:=(yZ.1 h6).1
  exact ⟨zo h5 E xJ,xF,(E.block mb xJ).trans h6⟩
 | j + 8=>trivial
theorem dm_last {v:Value}:∀ j,j ≠ 8→DM b2 B base next a cap l c False hj j v→(j = 7→DM b2 B base next a cap l c True V' 7 v)→DM b2 B base next a cap l c True V' j v:=by
 intro j V h h7
 match j with
 | 0 | 2 | 3 | 4 | 5=>exact h
 | 1=>obtain ⟨a4,c4,N,Y⟩:=h; exact ⟨a4,c4,N,fun hp=>absurd trivial hp⟩
 | 6=>obtain ⟨a4,c4,N,Y⟩:=h; exact ⟨a4,c4,N,fun hp=>absurd trivial hp⟩
 | 7=>exact h7 rfl
 | j + 8=>trivial
end
theorem matS_next {mb B:Nat} {W:World} {next:Int} {vq:Value} {l:List Od} {t:Od} {vt:Value} {ts:List Ev} (h:MatS mb B W next vq l t vt ts) (n':Int):MatS mb B (W.setCell (Q mb 0) (I n')) n' vq l t vt ts:=by
 have hoth:∀ j,j ≠ 0→(W.setCell (Q mb 0) (I n')).cell? (Q mb j) = W.cell? (Q mb j):=fun j V=>yM _ _ _ _ (bY (fun e=>V e.symm))
 have kB:(W.setCell (Q mb 0) (I n')).cell? (Q mb 0) = some (I n'):=yN _ _ _ (h.cells 0 _ rfl)
 refine ⟨?_,fun j V=>⟨?_,?_⟩,bd h.orow h.nq 0 _,bd h.erow h.nt 0 _,by obtain ⟨xF,hc⟩:=h.box; exact bN W mb 0 _ hc,by have:=h.le; simpa [World.setCell] using this⟩
 ·intro j u V
  rw [Nat.zero_add]
  rcases j with _ | j
  ·cases V; exact kB
  ·rw [hoth (j + 1) (by omega)]
   have:W.cell? (Q mb (0 + (j + 1))) = some u:=h.cells (j + 1) u V
   rwa [Nat.zero_add] at this
 ·rw [Nat.zero_add]
  rcases j with _ | j
  ·rw [kB]; rfl
  ·rw [hoth (j + 1) (by omega)]; have:=(h.there (j + 1) V).1; rwa [Nat.zero_add] at this
 ·rw [World.frozen?_setCell]; exact (h.there j V).2
theorem eb {mb B:Nat} {W W':World} {next:Int} {vq:Value} {l:List Od} {t:Od} {vt:Value} {ts:List Ev} (h:MatS mb B W next vq l t vt ts) (E:yp W W'):MatS mb B W' next vq l t vt ts :=
 ⟨zc h.cells E h.lt,zo h.there E h.lt,zM h.orow E,cN h.erow E,by obtain ⟨xF,hc⟩:=h.box; exact ⟨xF,(E.block mb h.lt).trans hc⟩,yO h.le E.size⟩
def meas (mb:Nat) (W:World):Nat:=(match W.cell? (Q mb 1) with | some (.slice _ n _)=>2 * n | _=>0) + (match W.cell? (Q mb 5) with | some (.int _ n)=>if 0 < n then 1 else 0 | _=>0)
theorem meas_eq {mb B:Nat} {W:World} {next:Int} {vq:Value} {l:List Od} {t:Od} {vt:Value} {ts:List Ev} (h:MatS mb B W next vq l t vt ts):meas mb W = 2 * l.length + (if 0 < t.left then 1 else 0):=by
 have N:W.cell? (Q mb 1) = some vq:=h.cells 1 _ rfl
 have h5:W.cell? (Q mb 5) = some (I t.left):=h.cells 5 _ rfl
 have hq:∃ a c,vq = .slice a l.length c:=by
  rcases h.orow.2 with ⟨e,e2⟩ | ⟨g,cap,xF,e,_⟩
  ·exact ⟨none,0,by rw [e,e2]⟩
  ·exact ⟨_,_,e⟩
 obtain ⟨a,c,rfl⟩:=hq
 rw [meas,N,h5]
theorem match_end {w W3 W8:World} {mb:Nat} {next:Int} {vq vt:Value} {l:List Od} {t:Od} {ts:List Ev} (hM:MatS mb W3.heap.size W8 next vq l t vt ts) (hK:KeptBut mb W3.heap.size W3 W8) (E:yp w W3) (hs:W3.heap.size = w.heap.size + 1 + 1 + 1) (hm:W3.heap.size ≤ mb) (vs:List Value) (hv:vs.length = 9) (ht:W8.there (w.heap.size + 1 + 1) 0 9) :
  (W8.setCells (w.heap.size + 1 + 1) 0 vs).rangeAt (w.heap.size + 1 + 1) 0 vs∧ORow (W8.setCells (w.heap.size + 1 + 1) 0 vs) w.heap.size vq l∧ERow (W8.setCells (w.heap.size + 1 + 1) 0 vs) w.heap.size vt ts∧yp w (W8.setCells (w.heap.size + 1 + 1) 0 vs):=by
 have hb8:yp w W8:=⟨hK.os.trans E.os,hK.tape.trans E.tape,hK.output.trans E.output,yO E.size hK.size,fun k hk=>(hK.block k (by omega) (by omega)).trans (E.block k hk)⟩
 have jF:yp w (W8.setCells (w.heap.size + 1 + 1) 0 vs):=zi (w.heap.size + 1 + 1) (by omega) vs 0 W8 hb8
 have vG:W8.grownBy (W8.setCells (w.heap.size + 1 + 1) 0 vs) (some (w.heap.size + 1 + 1)):=by
  have h9:∀ (us:List Value) (o:Nat) (xo:World),xo.grownBy (xo.setCells (w.heap.size + 1 + 1) o us) (some (w.heap.size + 1 + 1)):=by
   intro us
   induction us with
   | nil=>intro o xo; exact ⟨rfl,rfl,rfl,Nat.le_refl _,fun _ _ _=>rfl⟩
   | cons u r ih =>
    intro o xo
    have N:xo.grownBy (xo.setCell (Q (w.heap.size + 1 + 1) o) u) (some (w.heap.size + 1 + 1)):=⟨rfl,rfl,rfl,by simp [World.setCell],fun k _ hk=>yT _ _ _ _ (fun e=>hk (by rw [e]))⟩
    exact N.trans (ih (o + 1) _)
  exact h9 vs 0 W8
 have n4:∀ v:Value,(∀ g,v.ownBlock = some g→W3.heap.size ≤ g)→v.ownBlock = none ∨ v.ownBlock ≠ some (w.heap.size + 1 + 1):=fun v hv=>.inr (fun e=>by have:=hv _ e; omega)
 exact ⟨yY W8 _ 0 vs (fun j V=>ht j (by omega)),zS (hM.orow.kept vG (n4 vq (fun g hg=>(hM.orow.lt g hg).1))) (by omega),zS (hM.erow.kept vG (n4 vt (fun g hg=>(hM.erow.lt g hg).1))) (by omega),jF⟩
def SdV (hj:World) (v:Value) (l:List Od) (sd:Int):Prop:=(sd = 1∧∃ b,v = bE b∧aV 201 true hj b 1 (zt l 1)) ∨ (¬ sd = 1∧∃ b,v = bF b∧aV 204 false hj b sd (zt l sd))
def FrV (hj:World) (v:Value) (l:List Od) (sd:Int):Prop:=(sd = 1∧∃ b,v = .func (.func 166) #[J b 0] #[]∧aV 201 true hj b 1 (zt l 1)) ∨ (¬ sd = 1∧∃ b,v = .func (.func 170) #[J b 0] #[]∧aV 204 false hj b sd (zt l sd))
theorem field0_bm (b:Nat) (W:World):Sem.run Tryz.prog (Instr.field 135 (bE b) 0) W = .ok (.func (.func 166) #[J b 0] #[]) W:=by kernel_rfl
theorem field0_sm (b:Nat) (W:World):Sem.run Tryz.prog (Instr.field 135 (bF b) 0) W = .ok (.func (.func 170) #[J b 0] #[]) W:=by kernel_rfl
def DQ (mb b3:Nat) (base:World) (BV:Value) (s sd:Int) (l:List Od) (x:Od) (fb:Bool) (p:Prop) (hj:World):Nat→Value→Prop
 | 0,v=>v = J mb 0
 | 1,v=>v = BV
 | 2,v=>v = J b3 0
 | 3,v=>v = I s
 | 4,v=>v = I sd
 | 5,v=>¬ p→SdV hj v l sd
 | 6,v=>¬ p→FrV hj v l sd
 | 7,v=>v = .tuple #[.agg (yx x.id x.side x.ticks x.left x.life x.tag).toArray,.bool fb]
 | 8,v=>v = .tuple #[.agg (yx x.id x.side x.ticks x.left x.life x.tag).toArray,.bool fb]
 | 9,v=>v = .agg (yx x.id x.side x.ticks x.left x.life x.tag).toArray
 | 10,v=>v = .bool fb
 | 11,v=>∃ pb,v = J pb 0∧base.heap.size ≤ pb∧(¬ p→hj.there pb 0 6∧pb < hj.heap.size)∧(p→hj.rangeAt pb 0 x.vs∧pb < hj.heap.size)
 | 13,v=>v = .bool fb
 | _,_=>True
section
variable {mb b3:Nat} {base hj V':World} {BV:Value} {s sd:Int} {l:List Od} {x:Od} {fb:Bool} {p:Prop}
theorem dq_grow (hp:¬ p) (E:yp hj V'):∀ j v,DQ mb b3 base BV s sd l x fb p hj j v→DQ mb b3 base BV s sd l x fb p V' j v:=by
 intro j v h
 match j with
 | 0 | 1 | 2 | 3 | 4 | 7 | 8 | 9 | 10 | 13=>exact h
 | 5 =>
  intro hp
  rcases h hp with ⟨N,b,Y,h3⟩ | ⟨N,b,Y,h3⟩
  ·exact .inl ⟨N,b,Y,zu h3 (E.block _ (zH h3))⟩
  ·exact .inr ⟨N,b,Y,zu h3 (E.block _ (zH h3))⟩
 | 6 =>
  intro hp
  rcases h hp with ⟨N,b,Y,h3⟩ | ⟨N,b,Y,h3⟩
  ·exact .inl ⟨N,b,Y,zu h3 (E.block _ (zH h3))⟩
  ·exact .inr ⟨N,b,Y,zu h3 (E.block _ (zH h3))⟩
 | 11 =>
  obtain ⟨pb,N,Y,h3,h4⟩:=h
  refine ⟨pb,N,Y,fun hp=>?_,fun h=>absurd h hp⟩
  obtain ⟨h5,h6⟩:=h3 hp
  exact ⟨zo h5 E h6,yK h6 E.size⟩
 | 12=>trivial
 | j + 14=>trivial
theorem dq_last {v:Value}:∀ j,j ≠ 12→DQ mb b3 base BV s sd l x fb False hj j v→(j = 11→DQ mb b3 base BV s sd l x fb True V' 11 v)→DQ mb b3 base BV s sd l x fb True V' j v:=by
 intro j V h uR
 match j with
 | 0 | 1 | 2 | 3 | 4 | 7 | 8 | 9 | 10 | 13=>exact h
 | 5=>exact fun hp=>absurd trivial hp
 | 6=>exact fun hp=>absurd trivial hp
 | 11=>exact uR rfl
 | 12=>trivial
 | j + 14=>trivial
end
def backC:Nat→List Oper→Bool
 | _,[]=>true
 | i,o :: r=>o.after.toList.all (fun e=>!Region.binds .any e || decide (e.on < i)) && backC (i + 1) r
theorem backC_spec:∀ (l:List Oper) (n:Nat),backC n l = true→∀ (i:Nat) (o:Oper),l[i]? = some o→∀ e ∈ o.after,Region.binds .any e = true→e.on < n + i
 | [],_,_,i,o,h,_,_,_=>by simp at h
 | a :: r,n,E,0,o,h,e,he,hbd=>by
  simp at h; subst h
  simp only [backC,xf,List.all_eq_true] at E
  have:=E.1 e (by simpa using he)
  rw [hbd] at this
  simpa using this
 | a :: r,n,E,i + 1,o,h,e,he,hbd=>by
  simp only [backC,xf] at E
  have:=backC_spec r (n + 1) E.2 i o (by simpa using h) e he hbd
  omega
theorem bT {l:List Oper} {x:List Bool} (h:Region.ready .any l.toArray x.toArray = []) (hx:x.length = l.length) (E:backC 0 l = true):∀ i,i < l.length→x[i]? = some true:=by
 intro i
 induction i using Nat.strongRecOn with
 | _ i ih =>
  intro hi
  refine cA h hx i l[i] (yI hi) fun e he hbd=>?_
  have:=backC_spec l 0 E i l[i] (yI hi) e he hbd
  exact ih e.on (by omega) (by omega)
end Go.Proofs.YtnphbkgfjanmgaaGreatDoor
