/-
  What comes of a new order, by the program: the book copied, the taker laid beside it. Proved by walking the function.
-/
import Derived.Test.YtnphbkgfjanmgaaGreatDoorAj12
set_option linter.unusedVariables false
set_option maxHeartbeats 6400000
set_option maxRecDepth 100000
namespace Go.Proofs.YtnphbkgfjanmgaaGreatDoor
open Go.RowKit
section
variable {base W W':World} {xo:(Nat→Value)→Act} {k:Nat} {ya:Prop→World→Nat→Value→Prop} {x:List Bool} {f:Nat→Value}
theorem bM (Q:yp base W) (h:∀ j,x[j]? = some true→ya (x[k]? = some true) W j (f j)) (hg:yp W W') {i:Nat} (hik:i ≠ k) (hm:∀ j v,ya (x[k]? = some true) W j v→ya (x[k]? = some true) W' j v) {v:Value} (hv:ya (x[k]? = some true) W' i v) :
  yp base W'∧∀ j,(x.set i true)[j]? = some true→ya ((x.set i true)[k]? = some true) W' j (upd f i v j):=by
 refine ⟨Q.trans (hg.mono Q.size),fun j X=>?_⟩
 rw [yX hik]
 by_cases hji:j = i
 ·subst hji; rw [zt]; exact hv
 ·rw [zk _ _ hji]
  rw [yX (fun e=>hji e.symm)] at X
  exact hm _ _ (h j X)
theorem rgx_last (Q:yp base W') (h:∀ j,x[j]? = some true→ya (x[k]? = some true) W j (f j)) (hk:x[k]? = some false) (hm:∀ j,j ≠ k→x[j]? = some true→ya False W j (f j)→ya True W' j (f j)) {v:Value} (hv:ya True W' k v) :
  yp base W'∧∀ j,(x.set k true)[j]? = some true→ya ((x.set k true)[k]? = some true) W' j (upd f k v j):=by
 have e:((x.set k true)[k]? = some true) = True:=by
  rw [List.getElem?_set_self (yH.1 hk).1]; simp
 refine ⟨Q,fun j X=>?_⟩
 rw [e]
 by_cases hji:j = k
 ·subst hji; rw [zt]; exact hv
 ·rw [zk _ _ hji]
  rw [yX (fun e=>hji e.symm)] at X
  refine hm j hji X ?_
  have:=h j X
  rw [hk] at this
  simpa using this
end
theorem matS_made {cl:World} {mb B:Nat} {next:Int} {a4:Option Addr} {c4:Nat} {l:List Od} {c:Cm} (ht:cl.there mb 0 9) (Q:∃ xF,cl.heap[mb]? = some (.cells xF 254 (0,0))) (Z:ORow cl B (.slice a4 l.length c4) l) (hB:B ≤ cl.heap.size) :
  MatS mb B (cl.setCells mb 0 [I next,.slice a4 l.length c4,I next,I c.s,I (tk c.p),I c.q,I c.l,yl c.g,.slice none 0 0]) next (.slice a4 l.length c4) l (ordO c next) (.slice none 0 0) []:=by
 have hn:some mb ≠ (Value.slice a4 l.length c4).ownBlock:=cQ Z Q (by decide)
 have hr:=yY cl mb 0 [I next,.slice a4 l.length c4,I next,I c.s,I (tk c.p),I c.q,I c.l,yl c.g,.slice none 0 0] (fun j X=>ht j X)
 refine ⟨hr,fun j X=>⟨?_,?_⟩,?_,World.ownsRow_nil _ _ _ _,?_,?_⟩
 ·obtain ⟨u,hu⟩:∃ u,[I next,.slice a4 l.length c4,I next,I c.s,I (tk c.p),I c.q,I c.l,yl c.g,.slice none 0 0][j]? = some u:=⟨_,yI (by simpa using X)⟩
  rw [hr j u hu]; rfl
 ·have:=(ht j X).2
  simp only [World.setCells,World.frozen?_setCell]
  exact this
 ·simp only [World.setCells]
  exact bN (bN (bN (bN (bN (bN (bN (bN (bN Z hn _ _) hn _ _) hn _ _) hn _ _) hn _ _) hn _ _) hn _ _) hn _ _) hn _ _
 ·obtain ⟨xF,Q⟩:=Q
  simp only [World.setCells]
  obtain ⟨_,N⟩:=cI cl mb 0 (I next) Q
  obtain ⟨_,N⟩:=cI _ mb 1 (.slice a4 l.length c4) N
  obtain ⟨_,N⟩:=cI _ mb 2 (I next) N
  obtain ⟨_,N⟩:=cI _ mb 3 (I c.s) N
  obtain ⟨_,N⟩:=cI _ mb 4 (I (tk c.p)) N
  obtain ⟨_,N⟩:=cI _ mb 5 (I c.q) N
  obtain ⟨_,N⟩:=cI _ mb 6 (I c.l) N
  obtain ⟨_,N⟩:=cI _ mb 7 (yl c.g) N
  exact cI _ mb 8 (.slice none 0 0) N
 ·simp only [World.setCells,World.setCell,Array.size_modify]; exact hB
def DM (b2 B:Nat) (base:World) (next:Int) (a:Option Addr) (cap:Nat) (l:List Od) (c:Cm) (p:Prop) (cl:World):Nat→Value→Prop
 | 0,v=>v = .agg #[I next,.slice a l.length cap]
 | 1,v=>∃ a4 c4,v = .agg #[I next,.slice a4 l.length c4]∧(¬ p→ORow cl B (.slice a4 l.length c4) l)
 | 2,v=>v = .agg #[I c.s,I c.t,I c.l,I c.q,yk c.p,yl c.g]
 | 3,v=>v = J b2 0
 | 4,v=>v = I next
 | 5,v=>v = .agg (yx next c.s (tk c.p) c.q c.l c.g).toArray
 | 6,v=>∃ a4 c4,v = .agg #[I next,.slice a4 l.length c4,I next,I c.s,I (tk c.p),I c.q,I c.l,yl c.g,.slice none 0 0]∧(¬ p→ORow cl B (.slice a4 l.length c4) l)
 | 7,v=>∃ mb,v = J mb 0∧base.heap.size ≤ mb∧(¬ p→cl.there mb 0 9∧∃ xF,cl.heap[mb]? = some (.cells xF 254 (0,0)))∧(p→∃ a4 c4,MatS mb B cl next (.slice a4 l.length c4) l (ordO c next) (.slice none 0 0) [])
 | _,_=>True
section
variable {b2 B:Nat} {base cl V':World} {next:Int} {a:Option Addr} {cap:Nat} {l:List Od} {c:Cm} {p:Prop}
theorem dm_grow (hp:¬ p) (Q:yp cl V'):∀ j v,DM b2 B base next a cap l c p cl j v→DM b2 B base next a cap l c p V' j v:=by
 intro j v h
 match j with
 | 0 | 2 | 3 | 4 | 5=>exact h
 | 1=>obtain ⟨a4,c4,N,Y⟩:=h; exact ⟨a4,c4,N,fun hp=>zO (Y hp) Q⟩
 | 6=>obtain ⟨a4,c4,N,Y⟩:=h; exact ⟨a4,c4,N,fun hp=>zO (Y hp) Q⟩
 | 7 =>
  obtain ⟨mb,N,Y,h3,h4⟩:=h
  refine ⟨mb,N,Y,fun hp=>?_,fun h=>absurd h hp⟩
  obtain ⟨h5,xF,h6⟩:=h3 hp
  have xI:=(yZ.1 h6).1
  exact ⟨zm h5 Q xI,xF,(Q.block mb xI).trans h6⟩
 | j + 8=>trivial
theorem dm_last {v:Value}:∀ j,j ≠ 8→DM b2 B base next a cap l c False cl j v→(j = 7→DM b2 B base next a cap l c True V' 7 v)→DM b2 B base next a cap l c True V' j v:=by
 intro j X h h7
 match j with
 | 0 | 2 | 3 | 4 | 5=>exact h
 | 1=>obtain ⟨a4,c4,N,Y⟩:=h; exact ⟨a4,c4,N,fun hp=>absurd trivial hp⟩
 | 6=>obtain ⟨a4,c4,N,Y⟩:=h; exact ⟨a4,c4,N,fun hp=>absurd trivial hp⟩
 | 7=>exact h7 rfl
 | j + 8=>trivial
end
theorem matS_next {mb B:Nat} {W:World} {next:Int} {vq:Value} {l:List Od} {t:Od} {vt:Value} {ts:List Ev} (h:MatS mb B W next vq l t vt ts) (n':Int):MatS mb B (W.setCell (D mb 0) (I n')) n' vq l t vt ts:=by
 have hoth:∀ j,j ≠ 0→(W.setCell (D mb 0) (I n')).cell? (D mb j) = W.cell? (D mb j):=fun j X=>yM _ _ _ _ (cW (fun e=>X e.symm))
 have kS:(W.setCell (D mb 0) (I n')).cell? (D mb 0) = some (I n'):=yN _ _ _ (h.cells 0 _ rfl)
 refine ⟨?_,fun j X=>⟨?_,?_⟩,bN h.orow h.nq 0 _,bN h.erow h.nt 0 _,by obtain ⟨xF,hc⟩:=h.box; exact cI W mb 0 _ hc,by have:=h.le; simpa [World.setCell] using this⟩
 ·intro j u X
  rw [Nat.zero_add]
  rcases j with _ | j
  ·cases X; exact kS
  ·rw [hoth (j + 1) (by omega)]
   have:W.cell? (D mb (0 + (j + 1))) = some u:=h.cells (j + 1) u X
   rwa [Nat.zero_add] at this
 ·rw [Nat.zero_add]
  rcases j with _ | j
  ·rw [kS]; rfl
  ·rw [hoth (j + 1) (by omega)]; have:=(h.there (j + 1) X).1; rwa [Nat.zero_add] at this
 ·rw [World.frozen?_setCell]; exact (h.there j X).2
theorem eS {mb B:Nat} {W W':World} {next:Int} {vq:Value} {l:List Od} {t:Od} {vt:Value} {ts:List Ev} (h:MatS mb B W next vq l t vt ts) (Q:yp W W'):MatS mb B W' next vq l t vt ts :=
 ⟨zc h.cells Q h.lt,zm h.there Q h.lt,zO h.orow Q,dJ h.erow Q,by obtain ⟨xF,hc⟩:=h.box; exact ⟨xF,(Q.block mb h.lt).trans hc⟩,yO h.le Q.size⟩
def meas (mb:Nat) (W:World):Nat:=(match W.cell? (D mb 1) with | some (.slice _ n _)=>2 * n | _=>0) + (match W.cell? (D mb 5) with | some (.int _ n)=>if 0 < n then 1 else 0 | _=>0)
theorem meas_eq {mb B:Nat} {W:World} {next:Int} {vq:Value} {l:List Od} {t:Od} {vt:Value} {ts:List Ev} (h:MatS mb B W next vq l t vt ts):meas mb W = 2 * l.length + (if 0 < t.left then 1 else 0):=by
 have N:W.cell? (D mb 1) = some vq:=h.cells 1 _ rfl
 have h5:W.cell? (D mb 5) = some (I t.left):=h.cells 5 _ rfl
 have hq:∃ a c,vq = .slice a l.length c:=by
  rcases h.orow.2 with ⟨e,e2⟩ | ⟨g,cap,xF,e,_⟩
  ·exact ⟨none,0,by rw [e,e2]⟩
  ·exact ⟨_,_,e⟩
 obtain ⟨a,c,rfl⟩:=hq
 rw [meas,N,h5]
theorem match_end {w W3 W8:World} {mb:Nat} {next:Int} {vq vt:Value} {l:List Od} {t:Od} {ts:List Ev} (hM:MatS mb W3.heap.size W8 next vq l t vt ts) (hK:KeptBut mb W3.heap.size W3 W8) (Q:yp w W3) (hs:W3.heap.size = w.heap.size + 1 + 1 + 1) (hm:W3.heap.size ≤ mb) (vs:List Value) (hv:vs.length = 9) (ht:W8.there (w.heap.size + 1 + 1) 0 9) :
  (W8.setCells (w.heap.size + 1 + 1) 0 vs).rangeAt (w.heap.size + 1 + 1) 0 vs∧ORow (W8.setCells (w.heap.size + 1 + 1) 0 vs) w.heap.size vq l∧ERow (W8.setCells (w.heap.size + 1 + 1) 0 vs) w.heap.size vt ts∧yp w (W8.setCells (w.heap.size + 1 + 1) 0 vs):=by
 have hb8:yp w W8:=⟨hK.os.trans Q.os,hK.tape.trans Q.tape,hK.output.trans Q.output,yO Q.size hK.size,fun k hk=>(hK.block k (by omega) (by omega)).trans (Q.block k hk)⟩
 have jP:yp w (W8.setCells (w.heap.size + 1 + 1) 0 vs):=zh (w.heap.size + 1 + 1) (by omega) vs 0 W8 hb8
 have um:W8.grownBy (W8.setCells (w.heap.size + 1 + 1) 0 vs) (some (w.heap.size + 1 + 1)):=by
  have h9:∀ (us:List Value) (o:Nat) (hj:World),hj.grownBy (hj.setCells (w.heap.size + 1 + 1) o us) (some (w.heap.size + 1 + 1)):=by
   intro us
   induction us with
   | nil=>intro o hj; exact ⟨rfl,rfl,rfl,Nat.le_refl _,fun _ _ _=>rfl⟩
   | cons u r ih =>
    intro o hj
    have N:hj.grownBy (hj.setCell (D (w.heap.size + 1 + 1) o) u) (some (w.heap.size + 1 + 1)):=⟨rfl,rfl,rfl,by simp [World.setCell],fun k _ hk=>yT _ _ _ _ (fun e=>hk (by rw [e]))⟩
    exact N.trans (ih (o + 1) _)
  exact h9 vs 0 W8
 have n4:∀ v:Value,(∀ g,v.ownBlock = some g→W3.heap.size ≤ g)→v.ownBlock = none ∨ v.ownBlock ≠ some (w.heap.size + 1 + 1):=fun v hv=>.inr (fun e=>by have:=hv _ e; omega)
 exact ⟨yY W8 _ 0 vs (fun j X=>ht j (by omega)),zU (hM.orow.kept um (n4 vq (fun g hg=>(hM.orow.lt g hg).1))) (by omega),zU (hM.erow.kept um (n4 vt (fun g hg=>(hM.erow.lt g hg).1))) (by omega),jP⟩
def SdV (cl:World) (v:Value) (l:List Od) (sd:Int):Prop:=(sd = 1∧∃ b,v = cx b∧bF 201 true cl b 1 (zv l 1)) ∨ (¬ sd = 1∧∃ b,v = cy b∧bF 204 false cl b sd (zv l sd))
def FrV (cl:World) (v:Value) (l:List Od) (sd:Int):Prop:=(sd = 1∧∃ b,v = .func (.func 166) #[J b 0] #[]∧bF 201 true cl b 1 (zv l 1)) ∨ (¬ sd = 1∧∃ b,v = .func (.func 170) #[J b 0] #[]∧bF 204 false cl b sd (zv l sd))
theorem field0_bm (b:Nat) (W:World):Sem.run Tryz.prog (Instr.field 135 (cx b) 0) W = .ok (.func (.func 166) #[J b 0] #[]) W:=by kernel_rfl
theorem field0_sm (b:Nat) (W:World):Sem.run Tryz.prog (Instr.field 135 (cy b) 0) W = .ok (.func (.func 170) #[J b 0] #[]) W:=by kernel_rfl
def DQ (mb b3:Nat) (base:World) (BV:Value) (s sd:Int) (l:List Od) (x:Od) (fb:Bool) (p:Prop) (cl:World):Nat→Value→Prop
 | 0,v=>v = J mb 0
 | 1,v=>v = BV
 | 2,v=>v = J b3 0
 | 3,v=>v = I s
 | 4,v=>v = I sd
 | 5,v=>¬ p→SdV cl v l sd
 | 6,v=>¬ p→FrV cl v l sd
 | 7,v=>v = .tuple #[.agg (yx x.id x.side x.ticks x.left x.life x.tag).toArray,.bool fb]
 | 8,v=>v = .tuple #[.agg (yx x.id x.side x.ticks x.left x.life x.tag).toArray,.bool fb]
 | 9,v=>v = .agg (yx x.id x.side x.ticks x.left x.life x.tag).toArray
 | 10,v=>v = .bool fb
 | 11,v=>∃ pb,v = J pb 0∧base.heap.size ≤ pb∧(¬ p→cl.there pb 0 6∧pb < cl.heap.size)∧(p→cl.rangeAt pb 0 x.vs∧pb < cl.heap.size)
 | 13,v=>v = .bool fb
 | _,_=>True
section
variable {mb b3:Nat} {base cl V':World} {BV:Value} {s sd:Int} {l:List Od} {x:Od} {fb:Bool} {p:Prop}
theorem dq_grow (hp:¬ p) (Q:yp cl V'):∀ j v,DQ mb b3 base BV s sd l x fb p cl j v→DQ mb b3 base BV s sd l x fb p V' j v:=by
 intro j v h
 match j with
 | 0 | 1 | 2 | 3 | 4 | 7 | 8 | 9 | 10 | 13=>exact h
 | 5 =>
  intro hp
  rcases h hp with ⟨N,b,Y,h3⟩ | ⟨N,b,Y,h3⟩
  ·exact .inl ⟨N,b,Y,zw h3 (Q.block _ (zJ h3))⟩
  ·exact .inr ⟨N,b,Y,zw h3 (Q.block _ (zJ h3))⟩
 | 6 =>
  intro hp
  rcases h hp with ⟨N,b,Y,h3⟩ | ⟨N,b,Y,h3⟩
  ·exact .inl ⟨N,b,Y,zw h3 (Q.block _ (zJ h3))⟩
  ·exact .inr ⟨N,b,Y,zw h3 (Q.block _ (zJ h3))⟩
 | 11 =>
  obtain ⟨pb,N,Y,h3,h4⟩:=h
  refine ⟨pb,N,Y,fun hp=>?_,fun h=>absurd h hp⟩
  obtain ⟨h5,h6⟩:=h3 hp
  exact ⟨zm h5 Q h6,yK h6 Q.size⟩
 | 12=>trivial
 | j + 14=>trivial
theorem dq_last {v:Value}:∀ j,j ≠ 12→DQ mb b3 base BV s sd l x fb False cl j v→(j = 11→DQ mb b3 base BV s sd l x fb True V' 11 v)→DQ mb b3 base BV s sd l x fb True V' j v:=by
 intro j X h uU
 match j with
 | 0 | 1 | 2 | 3 | 4 | 7 | 8 | 9 | 10 | 13=>exact h
 | 5=>exact fun hp=>absurd trivial hp
 | 6=>exact fun hp=>absurd trivial hp
 | 11=>exact uU rfl
 | 12=>trivial
 | j + 14=>trivial
end
def backC:Nat→List Oper→Bool
 | _,[]=>true
 | i,o :: r=>o.after.toList.all (fun e=>!Region.binds .any e || decide (e.on < i)) && backC (i + 1) r
theorem backC_spec:∀ (l:List Oper) (n:Nat),backC n l = true→∀ (i:Nat) (o:Oper),l[i]? = some o→∀ e ∈ o.after,Region.binds .any e = true→e.on < n + i
 | [],_,_,i,o,h,_,_,_=>by simp at h
 | a :: r,n,Q,0,o,h,e,he,hbd=>by
  simp at h; subst h
  simp only [backC,xf,List.all_eq_true] at Q
  have:=Q.1 e (by simpa using he)
  rw [hbd] at this
  simpa using this
 | a :: r,n,Q,i + 1,o,h,e,he,hbd=>by
  simp only [backC,xf] at Q
  have:=backC_spec r (n + 1) Q.2 i o (by simpa using h) e he hbd
  omega
theorem cP {l:List Oper} {x:List Bool} (h:Region.ready .any l.toArray x.toArray = []) (hx:x.length = l.length) (Q:backC 0 l = true):∀ i,i < l.length→x[i]? = some true:=by
 intro i
 induction i using Nat.strongRecOn with
 | _ i ih =>
  intro hi
  refine dm h hx i l[i] (yI hi) fun e he hbd=>?_
  have:=backC_spec l 0 Q i l[i] (yI hi) e he hbd
  exact ih e.on (by omega) (by omega)
end Go.Proofs.YtnphbkgfjanmgaaGreatDoor
