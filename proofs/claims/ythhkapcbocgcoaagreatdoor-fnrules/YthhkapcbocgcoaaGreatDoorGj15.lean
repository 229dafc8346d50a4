/-
  What comes of a new order, by the program: the book copied, the taker laid beside it. Proved by walking the function.
-/
import Derived.Test.YthhkapcbocgcoaaGreatDoorGj14
set_option linter.unusedVariables false
set_option maxHeartbeats 6400000
set_option maxRecDepth 100000
namespace Go.Proofs.YthhkapcbocgcoaaGreatDoor
open Go.RowKit
section
variable {base W W':World} {hR:(Nat→Value)→Act} {k:Nat} {h2:Prop→World→Nat→Value→Prop} {x:List Bool} {f:Nat→Value}
theorem cC (A:yn base W) (h:∀ j,x[j]? = some true→h2 (x[k]? = some true) W j (f j)) (hg:yn W W') {i:Nat} (hik:i ≠ k) (hm:∀ j v,h2 (x[k]? = some true) W j v→h2 (x[k]? = some true) W' j v) {v:Value} (hv:h2 (x[k]? = some true) W' i v) :
  yn base W'∧∀ j,(x.set i true)[j]? = some true→h2 ((x.set i true)[k]? = some true) W' j (upd f i v j):=by
 refine ⟨A.trans (hg.mono A.size),fun j hj=>?_⟩
 rw [yX hik]
 by_cases hji:j = i
 ·subst hji; rw [zt]; exact hv
 ·rw [zq _ _ hji]
  rw [yX (fun e=>hji e.symm)] at hj
  exact hm _ _ (h j hj)
theorem rgx_last (A:yn base W') (h:∀ j,x[j]? = some true→h2 (x[k]? = some true) W j (f j)) (E:x[k]? = some false) (hm:∀ j,j ≠ k→x[j]? = some true→h2 False W j (f j)→h2 True W' j (f j)) {v:Value} (hv:h2 True W' k v) :
  yn base W'∧∀ j,(x.set k true)[j]? = some true→h2 ((x.set k true)[k]? = some true) W' j (upd f k v j):=by
 have e:((x.set k true)[k]? = some true) = True:=by
  rw [List.getElem?_set_self (yH.1 E).1]; simp
 refine ⟨A,fun j hj=>?_⟩
 rw [e]
 by_cases hji:j = k
 ·subst hji; rw [zt]; exact hv
 ·rw [zq _ _ hji]
  rw [yX (fun e=>hji e.symm)] at hj
  refine hm j hji hj ?_
  have:=h j hj
  rw [E] at this
  simpa using this
end
theorem matS_made {V:World} {mb B:Nat} {next:Int} {a4:Option Addr} {c4:Nat} {l:List Od} {c:Cm} (ht:V.there mb 0 9) (A:∃ xz,V.heap[mb]? = some (.cells xz 259 (0,0))) (Y:ORow V B (.slice a4 l.length c4) l) (hB:B ≤ V.heap.size) :
  MatS mb B (V.setCells mb 0 [H next,.slice a4 l.length c4,H next,H c.s,H (tk c.p),H c.q,H c.l,yk c.g,.slice none 0 0]) next (.slice a4 l.length c4) l (ordO c next) (.slice none 0 0) []:=by
 have hn:some mb ≠ (Value.slice a4 l.length c4).ownBlock:=df Y A (by decide)
 have hr:=yY V mb 0 [H next,.slice a4 l.length c4,H next,H c.s,H (tk c.p),H c.q,H c.l,yk c.g,.slice none 0 0] (fun j hj=>ht j hj)
 refine ⟨hr,fun j hj=>⟨?_,?_⟩,?_,World.ownsRow_nil _ _ _ _,?_,?_⟩
 ·obtain ⟨u,hu⟩:∃ u,[H next,.slice a4 l.length c4,H next,H c.s,H (tk c.p),H c.q,H c.l,yk c.g,.slice none 0 0][j]? = some u:=⟨_,yI (by simpa using hj)⟩
  rw [hr j u hu]; rfl
 ·have:=(ht j hj).2
  simp only [World.setCells,World.frozen?_setCell]
  exact this
 ·simp only [World.setCells]
  exact cw (cw (cw (cw (cw (cw (cw (cw (cw Y hn _ _) hn _ _) hn _ _) hn _ _) hn _ _) hn _ _) hn _ _) hn _ _) hn _ _
 ·obtain ⟨xz,A⟩:=A
  simp only [World.setCells]
  obtain ⟨_,Q⟩:=dh V mb 0 (H next) A
  obtain ⟨_,Q⟩:=dh _ mb 1 (.slice a4 l.length c4) Q
  obtain ⟨_,Q⟩:=dh _ mb 2 (H next) Q
  obtain ⟨_,Q⟩:=dh _ mb 3 (H c.s) Q
  obtain ⟨_,Q⟩:=dh _ mb 4 (H (tk c.p)) Q
  obtain ⟨_,Q⟩:=dh _ mb 5 (H c.q) Q
  obtain ⟨_,Q⟩:=dh _ mb 6 (H c.l) Q
  obtain ⟨_,Q⟩:=dh _ mb 7 (yk c.g) Q
  exact dh _ mb 8 (.slice none 0 0) Q
 ·simp only [World.setCells,World.setCell,Array.size_modify]; exact hB
def DM (b2 B:Nat) (base:World) (next:Int) (a:Option Addr) (cap:Nat) (l:List Od) (c:Cm) (p:Prop) (V:World):Nat→Value→Prop
 | 0,v=>v = .agg #[H next,.slice a l.length cap]
 | 1,v=>∃ a4 c4,v = .agg #[H next,.slice a4 l.length c4]∧(¬ p→ORow V B (.slice a4 l.length c4) l)
 | 2,v=>v = .agg #[H c.s,H c.t,H c.l,H c.q,yj c.p,yk c.g]
 | 3,v=>v = I b2 0
 | 4,v=>v = H next
 | 5,v=>v = .agg (yw next c.s (tk c.p) c.q c.l c.g).toArray
 | 6,v=>∃ a4 c4,v = .agg #[H next,.slice a4 l.length c4,H next,H c.s,H (tk c.p),H c.q,H c.l,yk c.g,.slice none 0 0]∧(¬ p→ORow V B (.slice a4 l.length c4) l)
 | 7,v=>∃ mb,v = I mb 0∧base.heap.size ≤ mb∧(¬ p→V.there mb 0 9∧∃ xz,V.heap[mb]? = some (.cells xz 259 (0,0)))∧(p→∃ a4 c4,MatS mb B V next (.slice a4 l.length c4) l (ordO c next) (.slice none 0 0) [])
 | _,_=>True
section
variable {b2 B:Nat} {base V V':World} {next:Int} {a:Option Addr} {cap:Nat} {l:List Od} {c:Cm} {p:Prop}
theorem dm_grow (hp:¬ p) (A:yn V V'):∀ j v,DM b2 B base next a cap l c p V j v→DM b2 B base next a cap l c p V' j v:=by
 intro j v h
 match j with
 | 0 | 2 | 3 | 4 | 5=>exact h
 | 1=>obtain ⟨a4,c4,Q,D⟩:=h; exact ⟨a4,c4,Q,fun hp=>zp (D hp) A⟩
 | 6=>obtain ⟨a4,c4,Q,D⟩:=h; exact ⟨a4,c4,Q,fun hp=>zp (D hp) A⟩
 | 7 =>
  obtain ⟨mb,Q,D,X,h4⟩:=h
  refine ⟨mb,Q,D,fun hp=>?_,fun h=>absurd h hp⟩
  obtain ⟨h5,xz,h6⟩:=X hp
  have xM:=(yZ.1 h6).1
  exact ⟨zk h5 A xM,xz,(A.block mb xM).trans h6⟩
 | j + 8=>trivial
theorem dm_last {v:Value}:∀ j,j ≠ 8→DM b2 B base next a cap l c False V j v→(j = 7→DM b2 B base next a cap l c True V' 7 v)→DM b2 B base next a cap l c True V' j v:=by
 intro j hj h h7
 match j with
 | 0 | 2 | 3 | 4 | 5=>exact h
 | 1=>obtain ⟨a4,c4,Q,D⟩:=h; exact ⟨a4,c4,Q,fun hp=>absurd trivial hp⟩
 | 6=>obtain ⟨a4,c4,Q,D⟩:=h; exact ⟨a4,c4,Q,fun hp=>absurd trivial hp⟩
 | 7=>exact h7 rfl
 | j + 8=>trivial
end
theorem matS_next {mb B:Nat} {W:World} {next:Int} {vq:Value} {l:List Od} {t:Od} {vt:Value} {ts:List Ev} (h:MatS mb B W next vq l t vt ts) (n':Int):MatS mb B (W.setCell (J mb 0) (H n')) n' vq l t vt ts:=by
 have hoth:∀ j,j ≠ 0→(W.setCell (J mb 0) (H n')).cell? (J mb j) = W.cell? (J mb j):=fun j hj=>yM _ _ _ _ (bZ (fun e=>hj e.symm))
 have kT:(W.setCell (J mb 0) (H n')).cell? (J mb 0) = some (H n'):=yN _ _ _ (h.cells 0 _ rfl)
 refine ⟨?_,fun j hj=>⟨?_,?_⟩,cw h.orow h.nq 0 _,cw h.erow h.nt 0 _,by obtain ⟨xz,hc⟩:=h.box; exact dh W mb 0 _ hc,by have:=h.le; simpa [World.setCell] using this⟩
 ·intro j u hj
  rw [Nat.zero_add]
  rcases j with _ | j
  ·cases hj; exact kT
  ·rw [hoth (j + 1) (by omega)]
   have:W.cell? (J mb (0 + (j + 1))) = some u:=h.cells (j + 1) u hj
   rwa [Nat.zero_add] at this
 ·rw [Nat.zero_add]
  rcases j with _ | j
  ·rw [kT]; rfl
  ·rw [hoth (j + 1) (by omega)]; have:=(h.there (j + 1) hj).1; rwa [Nat.zero_add] at this
 ·rw [World.frozen?_setCell]; exact (h.there j hj).2
theorem fV {mb B:Nat} {W W':World} {next:Int} {vq:Value} {l:List Od} {t:Od} {vt:Value} {ts:List Ev} (h:MatS mb B W next vq l t vt ts) (A:yn W W'):MatS mb B W' next vq l t vt ts :=
 ⟨zc h.cells A h.lt,zk h.there A h.lt,zp h.orow A,zN h.erow A,by obtain ⟨xz,hc⟩:=h.box; exact ⟨xz,(A.block mb h.lt).trans hc⟩,yO h.le A.size⟩
def meas (mb:Nat) (W:World):Nat:=(match W.cell? (J mb 1) with | some (.slice _ n _)=>2 * n | _=>0) + (match W.cell? (J mb 5) with | some (.int _ n)=>if 0 < n then 1 else 0 | _=>0)
theorem meas_eq {mb B:Nat} {W:World} {next:Int} {vq:Value} {l:List Od} {t:Od} {vt:Value} {ts:List Ev} (h:MatS mb B W next vq l t vt ts):meas mb W = 2 * l.length + (if 0 < t.left then 1 else 0):=by
 have Q:W.cell? (J mb 1) = some vq:=h.cells 1 _ rfl
 have h5:W.cell? (J mb 5) = some (H t.left):=h.cells 5 _ rfl
 have hq:∃ a c,vq = .slice a l.length c:=by
  rcases h.orow.2 with ⟨e,e2⟩ | ⟨g,cap,xz,e,_⟩
  ·exact ⟨none,0,by rw [e,e2]⟩
  ·exact ⟨_,_,e⟩
 obtain ⟨a,c,rfl⟩:=hq
 rw [meas,Q,h5]
theorem match_end {w W3 W8:World} {mb:Nat} {next:Int} {vq vt:Value} {l:List Od} {t:Od} {ts:List Ev} (hM:MatS mb W3.heap.size W8 next vq l t vt ts) (hK:KeptBut mb W3.heap.size W3 W8) (A:yn w W3) (hs:W3.heap.size = w.heap.size + 1 + 1 + 1) (hm:W3.heap.size ≤ mb) (vs:List Value) (hv:vs.length = 9) (ht:W8.there (w.heap.size + 1 + 1) 0 9) :
  (W8.setCells (w.heap.size + 1 + 1) 0 vs).rangeAt (w.heap.size + 1 + 1) 0 vs∧ORow (W8.setCells (w.heap.size + 1 + 1) 0 vs) w.heap.size vq l∧ERow (W8.setCells (w.heap.size + 1 + 1) 0 vs) w.heap.size vt ts∧yn w (W8.setCells (w.heap.size + 1 + 1) 0 vs):=by
 have hb8:yn w W8:=⟨hK.os.trans A.os,hK.tape.trans A.tape,hK.output.trans A.output,yO A.size hK.size,fun k E=>(hK.block k (by omega) (by omega)).trans (A.block k E)⟩
 have jL:yn w (W8.setCells (w.heap.size + 1 + 1) 0 vs):=zj (w.heap.size + 1 + 1) (by omega) vs 0 W8 hb8
 have uZ:W8.grownBy (W8.setCells (w.heap.size + 1 + 1) 0 vs) (some (w.heap.size + 1 + 1)):=by
  have h9:∀ (us:List Value) (o:Nat) (h3:World),h3.grownBy (h3.setCells (w.heap.size + 1 + 1) o us) (some (w.heap.size + 1 + 1)):=by
   intro us
   induction us with
   | nil=>intro o h3; exact ⟨rfl,rfl,rfl,Nat.le_refl _,fun _ _ _=>rfl⟩
   | cons u r ih =>
    intro o h3
    have Q:h3.grownBy (h3.setCell (J (w.heap.size + 1 + 1) o) u) (some (w.heap.size + 1 + 1)):=⟨rfl,rfl,rfl,by simp [World.setCell],fun k _ E=>yT _ _ _ _ (fun e=>E (by rw [e]))⟩
    exact Q.trans (ih (o + 1) _)
  exact h9 vs 0 W8
 have n4:∀ v:Value,(∀ g,v.ownBlock = some g→W3.heap.size ≤ g)→v.ownBlock = none ∨ v.ownBlock ≠ some (w.heap.size + 1 + 1):=fun v hv=>.inr (fun e=>by have:=hv _ e; omega)
 exact ⟨yY W8 _ 0 vs (fun j hj=>ht j (by omega)),dE (hM.orow.kept uZ (n4 vq (fun g hg=>(hM.orow.lt g hg).1))) (by omega),dE (hM.erow.kept uZ (n4 vt (fun g hg=>(hM.erow.lt g hg).1))) (by omega),jL⟩
def SdV (V:World) (v:Value) (l:List Od) (sd:Int):Prop:=(sd = 1∧∃ b,v = cP b∧bY 197 true V b 1 (zr l 1)) ∨ (¬ sd = 1∧∃ b,v = cQ b∧bY 200 false V b sd (zr l sd))
def FrV (V:World) (v:Value) (l:List Od) (sd:Int):Prop:=(sd = 1∧∃ b,v = .func (.func 164) #[I b 0] #[]∧bY 197 true V b 1 (zr l 1)) ∨ (¬ sd = 1∧∃ b,v = .func (.func 168) #[I b 0] #[]∧bY 200 false V b sd (zr l sd))
theorem field0_bm (b:Nat) (W:World):Sem.run Tryz.prog (Instr.field 129 (cP b) 0) W = .ok (.func (.func 164) #[I b 0] #[]) W:=by kernel_rfl
theorem field0_sm (b:Nat) (W:World):Sem.run Tryz.prog (Instr.field 129 (cQ b) 0) W = .ok (.func (.func 168) #[I b 0] #[]) W:=by kernel_rfl
def DQ (mb b3:Nat) (base:World) (BV:Value) (s sd:Int) (l:List Od) (x:Od) (fb:Bool) (p:Prop) (V:World):Nat→Value→Prop
 | 0,v=>v = I mb 0
 | 1,v=>v = BV
 | 2,v=>v = I b3 0
 | 3,v=>v = H s
 | 4,v=>v = H sd
 | 5,v=>¬ p→SdV V v l sd
 | 6,v=>¬ p→FrV V v l sd
 | 7,v=>v = .tuple #[.agg (yw x.id x.side x.ticks x.left x.life x.tag).toArray,.bool fb]
 | 8,v=>v = .tuple #[.agg (yw x.id x.side x.ticks x.left x.life x.tag).toArray,.bool fb]
 | 9,v=>v = .agg (yw x.id x.side x.ticks x.left x.life x.tag).toArray
 | 10,v=>v = .bool fb
 | 11,v=>∃ pb,v = I pb 0∧base.heap.size ≤ pb∧(¬ p→V.there pb 0 6∧pb < V.heap.size)∧(p→V.rangeAt pb 0 x.vs∧pb < V.heap.size)
 | 13,v=>v = .bool fb
 | _,_=>True
section
variable {mb b3:Nat} {base V V':World} {BV:Value} {s sd:Int} {l:List Od} {x:Od} {fb:Bool} {p:Prop}
theorem dq_grow (hp:¬ p) (A:yn V V'):∀ j v,DQ mb b3 base BV s sd l x fb p V j v→DQ mb b3 base BV s sd l x fb p V' j v:=by
 intro j v h
 match j with
 | 0 | 1 | 2 | 3 | 4 | 7 | 8 | 9 | 10 | 13=>exact h
 | 5 =>
  intro hp
  rcases h hp with ⟨Q,b,D,X⟩ | ⟨Q,b,D,X⟩
  ·exact .inl ⟨Q,b,D,zu X (A.block _ (zG X))⟩
  ·exact .inr ⟨Q,b,D,zu X (A.block _ (zG X))⟩
 | 6 =>
  intro hp
  rcases h hp with ⟨Q,b,D,X⟩ | ⟨Q,b,D,X⟩
  ·exact .inl ⟨Q,b,D,zu X (A.block _ (zG X))⟩
  ·exact .inr ⟨Q,b,D,zu X (A.block _ (zG X))⟩
 | 11 =>
  obtain ⟨pb,Q,D,X,h4⟩:=h
  refine ⟨pb,Q,D,fun hp=>?_,fun h=>absurd h hp⟩
  obtain ⟨h5,h6⟩:=X hp
  exact ⟨zk h5 A h6,yK h6 A.size⟩
 | 12=>trivial
 | j + 14=>trivial
theorem dq_last {v:Value}:∀ j,j ≠ 12→DQ mb b3 base BV s sd l x fb False V j v→(j = 11→DQ mb b3 base BV s sd l x fb True V' 11 v)→DQ mb b3 base BV s sd l x fb True V' j v:=by
 intro j hj h vK
 match j with
 | 0 | 1 | 2 | 3 | 4 | 7 | 8 | 9 | 10 | 13=>exact h
 | 5=>exact fun hp=>absurd trivial hp
 | 6=>exact fun hp=>absurd trivial hp
 | 11=>exact vK rfl
 | 12=>trivial
 | j + 14=>trivial
end
def backC:Nat→List Oper→Bool
 | _,[]=>true
 | i,o :: r=>o.after.toList.all (fun e=>!Region.binds .any e || decide (e.on < i)) && backC (i + 1) r
theorem backC_spec:∀ (l:List Oper) (n:Nat),backC n l = true→∀ (i:Nat) (o:Oper),l[i]? = some o→∀ e ∈ o.after,Region.binds .any e = true→e.on < n + i
 | [],_,_,i,o,h,_,_,_=>by simp at h
 | a :: r,n,A,0,o,h,e,he,hbd=>by
  simp at h; subst h
  simp only [backC,xf,List.all_eq_true] at A
  have:=A.1 e (by simpa using he)
  rw [hbd] at this
  simpa using this
 | a :: r,n,A,i + 1,o,h,e,he,hbd=>by
  simp only [backC,xf] at A
  have:=backC_spec r (n + 1) A.2 i o (by simpa using h) e he hbd
  omega
theorem zY {l:List Oper} {x:List Bool} (h:Region.ready .any l.toArray x.toArray = []) (hx:x.length = l.length) (A:backC 0 l = true):∀ i,i < l.length→x[i]? = some true:=by
 intro i
 induction i using Nat.strongRecOn with
 | _ i ih =>
  intro hi
  refine dX h hx i l[i] (yI hi) fun e he hbd=>?_
  have:=backC_spec l 0 A i l[i] (yI hi) e he hbd
  exact ih e.on (by omega) (by omega)
end Go.Proofs.YthhkapcbocgcoaaGreatDoor
