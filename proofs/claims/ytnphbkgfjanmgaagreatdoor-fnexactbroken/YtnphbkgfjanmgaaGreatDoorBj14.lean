/-
  What comes of a new order, by the program: the book copied, the taker laid beside it. Proved by walking the function.
-/
import Derived.Test.YtnphbkgfjanmgaaGreatDoorBj13
set_option linter.unusedVariables false
set_option maxHeartbeats 6400000
set_option maxRecDepth 100000
namespace Go.Proofs.YtnphbkgfjanmgaaGreatDoor
open Go.RowKit
section
variable {base W W':World} {cl:(Nat→Value)→Act} {k:Nat} {xg:Prop→World→Nat→Value→Prop} {x:List Bool} {f:Nat→Value}
theorem bm (Y:yn base W) (h:∀ j,x[j]? = some true→xg (x[k]? = some true) W j (f j)) (hg:yn W W') {i:Nat} (hik:i ≠ k) (hm:∀ j v,xg (x[k]? = some true) W j v→xg (x[k]? = some true) W' j v) {v:Value} (hv:xg (x[k]? = some true) W' i v) :
  yn base W'∧∀ j,(x.set i true)[j]? = some true→xg ((x.set i true)[k]? = some true) W' j (upd f i v j):=by
 refine ⟨Y.trans (hg.mono Y.size),fun j O=>?_⟩
 rw [yW hik]
 by_cases hji:j = i
 ·subst hji; rw [zr]; exact hv
 ·rw [zl _ _ hji]
  rw [yW (fun e=>hji e.symm)] at O
  exact hm _ _ (h j O)
theorem rgx_last (Y:yn base W') (h:∀ j,x[j]? = some true→xg (x[k]? = some true) W j (f j)) (hk:x[k]? = some false) (hm:∀ j,j ≠ k→x[j]? = some true→xg False W j (f j)→xg True W' j (f j)) {v:Value} (hv:xg True W' k v) :
  yn base W'∧∀ j,(x.set k true)[j]? = some true→xg ((x.set k true)[k]? = some true) W' j (upd f k v j):=by
 have e:((x.set k true)[k]? = some true) = True:=by
  rw [List.getElem?_set_self (yG.1 hk).1]; simp
 refine ⟨Y,fun j O=>?_⟩
 rw [e]
 by_cases hji:j = k
 ·subst hji; rw [zr]; exact hv
 ·rw [zl _ _ hji]
  rw [yW (fun e=>hji e.symm)] at O
  refine hm j hji O ?_
  have:=h j O
  rw [hk] at this
  simpa using this
end
theorem matS_made {xn:World} {mb B:Nat} {next:Int} {a4:Option Addr} {c4:Nat} {l:List Od} {c:Cm} (ht:xn.there mb 0 9) (Y:∃ xF,xn.heap[mb]? = some (.cells xF 254 (0,0))) (N:ORow xn B (.slice a4 l.length c4) l) (hB:B ≤ xn.heap.size) :
  MatS mb B (xn.setCells mb 0 [I next,.slice a4 l.length c4,I next,I c.s,I (tk c.p),I c.q,I c.l,yk c.g,.slice none 0 0]) next (.slice a4 l.length c4) l (ordO c next) (.slice none 0 0) []:=by
 have hn:some mb ≠ (Value.slice a4 l.length c4).ownBlock:=cd N Y (by decide)
 have hr:=yX xn mb 0 [I next,.slice a4 l.length c4,I next,I c.s,I (tk c.p),I c.q,I c.l,yk c.g,.slice none 0 0] (fun j O=>ht j O)
 refine ⟨hr,fun j O=>⟨?_,?_⟩,?_,World.ownsRow_nil _ _ _ _,?_,?_⟩
 ·obtain ⟨u,hu⟩:∃ u,[I next,.slice a4 l.length c4,I next,I c.s,I (tk c.p),I c.q,I c.l,yk c.g,.slice none 0 0][j]? = some u:=⟨_,yH (by simpa using O)⟩
  rw [hr j u hu]; rfl
 ·have:=(ht j O).2
  simp only [World.setCells,World.frozen?_setCell]
  exact this
 ·simp only [World.setCells]
  exact bp (bp (bp (bp (bp (bp (bp (bp (bp N hn _ _) hn _ _) hn _ _) hn _ _) hn _ _) hn _ _) hn _ _) hn _ _) hn _ _
 ·obtain ⟨xF,Y⟩:=Y
  simp only [World.setCells]
  obtain ⟨_,Q⟩:=bU xn mb 0 (I next) Y
  obtain ⟨_,Q⟩:=bU _ mb 1 (.slice a4 l.length c4) Q
  obtain ⟨_,Q⟩:=bU _ mb 2 (I next) Q
  obtain ⟨_,Q⟩:=bU _ mb 3 (I c.s) Q
  obtain ⟨_,Q⟩:=bU _ mb 4 (I (tk c.p)) Q
  obtain ⟨_,Q⟩:=bU _ mb 5 (I c.q) Q
  obtain ⟨_,Q⟩:=bU _ mb 6 (I c.l) Q
  obtain ⟨_,Q⟩:=bU _ mb 7 (yk c.g) Q
  exact bU _ mb 8 (.slice none 0 0) Q
 ·simp only [World.setCells,World.setCell,Array.size_modify]; exact hB
def DM (b2 B:Nat) (base:World) (next:Int) (a:Option Addr) (cap:Nat) (l:List Od) (c:Cm) (p:Prop) (xn:World):Nat→Value→Prop
 | 0,v=>v = .agg #[I next,.slice a l.length cap]
 | 1,v=>∃ a4 c4,v = .agg #[I next,.slice a4 l.length c4]∧(¬ p→ORow xn B (.slice a4 l.length c4) l)
 | 2,v=>v = .agg #[I c.s,I c.t,I c.l,I c.q,yj c.p,yk c.g]
 | 3,v=>v = J b2 0
 | 4,v=>v = I next
 | 5,v=>v = .agg (yw next c.s (tk c.p) c.q c.l c.g).toArray
 | 6,v=>∃ a4 c4,v = .agg #[I next,.slice a4 l.length c4,I next,I c.s,I (tk c.p),I c.q,I c.l,yk c.g,.slice none 0 0]∧(¬ p→ORow xn B (.slice a4 l.length c4) l)
 | 7,v=>∃ mb,v = J mb 0∧base.heap.size ≤ mb∧(¬ p→xn.there mb 0 9∧∃ xF,xn.heap[mb]? = some (.cells xF 254 (0,0)))∧(p→∃ a4 c4,MatS mb B xn next (.slice a4 l.length c4) l (ordO c next) (.slice none 0 0) [])
 | _,_=>True
section
variable {b2 B:Nat} {base xn V':World} {next:Int} {a:Option Addr} {cap:Nat} {l:List Od} {c:Cm} {p:Prop}
theorem dm_grow (hp:¬ p) (Y:yn xn V'):∀ j v,DM b2 B base next a cap l c p xn j v→DM b2 B base next a cap l c p V' j v:=by
 intro j v h
 match j with
 | 0 | 2 | 3 | 4 | 5=>exact h
 | 1=>obtain ⟨a4,c4,Q,E⟩:=h; exact ⟨a4,c4,Q,fun hp=>zM (E hp) Y⟩
 | 6=>obtain ⟨a4,c4,Q,E⟩:=h; exact ⟨a4,c4,Q,fun hp=>zM (E hp) Y⟩
 | 7 =>
  obtain ⟨mb,Q,E,h3,h4⟩:=h
  refine ⟨mb,Q,E,fun hp=>?_,fun h=>absurd h hp⟩
  obtain ⟨h5,xF,h6⟩:=h3 hp
  have xI:=(yY.1 h6).1
  exact ⟨zo h5 Y xI,xF,(Y.block mb xI).trans h6⟩
 | j + 8=>trivial
theorem dm_last {v:Value}:∀ j,j ≠ 8→DM b2 B base next a cap l c False xn j v→(j = 7→DM b2 B base next a cap l c True V' 7 v)→DM b2 B base next a cap l c True V' j v:=by
 intro j O h h7
 match j with
 | 0 | 2 | 3 | 4 | 5=>exact h
 | 1=>obtain ⟨a4,c4,Q,E⟩:=h; exact ⟨a4,c4,Q,fun hp=>absurd trivial hp⟩
 | 6=>obtain ⟨a4,c4,Q,E⟩:=h; exact ⟨a4,c4,Q,fun hp=>absurd trivial hp⟩
 | 7=>exact h7 rfl
 | j + 8=>trivial
end
theorem matS_next {mb B:Nat} {W:World} {next:Int} {vq:Value} {l:List Od} {t:Od} {vt:Value} {ts:List Ev} (h:MatS mb B W next vq l t vt ts) (n':Int):MatS mb B (W.setCell (U mb 0) (I n')) n' vq l t vt ts:=by
 have hoth:∀ j,j ≠ 0→(W.setCell (U mb 0) (I n')).cell? (U mb j) = W.cell? (U mb j):=fun j O=>yL _ _ _ _ (cy (fun e=>O e.symm))
 have kE:(W.setCell (U mb 0) (I n')).cell? (U mb 0) = some (I n'):=yM _ _ _ (h.cells 0 _ rfl)
 refine ⟨?_,fun j O=>⟨?_,?_⟩,bp h.orow h.nq 0 _,bp h.erow h.nt 0 _,by obtain ⟨xF,hc⟩:=h.box; exact bU W mb 0 _ hc,by have:=h.le; simpa [World.setCell] using this⟩
 ·intro j u O
  rw [Nat.zero_add]
  rcases j with _ | j
  ·cases O; exact kE
  ·rw [hoth (j + 1) (by omega)]
   have:W.cell? (U mb (0 + (j + 1))) = some u:=h.cells (j + 1) u O
   rwa [Nat.zero_add] at this
 ·rw [Nat.zero_add]
  rcases j with _ | j
  ·rw [kE]; rfl
  ·rw [hoth (j + 1) (by omega)]; have:=(h.there (j + 1) O).1; rwa [Nat.zero_add] at this
 ·rw [World.frozen?_setCell]; exact (h.there j O).2
theorem ei {mb B:Nat} {W W':World} {next:Int} {vq:Value} {l:List Od} {t:Od} {vt:Value} {ts:List Ev} (h:MatS mb B W next vq l t vt ts) (Y:yn W W'):MatS mb B W' next vq l t vt ts :=
 ⟨zc h.cells Y h.lt,zo h.there Y h.lt,zM h.orow Y,cU h.erow Y,by obtain ⟨xF,hc⟩:=h.box; exact ⟨xF,(Y.block mb h.lt).trans hc⟩,yN h.le Y.size⟩
def meas (mb:Nat) (W:World):Nat:=(match W.cell? (U mb 1) with | some (.slice _ n _)=>2 * n | _=>0) + (match W.cell? (U mb 5) with | some (.int _ n)=>if 0 < n then 1 else 0 | _=>0)
theorem meas_eq {mb B:Nat} {W:World} {next:Int} {vq:Value} {l:List Od} {t:Od} {vt:Value} {ts:List Ev} (h:MatS mb B W next vq l t vt ts):meas mb W = 2 * l.length + (if 0 < t.left then 1 else 0):=by
 have Q:W.cell? (U mb 1) = some vq:=h.cells 1 _ rfl
 have h5:W.cell? (U mb 5) = some (I t.left):=h.cells 5 _ rfl
 have hq:∃ a c,vq = .slice a l.length c:=by
  rcases h.orow.2 with ⟨e,e2⟩ | ⟨g,cap,xF,e,_⟩
  ·exact ⟨none,0,by rw [e,e2]⟩
  ·exact ⟨_,_,e⟩
 obtain ⟨a,c,rfl⟩:=hq
 rw [meas,Q,h5]
theorem match_end {w W3 W8:World} {mb:Nat} {next:Int} {vq vt:Value} {l:List Od} {t:Od} {ts:List Ev} (hM:MatS mb W3.heap.size W8 next vq l t vt ts) (hK:KeptBut mb W3.heap.size W3 W8) (Y:yn w W3) (hs:W3.heap.size = w.heap.size + 1 + 1 + 1) (hm:W3.heap.size ≤ mb) (vs:List Value) (hv:vs.length = 9) (ht:W8.there (w.heap.size + 1 + 1) 0 9) :
  (W8.setCells (w.heap.size + 1 + 1) 0 vs).rangeAt (w.heap.size + 1 + 1) 0 vs∧ORow (W8.setCells (w.heap.size + 1 + 1) 0 vs) w.heap.size vq l∧ERow (W8.setCells (w.heap.size + 1 + 1) 0 vs) w.heap.size vt ts∧yn w (W8.setCells (w.heap.size + 1 + 1) 0 vs):=by
 have hb8:yn w W8:=⟨hK.os.trans Y.os,hK.tape.trans Y.tape,hK.output.trans Y.output,yN Y.size hK.size,fun k hk=>(hK.block k (by omega) (by omega)).trans (Y.block k hk)⟩
 have jF:yn w (W8.setCells (w.heap.size + 1 + 1) 0 vs):=zj (w.heap.size + 1 + 1) (by omega) vs 0 W8 hb8
 have vG:W8.grownBy (W8.setCells (w.heap.size + 1 + 1) 0 vs) (some (w.heap.size + 1 + 1)):=by
  have h9:∀ (us:List Value) (o:Nat) (cp:World),cp.grownBy (cp.setCells (w.heap.size + 1 + 1) o us) (some (w.heap.size + 1 + 1)):=by
   intro us
   induction us with
   | nil=>intro o cp; exact ⟨rfl,rfl,rfl,Nat.le_refl _,fun _ _ _=>rfl⟩
   | cons u r ih =>
    intro o cp
    have Q:cp.grownBy (cp.setCell (U (w.heap.size + 1 + 1) o) u) (some (w.heap.size + 1 + 1)):=⟨rfl,rfl,rfl,by simp [World.setCell],fun k _ hk=>yS _ _ _ _ (fun e=>hk (by rw [e]))⟩
    exact Q.trans (ih (o + 1) _)
  exact h9 vs 0 W8
 have n4:∀ v:Value,(∀ g,v.ownBlock = some g→W3.heap.size ≤ g)→v.ownBlock = none ∨ v.ownBlock ≠ some (w.heap.size + 1 + 1):=fun v hv=>.inr (fun e=>by have:=hv _ e; omega)
 exact ⟨yX W8 _ 0 vs (fun j O=>ht j (by omega)),zS (hM.orow.kept vG (n4 vq (fun g hg=>(hM.orow.lt g hg).1))) (by omega),zS (hM.erow.kept vG (n4 vt (fun g hg=>(hM.erow.lt g hg).1))) (by omega),jF⟩
def SdV (xn:World) (v:Value) (l:List Od) (sd:Int):Prop:=(sd = 1∧∃ b,v = bK b∧aZ 201 true xn b 1 (zt l 1)) ∨ (¬ sd = 1∧∃ b,v = bL b∧aZ 204 false xn b sd (zt l sd))
def FrV (xn:World) (v:Value) (l:List Od) (sd:Int):Prop:=(sd = 1∧∃ b,v = .func (.func 166) #[J b 0] #[]∧aZ 201 true xn b 1 (zt l 1)) ∨ (¬ sd = 1∧∃ b,v = .func (.func 170) #[J b 0] #[]∧aZ 204 false xn b sd (zt l sd))
theorem field0_bm (b:Nat) (W:World):Sem.run Tryz.prog (Instr.field 135 (bK b) 0) W = .ok (.func (.func 166) #[J b 0] #[]) W:=by kernel_rfl
theorem field0_sm (b:Nat) (W:World):Sem.run Tryz.prog (Instr.field 135 (bL b) 0) W = .ok (.func (.func 170) #[J b 0] #[]) W:=by kernel_rfl
def DQ (mb b3:Nat) (base:World) (BV:Value) (s sd:Int) (l:List Od) (x:Od) (fb:Bool) (p:Prop) (xn:World):Nat→Value→Prop
 | 0,v=>v = J mb 0
 | 1,v=>v = BV
 | 2,v=>v = J b3 0
 | 3,v=>v = I s
 | 4,v=>v = I sd
 | 5,v=>¬ p→SdV xn v l sd
 | 6,v=>¬ p→FrV xn v l sd
 | 7,v=>v = .tuple #[.agg (yw x.id x.side x.ticks x.left x.life x.tag).toArray,.bool fb]
 | 8,v=>v = .tuple #[.agg (yw x.id x.side x.ticks x.left x.life x.tag).toArray,.bool fb]
 | 9,v=>v = .agg (yw x.id x.side x.ticks x.left x.life x.tag).toArray
 | 10,v=>v = .bool fb
 | 11,v=>∃ pb,v = J pb 0∧base.heap.size ≤ pb∧(¬ p→xn.there pb 0 6∧pb < xn.heap.size)∧(p→xn.rangeAt pb 0 x.vs∧pb < xn.heap.size)
 | 13,v=>v = .bool fb
 | _,_=>True
section
variable {mb b3:Nat} {base xn V':World} {BV:Value} {s sd:Int} {l:List Od} {x:Od} {fb:Bool} {p:Prop}
theorem dq_grow (hp:¬ p) (Y:yn xn V'):∀ j v,DQ mb b3 base BV s sd l x fb p xn j v→DQ mb b3 base BV s sd l x fb p V' j v:=by
 intro j v h
 match j with
 | 0 | 1 | 2 | 3 | 4 | 7 | 8 | 9 | 10 | 13=>exact h
 | 5 =>
  intro hp
  rcases h hp with ⟨Q,b,E,h3⟩ | ⟨Q,b,E,h3⟩
  ·exact .inl ⟨Q,b,E,zu h3 (Y.block _ (zH h3))⟩
  ·exact .inr ⟨Q,b,E,zu h3 (Y.block _ (zH h3))⟩
 | 6 =>
  intro hp
  rcases h hp with ⟨Q,b,E,h3⟩ | ⟨Q,b,E,h3⟩
  ·exact .inl ⟨Q,b,E,zu h3 (Y.block _ (zH h3))⟩
  ·exact .inr ⟨Q,b,E,zu h3 (Y.block _ (zH h3))⟩
 | 11 =>
  obtain ⟨pb,Q,E,h3,h4⟩:=h
  refine ⟨pb,Q,E,fun hp=>?_,fun h=>absurd h hp⟩
  obtain ⟨h5,h6⟩:=h3 hp
  exact ⟨zo h5 Y h6,yJ h6 Y.size⟩
 | 12=>trivial
 | j + 14=>trivial
theorem dq_last {v:Value}:∀ j,j ≠ 12→DQ mb b3 base BV s sd l x fb False xn j v→(j = 11→DQ mb b3 base BV s sd l x fb True V' 11 v)→DQ mb b3 base BV s sd l x fb True V' j v:=by
 intro j O h uS
 match j with
 | 0 | 1 | 2 | 3 | 4 | 7 | 8 | 9 | 10 | 13=>exact h
 | 5=>exact fun hp=>absurd trivial hp
 | 6=>exact fun hp=>absurd trivial hp
 | 11=>exact uS rfl
 | 12=>trivial
 | j + 14=>trivial
end
def backC:Nat→List Oper→Bool
 | _,[]=>true
 | i,o :: r=>o.after.toList.all (fun e=>!Region.binds .any e || decide (e.on < i)) && backC (i + 1) r
theorem backC_spec:∀ (l:List Oper) (n:Nat),backC n l = true→∀ (i:Nat) (o:Oper),l[i]? = some o→∀ e ∈ o.after,Region.binds .any e = true→e.on < n + i
 | [],_,_,i,o,h,_,_,_=>by simp at h
 | a :: r,n,Y,0,o,h,e,he,hbd=>by
  simp at h; subst h
  simp only [backC,xe,List.all_eq_true] at Y
  have:=Y.1 e (by simpa using he)
  rw [hbd] at this
  simpa using this
 | a :: r,n,Y,i + 1,o,h,e,he,hbd=>by
  simp only [backC,xe] at Y
  have:=backC_spec r (n + 1) Y.2 i o (by simpa using h) e he hbd
  omega
theorem bT {l:List Oper} {x:List Bool} (h:Region.ready .any l.toArray x.toArray = []) (hx:x.length = l.length) (Y:backC 0 l = true):∀ i,i < l.length→x[i]? = some true:=by
 intro i
 induction i using Nat.strongRecOn with
 | _ i ih =>
  intro hi
  refine cH h hx i l[i] (yH hi) fun e he hbd=>?_
  have:=backC_spec l 0 Y i l[i] (yH hi) e he hbd
  exact ih e.on (by omega) (by omega)
end Go.Proofs.YtnphbkgfjanmgaaGreatDoor
