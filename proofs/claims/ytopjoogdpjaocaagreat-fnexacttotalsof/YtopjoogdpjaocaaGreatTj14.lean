/-
  What comes of a new order, by the program: the book copied, the taker laid beside it. Proved by walking the function.
-/
import Derived.Test.YtopjoogdpjaocaaGreatTj13
set_option linter.unusedVariables false
set_option maxHeartbeats 6400000
set_option maxRecDepth 100000
namespace Go.Proofs.YtopjoogdpjaocaaGreat
open Go.RowKit
section
variable {base W W':World} {F:(Nat→Value)→Act} {k:Nat} {D:Prop→World→Nat→Value→Prop} {x:List Bool} {f:Nat→Value}
theorem zbh (hb:Below base.heap.size base W) (h:∀ j,x[j]? = some true→D (x[k]? = some true) W j (f j)) (hg:Below W.heap.size W W') {i:Nat} (hik:i ≠ k) (hm:∀ j v,D (x[k]? = some true) W j v→D (x[k]? = some true) W' j v) {v:Value} (hv:D (x[k]? = some true) W' i v) :
  Below base.heap.size base W'∧∀ j,(x.set i true)[j]? = some true→D ((x.set i true)[k]? = some true) W' j (upd f i v j):=by
 refine ⟨hb.trans (hg.mono hb.size),fun j hj=>?_⟩
 rw [List.getElem?_set_ne hik]
 by_cases hji:j = i
 ·subst hji; rw [zp]; exact hv
 ·rw [zq _ _ hji]
  rw [List.getElem?_set_ne (fun e=>hji e.symm)] at hj
  exact hm _ _ (h j hj)
theorem rgx_last (hb:Below base.heap.size base W') (h:∀ j,x[j]? = some true→D (x[k]? = some true) W j (f j)) (hk:x[k]? = some false) (hm:∀ j,j ≠ k→x[j]? = some true→D False W j (f j)→D True W' j (f j)) {v:Value} (hv:D True W' k v) :
  Below base.heap.size base W'∧∀ j,(x.set k true)[j]? = some true→D ((x.set k true)[k]? = some true) W' j (upd f k v j):=by
 have e:((x.set k true)[k]? = some true) = True:=by
  rw [List.getElem?_set_self (List.getElem?_eq_some_iff.1 hk).1]; simp
 refine ⟨hb,fun j hj=>?_⟩
 rw [e]
 by_cases hji:j = k
 ·subst hji; rw [zp]; exact hv
 ·rw [zq _ _ hji]
  rw [List.getElem?_set_ne (fun e=>hji e.symm)] at hj
  refine hm j hji hj ?_
  have:=h j hj
  rw [hk] at this
  simpa using this
end
theorem matS_made {V:World} {mb B:Nat} {next:Int} {a4:Option Addr} {c4:Nat} {l:List Od} {c:Cm} (ht:V.there mb 0 9) (hb:∃ cur,V.heap[mb]? = some (.cells cur 126 (0,0))) (ho:ORow V B (.slice a4 l.length c4) l) (hB:B ≤ V.heap.size) :
  MatS mb B (V.setCells mb 0 [.int .i64 next,.slice a4 l.length c4,.int .i64 next,.int .i64 c.s,.int .i64 (tk c.p),.int .i64 c.q,.int .i64 c.l,.string c.g,.slice none 0 0]) next (.slice a4 l.length c4) l (ordO c next) (.slice none 0 0) []:=by
 have hn:some mb ≠ (Value.slice a4 l.length c4).ownBlock:=zj ho hb (by decide)
 have hr:=World.rangeAt_setCells_same V mb 0 [.int .i64 next,.slice a4 l.length c4,.int .i64 next,.int .i64 c.s,.int .i64 (tk c.p),.int .i64 c.q,.int .i64 c.l,.string c.g,.slice none 0 0] (fun j hj=>ht j hj)
 refine ⟨hr,fun j hj=>⟨?_,?_⟩,?_,World.ownsRow_nil _ _ _ _,?_,?_⟩
 ·obtain ⟨u,hu⟩:∃ u,[Value.int .i64 next,.slice a4 l.length c4,.int .i64 next,.int .i64 c.s,.int .i64 (tk c.p),.int .i64 c.q,.int .i64 c.l,.string c.g,.slice none 0 0][j]? = some u:=⟨_,List.getElem?_eq_getElem (by simpa using hj)⟩
  rw [hr j u hu]; rfl
 ·have:=(ht j hj).2
  simp only [World.setCells,World.frozen?_setCell]
  exact this
 ·simp only [World.setCells]
  exact zt (zt (zt (zt (zt (zt (zt (zt (zt ho hn _ _) hn _ _) hn _ _) hn _ _) hn _ _) hn _ _) hn _ _) hn _ _) hn _ _
 ·obtain ⟨cur,hb⟩:=hb
  simp only [World.setCells]
  obtain ⟨_,h1⟩:=zN V mb 0 (.int .i64 next) hb
  obtain ⟨_,h1⟩:=zN _ mb 1 (.slice a4 l.length c4) h1
  obtain ⟨_,h1⟩:=zN _ mb 2 (.int .i64 next) h1
  obtain ⟨_,h1⟩:=zN _ mb 3 (.int .i64 c.s) h1
  obtain ⟨_,h1⟩:=zN _ mb 4 (.int .i64 (tk c.p)) h1
  obtain ⟨_,h1⟩:=zN _ mb 5 (.int .i64 c.q) h1
  obtain ⟨_,h1⟩:=zN _ mb 6 (.int .i64 c.l) h1
  obtain ⟨_,h1⟩:=zN _ mb 7 (.string c.g) h1
  exact zN _ mb 8 (.slice none 0 0) h1
 ·simp only [World.setCells,World.setCell,Array.size_modify]; exact hB
def DM (b2 B:Nat) (base:World) (next:Int) (a:Option Addr) (cap:Nat) (l:List Od) (c:Cm) (p:Prop) (V:World):Nat→Value→Prop
 | 0,v=>v = .agg #[.int .i64 next,.slice a l.length cap]
 | 1,v=>∃ a4 c4,v = .agg #[.int .i64 next,.slice a4 l.length c4]∧(¬ p→ORow V B (.slice a4 l.length c4) l)
 | 2,v=>v = .agg #[.int .i64 c.s,.int .i64 c.t,.int .i64 c.l,.int .i64 c.q,.float .f64 c.p,.string c.g]
 | 3,v=>v = .pointer (some ⟨b2,0,none⟩)
 | 4,v=>v = .int .i64 next
 | 5,v=>v = .agg #[.int .i64 next,.int .i64 c.s,.int .i64 (tk c.p),.int .i64 c.q,.int .i64 c.l,.string c.g]
 | 6,v=>∃ a4 c4,v = .agg #[.int .i64 next,.slice a4 l.length c4,.int .i64 next,.int .i64 c.s,.int .i64 (tk c.p),.int .i64 c.q,.int .i64 c.l,.string c.g,.slice none 0 0]∧(¬ p→ORow V B (.slice a4 l.length c4) l)
 | 7,v=>∃ mb,v = .pointer (some ⟨mb,0,none⟩)∧base.heap.size ≤ mb∧(¬ p→V.there mb 0 9∧∃ cur,V.heap[mb]? = some (.cells cur 126 (0,0)))∧(p→∃ a4 c4,MatS mb B V next (.slice a4 l.length c4) l (ordO c next) (.slice none 0 0) [])
 | _,_=>True
section
variable {b2 B:Nat} {base V V':World} {next:Int} {a:Option Addr} {cap:Nat} {l:List Od} {c:Cm} {p:Prop}
theorem dm_grow (hp:¬ p) (hb:Below V.heap.size V V'):∀ j v,DM b2 B base next a cap l c p V j v→DM b2 B base next a cap l c p V' j v:=by
 intro j v h
 match j with
 | 0 | 2 | 3 | 4 | 5=>exact h
 | 1=>obtain ⟨a4,c4,h1,h2⟩:=h; exact ⟨a4,c4,h1,fun hp=>zk (h2 hp) hb⟩
 | 6=>obtain ⟨a4,c4,h1,h2⟩:=h; exact ⟨a4,c4,h1,fun hp=>zk (h2 hp) hb⟩
 | 7 =>
  obtain ⟨mb,h1,h2,h3,h4⟩:=h
  refine ⟨mb,h1,h2,fun hp=>?_,fun h=>absurd h hp⟩
  obtain ⟨h5,cur,h6⟩:=h3 hp
  have hlt:=(Array.getElem?_eq_some_iff.1 h6).1
  exact ⟨zf h5 hb hlt,cur,(hb.block mb hlt).trans h6⟩
 | j + 8=>trivial
theorem dm_last {v:Value}:∀ j,j ≠ 8→DM b2 B base next a cap l c False V j v→(j = 7→DM b2 B base next a cap l c True V' 7 v)→DM b2 B base next a cap l c True V' j v:=by
 intro j hj h h7
 match j with
 | 0 | 2 | 3 | 4 | 5=>exact h
 | 1=>obtain ⟨a4,c4,h1,h2⟩:=h; exact ⟨a4,c4,h1,fun hp=>absurd trivial hp⟩
 | 6=>obtain ⟨a4,c4,h1,h2⟩:=h; exact ⟨a4,c4,h1,fun hp=>absurd trivial hp⟩
 | 7=>exact h7 rfl
 | j + 8=>trivial
end
theorem matS_next {mb B:Nat} {W:World} {next:Int} {vq:Value} {l:List Od} {t:Od} {vt:Value} {ts:List Ev} (h:MatS mb B W next vq l t vt ts) (n':Int):MatS mb B (W.setCell ⟨mb,0,none⟩ (.int .i64 n')) n' vq l t vt ts:=by
 have hoth:∀ j,j ≠ 0→(W.setCell ⟨mb,0,none⟩ (.int .i64 n')).cell? ⟨mb,j,none⟩ = W.cell? ⟨mb,j,none⟩:=fun j hj=>World.cell?_setCell_other _ _ _ _ (zX (fun e=>hj e.symm))
 have hc0:(W.setCell ⟨mb,0,none⟩ (.int .i64 n')).cell? ⟨mb,0,none⟩ = some (.int .i64 n'):=World.cell?_setCell_same _ _ _ (h.cells 0 _ rfl)
 refine ⟨?_,fun j hj=>⟨?_,?_⟩,zt h.orow h.nq 0 _,zt h.erow h.nt 0 _,by obtain ⟨cur,hc⟩:=h.box; exact zN W mb 0 _ hc,by have:=h.le; simpa [World.setCell] using this⟩
 ·intro j u hj
  rw [Nat.zero_add]
  rcases j with _ | j
  ·cases hj; exact hc0
  ·rw [hoth (j + 1) (by omega)]
   have:W.cell? ⟨mb,0 + (j + 1),none⟩ = some u:=h.cells (j + 1) u hj
   rwa [Nat.zero_add] at this
 ·rw [Nat.zero_add]
  rcases j with _ | j
  ·rw [hc0]; rfl
  ·rw [hoth (j + 1) (by omega)]; have:=(h.there (j + 1) hj).1; rwa [Nat.zero_add] at this
 ·rw [World.frozen?_setCell]; exact (h.there j hj).2
theorem zbj {mb B:Nat} {W W':World} {next:Int} {vq:Value} {l:List Od} {t:Od} {vt:Value} {ts:List Ev} (h:MatS mb B W next vq l t vt ts) (hb:Below W.heap.size W W'):MatS mb B W' next vq l t vt ts :=
 ⟨zb h.cells hb h.lt,zf h.there hb h.lt,zk h.orow hb,zI h.erow hb,by obtain ⟨cur,hc⟩:=h.box; exact ⟨cur,(hb.block mb h.lt).trans hc⟩,Nat.le_trans h.le hb.size⟩
def meas (mb:Nat) (W:World):Nat:=(match W.cell? ⟨mb,1,none⟩ with | some (.slice _ n _)=>2 * n | _=>0) + (match W.cell? ⟨mb,5,none⟩ with | some (.int _ n)=>if 0 < n then 1 else 0 | _=>0)
theorem meas_eq {mb B:Nat} {W:World} {next:Int} {vq:Value} {l:List Od} {t:Od} {vt:Value} {ts:List Ev} (h:MatS mb B W next vq l t vt ts):meas mb W = 2 * l.length + (if 0 < t.left then 1 else 0):=by
 have h1:W.cell? ⟨mb,1,none⟩ = some vq:=h.cells 1 _ rfl
 have h5:W.cell? ⟨mb,5,none⟩ = some (.int .i64 t.left):=h.cells 5 _ rfl
 have hq:∃ a c,vq = .slice a l.length c:=by
  rcases h.orow.2 with ⟨e,e2⟩ | ⟨g,cap,cur,e,_⟩
  ·exact ⟨none,0,by rw [e,e2]⟩
  ·exact ⟨_,_,e⟩
 obtain ⟨a,c,rfl⟩:=hq
 rw [meas,h1,h5]
theorem match_end {w W3 W8:World} {mb:Nat} {next:Int} {vq vt:Value} {l:List Od} {t:Od} {ts:List Ev} (hM:MatS mb W3.heap.size W8 next vq l t vt ts) (hK:KeptBut mb W3.heap.size W3 W8) (hb:Below w.heap.size w W3) (hs:W3.heap.size = w.heap.size + 1 + 1 + 1) (hm:W3.heap.size ≤ mb) (vs:List Value) (hv:vs.length = 9) (ht:W8.there (w.heap.size + 1 + 1) 0 9) :
  (W8.setCells (w.heap.size + 1 + 1) 0 vs).rangeAt (w.heap.size + 1 + 1) 0 vs∧ORow (W8.setCells (w.heap.size + 1 + 1) 0 vs) w.heap.size vq l∧ERow (W8.setCells (w.heap.size + 1 + 1) 0 vs) w.heap.size vt ts∧Below w.heap.size w (W8.setCells (w.heap.size + 1 + 1) 0 vs):=by
 have hb8:Below w.heap.size w W8:=⟨hK.os.trans hb.os,hK.tape.trans hb.tape,hK.output.trans hb.output,Nat.le_trans hb.size hK.size,fun k hk=>(hK.block k (by omega) (by omega)).trans (hb.block k hk)⟩
 have hbe:Below w.heap.size w (W8.setCells (w.heap.size + 1 + 1) 0 vs):=zm (w.heap.size + 1 + 1) (by omega) vs 0 W8 hb8
 have hgr:W8.grownBy (W8.setCells (w.heap.size + 1 + 1) 0 vs) (some (w.heap.size + 1 + 1)):=by
  have h9:∀ (us:List Value) (o:Nat) (X:World),X.grownBy (X.setCells (w.heap.size + 1 + 1) o us) (some (w.heap.size + 1 + 1)):=by
   intro us
   induction us with
   | nil=>intro o X; exact ⟨rfl,rfl,rfl,Nat.le_refl _,fun _ _ _=>rfl⟩
   | cons u r ih =>
    intro o X
    have h1:X.grownBy (X.setCell ⟨w.heap.size + 1 + 1,o,none⟩ u) (some (w.heap.size + 1 + 1)):=⟨rfl,rfl,rfl,by simp [World.setCell],fun k _ hk=>Below.heap_setCell _ _ _ _ (fun e=>hk (by rw [e]))⟩
    exact h1.trans (ih (o + 1) _)
  exact h9 vs 0 W8
 have n4:∀ v:Value,(∀ g,v.ownBlock = some g→W3.heap.size ≤ g)→v.ownBlock = none ∨ v.ownBlock ≠ some (w.heap.size + 1 + 1):=fun v hv=>.inr (fun e=>by have:=hv _ e; omega)
 exact ⟨World.rangeAt_setCells_same W8 _ 0 vs (fun j hj=>ht j (by omega)),zaB (hM.orow.kept hgr (n4 vq (fun g hg=>(hM.orow.lt g hg).1))) (by omega),zaB (hM.erow.kept hgr (n4 vt (fun g hg=>(hM.erow.lt g hg).1))) (by omega),hbe⟩
def SdV (V:World) (v:Value) (l:List Od) (sd:Int):Prop:=(sd = 1∧∃ b,v = zbY b∧zak 171 true V b 1 (zz l 1)) ∨ (¬ sd = 1∧∃ b,v = zbZ b∧zak 173 false V b sd (zz l sd))
def FrV (V:World) (v:Value) (l:List Od) (sd:Int):Prop:=(sd = 1∧∃ b,v = .func (.func 111) #[.pointer (some ⟨b,0,none⟩)] #[]∧zak 171 true V b 1 (zz l 1)) ∨ (¬ sd = 1∧∃ b,v = .func (.func 115) #[.pointer (some ⟨b,0,none⟩)] #[]∧zak 173 false V b sd (zz l sd))
theorem field0_bm (b:Nat) (W:World):Sem.run Tryz.prog (Instr.field 145 (zbY b) 0) W = .ok (.func (.func 111) #[.pointer (some ⟨b,0,none⟩)] #[]) W:=by kernel_rfl
theorem field0_sm (b:Nat) (W:World):Sem.run Tryz.prog (Instr.field 145 (zbZ b) 0) W = .ok (.func (.func 115) #[.pointer (some ⟨b,0,none⟩)] #[]) W:=by kernel_rfl
def DQ (mb b3:Nat) (base:World) (BV:Value) (s sd:Int) (l:List Od) (x:Od) (fb:Bool) (p:Prop) (V:World):Nat→Value→Prop
 | 0,v=>v = .pointer (some ⟨mb,0,none⟩)
 | 1,v=>v = BV
 | 2,v=>v = .pointer (some ⟨b3,0,none⟩)
 | 3,v=>v = .int .i64 s
 | 4,v=>v = .int .i64 sd
 | 5,v=>¬ p→SdV V v l sd
 | 6,v=>¬ p→FrV V v l sd
 | 7,v=>v = .tuple #[.agg #[.int .i64 x.id,.int .i64 x.side,.int .i64 x.ticks,.int .i64 x.left,.int .i64 x.life,.string x.tag],.bool fb]
 | 8,v=>v = .tuple #[.agg #[.int .i64 x.id,.int .i64 x.side,.int .i64 x.ticks,.int .i64 x.left,.int .i64 x.life,.string x.tag],.bool fb]
 | 9,v=>v = .agg #[.int .i64 x.id,.int .i64 x.side,.int .i64 x.ticks,.int .i64 x.left,.int .i64 x.life,.string x.tag]
 | 10,v=>v = .bool fb
 | 11,v=>∃ pb,v = .pointer (some ⟨pb,0,none⟩)∧base.heap.size ≤ pb∧(¬ p→V.there pb 0 6∧pb < V.heap.size)∧(p→V.rangeAt pb 0 x.vs∧pb < V.heap.size)
 | 13,v=>v = .bool fb
 | _,_=>True
section
variable {mb b3:Nat} {base V V':World} {BV:Value} {s sd:Int} {l:List Od} {x:Od} {fb:Bool} {p:Prop}
theorem dq_grow (hp:¬ p) (hb:Below V.heap.size V V'):∀ j v,DQ mb b3 base BV s sd l x fb p V j v→DQ mb b3 base BV s sd l x fb p V' j v:=by
 intro j v h
 match j with
 | 0 | 1 | 2 | 3 | 4 | 7 | 8 | 9 | 10 | 13=>exact h
 | 5 =>
  intro hp
  rcases h hp with ⟨h1,b,h2,h3⟩ | ⟨h1,b,h2,h3⟩
  ·exact .inl ⟨h1,b,h2,zG h3 (hb.block _ (zaf h3))⟩
  ·exact .inr ⟨h1,b,h2,zG h3 (hb.block _ (zaf h3))⟩
 | 6 =>
  intro hp
  rcases h hp with ⟨h1,b,h2,h3⟩ | ⟨h1,b,h2,h3⟩
  ·exact .inl ⟨h1,b,h2,zG h3 (hb.block _ (zaf h3))⟩
  ·exact .inr ⟨h1,b,h2,zG h3 (hb.block _ (zaf h3))⟩
 | 11 =>
  obtain ⟨pb,h1,h2,h3,h4⟩:=h
  refine ⟨pb,h1,h2,fun hp=>?_,fun h=>absurd h hp⟩
  obtain ⟨h5,h6⟩:=h3 hp
  exact ⟨zf h5 hb h6,Nat.lt_of_lt_of_le h6 hb.size⟩
 | 12=>trivial
 | j + 14=>trivial
theorem dq_last {v:Value}:∀ j,j ≠ 12→DQ mb b3 base BV s sd l x fb False V j v→(j = 11→DQ mb b3 base BV s sd l x fb True V' 11 v)→DQ mb b3 base BV s sd l x fb True V' j v:=by
 intro j hj h h11
 match j with
 | 0 | 1 | 2 | 3 | 4 | 7 | 8 | 9 | 10 | 13=>exact h
 | 5=>exact fun hp=>absurd trivial hp
 | 6=>exact fun hp=>absurd trivial hp
 | 11=>exact h11 rfl
 | 12=>trivial
 | j + 14=>trivial
end
def backC:Nat→List Oper→Bool
 | _,[]=>true
 | i,o :: r=>o.after.toList.all (fun e=>!Region.binds .any e || decide (e.on < i)) && backC (i + 1) r
theorem backC_spec:∀ (l:List Oper) (n:Nat),backC n l = true→∀ (i:Nat) (o:Oper),l[i]? = some o→∀ e ∈ o.after,Region.binds .any e = true→e.on < n + i
 | [],_,_,i,o,h,_,_,_=>by simp at h
 | a :: r,n,hb,0,o,h,e,he,hbd=>by
  simp at h; subst h
  simp only [backC,Bool.and_eq_true,List.all_eq_true] at hb
  have:=hb.1 e (by simpa using he)
  rw [hbd] at this
  simpa using this
 | a :: r,n,hb,i + 1,o,h,e,he,hbd=>by
  simp only [backC,Bool.and_eq_true] at hb
  have:=backC_spec r (n + 1) hb.2 i o (by simpa using h) e he hbd
  omega
theorem zac {l:List Oper} {x:List Bool} (h:Region.ready .any l.toArray x.toArray = []) (hx:x.length = l.length) (hb:backC 0 l = true):∀ i,i < l.length→x[i]? = some true:=by
 intro i
 induction i using Nat.strongRecOn with
 | _ i ih =>
  intro hi
  refine ready_none h hx i l[i] (List.getElem?_eq_getElem hi) fun e he hbd=>?_
  have:=backC_spec l 0 hb i l[i] (List.getElem?_eq_getElem hi) e he hbd
  exact ih e.on (by omega) (by omega)
end Go.Proofs.YtopjoogdpjaocaaGreat
