/-
  A group closed, by the program: laid behind the others, counted, and none open behind it. Proved by walking the method.
-/
import Derived.Test.YtdliebbfcmdmaaaGreatMj20
set_option linter.unusedVariables false
set_option maxHeartbeats 6400000
set_option maxRecDepth 100000
namespace Go.Proofs.YtdliebbfcmdmaaaGreat
open Go.RowKit
abbrev GRow (W:World) (B:Nat) (v:Value) (gs:List Value):Prop:=W.ownsRow B 39 1 v gs.length gs
theorem infoEvS:(Tryz.prog.info? 39).map (fun i=>(i.zero,i.size,i.bytes)) = some (some (.slice none 0 0),1,24):=by kernel_rfl
theorem zY {W:World} {b n j:Nat} (h:W.there b 3 n) (R:j < n):∃ u,W.cell? (J b (3 + j)) = some u∧W.frozen? (J b (3 + j)) = false:=by
 obtain ⟨Q,N⟩:=h j R
 obtain ⟨u,hu⟩:=Option.isSome_iff_exists.1 Q
 exact ⟨u,hu,N⟩
theorem dN (b:Nat):∀ (vs:List Value) (o:Nat) (W:World) (a:Addr),(W.setCells b o vs).frozen? a = W.frozen? a
 | [],_,_,_=>rfl
 | v :: r,o,W,a=>by rw [World.setCells,dN b r (o + 1),World.frozen?_setCell]
structure RC (C:Nat→Value→Prop) (mb B:Nat) (gv vo:Value) (gs:List Value) (base:World) (x:List Bool) (f:Nat→Value) (W:World):Prop where
 c:∀ j,x[j]? = some true→C j (f j)
 b:x[11]? = some false→Below base.heap.size base W
 m10:x[10]? = some true→x[11]? = some false→∃ s,f 10 = .slice (some ⟨s,0,none⟩) 1 1∧W.cell? ⟨s,0,none⟩ = some vo
 m11:x[11]? = some true→x[15]? = some false→GRow W B (f 11) (gs ++ [vo])∧base.grownBy W gv.ownBlock
 m15:x[15]? = some true→∃ V,GRow V B (f 11) (gs ++ [vo])∧base.grownBy V gv.ownBlock∧W = V.setCell ⟨mb,0,none⟩ (f 11)
def RCA (qt:(Nat→Value)→Act) (C:Nat→Value→Prop) (mb B:Nat) (gv vo:Value) (gs:List Value) (base:World) (x:List Bool) (xm:Act) (W:World):Prop:=∃ f,xm = qt f∧RC C mb B gv vo gs base x f W
def C0G (mb:Nat) (gv vo:Value):Nat→Value→Prop
 | 0,v | 1,v | 2,v | 3,v | 4,v | 6,v | 7,v | 12,v | 13,v | 14,v=>v = I mb 0
 | 5,v=>v = gv
 | 8,v=>v = I mb 11
 | 9,v=>v = vo
 | _,_=>True
section
variable {C:Nat→Value→Prop} {mb B:Nat} {gv vo:Value} {gs:List Value} {base W W':World} {x:List Bool} {f:Nat→Value}
theorem bu (h:RC C mb B gv vo gs base x f W) (i:Nat) (v:Value) (hv:C i v) (vS:i ≠ 10) (uX:i ≠ 11) (vx:i ≠ 15):RC C mb B gv vo gs base (x.set i true) (upd f i v) W:=by
 refine ⟨zx h.c hv,?_,?_,?_,?_⟩ <;> simp only [gq vS,gq uX,gq vx,zo f v vS.symm,zo f v uX.symm]
 ·exact h.b
 ·exact h.m10
 ·exact h.m11
 ·exact h.m15
theorem rc_10 (h:RC (C0G mb gv vo) mb B gv vo gs base x f W) (uX:x[11]? = some false) (vx:x[15]? = some false):RC (C0G mb gv vo) mb B gv vo gs base (x.set 10 true) (upd f 10 (.slice (some (yq W 0)) 1 1)) (W.alloc (E #[vo] 39)):=by
 have L:=h.b uX
 refine ⟨zx h.c trivial,fun _=>L.alloc L.size _,fun _ _=>⟨W.heap.size,zn _ _ _,by have:=zg W [vo] 39 0 _ rfl; exact this⟩,?_,?_⟩
 ·intro e; rw [gq (by decide),uX] at e; cases e
 ·intro e; rw [gq (by decide),vx] at e; cases e
theorem rc_11 (h:RC (C0G mb gv vo) mb B gv vo gs base x f W) (uX:x[11]? = some false) (vx:x[15]? = some false) {v':Value} (Z:GRow W' B v' (gs ++ [vo])) (hg:base.grownBy W' gv.ownBlock):RC (C0G mb gv vo) mb B gv vo gs base (x.set 11 true) (upd f 11 v') W':=by
 refine ⟨zx h.c trivial,?_,?_,fun _ _=>⟨by rw [zn]; exact Z,hg⟩,?_⟩
 ·intro e; rw [gqs uX] at e; cases e
 ·intro _ e; rw [gqs uX] at e; cases e
 ·intro e; rw [gq (by decide),vx] at e; cases e
theorem rc_15 (h:RC (C0G mb gv vo) mb B gv vo gs base x f W) (oe:x[11]? = some true) (vx:x[15]? = some false) (Z:GRow W B (f 11) (gs ++ [vo])) (hg:base.grownBy W gv.ownBlock):RC (C0G mb gv vo) mb B gv vo gs base (x.set 15 true) f (W.setCell (J mb 0) (f 11)):=by
 refine ⟨fun j R=>?_,?_,?_,?_,fun _=>⟨W,Z,hg,rfl⟩⟩
 ·by_cases hji:j = 15
  ·subst hji; trivial
  ·rw [gq (fun e=>hji e.symm)] at R; exact h.c j R
 ·intro e; rw [gq (by decide),oe] at e; cases e
 ·intro _ e; rw [gq (by decide),oe] at e; cases e
 ·intro _ e; rw [gqs vx] at e; cases e
end
structure RDg (C:Nat→Value→Prop) (mb:Nat) (tv:List Value) (base:World) (x:List Bool) (f:Nat→Value) (W:World):Prop where
 c:∀ j,x[j]? = some true→C j (f j)
 b:x[14]? = some false→Below base.heap.size base W
 m:x[14]? = some true→∃ V,Below base.heap.size base V∧W = V.setCells mb 3 tv
def RDgA (qt:(Nat→Value)→Act) (C:Nat→Value→Prop) (mb:Nat) (tv:List Value) (base:World) (x:List Bool) (xm:Act) (W:World):Prop:=∃ f,xm = qt f∧RDg C mb tv base x f W
def C1G (mb:Nat) (tv wv vo:Value):Nat→Value→Prop
 | 0,v | 1,v | 2,v | 3,v | 6,v | 7,v | 11,v | 12,v=>v = I mb 0
 | 4,v | 13,v=>v = I mb 3
 | 5,v=>v = tv
 | 8,v=>v = I mb 11
 | 9,v=>v = vo
 | 10,v=>v = wv
 | _,_=>True
section
variable {C:Nat→Value→Prop} {mb:Nat} {tv:List Value} {base W W':World} {x:List Bool} {f:Nat→Value}
theorem bp (h:RDg C mb tv base x f W) (i:Nat) (v:Value) (hv:C i v) (ji:i ≠ 14):RDg C mb tv base (x.set i true) (upd f i v) W:=by
 refine ⟨zx h.c hv,?_,?_⟩ <;> rw [gq ji]
 ·exact h.b
 ·exact h.m
theorem rd_grow (h:RDg C mb tv base x f W) (ji:x[14]? = some false) (L:yn W W'):RDg C mb tv base x f W' :=
 ⟨h.c,fun e=>(h.b e).trans (L.mono (h.b e).size),fun e=>by rw [ji] at e; cases e⟩
theorem rd_14 {tw wv vo:Value} (h:RDg (C1G mb tw wv vo) mb tv base x f W) (ji:x[14]? = some false):RDg (C1G mb tw wv vo) mb tv base (x.set 14 true) f (W.setCells mb 3 tv):=by
 refine ⟨fun j R=>?_,?_,fun _=>⟨W,h.b ji,rfl⟩⟩
 ·by_cases hji:j = 14
  ·subst hji; trivial
  ·rw [gq (fun e=>hji e.symm)] at R; exact h.c j R
 ·intro e; rw [gqs ji] at e; cases e
end
theorem ch {B e sz n b:Nat} {v:Value} {xs:List Value} (L:some b ≠ v.ownBlock):∀ (vs:List Value) (o:Nat) (W:World),W.ownsRow B e sz v n xs→(W.setCells b o vs).ownsRow B e sz v n xs
 | [],_,_,h=>h
 | u :: us,o,W,h=>by rw [World.setCells]; exact ch L us (o + 1) _ (zr h L o u)
theorem kind_setC (W:World) (b:Nat) {T:TypeId} {y:Nat × Nat}:∀ (vs:List Value) (o:Nat) {xr:Array Value},W.heap[b]? = some (.cells xr T y)→∃ cur',(W.setCells b o vs).heap[b]? = some (.cells cur' T y):=by
 intro vs
 induction vs generalizing W with
 | nil=>intro o xr h; exact ⟨xr,h⟩
 | cons u us ih =>
  intro o xr h
  rw [World.setCells]
  obtain ⟨c1,Q⟩:=zM W b o u h
  exact ih _ (o + 1) Q
theorem set_os (W:World) (a:Addr) (u:Value):(W.setCell a u).os = W.os:=rfl
theorem set_tape (W:World) (a:Addr) (u:Value):(W.setCell a u).tape = W.tape:=rfl
theorem set_output (W:World) (a:Addr) (u:Value):(W.setCell a u).output = W.output:=rfl
theorem dU (b:Nat):∀ (vs:List Value) (o:Nat) (W:World),(W.setCells b o vs).os = W.os
 | [],_,_=>rfl
 | u :: us,o,W=>by rw [World.setCells,dU b us (o + 1)]; rfl
theorem dP (b:Nat):∀ (vs:List Value) (o:Nat) (W:World),(W.setCells b o vs).tape = W.tape
 | [],_,_=>rfl
 | u :: us,o,W=>by rw [World.setCells,dP b us (o + 1)]; rfl
theorem dO (b:Nat):∀ (vs:List Value) (o:Nat) (W:World),(W.setCells b o vs).output = W.output
 | [],_,_=>rfl
 | u :: us,o,W=>by rw [World.setCells,dO b us (o + 1)]; rfl
theorem cU (b k:Nat) (hk:k ≠ b):∀ (vs:List Value) (o:Nat) (W:World),(W.setCells b o vs).heap[k]? = W.heap[k]?
 | [],_,_=>rfl
 | u :: us,o,W=>by rw [World.setCells,cU b k hk us (o + 1)]; exact yS _ _ _ _ hk
def Apt (Bo:Nat) (gs:List Value):Prop:=(∀ g ∈ gs,∀ b,g.ownBlock = some b→b < Bo)∧gs.Pairwise fun g g'=>∀ b b',g.ownBlock = some b→g'.ownBlock = some b'→b < b'
structure EnS (mb B Bo:Nat) (W:World) (gv:Value) (gs:List Value) (gl:List (List Ev)) (next:Int) (vq:Value) (l:List Od) (t:Tot) (vo:Value) (ts:List Ev):Prop where
 cells:W.rangeAt mb 0 [gv,.int .i64 next,vq,.int .i64 t.gr,.int .i64 t.ac,.int .i64 t.rf,.int .i64 t.tr,.int .i64 t.vo,.int .i64 t.no,.int .i64 t.li,.int .i64 t.le,vo]
 there:W.there mb 0 12
 grow:GRow W B gv gs
 glen:gs.length = gl.length
 geach:∀ (i:Nat) (g:Value) (es:List Ev),gs[i]? = some g→gl[i]? = some es→ERow W B g es
 glt:Apt Bo gs
 orow:ORow W B vq l
 erow:ERow W Bo vo ts
 box:∃ cur,W.heap[mb]? = some (.cells cur 49 (0,0))
 bo:B ≤ Bo
 le:Bo ≤ W.heap.size
section
variable {mb B Bo:Nat} {W w':World} {gv:Value} {gs:List Value} {gl:List (List Ev)} {next:Int} {vq:Value} {l:List Od} {t:Tot} {vo:Value} {ts:List Ev}
theorem EnS.lt (h:EnS mb B Bo W gv gs gl next vq l t vo ts):mb < W.heap.size:=by
 obtain ⟨xr,h⟩:=h.box
 exact (yY.1 h).1
theorem EnS.apart (h:EnS mb B Bo W gv gs gl next vq l t vo ts) {g:Value} (hg:g ∈ gs):g.ownBlock = none ∨ g.ownBlock ≠ vo.ownBlock:=by
 cases e:g.ownBlock with
 | none=>exact .inl rfl
 | some b =>
  refine .inr fun e'=>?_
  have Q:=h.glt.1 g hg b e
  have N:=(h.erow.lt b e'.symm).1
  omega
theorem ens_told (h:EnS mb B Bo W gv gs gl next vq l t vo ts) {qp:Value} {ts':List Ev} (hc:w'.cell? (J mb 11) = some qp) (he:ERow w' Bo qp ts') (ht:TookAt mb 10 vo.ownBlock W w'):EnS mb B Bo w' gv gs gl next vq l t qp ts':=by
 have xq:∀ j,j ≠ 11→w'.cell? (J mb j) = W.cell? (J mb j):=fun j R=>ht.cell j (by omega)
 refine ⟨?_,fun j R=>⟨?_,?_⟩,aV h.grow ht (zj h.grow h.box (by decide)) (zA h.grow h.erow (by decide)),h.glen,?_,h.glt,aV h.orow ht (zj h.orow h.box (by decide)) (zA h.orow h.erow (by decide)),he,?_,h.bo,yN h.le ht.size⟩
 ·intro j u R
  by_cases uX:j = 11
  ·subst uX; cases R; rw [Nat.zero_add]; exact hc
  ·rw [Nat.zero_add,xq j uX]
   have:W.cell? (J mb (0 + j)) = some u:=h.cells j u (by
    match j,R with
    | 0,R | 1,R | 2,R | 3,R | 4,R | 5,R | 6,R | 7,R | 8,R | 9,R | 10,R=>exact R
    | 11,R=>exact absurd rfl uX
    | j + 12,R=>simp at R)
   rwa [Nat.zero_add] at this
 ·by_cases uX:j = 11
  ·subst uX; rw [Nat.zero_add,hc]; rfl
  ·rw [Nat.zero_add,xq j uX]; have:=(h.there j R).1; rwa [Nat.zero_add] at this
 ·rw [Nat.zero_add,ht.frozen]; have:=(h.there j R).2; rwa [Nat.zero_add] at this
 ·intro i g es hg vi
  have hr:=h.geach i g es hg vi
  exact aV hr ht (zj hr h.box (by decide)) (h.apart (yO hg))
 ·obtain ⟨xr,L⟩:=h.box
  exact ht.kind _ _ _ L
end
theorem bX {mb B Bo:Nat} {gv:Value} {gs:List Value} {gl:List (List Ev)} {next:Int} {vq:Value} {l:List Od} {t:Tot} {vo:Value} {ts:List Ev} (e:Ev) (w:World) (h:EnS mb B Bo w gv gs gl next vq l t vo ts) (hn:ts.length ≤ 1000) :
  Calls Tryz.prog 30 #[I mb 0,.agg (yu e.kind e.cmd.k e.cmd.s e.cmd.t e.cmd.l e.cmd.q e.cmd.i e.cmd.p e.cmd.g e.id e.other e.qty e.price e.reason).toArray] w fun r w'=>r = ym (.tuple #[])∧(∃ qp,EnS mb B Bo w' gv gs gl next vq l t qp (ts ++ [e]))∧KeptBut mb B w w'∧TookAt mb 10 vo.ownBlock w w':=by
 refine (tell_any mb Bo vo ts e w (h.cells 11 _ rfl) ?_ h.box h.erow h.le hn).mono ?_
 ·have:=(h.there 11 (by omega)).2; rwa [Nat.zero_add] at this
 ·rintro r w' ⟨qp,rfl,hc,he,ht⟩
  exact ⟨rfl,⟨qp,ens_told h hc he ht⟩,cw ht (yN h.bo h.le) (fun g hg=>yN h.bo (h.erow.lt g hg).1),ht⟩
structure RW (C:Nat→Value→Prop) (n:Nat) (T:World→World) (base:World) (x:List Bool) (f:Nat→Value) (W:World):Prop where
 c:∀ j,x[j]? = some true→C j (f j)
 b:x[n]? = some false→Below base.heap.size base W
 m:x[n]? = some true→∃ V,Below base.heap.size base V∧W = T V
def RWA (qt:(Nat→Value)→Act) (C:Nat→Value→Prop) (n:Nat) (T:World→World) (base:World) (x:List Bool) (xm:Act) (W:World):Prop:=∃ f,xm = qt f∧RW C n T base x f W
section
variable {C:Nat→Value→Prop} {n:Nat} {T:World→World} {base W W':World} {x:List Bool} {f:Nat→Value}
theorem aT (h:RW C n T base x f W) (i:Nat) (v:Value) (hv:C i v) (hn:i ≠ n):RW C n T base (x.set i true) (upd f i v) W:=by
 refine ⟨zx h.c hv,?_,?_⟩ <;> rw [gq hn]
 ·exact h.b
 ·exact h.m
theorem rw_grow (h:RW C n T base x f W) (hn:x[n]? = some false) (L:yn W W'):RW C n T base x f W' :=
 ⟨h.c,fun e=>(h.b e).trans (L.mono (h.b e).size),fun e=>by rw [hn] at e; cases e⟩
theorem rw_last (h:RW C n T base x f W) (hn:x[n]? = some false) (hc:∀ j,j = n→x[j]? = some false→C j (f j)):RW C n T base (x.set n true) f (T W):=by
 refine ⟨fun j R=>?_,?_,fun _=>⟨W,h.b hn,rfl⟩⟩
 ·by_cases hji:j = n
  ·exact hc j hji (by rw [hji]; exact hn)
  ·rw [gq (fun e=>hji e.symm)] at R; exact h.c j R
 ·intro e; rw [gqs hn] at e; cases e
end
theorem ens_took {mb B Bo:Nat} {W w':World} {gv:Value} {gs:List Value} {gl:List (List Ev)} {next:Int} {vq vw:Value} {l l':List Od} {t:Tot} {vo:Value} {ts:List Ev} (h:EnS mb B Bo W gv gs gl next vq l t vo ts) (hc:w'.cell? (J mb 2) = some vw) (Z:ORow w' B vw l') (ht:TookAt mb 1 vq.ownBlock W w'):EnS mb B Bo w' gv gs gl next vw l' t vo ts:=by
 have xq:∀ j,j ≠ 2→w'.cell? (J mb j) = W.cell? (J mb j):=fun j R=>ht.cell j (by omega)
 refine ⟨?_,fun j R=>⟨?_,?_⟩,aV h.grow ht (zj h.grow h.box (by decide)) (zA h.grow h.orow (by decide)),h.glen,?_,h.glt,Z,aV h.erow ht (zj h.erow h.box (by decide)) (zA h.erow h.orow (by decide)),?_,h.bo,yN h.le ht.size⟩
 ·intro j u R
  by_cases N:j = 2
  ·subst N; cases R; rw [Nat.zero_add]; exact hc
  ·rw [Nat.zero_add,xq j N]
   have:W.cell? (J mb (0 + j)) = some u:=h.cells j u (by
    match j,R with
    | 0,R | 1,R | 3,R | 4,R | 5,R | 6,R | 7,R | 8,R | 9,R | 10,R | 11,R=>exact R
    | 2,R=>exact absurd rfl N
    | j + 12,R=>simp at R)
   rwa [Nat.zero_add] at this
 ·by_cases N:j = 2
  ·subst N; rw [Nat.zero_add,hc]; rfl
  ·rw [Nat.zero_add,xq j N]; have:=(h.there j R).1; rwa [Nat.zero_add] at this
 ·rw [Nat.zero_add,ht.frozen]; have:=(h.there j R).2; rwa [Nat.zero_add] at this
 ·intro i g es hg vi
  have hr:=h.geach i g es hg vi
  exact aV hr ht (zj hr h.box (by decide)) (zA hr h.orow (by decide))
 ·obtain ⟨xr,L⟩:=h.box
  exact ht.kind _ _ _ L
theorem zN {mb B Bo:Nat} {W w':World} {gv:Value} {gs:List Value} {gl:List (List Ev)} {next:Int} {vq:Value} {l:List Od} {t:Tot} {vo:Value} {ts:List Ev} (h:EnS mb B Bo W gv gs gl next vq l t vo ts) (L:yn W w'):EnS mb B Bo w' gv gs gl next vq l t vo ts :=
 ens_took h ((L.cell (p:=(J mb 2)) h.lt).trans (h.cells 2 _ rfl)) (zk h.orow L) (br (zX L tg) h.lt (zj h.orow h.box (by decide)))
theorem row_hereE {W:World} {B g n cp i:Nat} {l:List Od} {o:Od} (h:ORow W B (.slice (some (J g 0)) n cp) l) (hl:l.length ≤ 1000) (hi:l[i]? = some o):W.rangeAt g (i * 6) o.vs∧∀ j,j < 6→W.frozen? (J g (i * 6 + j)) = false:=by
 obtain ⟨a',c',e,_,hc⟩:=zK h (by omega)
 obtain ⟨b',uJ,e2,_,hc⟩:=hc (by rintro rfl; simp at hi)
 rw [e2] at e
 simp only [Value.slice.injEq,Option.some.injEq,Addr.mk.injEq,and_true] at e
 obtain ⟨⟨rfl,rfl⟩,-⟩:=e
 refine ⟨by simpa using hc i o hi,fun j R=>?_⟩
 rcases h.2 with ⟨Q,_⟩ | ⟨g',pw,xr,Q,_,h3,h4,_,h5,_⟩
 ·cases Q
 ·simp only [Value.slice.injEq,Option.some.injEq,Addr.mk.injEq,and_true] at Q
  obtain ⟨rfl,-⟩:=Q
  have hil:=(yG.1 hi).1
  have:=(cn h3 tg (i * 6 + j) (by rw [h5]; omega)).2
  rwa [Nat.zero_add] at this
def CRd (mb S g n A k:Nat) (next id qty:Int):Nat→Value→Prop
 | 0,v | 1,v | 2,v | 6,v | 7,v | 8,v=>v = I mb 0
 | 3,v | 9,v=>v = I mb 1
 | 4,v=>v = I mb 2
 | 5,v=>v = .slice (some (J g 0)) n A
 | 10,v=>v = .agg #[H next,.slice (some (J g 0)) n A]
 | 11,v=>v = I S 0
 | 12,v=>v = H id
 | 13,v=>v = H k
 | 14,v=>v = I S 1
 | 15,v=>v = H qty
 | 16,v=>v = I g (k * 6)
 | 17,v=>v = I g (k * 6 + 3)
 | _,_=>True
theorem reduceE_any {mb B Bo:Nat} {gv:Value} {gs:List Value} {gl:List (List Ev)} {next:Int} {vq:Value} {l:List Od} {t:Tot} {vo:Value} {ts:List Ev} (id qty:Int) (k:Nat) (c:Od) (w:World) (h:EnS mb B Bo w gv gs gl next vq l t vo ts) (hl:l.length ≤ 1000) (hn:ts.length ≤ 1000) (hk:plc l id = k) (hc:l[k]? = some c) :
  Calls Tryz.prog 34 #[I mb 0,.agg #[H id,H qty]] w fun r w'=>r = ym (.tuple #[])∧(∃ qp,EnS mb B Bo w' gv gs gl next vq (l.set k { c with left:=qty }) t qp (ts ++ [⟨7,zCm,id,0,qty,0,0⟩]))∧KeptBut mb B w w':=by
 have xB:l ≠ []:=by rintro rfl; simp at hc
 have kO:=(yG.1 hc).1
 obtain ⟨g,A,rfl,vY,hBg,hgw⟩:=df h.orow xB
 have qz:=h.lt
 have pA:B ≤ w.heap.size:=yN h.bo h.le
 have xX:=ed w (E #[H id,H qty] 80)
 have HE:=Y (zN h xX)
 have xW:=Y xX
 have xA:w.heap.size < (w.alloc (E #[H id,H qty] 80)).heap.size:=by rw [ze]; omega
 have HKR:Hid (World.rangeAt (w.alloc (E #[H id,H qty] 80)) w.heap.size 0 [H id,H qty]):=zg w [H id,H qty] _
 have HPL:=Y hk
 have jQ:=Y hc
 clear h xX hk hc xB
 go_enter Tryz.func34,Tryz.ntmps34
 refine ei fun hR xu=>?_
 go_wp2_with fail
 refine U xu _ _ ?_
 clear xu
 generalize (w.alloc (E #[H id,H qty] 80)) = ty at HE xW xA HKR ⊢
 have hgX:g < ty.heap.size:=by omega
 have jY:mb < ty.heap.size:=by omega
 have qe:Hid (ty.cell? (J mb 1) = some (H next)):=(U HE).cells 1 _ rfl
 have vD:Hid (ty.cell? (J mb 2) = some (.slice (some (J g 0)) l.length A)):=(U HE).cells 2 _ rfl
 have HK0:Hid (ty.cell? (yq w 0) = some (H id)):=U HKR 0 _ rfl
 have HK1c:Hid (ty.cell? (yq w 1) = some (H qty)):=U HKR 1 _ rfl
 have jf:=Y (zK (U HE).orow (by omega))
 have uV:=row_hereE (U HE).orow hl (U jQ)
 have vK:Hid (ty.cell? (J g (k * 6 + 3)) = some (H c.left)):=uV.1 3 _ rfl
 have HF3:Hid (ty.frozen? (J g (k * 6 + 3)) = false):=uV.2 3 (by omega)
 have hkl':(k:Int) < l.length:=by omega
 have hk0:(0:Int) ≤ k:=by omega
 clear uV
 refine ei fun hR xu=>?_
 refine zh (RWA (fun f=>{ tmps:=#[I mb 0,.agg #[H id,H qty],M,yp w 0,f 0,f 1,f 2,f 3,f 4,f 5,f 6,f 7,f 8,f 9,f 10,f 11,f 12,f 13,f 14,f 15,f 16,f 17,M,M,M,M,M,M,M],defers:=[] }) (CRd mb w.heap.size g l.length A k next id qty) 18 (fun V=>V.setCell (J g (k * 6 + 3)) (H qty)) ty) (by kernel_rfl) ?_ ?_ ?_
 ·exact ⟨fun _=>M,rfl,⟨fun j R=>by rw [yI] at R; split at R <;> simp at R,fun _=>⟨rfl,rfl,rfl,Nat.le_refl _,fun _ _=>rfl⟩,by simp⟩⟩
 ·rintro x xm V ⟨f,rfl,K⟩ hx xP
  have xp:=zT xP hx (acyc _ (by kernel_rfl))
  obtain ⟨V0,hb0,eV⟩:=K.m (xp 18 (by simp))
  refine U xu _ _ ?_
  clear xu
  dsimp only
  generalize f 0 = v0,f 1 = v1,f 2 = v2,f 3 = v3,f 4 = v4,f 5 = v5,f 6 = v6,f 7 = v7,f 8 = v8,f 9 = v9,f 10 = v10,f 11 = v11,f 12 = v12,f 13 = v13,f 14 = v14,f 15 = v15,f 16 = v16,f 17 = v17
  clear K xp xP hx
  have hE0:=zN (U HE) hb0
  have pH:=oRow_left hE0.orow rfl (U jQ) qty
  have hng:some mb ≠ (Value.slice (some (J g 0)) l.length A).ownBlock:=zj hE0.orow hE0.box (by decide)
  have hE1:EnS mb B Bo V gv gs gl next (.slice (some (J g 0)) l.length A) (l.set k { c with left:=qty }) t vo ts:=by
   rw [eV]
   refine ens_took hE0 ((yL _ _ _ _ (fun e=>hng (by simp [Value.ownBlock]; exact (congrArg Addr.block e).symm))).trans (hE0.cells 2 _ rfl)) pH.1 (br pH.2 hE0.lt hng)
  have pn:=Y hE1
  have HKV:Hid (KeptBut mb B w V):=by
   rw [eV]
   refine zi (zz (U xW) pA) (zi (zz hb0 (by have:=(U HE).bo; have:=(U HE).le; omega)) ?_)
   exact ⟨rfl,rfl,rfl,by simp [World.setCell],fun j R _=>yS _ _ _ _ (show j ≠ g by omega)⟩
  have z3:V.cell? (yq w 0) = some (H id):=by
   rw [eV]
   exact (yL _ _ _ _ (fun e=>by have:=congrArg Addr.block e; simp at this; omega)).trans ((hb0.cell (p:=(yq w 0)) xA).trans (U HK0))
  have z4:V.cell? (yq w 1) = some (H qty):=by
   rw [eV]
   exact (yL _ _ _ _ (fun e=>by have:=congrArg Addr.block e; simp at this; omega)).trans ((hb0.cell (p:=(yq w 1)) xA).trans (U HK1c))
  clear hE0 pH hE1 hb0 eV qe vD vK HF3 jf
  go_wp2_with fail
  refine (bX ⟨7,zCm,id,0,qty,0,0⟩ V (U pn) hn).mono ?_
  rintro e w5 ⟨rfl,qN,hk5,-⟩
  have qd:=Y qN
  have kq:=Y (zi (U HKV) hk5)
  clear qN hk5
  go_wp2_with fail
  go_end0
  exact ⟨rfl,U qd,U kq⟩
 ·rintro x xm V i op ⟨f,rfl,K⟩ xo hx Z xy D
  have xz:=Y K
  have n18:i < 18→x[18]? = some false:=fun xK=>by
   rcases bE hx (show 18 < 19 by omega) with hq | ki
   ·exact hq
   ·have kI:=yf xo 18 rfl ki 17 rfl
    have vx:=yf xo 18 rfl ki 15 rfl
    have h16:=yf xo 17 rfl kI 16 rfl
    have ji:=yf xo 15 rfl vx 14 rfl
    have h5:=yf xo 16 rfl h16 5 rfl
    have jr:=yf xo 16 rfl h16 13 rfl
    have h4:=yf xo 5 rfl h5 4 rfl
    have vS:=yf xo 13 rfl jr 10 rfl
    have qy:=yf xo 13 rfl jr 12 rfl
    have h3:=yf xo 4 rfl h4 3 rfl
    have h9:=yf xo 10 rfl vS 9 rfl
    have uX:=yf xo 12 rfl qy 11 rfl
    have N:=yf xo 3 rfl h3 2 rfl
    have h8:=yf xo 9 rfl h9 8 rfl
    have Q:=yf xo 2 rfl N 1 rfl
    have h7:=yf xo 8 rfl h8 7 rfl
    have h0:=yf xo 1 rfl Q 0 rfl
    have h6:=yf xo 7 rfl h7 6 rfl
    have uk:∀ j,j < 18→x[j]? = some true:=fun j R=>by
     rcases (by omega:j = 0 ∨ j = 1 ∨ j = 2 ∨ j = 3 ∨ j = 4 ∨ j = 5 ∨ j = 6 ∨ j = 7 ∨ j = 8 ∨ j = 9 ∨ j = 10 ∨ j = 11 ∨ j = 12 ∨ j = 13 ∨ j = 14 ∨ j = 15 ∨ j = 16 ∨ j = 17) with rfl | rfl | rfl | rfl | rfl | rfl | rfl | rfl | rfl | rfl | rfl | rfl | rfl | rfl | rfl | rfl | rfl | rfl <;> assumption
    rw [uk i xK] at xy; cases xy
  match i,Z with
  | 0,Z =>
   obtain rfl:=ya Z
   clear D K xo
   rw [if_pos (by rfl)];unfold Oper.wp;go_simp
   exact ⟨upd f 0 (I mb 0),by simp [upd],aT (U xz) 0 _ rfl (by decide)⟩
  | 1,Z =>
   obtain rfl:=ya Z
   have g0:f 0 = I mb 0:=K.c 0 (ye D 0 rfl)
   clear D K xo
   rw [if_pos (by rfl)];unfold Oper.wp;go_simp
   exact ⟨upd f 1 (I mb 0),by simp [upd,g0],aT (U xz) 1 _ rfl (by decide)⟩
  | 2,Z =>
   obtain rfl:=ya Z
   have g1:f 1 = I mb 0:=K.c 1 (ye D 1 rfl)
   clear D K xo
   rw [if_pos (by rfl)];unfold Oper.wp;go_simp
   exact ⟨upd f 2 (I mb 0),by simp [upd,g1],aT (U xz) 2 _ rfl (by decide)⟩
  | 3,Z =>
   obtain rfl:=ya Z
   have g2:f 2 = I mb 0:=K.c 2 (ye D 2 rfl)
   clear D K xo
   rw [if_pos (by rfl)];unfold Oper.wp;go_simp
   exact ⟨upd f 3 (I mb 1),by simp [upd,g2],aT (U xz) 3 _ rfl (by decide)⟩
  | 4,Z =>
   obtain rfl:=ya Z
   have g3:f 3 = I mb 1:=K.c 3 (ye D 3 rfl)
   clear D K xo
   rw [if_pos (by rfl)];unfold Oper.wp;go_simp
   exact ⟨upd f 4 (I mb 2),by simp [upd,g3],aT (U xz) 4 _ rfl (by decide)⟩
  | 5,Z =>
   obtain rfl:=ya Z
   have g4:f 4 = I mb 2:=K.c 4 (ye D 4 rfl)
   have xV:=K.b (n18 (by omega))
   have xn:∀ (p:Addr) u,ty.cell? p = some u→V.cell? p = some u:=fun p u hu=>(xV.cell (yK ty _ hu)).trans hu
   have z2:=xn (J mb 2) _ (U vD)
   clear D K xo
   rw [if_pos (by rfl)];unfold Oper.wp;go_simp
   exact ⟨upd f 5 (.slice (some (J g 0)) l.length A),by simp [upd,g4],aT (U xz) 5 _ rfl (by decide)⟩
  | 6,Z =>
   obtain rfl:=ya Z
   clear D K xo
   rw [if_pos (by rfl)];unfold Oper.wp;go_simp
   exact ⟨upd f 6 (I mb 0),by simp [upd],aT (U xz) 6 _ rfl (by decide)⟩
  | 7,Z =>
   obtain rfl:=ya Z
   have g6:f 6 = I mb 0:=K.c 6 (ye D 6 rfl)
   clear D K xo
   rw [if_pos (by rfl)];unfold Oper.wp;go_simp
   exact ⟨upd f 7 (I mb 0),by simp [upd,g6],aT (U xz) 7 _ rfl (by decide)⟩
  | 8,Z =>
   obtain rfl:=ya Z
   have g7:f 7 = I mb 0:=K.c 7 (ye D 7 rfl)
   clear D K xo
   rw [if_pos (by rfl)];unfold Oper.wp;go_simp
   exact ⟨upd f 8 (I mb 0),by simp [upd,g7],aT (U xz) 8 _ rfl (by decide)⟩
  | 9,Z =>
   obtain rfl:=ya Z
   have g8:f 8 = I mb 0:=K.c 8 (ye D 8 rfl)
   clear D K xo
   rw [if_pos (by rfl)];unfold Oper.wp;go_simp
   exact ⟨upd f 9 (I mb 1),by simp [upd,g8],aT (U xz) 9 _ rfl (by decide)⟩
  | 10,Z =>
   obtain rfl:=ya Z
   have g9:f 9 = I mb 1:=K.c 9 (ye D 9 rfl)
   have xV:=K.b (n18 (by omega))
   have xn:∀ (p:Addr) u,ty.cell? p = some u→V.cell? p = some u:=fun p u hu=>(xV.cell (yK ty _ hu)).trans hu
   have z1:=xn (J mb 1) _ (U qe)
   have z2:=xn (J mb 2) _ (U vD)
   clear D K xo
   rw [if_pos (by rfl)];unfold Oper.wp;go_simp
   exact ⟨upd f 10 (.agg #[H next,.slice (some (J g 0)) l.length A]),by simp [upd,g9],aT (U xz) 10 _ rfl (by decide)⟩
  | 11,Z =>
   obtain rfl:=ya Z
   clear D K xo
   rw [if_pos (by rfl)];unfold Oper.wp;go_simp
   exact ⟨upd f 11 (yp w 0),by simp [upd],aT (U xz) 11 _ rfl (by decide)⟩
  | 12,Z =>
   obtain rfl:=ya Z
   have vF:f 11 = yp w 0:=K.c 11 (ye D 11 rfl)
   have xV:=K.b (n18 (by omega))
   have xn:∀ (p:Addr) u,ty.cell? p = some u→V.cell? p = some u:=fun p u hu=>(xV.cell (yK ty _ hu)).trans hu
   have z3:=xn (yq w 0) _ (U HK0)
   clear D K xo
   rw [if_pos (by rfl)];unfold Oper.wp;go_simp
   exact ⟨upd f 12 (H id),by simp [upd,vF],aT (U xz) 12 _ rfl (by decide)⟩
  | 13,Z =>
   obtain rfl:=ya Z
   have qC:f 10 = .agg #[H next,.slice (some (J g 0)) l.length A]:=K.c 10 (ye D 10 rfl)
   have ua:f 12 = H id:=K.c 12 (ye D 12 rfl)
   have ki:=n18 (by omega)
   have HRV:=Y (zl (U jf) (K.b ki) tg)
   clear D K xo
   rw [if_pos (by rfl)];unfold Oper.wp;go_simp
   refine (dn next _ l id V (U HRV)).mono ?_
   rw [U HPL]
   rintro e w4 ⟨rfl,xC⟩
   exact ⟨upd f 13 (H k),by simp [upd,qC,ua],aT (rw_grow (U xz) ki xC) 13 _ rfl (by decide)⟩
  | 14,Z =>
   obtain rfl:=ya Z
   clear D K xo
   rw [if_pos (by rfl)];unfold Oper.wp;go_simp
   exact ⟨upd f 14 (yp w 1),by simp [upd],aT (U xz) 14 _ rfl (by decide)⟩
  | 15,Z =>
   obtain rfl:=ya Z
   have kw:f 14 = yp w 1:=K.c 14 (ye D 14 rfl)
   have xV:=K.b (n18 (by omega))
   have xn:∀ (p:Addr) u,ty.cell? p = some u→V.cell? p = some u:=fun p u hu=>(xV.cell (yK ty _ hu)).trans hu
   have z4:=xn (yq w 1) _ (U HK1c)
   clear D K xo
   rw [if_pos (by rfl)];unfold Oper.wp;go_simp
   exact ⟨upd f 15 (H qty),by simp [upd,kw],aT (U xz) 15 _ rfl (by decide)⟩
  | 16,Z =>
   obtain rfl:=ya Z
   have g5:f 5 = .slice (some (J g 0)) l.length A:=K.c 5 (ye D 5 rfl)
   have ku:f 13 = H k:=K.c 13 (ye D 13 rfl)
   clear D K xo
   rw [if_pos (by rfl)];unfold Oper.wp;go_simp
   exact ⟨upd f 16 (I g (k * 6)),by simp [upd,g5,ku],aT (U xz) 16 _ rfl (by decide)⟩
  | 17,Z =>
   obtain rfl:=ya Z
   have g16:f 16 = I g (k * 6):=K.c 16 (ye D 16 rfl)
   clear D K xo
   rw [if_pos (by rfl)];unfold Oper.wp;go_simp
   exact ⟨upd f 17 (I g (k * 6 + 3)),by simp [upd,g16],aT (U xz) 17 _ rfl (by decide)⟩
  | 18,Z =>
   obtain rfl:=ya Z
   have g17:f 17 = I g (k * 6 + 3):=K.c 17 (ye D 17 rfl)
   have g15:f 15 = H qty:=K.c 15 (ye D 15 rfl)
   have xV:=K.b xy
   have y3:=(xV.cell (p:=(J g (k * 6 + 3))) hgX).trans (U vK)
   have q3:V.frozen? (J g (k * 6 + 3)) = false:=(World.frozen?_of_block (a:=(J g (k * 6 + 3))) (xV.block g hgX)).trans (U HF3)
   clear D K xo
   rw [if_pos (by rfl)];unfold Oper.wp;go_simp
   exact ⟨f,by simp [g17,g15],rw_last (U xz) xy (fun j R hx=>by match j,R with | 18,_=>trivial)⟩
  | i + 19,Z=>simp at Z
end Go.Proofs.YtdliebbfcmdmaaaGreat
