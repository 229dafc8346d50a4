/-
  The engine's state in its block: the groups so far, the book, the totals, the open group; and what telling an event and closing a group make of it. Proved from the methods' walks.
-/
import Derived.Test.YtbakanofkghmiaaGreatPj26
set_option linter.unusedVariables false
set_option maxHeartbeats 6400000
set_option maxRecDepth 100000
namespace Go.Proofs.YtbakanofkghmiaaGreat
open Go.RowKit
theorem dk {B e sz n b:Nat} {v:Value} {xs:List Value} (hb:some b ≠ v.ownBlock):∀ (vs:List Value) (o:Nat) (W:World),W.ownsRow B e sz v n xs→(W.setCells b o vs).ownsRow B e sz v n xs
 | [],_,_,h=>h
 | u :: us,o,W,h=>by rw [World.setCells]; exact dk hb us (o + 1) _ (zw h hb o u)
theorem kind_setC (W:World) (b:Nat) {T:TypeId} {y:Nat × Nat}:∀ (vs:List Value) (o:Nat) {xp:Array Value},W.heap[b]? = some (.cells xp T y)→∃ cur',(W.setCells b o vs).heap[b]? = some (.cells cur' T y):=by
 intro vs
 induction vs generalizing W with
 | nil=>intro o xp h; exact ⟨xp,h⟩
 | cons u us ih =>
  intro o xp h
  rw [World.setCells]
  obtain ⟨c1,z⟩:=zY W b o u h
  exact ih _ (o + 1) z
theorem set_os (W:World) (a:Addr) (u:Value):(W.setCell a u).os = W.os:=rfl
theorem set_tape (W:World) (a:Addr) (u:Value):(W.setCell a u).tape = W.tape:=rfl
theorem set_output (W:World) (a:Addr) (u:Value):(W.setCell a u).output = W.output:=rfl
theorem et (b:Nat):∀ (vs:List Value) (o:Nat) (W:World),(W.setCells b o vs).os = W.os
 | [],_,_=>rfl
 | u :: us,o,W=>by rw [World.setCells,et b us (o + 1)]; rfl
theorem ej (b:Nat):∀ (vs:List Value) (o:Nat) (W:World),(W.setCells b o vs).tape = W.tape
 | [],_,_=>rfl
 | u :: us,o,W=>by rw [World.setCells,ej b us (o + 1)]; rfl
theorem eh (b:Nat):∀ (vs:List Value) (o:Nat) (W:World),(W.setCells b o vs).output = W.output
 | [],_,_=>rfl
 | u :: us,o,W=>by rw [World.setCells,eh b us (o + 1)]; rfl
theorem ei (b k:Nat) (hk:k ≠ b):∀ (vs:List Value) (o:Nat) (W:World),(W.setCells b o vs).heap[k]? = W.heap[k]?
 | [],_,_=>rfl
 | u :: us,o,W=>by rw [World.setCells,ei b k hk us (o + 1)]; exact yP _ _ _ _ hk
def Apt (Bo:Nat) (gs:List Value):Prop:=(∀ g ∈ gs,∀ b,g.ownBlock = some b→b < Bo)∧gs.Pairwise fun g g'=>∀ b b',g.ownBlock = some b→g'.ownBlock = some b'→b < b'
structure EnS (N B Bo:Nat) (W:World) (gv:Value) (gs:List Value) (gl:List (List Ev)) (next:Int) (vq:Value) (l:List Od) (t:Tot) (vo:Value) (ts:List Ev):Prop where
 cells:W.rangeAt N 0 [gv,.int .i64 next,vq,.int .i64 t.gr,.int .i64 t.ac,.int .i64 t.rf,.int .i64 t.tr,.int .i64 t.vo,.int .i64 t.no,.int .i64 t.li,.int .i64 t.le,vo]
 there:W.there N 0 12
 grow:GRow W B gv gs
 glen:gs.length = gl.length
 geach:∀ (i:Nat) (g:Value) (es:List Ev),gs[i]? = some g→gl[i]? = some es→ERow W B g es
 glt:Apt Bo gs
 orow:ORow W B vq l
 erow:ERow W Bo vo ts
 box:∃ cur,W.heap[N]? = some (.cells cur 71 (0,0))
 bo:B ≤ Bo
 le:Bo ≤ W.heap.size
section
variable {N B Bo:Nat} {W w':World} {gv:Value} {gs:List Value} {gl:List (List Ev)} {next:Int} {vq:Value} {l:List Od} {t:Tot} {vo:Value} {ts:List Ev}
theorem EnS.lt (h:EnS N B Bo W gv gs gl next vq l t vo ts):N < W.heap.size:=by
 obtain ⟨xp,h⟩:=h.box
 exact (yV.1 h).1
theorem EnS.apart (h:EnS N B Bo W gv gs gl next vq l t vo ts) {g:Value} (hg:g ∈ gs):g.ownBlock = none ∨ g.ownBlock ≠ vo.ownBlock:=by
 cases e:g.ownBlock with
 | none=>exact .inl rfl
 | some b =>
  refine .inr fun e'=>?_
  have z:=h.glt.1 g hg b e
  have K:=(h.erow.lt b e'.symm).1
  omega
theorem ens_told (h:EnS N B Bo W gv gs gl next vq l t vo ts) {qh:Value} {ts':List Ev} (hc:w'.cell? (J N 11) = some qh) (he:ERow w' Bo qh ts') (ht:TookAt N 10 vo.ownBlock W w'):EnS N B Bo w' gv gs gl next vq l t qh ts':=by
 have xn:∀ j,j ≠ 11→w'.cell? (J N j) = W.cell? (J N j):=fun j L=>ht.cell j (by omega)
 refine ⟨?_,fun j L=>⟨?_,?_⟩,aR h.grow ht (zo h.grow h.box (by decide)) (zD h.grow h.erow (by decide)),h.glen,?_,h.glt,aR h.orow ht (zo h.orow h.box (by decide)) (zD h.orow h.erow (by decide)),he,?_,h.bo,yK h.le ht.size⟩
 ·intro j u L
  by_cases uL:j = 11
  ·subst uL; cases L; rw [Nat.zero_add]; exact hc
  ·rw [Nat.zero_add,xn j uL]
   have:W.cell? (J N (0 + j)) = some u:=h.cells j u (by
    match j,L with
    | 0,L | 1,L | 2,L | 3,L | 4,L | 5,L | 6,L | 7,L | 8,L | 9,L | 10,L=>exact L
    | 11,L=>exact absurd rfl uL
    | j + 12,L=>simp at L)
   rwa [Nat.zero_add] at this
 ·by_cases uL:j = 11
  ·subst uL; rw [Nat.zero_add,hc]; rfl
  ·rw [Nat.zero_add,xn j uL]; have:=(h.there j L).1; rwa [Nat.zero_add] at this
 ·rw [Nat.zero_add,ht.frozen]; have:=(h.there j L).2; rwa [Nat.zero_add] at this
 ·intro i g es hg jX
  have hr:=h.geach i g es hg jX
  exact aR hr ht (zo hr h.box (by decide)) (h.apart (yL hg))
 ·obtain ⟨xp,hb⟩:=h.box
  exact ht.kind _ _ _ hb
end
theorem cB {N B Bo:Nat} {gv:Value} {gs:List Value} {gl:List (List Ev)} {next:Int} {vq:Value} {l:List Od} {t:Tot} {vo:Value} {ts:List Ev} (e:Ev) (w:World) (h:EnS N B Bo w gv gs gl next vq l t vo ts) (hn:ts.length ≤ 1000) :
  Calls Tryz.prog 65 #[I N 0,.agg (ys e.kind e.cmd.k e.cmd.s e.cmd.t e.cmd.l e.cmd.q e.cmd.i e.cmd.p e.cmd.g e.id e.other e.qty e.price e.reason).toArray] w fun r w'=>r = yk (.tuple #[])∧(∃ qh,EnS N B Bo w' gv gs gl next vq l t qh (ts ++ [e]))∧KeptBut N B w w'∧TookAt N 10 vo.ownBlock w w':=by
 refine (tell_any N Bo vo ts e w (h.cells 11 _ rfl) ?_ h.box h.erow h.le hn).mono ?_
 ·have:=(h.there 11 (by omega)).2; rwa [Nat.zero_add] at this
 ·rintro r w' ⟨qh,rfl,hc,he,ht⟩
  exact ⟨rfl,⟨qh,ens_told h hc he ht⟩,cK ht (yK h.bo h.le) (fun g hg=>yK h.bo (h.erow.lt g hg).1),ht⟩
structure RW (C:Nat→Value→Prop) (n:Nat) (T:World→World) (base:World) (x:List Bool) (f:Nat→Value) (W:World):Prop where
 c:∀ j,x[j]? = some true→C j (f j)
 b:x[n]? = some false→Below base.heap.size base W
 m:x[n]? = some true→∃ V,Below base.heap.size base V∧W = T V
def RWA (xh:(Nat→Value)→Act) (C:Nat→Value→Prop) (n:Nat) (T:World→World) (base:World) (x:List Bool) (hR:Act) (W:World):Prop:=∃ f,hR = xh f∧RW C n T base x f W
section
variable {C:Nat→Value→Prop} {n:Nat} {T:World→World} {base W W':World} {x:List Bool} {f:Nat→Value}
theorem aQ (h:RW C n T base x f W) (i:Nat) (v:Value) (hv:C i v) (hn:i ≠ n):RW C n T base (x.set i true) (upd f i v) W:=by
 refine ⟨zz h.c hv,?_,?_⟩ <;> rw [gq hn]
 ·exact h.b
 ·exact h.m
theorem rw_grow (h:RW C n T base x f W) (hn:x[n]? = some false) (hb:yl W W'):RW C n T base x f W' :=
 ⟨h.c,fun e=>(h.b e).trans (hb.mono (h.b e).size),fun e=>by rw [hn] at e; cases e⟩
theorem rw_last (h:RW C n T base x f W) (hn:x[n]? = some false) (hc:∀ j,j = n→x[j]? = some false→C j (f j)):RW C n T base (x.set n true) f (T W):=by
 refine ⟨fun j L=>?_,?_,fun _=>⟨W,h.b hn,rfl⟩⟩
 ·by_cases hji:j = n
  ·exact hc j hji (by rw [hji]; exact hn)
  ·rw [gq (fun e=>hji e.symm)] at L; exact h.c j L
 ·intro e; rw [gqs hn] at e; cases e
end
theorem ens_took {N B Bo:Nat} {W w':World} {gv:Value} {gs:List Value} {gl:List (List Ev)} {next:Int} {vq uV:Value} {l l':List Od} {t:Tot} {vo:Value} {ts:List Ev} (h:EnS N B Bo W gv gs gl next vq l t vo ts) (hc:w'.cell? (J N 2) = some uV) (Y:ORow w' B uV l') (ht:TookAt N 1 vq.ownBlock W w'):EnS N B Bo w' gv gs gl next uV l' t vo ts:=by
 have xn:∀ j,j ≠ 2→w'.cell? (J N j) = W.cell? (J N j):=fun j L=>ht.cell j (by omega)
 refine ⟨?_,fun j L=>⟨?_,?_⟩,aR h.grow ht (zo h.grow h.box (by decide)) (zD h.grow h.orow (by decide)),h.glen,?_,h.glt,Y,aR h.erow ht (zo h.erow h.box (by decide)) (zD h.erow h.orow (by decide)),?_,h.bo,yK h.le ht.size⟩
 ·intro j u L
  by_cases K:j = 2
  ·subst K; cases L; rw [Nat.zero_add]; exact hc
  ·rw [Nat.zero_add,xn j K]
   have:W.cell? (J N (0 + j)) = some u:=h.cells j u (by
    match j,L with
    | 0,L | 1,L | 3,L | 4,L | 5,L | 6,L | 7,L | 8,L | 9,L | 10,L | 11,L=>exact L
    | 2,L=>exact absurd rfl K
    | j + 12,L=>simp at L)
   rwa [Nat.zero_add] at this
 ·by_cases K:j = 2
  ·subst K; rw [Nat.zero_add,hc]; rfl
  ·rw [Nat.zero_add,xn j K]; have:=(h.there j L).1; rwa [Nat.zero_add] at this
 ·rw [Nat.zero_add,ht.frozen]; have:=(h.there j L).2; rwa [Nat.zero_add] at this
 ·intro i g es hg jX
  have hr:=h.geach i g es hg jX
  exact aR hr ht (zo hr h.box (by decide)) (zD hr h.orow (by decide))
 ·obtain ⟨xp,hb⟩:=h.box
  exact ht.kind _ _ _ hb
theorem zS {N B Bo:Nat} {W w':World} {gv:Value} {gs:List Value} {gl:List (List Ev)} {next:Int} {vq:Value} {l:List Od} {t:Tot} {vo:Value} {ts:List Ev} (h:EnS N B Bo W gv gs gl next vq l t vo ts) (hb:yl W w'):EnS N B Bo w' gv gs gl next vq l t vo ts :=
 ens_took h ((hb.cell (p:=(J N 2)) h.lt).trans (h.cells 2 _ rfl)) (zj h.orow hb) (bD (zU hb tg) h.lt (zo h.orow h.box (by decide)))
theorem row_hereE {W:World} {B g n cp i:Nat} {l:List Od} {o:Od} (h:ORow W B (.slice (some (J g 0)) n cp) l) (hl:l.length ≤ 1000) (hi:l[i]? = some o):W.rangeAt g (i * 6) o.vs∧∀ j,j < 6→W.frozen? (J g (i * 6 + j)) = false:=by
 obtain ⟨a',c',e,_,hc⟩:=zT h (by omega)
 obtain ⟨b',vH,e2,_,hc⟩:=hc (by rintro rfl; simp at hi)
 rw [e2] at e
 simp only [Value.slice.injEq,Option.some.injEq,Addr.mk.injEq,and_true] at e
 obtain ⟨⟨rfl,rfl⟩,-⟩:=e
 refine ⟨by simpa using hc i o hi,fun j L=>?_⟩
 rcases h.2 with ⟨z,_⟩ | ⟨g',po,xp,z,_,h3,h4,_,h5,_⟩
 ·cases z
 ·simp only [Value.slice.injEq,Option.some.injEq,Addr.mk.injEq,and_true] at z
  obtain ⟨rfl,-⟩:=z
  have hil:=(yD.1 hi).1
  have:=(cz h3 tg (i * 6 + j) (by rw [h5]; omega)).2
  rwa [Nat.zero_add] at this
def CRd (N S g n F k:Nat) (next id qty:Int):Nat→Value→Prop
 | 0,v | 1,v | 2,v | 6,v | 7,v | 8,v=>v = I N 0
 | 3,v | 9,v=>v = I N 1
 | 4,v=>v = I N 2
 | 5,v=>v = .slice (some (J g 0)) n F
 | 10,v=>v = .agg #[H next,.slice (some (J g 0)) n F]
 | 11,v=>v = I S 0
 | 12,v=>v = H id
 | 13,v=>v = H k
 | 14,v=>v = I S 1
 | 15,v=>v = H qty
 | 16,v=>v = I g (k * 6)
 | 17,v=>v = I g (k * 6 + 3)
 | _,_=>True
theorem reduceE_any {N B Bo:Nat} {gv:Value} {gs:List Value} {gl:List (List Ev)} {next:Int} {vq:Value} {l:List Od} {t:Tot} {vo:Value} {ts:List Ev} (id qty:Int) (k:Nat) (c:Od) (w:World) (h:EnS N B Bo w gv gs gl next vq l t vo ts) (hl:l.length ≤ 1000) (hn:ts.length ≤ 1000) (hk:plc l id = k) (hc:l[k]? = some c) :
  Calls Tryz.prog 69 #[I N 0,.agg #[H id,H qty]] w fun r w'=>r = yk (.tuple #[])∧(∃ qh,EnS N B Bo w' gv gs gl next vq (l.set k { c with left:=qty }) t qh (ts ++ [⟨7,zCm,id,0,qty,0,0⟩]))∧KeptBut N B w w':=by
 have xA:l ≠ []:=by rintro rfl; simp at hc
 have jZ:=(yD.1 hc).1
 obtain ⟨g,F,rfl,vR,hBg,hgw⟩:=dt h.orow xA
 have qr:=h.lt
 have oL:B ≤ w.heap.size:=yK h.bo h.le
 have xR:=eD w (E #[H id,H qty] 118)
 have HE:=Q (zS h xR)
 have xT:=Q xR
 have xz:w.heap.size < (w.alloc (E #[H id,H qty] 118)).heap.size:=by rw [ze]; omega
 have HKR:Hid (World.rangeAt (w.alloc (E #[H id,H qty] 118)) w.heap.size 0 [H id,H qty]):=zg w [H id,H qty] _
 have HPL:=Q hk
 have kz:=Q hc
 clear h xR hk hc xA
 go_enter Tryz.func69,Tryz.ntmps69
 refine eH fun h2 xu=>?_
 go_wp2_with fail
 refine M xu _ _ ?_
 clear xu
 generalize (w.alloc (E #[H id,H qty] 118)) = qt at HE xT xz HKR ⊢
 have hgX:g < qt.heap.size:=by omega
 have kV:N < qt.heap.size:=by omega
 have qa:Hid (qt.cell? (J N 1) = some (H next)):=(M HE).cells 1 _ rfl
 have vv:Hid (qt.cell? (J N 2) = some (.slice (some (J g 0)) l.length F)):=(M HE).cells 2 _ rfl
 have HK0:Hid (qt.cell? (yn w 0) = some (H id)):=M HKR 0 _ rfl
 have HK1c:Hid (qt.cell? (yn w 1) = some (H qty)):=M HKR 1 _ rfl
 have qC:=Q (zT (M HE).orow (by omega))
 have uD:=row_hereE (M HE).orow hl (M kz)
 have vJ:Hid (qt.cell? (J g (k * 6 + 3)) = some (H c.left)):=uD.1 3 _ rfl
 have HF3:Hid (qt.frozen? (J g (k * 6 + 3)) = false):=uD.2 3 (by omega)
 have hkl':(k:Int) < l.length:=by omega
 have hk0:(0:Int) ≤ k:=by omega
 clear uD
 refine eH fun h2 xu=>?_
 refine zi (RWA (fun f=>{ tmps:=#[I N 0,.agg #[H id,H qty],Z,ym w 0,f 0,f 1,f 2,f 3,f 4,f 5,f 6,f 7,f 8,f 9,f 10,f 11,f 12,f 13,f 14,f 15,f 16,f 17,Z,Z,Z,Z,Z,Z,Z],defers:=[] }) (CRd N w.heap.size g l.length F k next id qty) 18 (fun V=>V.setCell (J g (k * 6 + 3)) (H qty)) qt) (by kernel_rfl) ?_ ?_ ?_
 ·exact ⟨fun _=>Z,rfl,⟨fun j L=>by rw [yF] at L; split at L <;> simp at L,fun _=>⟨rfl,rfl,rfl,Nat.le_refl _,fun _ _=>rfl⟩,by simp⟩⟩
 ·rintro x hR V ⟨f,rfl,A⟩ hx xK
  have xm:=aK xK hx (acyc _ (by kernel_rfl))
  obtain ⟨V0,hb0,eV⟩:=A.m (xm 18 (by simp))
  refine M xu _ _ ?_
  clear xu
  dsimp only
  generalize f 0 = v0,f 1 = v1,f 2 = v2,f 3 = v3,f 4 = v4,f 5 = v5,f 6 = v6,f 7 = v7,f 8 = v8,f 9 = v9,f 10 = v10,f 11 = v11,f 12 = v12,f 13 = v13,f 14 = v14,f 15 = v15,f 16 = v16,f 17 = v17
  clear A xm xK hx
  have hE0:=zS (M HE) hb0
  have pE:=oRow_left hE0.orow rfl (M kz) qty
  have hng:some N ≠ (Value.slice (some (J g 0)) l.length F).ownBlock:=zo hE0.orow hE0.box (by decide)
  have hE1:EnS N B Bo V gv gs gl next (.slice (some (J g 0)) l.length F) (l.set k { c with left:=qty }) t vo ts:=by
   rw [eV]
   refine ens_took hE0 ((yI _ _ _ _ (fun e=>hng (by simp [Value.ownBlock]; exact (congrArg Addr.block e).symm))).trans (hE0.cells 2 _ rfl)) pE.1 (bD pE.2 hE0.lt hng)
  have pd:=Q hE1
  have HKV:Hid (KeptBut N B w V):=by
   rw [eV]
   refine zk (zC (M xT) oL) (zk (zC hb0 (by have:=(M HE).bo; have:=(M HE).le; omega)) ?_)
   exact ⟨rfl,rfl,rfl,by simp [World.setCell],fun j L _=>yP _ _ _ _ (show j ≠ g by omega)⟩
  have z3:V.cell? (yn w 0) = some (H id):=by
   rw [eV]
   exact (yI _ _ _ _ (fun e=>by have:=congrArg Addr.block e; simp at this; omega)).trans ((hb0.cell (p:=(yn w 0)) xz).trans (M HK0))
  have z4:V.cell? (yn w 1) = some (H qty):=by
   rw [eV]
   exact (yI _ _ _ _ (fun e=>by have:=congrArg Addr.block e; simp at this; omega)).trans ((hb0.cell (p:=(yn w 1)) xz).trans (M HK1c))
  clear hE0 pE hE1 hb0 eV qa vv vJ HF3 qC
  go_wp2_with fail
  refine (cB ⟨7,zCm,id,0,qty,0,0⟩ V (M pd) hn).mono ?_
  rintro e w5 ⟨rfl,qq,ox,-⟩
  have vN:=Q qq
  have ky:=Q (zk (M HKV) ox)
  clear qq ox
  go_wp2_with fail
  go_end0
  exact ⟨rfl,M vN,M ky⟩
 ·rintro x hR V i op ⟨f,rfl,A⟩ xk hx Y xq D
  have xv:=Q A
  have n18:i < 18→x[18]? = some false:=fun xL=>by
   rcases bK hx (show 18 < 19 by omega) with hq | jL
   ·exact hq
   ·have ki:=yd xk 18 rfl jL 17 rfl
    have vl:=yd xk 18 rfl jL 15 rfl
    have h16:=yd xk 17 rfl ki 16 rfl
    have qY:=yd xk 15 rfl vl 14 rfl
    have h5:=yd xk 16 rfl h16 5 rfl
    have jA:=yd xk 16 rfl h16 13 rfl
    have h4:=yd xk 5 rfl h5 4 rfl
    have vL:=yd xk 13 rfl jA 10 rfl
    have qp:=yd xk 13 rfl jA 12 rfl
    have h3:=yd xk 4 rfl h4 3 rfl
    have h9:=yd xk 10 rfl vL 9 rfl
    have uL:=yd xk 12 rfl qp 11 rfl
    have K:=yd xk 3 rfl h3 2 rfl
    have h8:=yd xk 9 rfl h9 8 rfl
    have z:=yd xk 2 rfl K 1 rfl
    have h7:=yd xk 8 rfl h8 7 rfl
    have h0:=yd xk 1 rfl z 0 rfl
    have h6:=yd xk 7 rfl h7 6 rfl
    have ub:∀ j,j < 18→x[j]? = some true:=fun j L=>by
     rcases (by omega:j = 0 ∨ j = 1 ∨ j = 2 ∨ j = 3 ∨ j = 4 ∨ j = 5 ∨ j = 6 ∨ j = 7 ∨ j = 8 ∨ j = 9 ∨ j = 10 ∨ j = 11 ∨ j = 12 ∨ j = 13 ∨ j = 14 ∨ j = 15 ∨ j = 16 ∨ j = 17) with rfl | rfl | rfl | rfl | rfl | rfl | rfl | rfl | rfl | rfl | rfl | rfl | rfl | rfl | rfl | rfl | rfl | rfl <;> assumption
    rw [ub i xL] at xq; cases xq
  match i,Y with
  | 0,Y =>
   obtain rfl:=hD Y
   clear D A xk
   rw [if_pos (by rfl)];unfold Oper.wp;go_simp
   exact ⟨upd f 0 (I N 0),by simp [upd],aQ (M xv) 0 _ rfl (by decide)⟩
  | 1,Y =>
   obtain rfl:=hD Y
   have g0:f 0 = I N 0:=A.c 0 (yc D 0 rfl)
   clear D A xk
   rw [if_pos (by rfl)];unfold Oper.wp;go_simp
   exact ⟨upd f 1 (I N 0),by simp [upd,g0],aQ (M xv) 1 _ rfl (by decide)⟩
  | 2,Y =>
   obtain rfl:=hD Y
   have g1:f 1 = I N 0:=A.c 1 (yc D 1 rfl)
   clear D A xk
   rw [if_pos (by rfl)];unfold Oper.wp;go_simp
   exact ⟨upd f 2 (I N 0),by simp [upd,g1],aQ (M xv) 2 _ rfl (by decide)⟩
  | 3,Y =>
   obtain rfl:=hD Y
   have g2:f 2 = I N 0:=A.c 2 (yc D 2 rfl)
   clear D A xk
   rw [if_pos (by rfl)];unfold Oper.wp;go_simp
   exact ⟨upd f 3 (I N 1),by simp [upd,g2],aQ (M xv) 3 _ rfl (by decide)⟩
  | 4,Y =>
   obtain rfl:=hD Y
   have g3:f 3 = I N 1:=A.c 3 (yc D 3 rfl)
   clear D A xk
   rw [if_pos (by rfl)];unfold Oper.wp;go_simp
   exact ⟨upd f 4 (I N 2),by simp [upd,g3],aQ (M xv) 4 _ rfl (by decide)⟩
  | 5,Y =>
   obtain rfl:=hD Y
   have g4:f 4 = I N 2:=A.c 4 (yc D 4 rfl)
   have xZ:=A.b (n18 (by omega))
   have xj:∀ (p:Addr) u,qt.cell? p = some u→V.cell? p = some u:=fun p u hu=>(xZ.cell (yH qt _ hu)).trans hu
   have z2:=xj (J N 2) _ (M vv)
   clear D A xk
   rw [if_pos (by rfl)];unfold Oper.wp;go_simp
   exact ⟨upd f 5 (.slice (some (J g 0)) l.length F),by simp [upd,g4],aQ (M xv) 5 _ rfl (by decide)⟩
  | 6,Y =>
   obtain rfl:=hD Y
   clear D A xk
   rw [if_pos (by rfl)];unfold Oper.wp;go_simp
   exact ⟨upd f 6 (I N 0),by simp [upd],aQ (M xv) 6 _ rfl (by decide)⟩
  | 7,Y =>
   obtain rfl:=hD Y
   have g6:f 6 = I N 0:=A.c 6 (yc D 6 rfl)
   clear D A xk
   rw [if_pos (by rfl)];unfold Oper.wp;go_simp
   exact ⟨upd f 7 (I N 0),by simp [upd,g6],aQ (M xv) 7 _ rfl (by decide)⟩
  | 8,Y =>
   obtain rfl:=hD Y
   have g7:f 7 = I N 0:=A.c 7 (yc D 7 rfl)
   clear D A xk
   rw [if_pos (by rfl)];unfold Oper.wp;go_simp
   exact ⟨upd f 8 (I N 0),by simp [upd,g7],aQ (M xv) 8 _ rfl (by decide)⟩
  | 9,Y =>
   obtain rfl:=hD Y
   have g8:f 8 = I N 0:=A.c 8 (yc D 8 rfl)
   clear D A xk
   rw [if_pos (by rfl)];unfold Oper.wp;go_simp
   exact ⟨upd f 9 (I N 1),by simp [upd,g8],aQ (M xv) 9 _ rfl (by decide)⟩
  | 10,Y =>
   obtain rfl:=hD Y
   have g9:f 9 = I N 1:=A.c 9 (yc D 9 rfl)
   have xZ:=A.b (n18 (by omega))
   have xj:∀ (p:Addr) u,qt.cell? p = some u→V.cell? p = some u:=fun p u hu=>(xZ.cell (yH qt _ hu)).trans hu
   have z1:=xj (J N 1) _ (M qa)
   have z2:=xj (J N 2) _ (M vv)
   clear D A xk
   rw [if_pos (by rfl)];unfold Oper.wp;go_simp
   exact ⟨upd f 10 (.agg #[H next,.slice (some (J g 0)) l.length F]),by simp [upd,g9],aQ (M xv) 10 _ rfl (by decide)⟩
  | 11,Y =>
   obtain rfl:=hD Y
   clear D A xk
   rw [if_pos (by rfl)];unfold Oper.wp;go_simp
   exact ⟨upd f 11 (ym w 0),by simp [upd],aQ (M xv) 11 _ rfl (by decide)⟩
  | 12,Y =>
   obtain rfl:=hD Y
   have vr:f 11 = ym w 0:=A.c 11 (yc D 11 rfl)
   have xZ:=A.b (n18 (by omega))
   have xj:∀ (p:Addr) u,qt.cell? p = some u→V.cell? p = some u:=fun p u hu=>(xZ.cell (yH qt _ hu)).trans hu
   have z3:=xj (yn w 0) _ (M HK0)
   clear D A xk
   rw [if_pos (by rfl)];unfold Oper.wp;go_simp
   exact ⟨upd f 12 (H id),by simp [upd,vr],aQ (M xv) 12 _ rfl (by decide)⟩
  | 13,Y =>
   obtain rfl:=hD Y
   have vP:f 10 = .agg #[H next,.slice (some (J g 0)) l.length F]:=A.c 10 (yc D 10 rfl)
   have xX:f 12 = H id:=A.c 12 (yc D 12 rfl)
   have jL:=n18 (by omega)
   have oJ:=Q (zh (M qC) (A.b jL) tg)
   clear D A xk
   rw [if_pos (by rfl)];unfold Oper.wp;go_simp
   refine (dJ next _ l id V (M oJ)).mono ?_
   rw [M HPL]
   rintro e w4 ⟨rfl,xy⟩
   exact ⟨upd f 13 (H k),by simp [upd,vP,xX],aQ (rw_grow (M xv) jL xy) 13 _ rfl (by decide)⟩
  | 14,Y =>
   obtain rfl:=hD Y
   clear D A xk
   rw [if_pos (by rfl)];unfold Oper.wp;go_simp
   exact ⟨upd f 14 (ym w 1),by simp [upd],aQ (M xv) 14 _ rfl (by decide)⟩
  | 15,Y =>
   obtain rfl:=hD Y
   have jU:f 14 = ym w 1:=A.c 14 (yc D 14 rfl)
   have xZ:=A.b (n18 (by omega))
   have xj:∀ (p:Addr) u,qt.cell? p = some u→V.cell? p = some u:=fun p u hu=>(xZ.cell (yH qt _ hu)).trans hu
   have z4:=xj (yn w 1) _ (M HK1c)
   clear D A xk
   rw [if_pos (by rfl)];unfold Oper.wp;go_simp
   exact ⟨upd f 15 (H qty),by simp [upd,jU],aQ (M xv) 15 _ rfl (by decide)⟩
  | 16,Y =>
   obtain rfl:=hD Y
   have g5:f 5 = .slice (some (J g 0)) l.length F:=A.c 5 (yc D 5 rfl)
   have kE:f 13 = H k:=A.c 13 (yc D 13 rfl)
   clear D A xk
   rw [if_pos (by rfl)];unfold Oper.wp;go_simp
   exact ⟨upd f 16 (I g (k * 6)),by simp [upd,g5,kE],aQ (M xv) 16 _ rfl (by decide)⟩
  | 17,Y =>
   obtain rfl:=hD Y
   have g16:f 16 = I g (k * 6):=A.c 16 (yc D 16 rfl)
   clear D A xk
   rw [if_pos (by rfl)];unfold Oper.wp;go_simp
   exact ⟨upd f 17 (I g (k * 6 + 3)),by simp [upd,g16],aQ (M xv) 17 _ rfl (by decide)⟩
  | 18,Y =>
   obtain rfl:=hD Y
   have g17:f 17 = I g (k * 6 + 3):=A.c 17 (yc D 17 rfl)
   have g15:f 15 = H qty:=A.c 15 (yc D 15 rfl)
   have xZ:=A.b xq
   have y3:=(xZ.cell (p:=(J g (k * 6 + 3))) hgX).trans (M vJ)
   have q3:V.frozen? (J g (k * 6 + 3)) = false:=(World.frozen?_of_block (a:=(J g (k * 6 + 3))) (xZ.block g hgX)).trans (M HF3)
   clear D A xk
   rw [if_pos (by rfl)];unfold Oper.wp;go_simp
   exact ⟨f,by simp [g17,g15],rw_last (M xv) xq (fun j L hx=>by match j,L with | 18,_=>trivial)⟩
  | i + 19,Y=>simp at Y
end Go.Proofs.YtbakanofkghmiaaGreat
