/-
  The engine's state in its block: the groups so far, the book, the totals, the open group; and what telling an event and closing a group make of it. Proved from the methods' walks.
-/
import Derived.Test.YtopjoogdpjaocaaGreatTj18
set_option linter.unusedVariables false
set_option maxHeartbeats 6400000
set_option maxRecDepth 100000
namespace Go.Proofs.YtopjoogdpjaocaaGreat
open Go.RowKit
theorem zap {B e sz n b:Nat} {v:Value} {xs:List Value} (hb:some b ≠ v.ownBlock):∀ (vs:List Value) (o:Nat) (W:World),W.ownsRow B e sz v n xs→(W.setCells b o vs).ownsRow B e sz v n xs
 | [],_,_,h=>h
 | u :: us,o,W,h=>by rw [World.setCells]; exact zap hb us (o + 1) _ (zt h hb o u)
theorem kind_setC (W:World) (b:Nat) {T:TypeId} {y:Nat × Nat}:∀ (vs:List Value) (o:Nat) {cur:Array Value},W.heap[b]? = some (.cells cur T y)→∃ cur',(W.setCells b o vs).heap[b]? = some (.cells cur' T y):=by
 intro vs
 induction vs generalizing W with
 | nil=>intro o cur h; exact ⟨cur,h⟩
 | cons u us ih =>
  intro o cur h
  rw [World.setCells]
  obtain ⟨c1,h1⟩:=zN W b o u h
  exact ih _ (o + 1) h1
theorem set_os (W:World) (a:Addr) (u:Value):(W.setCell a u).os = W.os:=rfl
theorem set_tape (W:World) (a:Addr) (u:Value):(W.setCell a u).tape = W.tape:=rfl
theorem set_output (W:World) (a:Addr) (u:Value):(W.setCell a u).output = W.output:=rfl
theorem zco (b:Nat):∀ (vs:List Value) (o:Nat) (W:World),(W.setCells b o vs).os = W.os
 | [],_,_=>rfl
 | u :: us,o,W=>by rw [World.setCells,zco b us (o + 1)]; rfl
theorem zbJ (b:Nat):∀ (vs:List Value) (o:Nat) (W:World),(W.setCells b o vs).tape = W.tape
 | [],_,_=>rfl
 | u :: us,o,W=>by rw [World.setCells,zbJ b us (o + 1)]; rfl
theorem zbn (b:Nat):∀ (vs:List Value) (o:Nat) (W:World),(W.setCells b o vs).output = W.output
 | [],_,_=>rfl
 | u :: us,o,W=>by rw [World.setCells,zbn b us (o + 1)]; rfl
theorem zaw (b k:Nat) (hk:k ≠ b):∀ (vs:List Value) (o:Nat) (W:World),(W.setCells b o vs).heap[k]? = W.heap[k]?
 | [],_,_=>rfl
 | u :: us,o,W=>by rw [World.setCells,zaw b k hk us (o + 1)]; exact Below.heap_setCell _ _ _ _ hk
def Apt (Bo:Nat) (gs:List Value):Prop:=(∀ g ∈ gs,∀ b,g.ownBlock = some b→b < Bo)∧gs.Pairwise fun g g'=>∀ b b',g.ownBlock = some b→g'.ownBlock = some b'→b < b'
structure EnS (mb B Bo:Nat) (W:World) (gv:Value) (gs:List Value) (gl:List (List Ev)) (next:Int) (vq:Value) (l:List Od) (t:Tot) (vo:Value) (ts:List Ev):Prop where
 cells:W.rangeAt mb 0 [gv,.int .i64 next,vq,.int .i64 t.gr,.int .i64 t.ac,.int .i64 t.rf,.int .i64 t.tr,.int .i64 t.vo,.int .i64 t.no,.int .i64 t.li,.int .i64 t.le,vo]
 there:W.there mb 0 12
 grow:GRow W B gv gs
 glen:gs.length = gl.length
 geach:∀ (i:Nat) (g:Value) (es:List Ev),gs[i]? = some g→gl[i]? = some es→ERow W B g es
 glt:Apt Bo gs
 orow:ORow W B vq l
 erow:ERow W Bo vo ts
 box:∃ cur,W.heap[mb]? = some (.cells cur 69 (0,0))
 bo:B ≤ Bo
 le:Bo ≤ W.heap.size
section
variable {mb B Bo:Nat} {W w':World} {gv:Value} {gs:List Value} {gl:List (List Ev)} {next:Int} {vq:Value} {l:List Od} {t:Tot} {vo:Value} {ts:List Ev}
theorem EnS.lt (h:EnS mb B Bo W gv gs gl next vq l t vo ts):mb < W.heap.size:=by
 obtain ⟨cur,h⟩:=h.box
 exact (Array.getElem?_eq_some_iff.1 h).1
theorem EnS.apart (h:EnS mb B Bo W gv gs gl next vq l t vo ts) {g:Value} (hg:g ∈ gs):g.ownBlock = none ∨ g.ownBlock ≠ vo.ownBlock:=by
 cases e:g.ownBlock with
 | none=>exact .inl rfl
 | some b =>
  refine .inr fun e'=>?_
  have h1:=h.glt.1 g hg b e
  have h2:=(h.erow.lt b e'.symm).1
  omega
theorem ens_told (h:EnS mb B Bo W gv gs gl next vq l t vo ts) {vo':Value} {ts':List Ev} (hc:w'.cell? ⟨mb,11,none⟩ = some vo') (he:ERow w' Bo vo' ts') (ht:TookAt mb 10 vo.ownBlock W w'):EnS mb B Bo w' gv gs gl next vq l t vo' ts':=by
 have hcell:∀ j,j ≠ 11→w'.cell? ⟨mb,j,none⟩ = W.cell? ⟨mb,j,none⟩:=fun j hj=>ht.cell j (by omega)
 refine ⟨?_,fun j hj=>⟨?_,?_⟩,zam h.grow ht (zj h.grow h.box (by decide)) (zB h.grow h.erow (by decide)),h.glen,?_,h.glt,zam h.orow ht (zj h.orow h.box (by decide)) (zB h.orow h.erow (by decide)),he,?_,h.bo,Nat.le_trans h.le ht.size⟩
 ·intro j u hj
  by_cases h11:j = 11
  ·subst h11; cases hj; rw [Nat.zero_add]; exact hc
  ·rw [Nat.zero_add,hcell j h11]
   have:W.cell? ⟨mb,0 + j,none⟩ = some u:=h.cells j u (by
    match j,hj with
    | 0,hj | 1,hj | 2,hj | 3,hj | 4,hj | 5,hj | 6,hj | 7,hj | 8,hj | 9,hj | 10,hj=>exact hj
    | 11,hj=>exact absurd rfl h11
    | j + 12,hj=>simp at hj)
   rwa [Nat.zero_add] at this
 ·by_cases h11:j = 11
  ·subst h11; rw [Nat.zero_add,hc]; rfl
  ·rw [Nat.zero_add,hcell j h11]; have:=(h.there j hj).1; rwa [Nat.zero_add] at this
 ·rw [Nat.zero_add,ht.frozen]; have:=(h.there j hj).2; rwa [Nat.zero_add] at this
 ·intro i g es hg hes
  have hr:=h.geach i g es hg hes
  exact zam hr ht (zj hr h.box (by decide)) (h.apart (List.mem_of_getElem? hg))
 ·obtain ⟨cur,hb⟩:=h.box
  exact ht.kind _ _ _ hb
end
theorem zaQ {mb B Bo:Nat} {gv:Value} {gs:List Value} {gl:List (List Ev)} {next:Int} {vq:Value} {l:List Od} {t:Tot} {vo:Value} {ts:List Ev} (e:Ev) (w:World) (h:EnS mb B Bo w gv gs gl next vq l t vo ts) (hn:ts.length ≤ 1000) :
  Calls Tryz.prog 48 #[.pointer (some ⟨mb,0,none⟩),.agg #[.int .i64 e.kind,.int .i64 e.cmd.k,.int .i64 e.cmd.s,.int .i64 e.cmd.t,.int .i64 e.cmd.l,.int .i64 e.cmd.q,.int .i64 e.cmd.i,.float .f64 e.cmd.p,.string e.cmd.g,.int .i64 e.id,.int .i64 e.other,.int .i64 e.qty,.int .i64 e.price,.int .i64 e.reason]] w fun r w'=>r = .returned (.tuple #[])∧(∃ vo',EnS mb B Bo w' gv gs gl next vq l t vo' (ts ++ [e]))∧KeptBut mb B w w'∧TookAt mb 10 vo.ownBlock w w':=by
 refine (tell_any mb Bo vo ts e w (h.cells 11 _ rfl) ?_ h.box h.erow h.le hn).mono ?_
 ·have:=(h.there 11 (by omega)).2; rwa [Nat.zero_add] at this
 ·rintro r w' ⟨vo',rfl,hc,he,ht⟩
  exact ⟨rfl,⟨vo',ens_told h hc he ht⟩,zaY ht (Nat.le_trans h.bo h.le) (fun g hg=>Nat.le_trans h.bo (h.erow.lt g hg).1),ht⟩
structure RW (C:Nat→Value→Prop) (n:Nat) (T:World→World) (base:World) (x:List Bool) (f:Nat→Value) (W:World):Prop where
 c:∀ j,x[j]? = some true→C j (f j)
 b:x[n]? = some false→Below base.heap.size base W
 m:x[n]? = some true→∃ V,Below base.heap.size base V∧W = T V
def RWA (F:(Nat→Value)→Act) (C:Nat→Value→Prop) (n:Nat) (T:World→World) (base:World) (x:List Bool) (A:Act) (W:World):Prop:=∃ f,A = F f∧RW C n T base x f W
section
variable {C:Nat→Value→Prop} {n:Nat} {T:World→World} {base W W':World} {x:List Bool} {f:Nat→Value}
theorem zaR (h:RW C n T base x f W) (i:Nat) (v:Value) (hv:C i v) (hn:i ≠ n):RW C n T base (x.set i true) (upd f i v) W:=by
 refine ⟨zv h.c hv,?_,?_⟩ <;> rw [gq hn]
 ·exact h.b
 ·exact h.m
theorem rw_grow (h:RW C n T base x f W) (hn:x[n]? = some false) (hb:Below W.heap.size W W'):RW C n T base x f W' :=
 ⟨h.c,fun e=>(h.b e).trans (hb.mono (h.b e).size),fun e=>by rw [hn] at e; cases e⟩
theorem rw_last (h:RW C n T base x f W) (hn:x[n]? = some false) (hc:∀ j,j = n→x[j]? = some false→C j (f j)):RW C n T base (x.set n true) f (T W):=by
 refine ⟨fun j hj=>?_,?_,fun _=>⟨W,h.b hn,rfl⟩⟩
 ·by_cases hji:j = n
  ·exact hc j hji (by rw [hji]; exact hn)
  ·rw [gq (fun e=>hji e.symm)] at hj; exact h.c j hj
 ·intro e; rw [gqs hn] at e; cases e
end
theorem ens_took {mb B Bo:Nat} {W w':World} {gv:Value} {gs:List Value} {gl:List (List Ev)} {next:Int} {vq vq':Value} {l l':List Od} {t:Tot} {vo:Value} {ts:List Ev} (h:EnS mb B Bo W gv gs gl next vq l t vo ts) (hc:w'.cell? ⟨mb,2,none⟩ = some vq') (ho:ORow w' B vq' l') (ht:TookAt mb 1 vq.ownBlock W w'):EnS mb B Bo w' gv gs gl next vq' l' t vo ts:=by
 have hcell:∀ j,j ≠ 2→w'.cell? ⟨mb,j,none⟩ = W.cell? ⟨mb,j,none⟩:=fun j hj=>ht.cell j (by omega)
 refine ⟨?_,fun j hj=>⟨?_,?_⟩,zam h.grow ht (zj h.grow h.box (by decide)) (zB h.grow h.orow (by decide)),h.glen,?_,h.glt,ho,zam h.erow ht (zj h.erow h.box (by decide)) (zB h.erow h.orow (by decide)),?_,h.bo,Nat.le_trans h.le ht.size⟩
 ·intro j u hj
  by_cases h2:j = 2
  ·subst h2; cases hj; rw [Nat.zero_add]; exact hc
  ·rw [Nat.zero_add,hcell j h2]
   have:W.cell? ⟨mb,0 + j,none⟩ = some u:=h.cells j u (by
    match j,hj with
    | 0,hj | 1,hj | 3,hj | 4,hj | 5,hj | 6,hj | 7,hj | 8,hj | 9,hj | 10,hj | 11,hj=>exact hj
    | 2,hj=>exact absurd rfl h2
    | j + 12,hj=>simp at hj)
   rwa [Nat.zero_add] at this
 ·by_cases h2:j = 2
  ·subst h2; rw [Nat.zero_add,hc]; rfl
  ·rw [Nat.zero_add,hcell j h2]; have:=(h.there j hj).1; rwa [Nat.zero_add] at this
 ·rw [Nat.zero_add,ht.frozen]; have:=(h.there j hj).2; rwa [Nat.zero_add] at this
 ·intro i g es hg hes
  have hr:=h.geach i g es hg hes
  exact zam hr ht (zj hr h.box (by decide)) (zB hr h.orow (by decide))
 ·obtain ⟨cur,hb⟩:=h.box
  exact ht.kind _ _ _ hb
theorem zO {mb B Bo:Nat} {W w':World} {gv:Value} {gs:List Value} {gl:List (List Ev)} {next:Int} {vq:Value} {l:List Od} {t:Tot} {vo:Value} {ts:List Ev} (h:EnS mb B Bo W gv gs gl next vq l t vo ts) (hb:Below W.heap.size W w'):EnS mb B Bo w' gv gs gl next vq l t vo ts :=
 ens_took h ((hb.cell (p:=⟨mb,2,none⟩) h.lt).trans (h.cells 2 _ rfl)) (zk h.orow hb) (zaj (zaa hb (Nat.le_refl _)) h.lt (zj h.orow h.box (by decide)))
theorem row_hereE {W:World} {B g n cp i:Nat} {l:List Od} {o:Od} (h:ORow W B (.slice (some ⟨g,0,none⟩) n cp) l) (hl:l.length ≤ 1000) (hi:l[i]? = some o):W.rangeAt g (i * 6) o.vs∧∀ j,j < 6→W.frozen? ⟨g,i * 6 + j,none⟩ = false:=by
 obtain ⟨a',c',e,_,hc⟩:=zM h (by omega)
 obtain ⟨b',off',e2,_,hc⟩:=hc (by rintro rfl; simp at hi)
 rw [e2] at e
 simp only [Value.slice.injEq,Option.some.injEq,Addr.mk.injEq,and_true] at e
 obtain ⟨⟨rfl,rfl⟩,-⟩:=e
 refine ⟨by simpa using hc i o hi,fun j hj=>?_⟩
 rcases h.2 with ⟨h1,_⟩ | ⟨g',cap',cur,h1,_,h3,h4,_,h5,_⟩
 ·cases h1
 ·simp only [Value.slice.injEq,Option.some.injEq,Addr.mk.injEq,and_true] at h1
  obtain ⟨rfl,-⟩:=h1
  have hil:=(List.getElem?_eq_some_iff.1 hi).1
  have:=(zaq h3 (Nat.le_refl _) (i * 6 + j) (by rw [h5]; omega)).2
  rwa [Nat.zero_add] at this
def CRd (mb S g n cap k:Nat) (next id qty:Int):Nat→Value→Prop
 | 0,v | 1,v | 2,v | 6,v | 7,v | 8,v=>v = .pointer (some ⟨mb,0,none⟩)
 | 3,v | 9,v=>v = .pointer (some ⟨mb,1,none⟩)
 | 4,v=>v = .pointer (some ⟨mb,2,none⟩)
 | 5,v=>v = .slice (some ⟨g,0,none⟩) n cap
 | 10,v=>v = .agg #[.int .i64 next,.slice (some ⟨g,0,none⟩) n cap]
 | 11,v=>v = .pointer (some ⟨S,0,none⟩)
 | 12,v=>v = .int .i64 id
 | 13,v=>v = .int .i64 k
 | 14,v=>v = .pointer (some ⟨S,1,none⟩)
 | 15,v=>v = .int .i64 qty
 | 16,v=>v = .pointer (some ⟨g,k * 6,none⟩)
 | 17,v=>v = .pointer (some ⟨g,k * 6 + 3,none⟩)
 | _,_=>True
set_option maxRecDepth 100000 in
set_option maxHeartbeats 6400000 in
theorem reduceE_any {mb B Bo:Nat} {gv:Value} {gs:List Value} {gl:List (List Ev)} {next:Int} {vq:Value} {l:List Od} {t:Tot} {vo:Value} {ts:List Ev} (id qty:Int) (k:Nat) (c:Od) (w:World) (h:EnS mb B Bo w gv gs gl next vq l t vo ts) (hl:l.length ≤ 1000) (hn:ts.length ≤ 1000) (hk:plc l id = k) (hc:l[k]? = some c) :
  Calls Tryz.prog 52 #[.pointer (some ⟨mb,0,none⟩),.agg #[.int .i64 id,.int .i64 qty]] w fun r w'=>r = .returned (.tuple #[])∧(∃ vo',EnS mb B Bo w' gv gs gl next vq (l.set k { c with left:=qty }) t vo' (ts ++ [⟨7,zCm,id,0,qty,0,0⟩]))∧KeptBut mb B w w':=by
 have hne:l ≠ []:=by rintro rfl; simp at hc
 have hkl:=(List.getElem?_eq_some_iff.1 hc).1
 obtain ⟨g,cap,rfl,hcap,hBg,hgw⟩:=zbB h.orow hne
 have hmw:=h.lt
 have hBw:B ≤ w.heap.size:=Nat.le_trans h.bo h.le
 have hb1:Below w.heap.size w (w.alloc (Obj.cells #[.int .i64 id,.int .i64 qty] 105)):=(Below.refl _ _).alloc (Nat.le_refl _) _
 have HE:=hide (zO h hb1)
 have HB1:=hide hb1
 have hs1:w.heap.size < (w.alloc (Obj.cells #[.int .i64 id,.int .i64 qty] 105)).heap.size:=by rw [ze]; omega
 have HKR:Hid (World.rangeAt (w.alloc (Obj.cells #[.int .i64 id,.int .i64 qty] 105)) w.heap.size 0 [.int .i64 id,.int .i64 qty]):=zh w [.int .i64 id,.int .i64 qty] _
 have HPL:=hide hk
 have HLC:=hide hc
 clear h hb1 hk hc hne
 go_enter Tryz.func52,Tryz.ntmps52
 refine wp_seq_k fun K hK=>?_
 have HK1:=hide hK
 clear hK
 go_wp2_with fail
 refine za HK1 _ _ ?_
 clear HK1
 generalize (w.alloc (Obj.cells #[.int .i64 id,.int .i64 qty] 105)) = X at HE HB1 hs1 HKR ⊢
 have hgX:g < X.heap.size:=by omega
 have hmX:mb < X.heap.size:=by omega
 have HM1:Hid (X.cell? ⟨mb,1,none⟩ = some (.int .i64 next)):=(za HE).cells 1 _ rfl
 have HM2:Hid (X.cell? ⟨mb,2,none⟩ = some (.slice (some ⟨g,0,none⟩) l.length cap)):=(za HE).cells 2 _ rfl
 have HK0:Hid (X.cell? ⟨w.heap.size,0,none⟩ = some (.int .i64 id)):=za HKR 0 _ rfl
 have HK1c:Hid (X.cell? ⟨w.heap.size,1,none⟩ = some (.int .i64 qty)):=za HKR 1 _ rfl
 have HRD:=hide (zM (za HE).orow (by omega))
 have hrow:=row_hereE (za HE).orow hl (za HLC)
 have HG3:Hid (X.cell? ⟨g,k * 6 + 3,none⟩ = some (.int .i64 c.left)):=hrow.1 3 _ rfl
 have HF3:Hid (X.frozen? ⟨g,k * 6 + 3,none⟩ = false):=hrow.2 3 (by omega)
 have hkl':(k:Int) < l.length:=by omega
 have hk0:(0:Int) ≤ k:=by omega
 clear hrow
 refine wp_seq_k fun K hK=>?_
 have HK1:=hide hK
 clear hK
 refine zo (RWA (fun f=>{ tmps:=#[.pointer (some ⟨mb,0,none⟩),.agg #[.int .i64 id,.int .i64 qty],undef,.pointer (some ⟨w.heap.size,0,none⟩),f 0,f 1,f 2,f 3,f 4,f 5,f 6,f 7,f 8,f 9,f 10,f 11,f 12,f 13,f 14,f 15,f 16,f 17,undef,undef,undef,undef,undef,undef,undef],defers:=[] }) (CRd mb w.heap.size g l.length cap k next id qty) 18 (fun V=>V.setCell ⟨g,k * 6 + 3,none⟩ (.int .i64 qty)) X) (by kernel_rfl) ?_ ?_ ?_
 ·exact ⟨fun _=>undef,rfl,⟨fun j hj=>by rw [List.getElem?_replicate] at hj; split at hj <;> simp at hj,fun _=>⟨rfl,rfl,rfl,Nat.le_refl _,fun _ _=>rfl⟩,by simp⟩⟩
 ·rintro x A V ⟨f,rfl,hR⟩ hx hrd
  have hallx:=zab hrd hx (acyc _ (by kernel_rfl))
  obtain ⟨V0,hb0,eV⟩:=hR.m (hallx 18 (by simp))
  refine za HK1 _ _ ?_
  clear HK1
  dsimp only
  generalize f 0 = v0
  generalize f 1 = v1
  generalize f 2 = v2
  generalize f 3 = v3
  generalize f 4 = v4
  generalize f 5 = v5
  generalize f 6 = v6
  generalize f 7 = v7
  generalize f 8 = v8
  generalize f 9 = v9
  generalize f 10 = v10
  generalize f 11 = v11
  generalize f 12 = v12
  generalize f 13 = v13
  generalize f 14 = v14
  generalize f 15 = v15
  generalize f 16 = v16
  generalize f 17 = v17
  clear hR hallx hrd hx
  have hE0:=zO (za HE) hb0
  have hol:=oRow_left hE0.orow rfl (za HLC) qty
  have hng:some mb ≠ (Value.slice (some ⟨g,0,none⟩) l.length cap).ownBlock:=zj hE0.orow hE0.box (by decide)
  have hE1:EnS mb B Bo V gv gs gl next (.slice (some ⟨g,0,none⟩) l.length cap) (l.set k { c with left:=qty }) t vo ts:=by
   rw [eV]
   refine ens_took hE0 ((World.cell?_setCell_other _ _ _ _ (fun e=>hng (by simp [Value.ownBlock]; exact (congrArg Addr.block e).symm))).trans (hE0.cells 2 _ rfl)) hol.1 (zaj hol.2 hE0.lt hng)
  have HE1:=hide hE1
  have HKV:Hid (KeptBut mb B w V):=by
   rw [eV]
   refine zi (zA (za HB1) hBw) (zi (zA hb0 (by have:=(za HE).bo; have:=(za HE).le; omega)) ?_)
   exact ⟨rfl,rfl,rfl,by simp [World.setCell],fun j hj _=>Below.heap_setCell _ _ _ _ (show j ≠ g by omega)⟩
  have z3:V.cell? ⟨w.heap.size,0,none⟩ = some (.int .i64 id):=by
   rw [eV]
   exact (World.cell?_setCell_other _ _ _ _ (fun e=>by have:=congrArg Addr.block e; simp at this; omega)).trans ((hb0.cell (p:=⟨w.heap.size,0,none⟩) hs1).trans (za HK0))
  have z4:V.cell? ⟨w.heap.size,1,none⟩ = some (.int .i64 qty):=by
   rw [eV]
   exact (World.cell?_setCell_other _ _ _ _ (fun e=>by have:=congrArg Addr.block e; simp at this; omega)).trans ((hb0.cell (p:=⟨w.heap.size,1,none⟩) hs1).trans (za HK1c))
  clear hE0 hol hE1 hb0 eV HM1 HM2 HG3 HF3 HRD
  go_wp2_with fail
  refine (zaQ ⟨7,zCm,id,0,qty,0,0⟩ V (za HE1) hn).mono ?_
  rintro e w5 ⟨rfl,hE5,hk5,-⟩
  have HE5:=hide hE5
  have HK5:=hide (zi (za HKV) hk5)
  clear hE5 hk5
  go_wp2_with fail
  go_end0
  exact ⟨rfl,za HE5,za HK5⟩
 ·rintro x A V i op ⟨f,rfl,hR⟩ hcl hx ho hxi hall
  have HRR:=hide hR
  have n18:i < 18→x[18]? = some false:=fun hlt=>by
   rcases zbP hx (show 18 < 19 by omega) with hq | h18
   ·exact hq
   ·have h17:=hcl 18 _ rfl h18 ⟨17,.data⟩ (by simp) rfl
    have h15:=hcl 18 _ rfl h18 ⟨15,.data⟩ (by simp) rfl
    have h16:=hcl 17 _ rfl h17 ⟨16,.data⟩ (by simp) rfl
    have h14:=hcl 15 _ rfl h15 ⟨14,.data⟩ (by simp) rfl
    have h5:=hcl 16 _ rfl h16 ⟨5,.data⟩ (by simp) rfl
    have h13:=hcl 16 _ rfl h16 ⟨13,.data⟩ (by simp) rfl
    have h4:=hcl 5 _ rfl h5 ⟨4,.data⟩ (by simp) rfl
    have h10:=hcl 13 _ rfl h13 ⟨10,.data⟩ (by simp) rfl
    have h12:=hcl 13 _ rfl h13 ⟨12,.data⟩ (by simp) rfl
    have h3:=hcl 4 _ rfl h4 ⟨3,.data⟩ (by simp) rfl
    have h9:=hcl 10 _ rfl h10 ⟨9,.data⟩ (by simp) rfl
    have h11:=hcl 12 _ rfl h12 ⟨11,.data⟩ (by simp) rfl
    have h2:=hcl 3 _ rfl h3 ⟨2,.data⟩ (by simp) rfl
    have h8:=hcl 9 _ rfl h9 ⟨8,.data⟩ (by simp) rfl
    have h1:=hcl 2 _ rfl h2 ⟨1,.data⟩ (by simp) rfl
    have h7:=hcl 8 _ rfl h8 ⟨7,.data⟩ (by simp) rfl
    have h0:=hcl 1 _ rfl h1 ⟨0,.data⟩ (by simp) rfl
    have h6:=hcl 7 _ rfl h7 ⟨6,.data⟩ (by simp) rfl
    have hallk:∀ j,j < 18→x[j]? = some true:=fun j hj=>by
     rcases (by omega:j = 0 ∨ j = 1 ∨ j = 2 ∨ j = 3 ∨ j = 4 ∨ j = 5 ∨ j = 6 ∨ j = 7 ∨ j = 8 ∨ j = 9 ∨ j = 10 ∨ j = 11 ∨ j = 12 ∨ j = 13 ∨ j = 14 ∨ j = 15 ∨ j = 16 ∨ j = 17) with rfl | rfl | rfl | rfl | rfl | rfl | rfl | rfl | rfl | rfl | rfl | rfl | rfl | rfl | rfl | rfl | rfl | rfl <;> assumption
    rw [hallk i hlt] at hxi; cases hxi
  match i,ho with
  | 0,ho =>
   obtain rfl:=Option.some.inj ho
   clear hall hR hcl
   rw [if_pos (by rfl)]
   unfold Oper.wp
   go_simp
   exact ⟨upd f 0 (.pointer (some ⟨mb,0,none⟩)),by simp [upd],zaR (za HRR) 0 _ rfl (by decide)⟩
  | 1,ho =>
   obtain rfl:=Option.some.inj ho
   have g0:f 0 = .pointer (some ⟨mb,0,none⟩):=hR.c 0 (hall ⟨0,.data⟩ (by simp) rfl)
   clear hall hR hcl
   rw [if_pos (by rfl)]
   unfold Oper.wp
   go_simp
   exact ⟨upd f 1 (.pointer (some ⟨mb,0,none⟩)),by simp [upd,g0],zaR (za HRR) 1 _ rfl (by decide)⟩
  | 2,ho =>
   obtain rfl:=Option.some.inj ho
   have g1:f 1 = .pointer (some ⟨mb,0,none⟩):=hR.c 1 (hall ⟨1,.data⟩ (by simp) rfl)
   clear hall hR hcl
   rw [if_pos (by rfl)]
   unfold Oper.wp
   go_simp
   exact ⟨upd f 2 (.pointer (some ⟨mb,0,none⟩)),by simp [upd,g1],zaR (za HRR) 2 _ rfl (by decide)⟩
  | 3,ho =>
   obtain rfl:=Option.some.inj ho
   have g2:f 2 = .pointer (some ⟨mb,0,none⟩):=hR.c 2 (hall ⟨2,.data⟩ (by simp) rfl)
   clear hall hR hcl
   rw [if_pos (by rfl)]
   unfold Oper.wp
   go_simp
   exact ⟨upd f 3 (.pointer (some ⟨mb,1,none⟩)),by simp [upd,g2],zaR (za HRR) 3 _ rfl (by decide)⟩
  | 4,ho =>
   obtain rfl:=Option.some.inj ho
   have g3:f 3 = .pointer (some ⟨mb,1,none⟩):=hR.c 3 (hall ⟨3,.data⟩ (by simp) rfl)
   clear hall hR hcl
   rw [if_pos (by rfl)]
   unfold Oper.wp
   go_simp
   exact ⟨upd f 4 (.pointer (some ⟨mb,2,none⟩)),by simp [upd,g3],zaR (za HRR) 4 _ rfl (by decide)⟩
  | 5,ho =>
   obtain rfl:=Option.some.inj ho
   have g4:f 4 = .pointer (some ⟨mb,2,none⟩):=hR.c 4 (hall ⟨4,.data⟩ (by simp) rfl)
   have hbV:=hR.b (n18 (by omega))
   have cellV:∀ (p:Addr) u,X.cell? p = some u→V.cell? p = some u:=fun p u hu=>(hbV.cell (World.block_lt_of_cell? X _ hu)).trans hu
   have z2:=cellV ⟨mb,2,none⟩ _ (za HM2)
   clear hall hR hcl
   rw [if_pos (by rfl)]
   unfold Oper.wp
   go_simp
   exact ⟨upd f 5 (.slice (some ⟨g,0,none⟩) l.length cap),by simp [upd,g4],zaR (za HRR) 5 _ rfl (by decide)⟩
  | 6,ho =>
   obtain rfl:=Option.some.inj ho
   clear hall hR hcl
   rw [if_pos (by rfl)]
   unfold Oper.wp
   go_simp
   exact ⟨upd f 6 (.pointer (some ⟨mb,0,none⟩)),by simp [upd],zaR (za HRR) 6 _ rfl (by decide)⟩
  | 7,ho =>
   obtain rfl:=Option.some.inj ho
   have g6:f 6 = .pointer (some ⟨mb,0,none⟩):=hR.c 6 (hall ⟨6,.data⟩ (by simp) rfl)
   clear hall hR hcl
   rw [if_pos (by rfl)]
   unfold Oper.wp
   go_simp
   exact ⟨upd f 7 (.pointer (some ⟨mb,0,none⟩)),by simp [upd,g6],zaR (za HRR) 7 _ rfl (by decide)⟩
  | 8,ho =>
   obtain rfl:=Option.some.inj ho
   have g7:f 7 = .pointer (some ⟨mb,0,none⟩):=hR.c 7 (hall ⟨7,.data⟩ (by simp) rfl)
   clear hall hR hcl
   rw [if_pos (by rfl)]
   unfold Oper.wp
   go_simp
   exact ⟨upd f 8 (.pointer (some ⟨mb,0,none⟩)),by simp [upd,g7],zaR (za HRR) 8 _ rfl (by decide)⟩
  | 9,ho =>
   obtain rfl:=Option.some.inj ho
   have g8:f 8 = .pointer (some ⟨mb,0,none⟩):=hR.c 8 (hall ⟨8,.data⟩ (by simp) rfl)
   clear hall hR hcl
   rw [if_pos (by rfl)]
   unfold Oper.wp
   go_simp
   exact ⟨upd f 9 (.pointer (some ⟨mb,1,none⟩)),by simp [upd,g8],zaR (za HRR) 9 _ rfl (by decide)⟩
  | 10,ho =>
   obtain rfl:=Option.some.inj ho
   have g9:f 9 = .pointer (some ⟨mb,1,none⟩):=hR.c 9 (hall ⟨9,.data⟩ (by simp) rfl)
   have hbV:=hR.b (n18 (by omega))
   have cellV:∀ (p:Addr) u,X.cell? p = some u→V.cell? p = some u:=fun p u hu=>(hbV.cell (World.block_lt_of_cell? X _ hu)).trans hu
   have z1:=cellV ⟨mb,1,none⟩ _ (za HM1)
   have z2:=cellV ⟨mb,2,none⟩ _ (za HM2)
   clear hall hR hcl
   rw [if_pos (by rfl)]
   unfold Oper.wp
   go_simp
   exact ⟨upd f 10 (.agg #[.int .i64 next,.slice (some ⟨g,0,none⟩) l.length cap]),by simp [upd,g9],zaR (za HRR) 10 _ rfl (by decide)⟩
  | 11,ho =>
   obtain rfl:=Option.some.inj ho
   clear hall hR hcl
   rw [if_pos (by rfl)]
   unfold Oper.wp
   go_simp
   exact ⟨upd f 11 (.pointer (some ⟨w.heap.size,0,none⟩)),by simp [upd],zaR (za HRR) 11 _ rfl (by decide)⟩
  | 12,ho =>
   obtain rfl:=Option.some.inj ho
   have g11:f 11 = .pointer (some ⟨w.heap.size,0,none⟩):=hR.c 11 (hall ⟨11,.data⟩ (by simp) rfl)
   have hbV:=hR.b (n18 (by omega))
   have cellV:∀ (p:Addr) u,X.cell? p = some u→V.cell? p = some u:=fun p u hu=>(hbV.cell (World.block_lt_of_cell? X _ hu)).trans hu
   have z3:=cellV ⟨w.heap.size,0,none⟩ _ (za HK0)
   clear hall hR hcl
   rw [if_pos (by rfl)]
   unfold Oper.wp
   go_simp
   exact ⟨upd f 12 (.int .i64 id),by simp [upd,g11],zaR (za HRR) 12 _ rfl (by decide)⟩
  | 13,ho =>
   obtain rfl:=Option.some.inj ho
   have g10:f 10 = .agg #[.int .i64 next,.slice (some ⟨g,0,none⟩) l.length cap]:=hR.c 10 (hall ⟨10,.data⟩ (by simp) rfl)
   have g12:f 12 = .int .i64 id:=hR.c 12 (hall ⟨12,.data⟩ (by simp) rfl)
   have h18:=n18 (by omega)
   have HRV:=hide (zl (za HRD) (hR.b h18) (Nat.le_refl _))
   clear hall hR hcl
   rw [if_pos (by rfl)]
   unfold Oper.wp
   go_simp
   refine (zbo next _ l id V (za HRV)).mono ?_
   rw [za HPL]
   rintro e w4 ⟨rfl,hb4⟩
   exact ⟨upd f 13 (.int .i64 k),by simp [upd,g10,g12],zaR (rw_grow (za HRR) h18 hb4) 13 _ rfl (by decide)⟩
  | 14,ho =>
   obtain rfl:=Option.some.inj ho
   clear hall hR hcl
   rw [if_pos (by rfl)]
   unfold Oper.wp
   go_simp
   exact ⟨upd f 14 (.pointer (some ⟨w.heap.size,1,none⟩)),by simp [upd],zaR (za HRR) 14 _ rfl (by decide)⟩
  | 15,ho =>
   obtain rfl:=Option.some.inj ho
   have g14:f 14 = .pointer (some ⟨w.heap.size,1,none⟩):=hR.c 14 (hall ⟨14,.data⟩ (by simp) rfl)
   have hbV:=hR.b (n18 (by omega))
   have cellV:∀ (p:Addr) u,X.cell? p = some u→V.cell? p = some u:=fun p u hu=>(hbV.cell (World.block_lt_of_cell? X _ hu)).trans hu
   have z4:=cellV ⟨w.heap.size,1,none⟩ _ (za HK1c)
   clear hall hR hcl
   rw [if_pos (by rfl)]
   unfold Oper.wp
   go_simp
   exact ⟨upd f 15 (.int .i64 qty),by simp [upd,g14],zaR (za HRR) 15 _ rfl (by decide)⟩
  | 16,ho =>
   obtain rfl:=Option.some.inj ho
   have g5:f 5 = .slice (some ⟨g,0,none⟩) l.length cap:=hR.c 5 (hall ⟨5,.data⟩ (by simp) rfl)
   have g13:f 13 = .int .i64 k:=hR.c 13 (hall ⟨13,.data⟩ (by simp) rfl)
   clear hall hR hcl
   rw [if_pos (by rfl)]
   unfold Oper.wp
   go_simp
   exact ⟨upd f 16 (.pointer (some ⟨g,k * 6,none⟩)),by simp [upd,g5,g13],zaR (za HRR) 16 _ rfl (by decide)⟩
  | 17,ho =>
   obtain rfl:=Option.some.inj ho
   have g16:f 16 = .pointer (some ⟨g,k * 6,none⟩):=hR.c 16 (hall ⟨16,.data⟩ (by simp) rfl)
   clear hall hR hcl
   rw [if_pos (by rfl)]
   unfold Oper.wp
   go_simp
   exact ⟨upd f 17 (.pointer (some ⟨g,k * 6 + 3,none⟩)),by simp [upd,g16],zaR (za HRR) 17 _ rfl (by decide)⟩
  | 18,ho =>
   obtain rfl:=Option.some.inj ho
   have g17:f 17 = .pointer (some ⟨g,k * 6 + 3,none⟩):=hR.c 17 (hall ⟨17,.data⟩ (by simp) rfl)
   have g15:f 15 = .int .i64 qty:=hR.c 15 (hall ⟨15,.data⟩ (by simp) rfl)
   have hbV:=hR.b hxi
   have y3:=(hbV.cell (p:=⟨g,k * 6 + 3,none⟩) hgX).trans (za HG3)
   have q3:V.frozen? ⟨g,k * 6 + 3,none⟩ = false:=(World.frozen?_of_block (a:=⟨g,k * 6 + 3,none⟩) (hbV.block g hgX)).trans (za HF3)
   clear hall hR hcl
   rw [if_pos (by rfl)]
   unfold Oper.wp
   go_simp
   exact ⟨f,by simp [g17,g15],rw_last (za HRR) hxi (fun j hj hx=>by match j,hj with | 18,_=>trivial)⟩
  | i + 19,ho=>simp at ho
end Go.Proofs.YtopjoogdpjaocaaGreat
