/-
  The engine's state in its block: the groups so far, the book, the totals, the open group; and what telling an event and closing a group make of it. Proved from the methods' walks.
-/
import Derived.Test.YtaoaomipplmjcaaDj34
namespace Go.Proofs.Ytaoaomipplmjcaa
open Go.RowKit
set_option linter.unusedVariables false

theorem rowE_setCells {B e sz n b:Nat} {v:Value} {xs:List Value} (hb:some b ≠ v.ownBlock):∀ (vs:List Value) (o:Nat) (W:World),W.ownsRow B e sz v n xs→(W.setCells b o vs).ownsRow B e sz v n xs
 | [],_,_,h=>h
 | u :: us,o,W,h=>by rw [World.setCells]; exact rowE_setCells hb us (o + 1) _ (zl h hb o u)
theorem kind_setC (W:World) (b:Nat) {T:TypeId} {y:Nat × Nat}:∀ (vs:List Value) (o:Nat) {cur:Array Value},W.heap[b]? = some (.cells cur T y)→∃ cur',(W.setCells b o vs).heap[b]? = some (.cells cur' T y):=by
 intro vs
 induction vs generalizing W with
 | nil=>intro o cur h; exact ⟨cur,h⟩
 | cons u us ih =>
  intro o cur h
  rw [World.setCells]
  obtain ⟨c1,h1⟩:=zE W b o u h
  exact ih _ (o + 1) h1
theorem set_os (W:World) (a:Addr) (u:Value):(W.setCell a u).os = W.os:=rfl
theorem set_tape (W:World) (a:Addr) (u:Value):(W.setCell a u).tape = W.tape:=rfl
theorem set_output (W:World) (a:Addr) (u:Value):(W.setCell a u).output = W.output:=rfl
theorem zbF (b:Nat):∀ (vs:List Value) (o:Nat) (W:World),(W.setCells b o vs).os = W.os
 | [],_,_=>rfl
 | u :: us,o,W=>by rw [World.setCells,zbF b us (o + 1)]; rfl
theorem zbg (b:Nat):∀ (vs:List Value) (o:Nat) (W:World),(W.setCells b o vs).tape = W.tape
 | [],_,_=>rfl
 | u :: us,o,W=>by rw [World.setCells,zbg b us (o + 1)]; rfl
theorem zaG (b:Nat):∀ (vs:List Value) (o:Nat) (W:World),(W.setCells b o vs).output = W.output
 | [],_,_=>rfl
 | u :: us,o,W=>by rw [World.setCells,zaG b us (o + 1)]; rfl
theorem zbb (b k:Nat) (hk:k ≠ b):∀ (vs:List Value) (o:Nat) (W:World),(W.setCells b o vs).heap[k]? = W.heap[k]?
 | [],_,_=>rfl
 | u :: us,o,W=>by rw [World.setCells,zbb b k hk us (o + 1)]; exact Below.heap_setCell _ _ _ _ hk
def Apt (Bo:Nat) (gs:List Value):Prop:=(∀ g ∈ gs,∀ b,g.ownBlock = some b→b < Bo)∧gs.Pairwise fun g g'=>∀ b b',g.ownBlock = some b→g'.ownBlock = some b'→b < b'
structure EnS (mb B Bo:Nat) (W:World) (gv:Value) (gs:List Value) (gl:List (List Ev)) (next:Int) (vq:Value) (l:List Od) (t:Tot) (vo:Value) (ts:List Ev):Prop where
 cells:W.rangeAt mb 0 [gv,.int .i64 next,vq,.int .i64 t.gr,.int .i64 t.ac,.int .i64 t.rf,.int .i64 t.tr,.int .i64 t.vo,.int .i64 t.no,.int .i64 t.li,.int .i64 t.le,vo]
 there:W.there mb 0 12
 grow:GRow W B gv gs
 glen:gs.length = gl.length
 geach:∀ (i:Nat) (g:Value) (es:List Ev),gs[i]? = some g→gl[i]? = some es→ERow W B g es
 glt:Apt Bo gs
 orow:ORow W B vq l
 erow:ERow W Bo vo ts
 box:∃ cur,W.heap[mb]? = some (.cells cur 49 (0,0))
 bo:B ≤ Bo
 le:Bo ≤ W.heap.size
section
variable {mb B Bo:Nat} {W w':World} {gv:Value} {gs:List Value} {gl:List (List Ev)} {next:Int} {vq:Value} {l:List Od} {t:Tot} {vo:Value} {ts:List Ev}
theorem EnS.lt (h:EnS mb B Bo W gv gs gl next vq l t vo ts):mb < W.heap.size:=by
 obtain ⟨cur,h⟩:=h.box
 exact (Array.getElem?_eq_some_iff.1 h).1
theorem EnS.apart (h:EnS mb B Bo W gv gs gl next vq l t vo ts) {g:Value} (hg:g ∈ gs):g.ownBlock = none ∨ g.ownBlock ≠ vo.ownBlock:=by
 cases e:g.ownBlock with
 | none=>exact .inl rfl
 | some b =>
  refine .inr fun e'=>?_
  have h1:=h.glt.1 g hg b e
  have h2:=(h.erow.lt b e'.symm).1
  omega
theorem ens_told (h:EnS mb B Bo W gv gs gl next vq l t vo ts) {vo':Value} {ts':List Ev} (hc:w'.cell? ⟨mb,11,none⟩ = some vo') (he:ERow w' Bo vo' ts') (ht:TookAt mb 10 vo.ownBlock W w'):EnS mb B Bo w' gv gs gl next vq l t vo' ts':=by
 have hcell:∀ j,j ≠ 11→w'.cell? ⟨mb,j,none⟩ = W.cell? ⟨mb,j,none⟩:=fun j hj=>ht.cell j (by omega)
 refine ⟨?_,fun j hj=>⟨?_,?_⟩,zT h.grow ht (zh h.grow h.box (by decide)) (zC h.grow h.erow (by decide)),h.glen,?_,h.glt,zT h.orow ht (zh h.orow h.box (by decide)) (zC h.orow h.erow (by decide)),he,?_,h.bo,Nat.le_trans h.le ht.size⟩
 ·intro j u hj
  by_cases h11:j = 11
  ·subst h11; cases hj; rw [Nat.zero_add]; exact hc
  ·rw [Nat.zero_add,hcell j h11]
   have:W.cell? ⟨mb,0 + j,none⟩ = some u:=h.cells j u (by
    match j,hj with
    | 0,hj | 1,hj | 2,hj | 3,hj | 4,hj | 5,hj | 6,hj | 7,hj | 8,hj | 9,hj | 10,hj=>exact hj
    | 11,hj=>exact absurd rfl h11
    | j + 12,hj=>simp at hj)
   rwa [Nat.zero_add] at this
 ·by_cases h11:j = 11
  ·subst h11; rw [Nat.zero_add,hc]; rfl
  ·rw [Nat.zero_add,hcell j h11]; have:=(h.there j hj).1; rwa [Nat.zero_add] at this
 ·rw [Nat.zero_add,ht.frozen]; have:=(h.there j hj).2; rwa [Nat.zero_add] at this
 ·intro i g es hg hes
  have hr:=h.geach i g es hg hes
  exact zT hr ht (zh hr h.box (by decide)) (h.apart (List.mem_of_getElem? hg))
 ·obtain ⟨cur,hb⟩:=h.box
  exact ht.kind _ _ _ hb
end
theorem zal {mb B Bo:Nat} {gv:Value} {gs:List Value} {gl:List (List Ev)} {next:Int} {vq:Value} {l:List Od} {t:Tot} {vo:Value} {ts:List Ev} (e:Ev) (w:World) (h:EnS mb B Bo w gv gs gl next vq l t vo ts) (hn:ts.length ≤ 1000) :
  Calls Try.prog 23 #[.pointer (some ⟨mb,0,none⟩),.agg #[.int .i64 e.kind,.int .i64 e.cmd.k,.int .i64 e.cmd.s,.int .i64 e.cmd.t,.int .i64 e.cmd.l,.int .i64 e.cmd.q,.int .i64 e.cmd.i,.float .f64 e.cmd.p,.string e.cmd.g,.int .i64 e.id,.int .i64 e.other,.int .i64 e.qty,.int .i64 e.price,.int .i64 e.reason]] w fun r w'=>r = .returned (.tuple #[])∧(∃ vo',EnS mb B Bo w' gv gs gl next vq l t vo' (ts ++ [e]))∧KeptBut mb B w w'∧TookAt mb 10 vo.ownBlock w w':=by
 refine (tell_any mb Bo vo ts e w (h.cells 11 _ rfl) ?_ h.box h.erow h.le hn).mono ?_
 ·have:=(h.there 11 (by omega)).2; rwa [Nat.zero_add] at this
 ·rintro r w' ⟨vo',rfl,hc,he,ht⟩
  exact ⟨rfl,⟨vo',ens_told h hc he ht⟩,zat ht (Nat.le_trans h.bo h.le) (fun g hg=>Nat.le_trans h.bo (h.erow.lt g hg).1),ht⟩
end Go.Proofs.Ytaoaomipplmjcaa
