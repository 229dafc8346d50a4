/-
  Regions in whatever order, twice: one whose last operation writes, and one in which a result's block is written while the others come up. No function walked.
-/
import Derived.Test.YtopjoogdpjaocaaGreatTj21
set_option linter.unusedVariables false
set_option maxHeartbeats 6400000
set_option maxRecDepth 100000
namespace Go.Proofs.YtopjoogdpjaocaaGreat
open Go.RowKit
def KB (R:Nat) (W W':World):Prop:=KeptBut R W.heap.size W W'
theorem kb_trans {R:Nat} {W W1 W2:World} (h1:KB R W W1) (h2:KB R W1 W2):KB R W W2 :=
 ⟨h2.os.trans h1.os,h2.tape.trans h1.tape,h2.output.trans h1.output,Nat.le_trans h1.size h2.size,fun k hk hm=>(h2.block k (Nat.lt_of_lt_of_le hk h1.size) hm).trans (h1.block k hk hm)⟩
theorem kb_below {R:Nat} {W W':World} (h:Below W.heap.size W W'):KB R W W':=⟨h.os,h.tape,h.output,h.size,fun k hk _=>h.block k hk⟩
theorem kb_setCells (R o:Nat) (vs:List Value) (W:World):KB R W (W.setCells R o vs) :=
 ⟨zco _ _ _ _,zbJ _ _ _ _,zbn _ _ _ _,by rw [zS]; exact Nat.le_refl _,fun k _ hm=>zaw _ _ hm _ _ _⟩
theorem kb_row {R B e sz n:Nat} {v:Value} {xs:List Value} {W W':World} (h:W.ownsRow B e sz v n xs) (hb:KB R W W') (hR:R < B):W'.ownsRow B e sz v n xs:=by
 refine ⟨h.1,?_⟩
 rcases h.2 with hn | ⟨g,cap,cur,rfl,hg,hgg,rest⟩
 ·exact .inl hn
 ·exact .inr ⟨g,cap,cur,rfl,hg,(hb.block g (Array.getElem?_eq_some_iff.1 hgg).1 (by omega)).trans hgg,rest⟩
theorem kb_cell {R:Nat} {W W':World} (hb:KB R W W') {p:Addr} {u:Value} (h:W.cell? p = some u) (hp:p.block ≠ R):W'.cell? p = some u :=
 (World.cell?_of_block (a:=p) (hb.block p.block (World.block_lt_of_cell? W _ h) hp)).trans h
theorem kb_range {R:Nat} {W W':World} (hb:KB R W W') {b o:Nat} {cs:List Value} (h:W.rangeAt b o cs) (hp:b ≠ R):W'.rangeAt b o cs:=fun j u hj=>kb_cell hb (h j u hj) hp
structure RX (C:World→Nat→Value→Prop) (R m st:Nat) (Rv:(Nat→Value)→List Value) (base:World) (x:List Bool) (f:Nat→Value) (W:World):Prop where
 k:KB R base W
 lt:R < base.heap.size
 t:W.there R 0 m
 c:∀ j,x[j]? = some true→C W j (f j)
 r:x[st]? = some true→W.rangeAt R 0 (Rv f)
def RXA (F:(Nat→Value)→Act) (C:World→Nat→Value→Prop) (R m st:Nat) (Rv:(Nat→Value)→List Value) (base:World) (x:List Bool) (A:Act) (W:World):Prop:=∃ f,A = F f∧RX C R m st Rv base x f W
section
variable {C:World→Nat→Value→Prop} {R m st:Nat} {Rv:(Nat→Value)→List Value} {base W W':World} {x:List Bool} {f:Nat→Value}
theorem rx_start {k:Nat} {f:Nat→Value} (hl:R < base.heap.size) (ht:base.there R 0 m):RX C R m st Rv base (List.replicate k false) f { base with drawn:=base.drawn + 1 } :=
 ⟨⟨rfl,rfl,rfl,Nat.le_refl _,fun _ _ _=>rfl⟩,hl,ht,fun j hj=>by rw [List.getElem?_replicate] at hj; split at hj <;> simp at hj,fun h=>by rw [List.getElem?_replicate] at h; split at h <;> simp at h⟩
theorem zae (h:RX C R m st Rv base x f W) (i:Nat) (v:Value) (his:i ≠ st) (hr:x[st]? = some true→Rv (upd f i v) = Rv f) (hv:C W i v):RX C R m st Rv base (x.set i true) (upd f i v) W:=by
 refine ⟨h.k,h.lt,h.t,fun j hj=>?_,fun e=>?_⟩
 ·by_cases hji:j = i
  ·subst hji; rw [zp]; exact hv
  ·rw [zq _ _ hji]; rw [gq (fun e=>hji e.symm)] at hj; exact h.c j hj
 ·rw [gq his] at e; rw [hr e]; exact h.r e
theorem rx_grow (hm:∀ W W' j v,KB R W W'→C W j v→C W' j v) (h:RX C R m st Rv base x f W) (hb:Below W.heap.size W W'):RX C R m st Rv base x f W' :=
 ⟨kb_trans h.k (kb_below hb),h.lt,zf h.t hb (Nat.lt_of_lt_of_le h.lt h.k.size),fun j hj=>hm _ _ _ _ (kb_below hb) (h.c j hj),fun e=>zb (h.r e) hb (Nat.lt_of_lt_of_le h.lt h.k.size)⟩
theorem rx_store (hm:∀ W W' j v,KB R W W'→C W j v→C W' j v) (h:RX C R m st Rv base x f W) (hx:x[st]? = some false) (hl:(Rv f).length = m) (hC:∀ W v,C W st v):RX C R m st Rv base (x.set st true) f (W.setCells R 0 (Rv f)):=by
 refine ⟨kb_trans h.k (kb_setCells _ _ _ _),h.lt,World.there_setCells h.t _ _ _,fun j hj=>?_,fun _=>World.rangeAt_setCells_same W R 0 _ (fun j hj=>h.t j (by omega))⟩
 by_cases hji:j = st
 ·subst hji; exact hC _ _
 ·rw [gq (fun e=>hji e.symm)] at hj; exact hm _ _ _ _ (kb_setCells _ _ _ _) (h.c j hj)
end
end Go.Proofs.YtopjoogdpjaocaaGreat
