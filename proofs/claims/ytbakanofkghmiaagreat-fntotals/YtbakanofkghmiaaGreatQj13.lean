/-
  A list without its front, again and again: the queue, as pure data; rows of orders, and what holds while a list without one of its orders is laid anew. No function walked.
-/
import Derived.Test.YtbakanofkghmiaaGreatQj12
import Derived.Laws.AppendOwnNone
import Derived.Laws.CopyOwn
set_option linter.unusedVariables false
set_option maxHeartbeats 6400000
set_option maxRecDepth 100000
namespace Go.Proofs.YtbakanofkghmiaaGreat
open Go.RowKit
abbrev ORow (W:World) (B:Nat) (v:Value) (l:List Od):Prop:=W.ownsRow B 49 6 v l.length (l.flatMap Od.vs)
theorem zN {W:World} {B:Nat} {v:Value} {l:List Od} (h:ORow W B v l) (hl:l.length ≤ 1073741824):RdR Od.vs 6 W v l:=cE (bK Od.len hl h)
theorem cy (w:World) (cs:List Value) (t:TypeId) (j:Nat) (u:Value) (h:cs[j]? = some u):(w.alloc (Obj.cells cs.toArray t)).cell? (((yq w 0):Addr).add j) = some u:=by
 rw [Addr.add_mid,cell_of_row _ w.heap.size (0 + j) cs.toArray t (0,0) (heap_alloc_new w _)]
 simpa using h
theorem cW {W:World} {g off:Nat} {l:List Od} (h:∀ i c,l[i]? = some c→W.rangeAt g (off + i * 6) c.vs) (a n:Nat):∀ j u,(((l.drop a).take n).flatMap Od.vs)[j]? = some u→W.cell? (((J g (off + a * 6)):Addr).add j) = some u:=by
 intro j u hu
 have xL:=(yH.1 hu).1
 rw [zK Od.len] at xL
 have hq:j / 6 < ((l.drop a).take n).length:=by omega
 obtain ⟨c,hc⟩:∃ c,((l.drop a).take n)[j / 6]? = some c:=⟨_,yI hq⟩
 have Q:=flat_get Od.len _ (j / 6) (j % 6) c hc (by omega)
 rw [show j / 6 * 6 + j % 6 = j by omega,hu] at Q
 have hc':l[a + j / 6]? = some c:=by
  rw [List.getElem?_take] at hc
  split at hc
  ·rw [List.getElem?_drop] at hc; exact hc
  ·cases hc
 have:=h _ c hc' (j % 6) u Q.symm
 rw [Addr.add_mid]
 rw [show off + (a + j / 6) * 6 + j % 6 = off + a * 6 + j by omega] at this
 exact this
theorem bB (l:List Od):∀ u ∈ l.flatMap Od.vs,u.oneCell' = true:=by
 intro u hu
 obtain ⟨o,_,Z⟩:=List.mem_flatMap.1 hu
 simp [Od.vs] at Z
 rcases Z with rfl | rfl | rfl | rfl | rfl | rfl <;> rfl
structure R7 (LV:Value) (W0:World) (C:Nat→Value→Prop) (L1 L2:List Od) (x:List Bool) (f:Nat→Value) (W:World):Prop where
 bel:Below W0.heap.size W0 W
 c:∀ j,x[j]? = some true→C j (f j)
 s5:x[10]? = some false→f 10 = LV
 m0:x[0]? = some true→x[4]? = some false→ORow W W0.heap.size (f 0) []
 m4:x[4]? = some true→x[9]? = some false→ORow W W0.heap.size (f 4) L1
 m9:x[9]? = some true→ORow W W0.heap.size (f 9) L2
 m10:x[10]? = some true→f 10 = f 9
 o4:x[4]? = some true→x[0]? = some true
 o9:x[9]? = some true→x[4]? = some true
 o10:x[10]? = some true→∀ j,j < 10→x[j]? = some true
theorem gq {x:List Bool} {i j:Nat} (h:i ≠ j):(x.set i true)[j]? = x[j]?:=yX h
theorem set_mono {x:List Bool} {i j:Nat} (h:x[j]? = some true):(x.set i true)[j]? = some true:=by
 by_cases pI:i = j
 ·subst pI; exact List.getElem?_set_self (yH.1 h).1
 ·rw [yX pI]; exact h
theorem gqs {x:List Bool} {i:Nat} (h:x[i]? = some false):(x.set i true)[i]? = some true:=List.getElem?_set_self (yH.1 h).1
section
variable {LV:Value} {W0 W W':World} {C:Nat→Value→Prop} {L1 L2:List Od} {x:List Bool} {f:Nat→Value}
theorem bw (h:R7 LV W0 C L1 L2 x f W) (i:Nat) (v:Value) (hv:C i v) (h0:i ≠ 0) (h4:i ≠ 4) (h9:i ≠ 9) (vQ:i ≠ 10):R7 LV W0 C L1 L2 (x.set i true) (upd f i v) W:=by
 refine ⟨h.bel,zy h.c hv,?_,?_,?_,?_,?_,?_,?_,?_⟩ <;> simp only [gq h0,gq h4,gq h9,gq vQ,zr f v h0.symm,zr f v h4.symm,zr f v h9.symm,zr f v vQ.symm]
 ·exact h.s5
 ·exact h.m0
 ·exact h.m4
 ·exact h.m9
 ·exact h.m10
 ·exact h.o4
 ·exact h.o9
 ·exact fun e j R=>set_mono (h.o10 e j R)
theorem no_of {b:Option Bool} (h:b = some false):b ≠ some true:=by rw [h]; simp
theorem r7_0 (h:R7 LV W0 C L1 L2 x f W) (h0:x[0]? = some false) (hv:∀ v,C 0 v):R7 LV W0 C L1 L2 (x.set 0 true) (upd f 0 (.slice (some (yq W 0)) 0 0)) (W.alloc (E #[] 49)):=by
 have n4:x[4]? ≠ some true:=fun e=>no_of h0 (h.o4 e)
 have n9:x[9]? ≠ some true:=fun e=>n4 (h.o9 e)
 have pU:x[10]? ≠ some true:=fun e=>n9 (h.o10 e 9 (by omega))
 refine ⟨h.bel.alloc h.bel.size _,zy h.c (hv _),?_,?_,?_,?_,?_,?_,?_,?_⟩ <;> try simp only [gq (show 0 ≠ 4 by decide),gq (show 0 ≠ 9 by decide),gq (show 0 ≠ 10 by decide),zr f _ (show 10 ≠ 0 by decide),zr f _ (show 9 ≠ 0 by decide),zr f _ (show 4 ≠ 0 by decide)]
 ·exact h.s5
 ·intro _ _; rw [zp]; exact World.ownsRow_made W #[] 0 h.bel.size (by decide) rfl
 ·exact fun e=>absurd e n4
 ·exact fun e=>absurd e n9
 ·exact fun e=>absurd e pU
 ·exact fun e=>absurd e n4
 ·exact h.o9
 ·exact fun e j R=>set_mono (h.o10 e j R)
theorem r7_4 (h:R7 LV W0 C L1 L2 x f W) (h0:x[0]? = some true) (h4:x[4]? = some false) (hv:∀ v,C 4 v) {v':Value} (Z:ORow W' W0.heap.size v' L1) (hg:W.grownBy W' (f 0).ownBlock):R7 LV W0 C L1 L2 (x.set 4 true) (upd f 4 v') W':=by
 have n9:x[9]? ≠ some true:=fun e=>no_of h4 (h.o9 e)
 have pU:x[10]? ≠ some true:=fun e=>n9 (h.o10 e 9 (by omega))
 refine ⟨h.bel.grown hg h.bel.size (fun k hk=>((h.m0 h0 h4).lt k hk).1),zy h.c (hv _),?_,?_,?_,?_,?_,?_,?_,?_⟩ <;> try simp only [gq (show 4 ≠ 0 by decide),gq (show 4 ≠ 9 by decide),gq (show 4 ≠ 10 by decide),zr f _ (show 10 ≠ 4 by decide),zr f _ (show 9 ≠ 4 by decide),zr f _ (show 0 ≠ 4 by decide)]
 ·exact h.s5
 ·intro _ e; rw [gqs h4] at e; cases e
 ·intro _ _; rw [zp]; exact Z
 ·exact fun e=>absurd e n9
 ·exact fun e=>absurd e pU
 ·exact fun _=>h0
 ·exact fun e=>absurd e n9
 ·exact fun e j R=>set_mono (h.o10 e j R)
theorem r7_9 (h:R7 LV W0 C L1 L2 x f W) (h4:x[4]? = some true) (h9:x[9]? = some false) (hv:∀ v,C 9 v) {v':Value} (Z:ORow W' W0.heap.size v' L2) (hg:W.grownBy W' (f 4).ownBlock):R7 LV W0 C L1 L2 (x.set 9 true) (upd f 9 v') W':=by
 have pU:x[10]? ≠ some true:=fun e=>no_of h9 (h.o10 e 9 (by omega))
 refine ⟨h.bel.grown hg h.bel.size (fun k hk=>((h.m4 h4 h9).lt k hk).1),zy h.c (hv _),?_,?_,?_,?_,?_,?_,?_,?_⟩ <;> try simp only [gq (show 9 ≠ 0 by decide),gq (show 9 ≠ 4 by decide),gq (show 9 ≠ 10 by decide),zr f _ (show 10 ≠ 9 by decide),zr f _ (show 4 ≠ 9 by decide),zr f _ (show 0 ≠ 9 by decide)]
 ·exact h.s5
 ·exact fun _ e=>absurd e (by rw [h4]; simp)
 ·intro _ e; rw [gqs h9] at e; cases e
 ·intro _; rw [zp]; exact Z
 ·exact fun e=>absurd e pU
 ·exact h.o4
 ·exact fun _=>h4
 ·exact fun e=>absurd e pU
theorem r7_10 (h:R7 LV W0 C L1 L2 x f W) (hA:∀ j,j < 10→x[j]? = some true) (vQ:x[10]? = some false) (hv:∀ v,C 10 v):R7 LV W0 C L1 L2 (x.set 10 true) (upd f 10 (f 9)) W:=by
 refine ⟨h.bel,zy h.c (hv _),?_,?_,?_,?_,?_,?_,?_,?_⟩ <;> try simp only [gq (show 10 ≠ 0 by decide),gq (show 10 ≠ 4 by decide),gq (show 10 ≠ 9 by decide),zr f _ (show 9 ≠ 10 by decide),zr f _ (show 4 ≠ 10 by decide),zr f _ (show 0 ≠ 10 by decide)]
 ·intro e; rw [gqs vQ] at e; cases e
 ·exact h.m0
 ·exact h.m4
 ·exact h.m9
 ·exact fun _=>zp _ _ _
 ·exact h.o4
 ·exact h.o9
 ·exact fun _ j R=>set_mono (hA j R)
end
def C7 (LV:Value) (g n cp i:Nat):Nat→Value→Prop
 | 1,v=>v = LV
 | 2,v=>v = H i
 | 3,v=>v = .slice (some (J g 0)) i cp
 | 5,v=>v = LV
 | 6,v=>v = H i
 | 7,v=>v = H ((i:Int) + 1)
 | 8,v=>∃ ad c,v = .slice (some ad) (n - (i + 1)) c∧(i + 1 < n→ad = (J g ((i + 1) * 6)))
 | _,_=>True
def R7A (LV:Value) (W0:World) (C:Nat→Value→Prop) (L1 L2:List Od) (ty:(Nat→Value)→Act) (x:List Bool) (xn:Act) (W:World):Prop:=∃ f,xn = ty f∧R7 LV W0 C L1 L2 x f W
theorem dr {W:World} {B:Nat} {v:Value} {l:List Od} (h:ORow W B v l) (xB:l ≠ []):∃ g A,v = .slice (some (J g 0)) l.length A∧l.length ≤ A∧B ≤ g∧g < W.heap.size:=by
 rcases h.2 with ⟨rfl,h0⟩ | ⟨g,A,xu,rfl,X,hg,vW,_⟩
 ·exact absurd (List.length_eq_zero_iff.1 h0) xB
 ·exact ⟨g,A,rfl,vW,X,(yZ.1 hg).1⟩
def SlOk (v:Value):Prop:=v = .slice none 0 0 ∨ ∃ ad n c,v = .slice (some ad) n c
theorem oRow_sl {W:World} {B:Nat} {v:Value} {l:List Od} (h:ORow W B v l):SlOk v:=by
 rcases h.2 with ⟨Q,_⟩ | ⟨g,A,xu,Q,_⟩
 ·exact .inl Q
 ·exact .inr ⟨_,_,_,Q⟩
theorem rd_src {W:World} {ad:Addr} {A:Nat} {l:List Od} (hr:RdR Od.vs 6 W (.slice (some ad) l.length A) l):∀ j u,(l.flatMap Od.vs)[j]? = some u→W.cell? (ad.add j) = some u:=by
 intro j u hu
 obtain ⟨a',pB,e1,_,hc⟩:=hr
 simp only [Value.slice.injEq] at e1
 have xB:l ≠ []:=by rintro rfl; simp at hu
 obtain ⟨b,off,e2,X,xp⟩:=hc xB
 rw [e2] at e1
 simp only [Option.some.injEq] at e1
 obtain ⟨rfl,-,-⟩:=e1
 have h:=cW (W:=W) (g:=b) (off:=off) (l:=l) xp 0 l.length j u (by simpa using hu)
 simpa using h
theorem rd_lenF {W:World} {v:Value} {l:List Od} (h:RdR Od.vs 6 W v l):∃ a c,v = .slice a l.length c:=by
 obtain ⟨a,c,Q,_⟩:=h; exact ⟨a,c,Q⟩
theorem zE {W:World} {b c o k j:Nat} {u:Value} (h:W.there b o k):(W.setCell (J c j) u).there b o k:=xc (vs:=[u]) h c j
theorem bM {W:World} {B:Nat} {v:Value} {l:List Od} (h:ORow W B v l) {b:Nat} (X:b < B) (o:Nat) (u:Value):ORow (W.setCell (J b o) u) B v l :=
 ownsRow_setCell_below h (a:=(J b o)) X u
theorem copy_mid {w W2 w3:World} {S:Nat} {v3 sv:Value} {next:Int} {l:List Od} (hS:S = w.heap.size) (Q:Below S w W2) (N:W2.heap.size = S + 2) (h3:W2.rangeAt S 0 [H next,sv]) (h4:W2.there S 0 2) (h5:W2.there (S + 1) 0 2) (hl:l.length ≤ 1000)
  (h6:w3.ownsRow (S + 2) 49 6 v3 (0 + l.length) ([] ++ l.flatMap Od.vs)) (h7:W2.grownBy w3 (Value.slice none 0 0).ownBlock) :
  ∃ a3 c3,v3 = .slice a3 l.length c3∧ORow w3 (S + 2) v3 l∧w3.cell? (J S 0) = some (H next)∧w3.cell? (J S 1) = some sv∧w3.frozen? (J S 1) = false∧w3.there (S + 1) 0 2∧Below S w w3∧S + 2 ≤ w3.heap.size:=by
 have h6':ORow w3 (S + 2) v3 l:=by
  show w3.ownsRow _ _ _ _ l.length _
  simpa using h6
 obtain ⟨a3,c3,e⟩:=rd_lenF (zN h6' (by omega))
 have r:=zu h3 h7 (by omega) (by simp [Value.ownBlock])
 refine ⟨a3,c3,e,h6',r 0 _ rfl,r 1 _ rfl,?_,bH h5 h7 (by omega) (by simp [Value.ownBlock]),Q.grown h7 (by omega) (fun k hk=>by simp [Value.ownBlock] at hk),by have:=h7.size; omega⟩
 have:=(bH h4 h7 (by omega) (by simp [Value.ownBlock]) 1 (by omega)).2
 rwa [Nat.zero_add] at this
theorem copyBook_any (next:Int) (v:Value) (l:List Od) (w:World) (hr:RdR Od.vs 6 w v l) (hs:SlOk v) (hn:l.length ≤ 1000) :
  Calls Tryz.prog 41 #[.agg #[H next,v]] w fun e w'=>∃ v',e = ym (.agg #[H next,v'])∧ORow w' w.heap.size v' l∧yn w w':=by
 have HR:=Y hr
 obtain ⟨i0,uG,uF,uI,uT⟩:=info_parts Tryz.infoOrder
 obtain ⟨a,A,rfl,xG,hc⟩:=hr
 have xC:=zh w (E #[H next,.slice a l.length A] 28)
 have ua:((w.alloc (E #[H next,.slice a l.length A] 28)).alloc (E #[H 0,.slice none 0 0] 28)).heap.size = w.heap.size + 2:=by rw [zh,xC]
 have t1:=zw w [H next,.slice a l.length A] 28
 have r1:=zi w [H next,.slice a l.length A] 28
 have b1:Below (w.heap.size + 1) (w.alloc (E #[H next,.slice a l.length A] 28)) ((w.alloc (E #[H next,.slice a l.length A] 28)).alloc (E #[H 0,.slice none 0 0] 28)):=(Below.refl _ _).alloc (by rw [xC]; omega) _
 have t2:=zw (w.alloc (E #[H next,.slice a l.length A] 28)) [H 0,.slice none 0 0] 28
 rw [xC] at t2
 have HX:Hid (_∧_∧_):=⟨zb r1 b1 (by omega),zg t1 b1 (by omega),t2⟩
 have uO:Hid (yn w ((w.alloc (E #[H next,.slice a l.length A] 28)).alloc (E #[H 0,.slice none 0 0] 28))):=(eE _ _).alloc (by rw [xC]; omega) _
 have qw:=Y ua
 clear hc t1 r1 b1 t2 xC ua
 go_enter Tryz.func41,Tryz.ntmps41
 rcases hs with hs | ⟨ad,nn,cc,hs⟩
 ·simp only [Value.slice.injEq] at hs
  obtain ⟨rfl,pL,rfl⟩:=hs
  obtain rfl:=List.length_eq_zero_iff.1 pL
  go_wp2_with (at_builtin; go_must (refine wpList_append_own_none rfl _ _ 26 rfl (w.heap.size + 2) 49 i0 6 Tryz.underlying26 uG (.slice none 0 0) 0 [] rfl (World.ownsRow_nil _ _ _ _) rfl ?_))
  go_returns
  refine ⟨_,rfl,World.ownsRow_nil _ _ _ _,?_⟩
  go_grown
 ·simp only [Value.slice.injEq] at hs
  obtain ⟨rfl,rfl,rfl⟩:=hs
  have vh:Hid (∀ j u,(l.flatMap Od.vs)[j]? = some u→World.cell? (((w.alloc (E #[H next,.slice (some ad) l.length A] 28)).alloc (E #[H 0,.slice none 0 0] 28))) (ad.add j) = some u):=rd_src (zn (U HR) (U uO) tg)
  go_wp2_with (at_builtin; go_must (refine wpList_append_own _ rfl _ _ 26 rfl (w.heap.size + 2) 49 i0 _ 6 56 Tryz.underlying26 uG uF uI uT rfl (by decide) (.slice none 0 0) 0 [] rfl (World.ownsRow_nil _ _ _ _) ad l.length A (l.flatMap Od.vs) rfl (by rw [zK Od.len]) (U vh) (bB l) (by unfold maxLen; omega) (by omega) (by rw [U qw]; omega) ?_); intro v3 w3 hown3 uY _; obtain ⟨a3,c3,rfl,ho3,c0,c1,f1,ht3,um,jd⟩:=copy_mid rfl (U uO) (U qw) (U HX).1 (U HX).2.1 (U HX).2.2 hn hown3 uY; have qA:=Y ho3; have jT:=Y ht3; have xQ:=Y um; obtain ⟨v0,z0,q0⟩:=zG ht3 0 (by omega); obtain ⟨v1,z1,q1⟩:=zG ht3 1 (by omega); clear ho3 ht3 um hown3 uY)
  have z0:w3.cell? (J (w.heap.size + 1) 0) = some v0:=z0
  have z1:w3.cell? (J (w.heap.size + 1) 1) = some v1:=by rw [Nat.zero_add] at z1; exact z1
  have q0:w3.frozen? (J (w.heap.size + 1) 0) = false:=q0
  have q1:w3.frozen? (J (w.heap.size + 1) 1) = false:=by rw [Nat.zero_add] at q1; exact q1
  have jE:=Y (yY (w3.setCell (yq w 1) (.slice a3 l.length c3)) (w.heap.size + 1) 0 [H next,.slice a3 l.length c3] (fun j R=>(zE (U jT)) j R))
  have HOX:=Y (bM (bM (bM (U qA) (b:=w.heap.size) (by omega) 1 (.slice a3 l.length c3)) (b:=w.heap.size + 1) (by omega) 0 (H next)) (b:=w.heap.size + 1) (by omega) 1 (.slice a3 l.length c3))
  have uA:=Y ((((U xQ).setCell (p:=(yq w 1)) tg (.slice a3 l.length c3)).setCell (p:=(J (w.heap.size + 1) 0)) (by simp) (H next)).setCell (p:=(J (w.heap.size + 1) 1)) (by simp) (.slice a3 l.length c3))
  go_wp2_with fail
  have jE:Hid (World.rangeAt (((w3.setCell (yq w 1) (.slice a3 l.length c3)).setCell (J (w.heap.size + 1) 0) (H next)).setCell (J (w.heap.size + 1) 1) (.slice a3 l.length c3)) (w.heap.size + 1) 0 [H next,.slice a3 l.length c3]):=U jE
  generalize (((w3.setCell (yq w 1) (.slice a3 l.length c3)).setCell (J (w.heap.size + 1) 0) (H next)).setCell (J (w.heap.size + 1) 1) (.slice a3 l.length c3)) = WE at jE HOX uA ⊢
  have d0:WE.cell? (J (w.heap.size + 1) 0) = some (H next):=U jE 0 _ rfl
  have d1:WE.cell? (J (w.heap.size + 1) 1) = some (.slice a3 l.length c3):=U jE 1 _ rfl
  try simp only [Exit.inBlock,Exit.then]
  refine bodyPost_ret (by simp [results,Tryz.results41,go_sem,d0,d1]; try rfl) rfl ?_
  exact ⟨_,rfl,cj (U HOX) (by omega),U uA⟩
theorem ey {P:Program} {w:World} {ops:Array Oper} {rest:List Oper} {o:Oper} {a:Act} {h1:Exit→Act→World→Prop} (hgd:o.guard = none) (s x:Operand) (t:TypeId)
  (Z:o.op = .call { callee:=.builtin .append,args:=#[s,x],argTypes:=#[t,t] })
  (e:TypeId) (i:TypeInfo) (size:Nat) (ht:P.underlying t = some (.slice e)) (hi:P.info? e = some i) (hsize:i.size = size)
  (g pX sCap:Nat) (xu:Array Value) (hg:w.heap[g]? = some (.cells xu e (0,0))) (hs:a.eval s = .slice (some (J g 0)) pX sCap)
  (ad:Addr) (m c:Nat) (news:List Value) (hx:a.eval x = .slice (some ad) m c) (hl:news.length = m * size) (hnews:∀ j u,news[j]? = some u→w.cell? (ad.add j) = some u) (Q:∀ u ∈ news,u.oneCell' = true)
  (hroom:pX + m ≤ sCap) (ky:pX * size + news.length ≤ xu.size)
  (h:wpList P ops h1 rest (a.put o.dst (.slice (some (J g 0)) (pX + m) sCap)) (w.setRow g (xu.toList.take (pX * size) ++ news ++ xu.toList.drop (pX * size + news.length)).toArray)):wpList P ops h1 (o :: rest) a w:=by
 subst hsize
 refine wpList_plain hgd fun hR hK=>?_
 have hrun:=run_append_room (P:=P) w t o.type e i ht hi g pX sCap xu hg ad m c news hl hnews Q hroom ky
 unfold Oper.wp execOp
 simp only [Z,resolve,invoke,builtin,Sem.run_bind,Sem.run_pure,Result.andThen_ok,List.map_toArray,List.map_cons,List.map_nil,hs,hx,hrun]
 exact hK _ _ h
theorem clear_row {P:Program} (w:World) (T F e:TypeId) (i:TypeInfo) (z:Value) (ht:P.underlying T = some (.slice e)) (hi:P.info? e = some i) (hz:i.zero = some z) (g o c:Nat) (xu:Array Value) (hg:w.heap[g]? = some (.cells xu e (0,0)))
  (ky:o + z.cells.toList.length ≤ xu.size) (Q:∀ v ∈ z.cells.toList,v.oneCell' = true) :
  (Builtin.clear_ #[T] F #[.slice (some (J g o)) 1 c]).run P w = .ok (.tuple #[]) (w.setRow g (xu.toList.take o ++ z.cells.toList ++ xu.toList.drop (o + z.cells.toList.length)).toArray):=by
 have qr:=run_storeCells_at P g o e z.cells.toList 0 xu w hg (by simpa using ky) Q
 simp only [Nat.add_zero] at qr
 have hzc:(Builtin.zeroCells z.cells 1).toList = z.cells.toList:=by
  refine List.ext_getElem (by simp [Builtin.zeroCells]) fun j Q N=>?_
  have R:j < z.cells.size:=by simpa using N
  simp [Builtin.zeroCells,Nat.mod_eq_of_lt R,R]
 simp [Builtin.clear_,run_underlying ht,zeroValue,typeInfo,hi,hz,hzc,qr]
abbrev zOdL:List Value:=(yw 0 0 0 0 0 ⟨#[]⟩)
theorem row_gone {xu:Array Value} {l:List Od} {i m A:Nat} {zs:List Value} (hl:l.length = i + 1 + m) (hc:l.length ≤ A) (hs:xu.size = A * 6) (ht:xu.toList.take (l.length * 6) = l.flatMap Od.vs) (hz:zs.length = 6) :
  (((xu.toList.take (i * 6) ++ (l.drop (i + 1)).flatMap Od.vs ++ xu.toList.drop (i * 6 + m * 6)).take ((i + m) * 6) ++ zs ++ (xu.toList.take (i * 6) ++ (l.drop (i + 1)).flatMap Od.vs ++ xu.toList.drop (i * 6 + m * 6)).drop ((i + m) * 6 + zs.length)).take ((i + m) * 6) = (l.take i ++ l.drop (i + 1)).flatMap Od.vs) ∧
  (xu.toList.take (i * 6) ++ (l.drop (i + 1)).flatMap Od.vs ++ xu.toList.drop (i * 6 + m * 6)).length = A * 6:=by
 have xp:xu.toList.length = A * 6:=by simpa using hs
 have hdl:((l.drop (i + 1)).flatMap Od.vs).length = m * 6:=by rw [zK Od.len,List.length_drop]; congr 1; omega
 have hti:xu.toList.take (i * 6) = (l.take i).flatMap Od.vs:=by
  have h:=congrArg (List.take (i * 6)) ht
  rw [List.take_take,show min (i * 6) (l.length * 6) = i * 6 by omega] at h
  rw [h]
  conv=>lhs; rw [← List.take_append_drop i l,List.flatMap_append]
  rw [List.take_append_of_le_length (by rw [zK Od.len,List.length_take]; omega),xa (by rw [zK Od.len,List.length_take]; omega)]
 have xG:(xu.toList.take (i * 6) ++ (l.drop (i + 1)).flatMap Od.vs).length = (i + m) * 6:=by
  rw [yQ,hdl,List.length_take,xp]; omega
 refine ⟨?_,?_⟩
 ·rw [List.append_assoc ((List.take _ _)),List.take_append_of_le_length (by rw [List.length_take,yQ,xG,List.length_drop,xp]; omega),List.take_take,Nat.min_self,List.take_append_of_le_length (by rw [xG]; omega),xa (by rw [xG]; omega),hti,List.flatMap_append]
 ·rw [yQ,xG,List.length_drop,xp]; omega
theorem delete_any (g i m A B:Nat) (xu:Array Value) (l:List Od) (w:World) (hl:l.length = i + 1 + m) (hn:l.length ≤ 1000) (hg:w.heap[g]? = some (.cells xu 49 (0,0))) (vW:l.length ≤ A) (hmx:A ≤ maxLen) (qW:xu.size = A * 6) (oS:xu.toList.take (l.length * 6) = l.flatMap Od.vs) (hB:B ≤ g) :
  Calls Tryz.prog 154 #[.slice (some (J g 0)) (i + 1 + m) A,H i,H ((i:Int) + 1)] w fun e w'=>e = ym (.slice (some (J g 0)) (i + m) A)∧ORow w' B (.slice (some (J g 0)) (i + m) A) (l.take i ++ l.drop (i + 1))∧w.grownBy w' (some g):=by
 obtain ⟨i0,uG,uF,uI,uT⟩:=info_parts Tryz.infoOrder
 have HG:=Y hg
 have HRC:Hid (∀ j c,l[j]? = some c→w.drew.rangeAt g (0 + j * 6) c.vs):=by
  have Z:ORow w B (.slice (some (J g 0)) l.length A) l:=⟨by rw [zK Od.len],.inr ⟨g,A,xu,rfl,hB,hg,vW,hmx,qW,oS⟩⟩
  obtain ⟨a',c',e,_,h⟩:=zN Z (by omega)
  intro j c R
  obtain ⟨b',uM,e2,_,h⟩:=h (by intro h; rw [h] at R; simp at R)
  rw [e2] at e
  simp only [Value.slice.injEq,Option.some.injEq,Addr.mk.injEq,and_true,true_and] at e
  obtain ⟨⟨rfl,rfl⟩,-⟩:=e
  exact h j c R
 have HTK:=Y oS
 have HSZ:=Y qW
 have HL:=Y hl
 have Q:(i:Int) + 1 ≤ (i:Int) + 1 + m:=by omega
 have N:(i:Int) + 1 + m ≤ A:=by omega
 have h3:(0:Int) ≤ i:=by omega
 have h4:(i:Int) ≤ (i:Int) + 1:=by omega
 have h5:(0:Int) ≤ (i:Int) + 1:=by omega
 have h6:(i:Int) ≤ A:=by omega
 have b1:((i:Int) == (i:Int) + 1) = false:=by rw [xe]; omega
 clear hg oS qW hl
 go_enter Tryz.func154,Tryz.ntmps154
 go_wp2_with fail
 refine ei 6 (by kernel_rfl) (by kernel_rfl) ?_
 simp only [yU,List.take_zero,yV,List.drop_zero]
 by_cases hcc:A = i + 1
 ·have hm0:m = 0:=by have:=U HL; omega
  subst hm0
  subst hcc
  repeat still_step
  refine wpStill_nil ?_
  refine ey rfl (.tmp 22) (.tmp 25) 26 rfl 49 i0 6 Tryz.underlying26 uG uI g i (i + 1) xu (U HG) rfl (J g 0) 0 0 ((l.drop (i + 1)).flatMap Od.vs) rfl (by rw [zK Od.len,List.length_drop]; congr 1; have:=U HL; omega) (by rw [xb (by have:=U HL; omega)]; simp) (bB _) (by omega) (by rw [zK Od.len,List.length_drop,U HSZ]; have:=U HL; omega) ?_
  have hdl:((l.drop (i + 1)).flatMap Od.vs).length = 0 * 6:=by rw [zK Od.len,List.length_drop]; congr 1; have:=U HL; omega
  rw [hdl]
  obtain ⟨oO,qR⟩:=row_gone (zs:=zOdL) (U HL) vW (U HSZ) (U HTK) rfl
  have oC:=Y oO
  generalize hC1:(xu.toList.take (i * 6) ++ (l.drop (i + 1)).flatMap Od.vs ++ xu.toList.drop (i * 6 + 0 * 6)) = C1 at oC qR ⊢
  have hx1:(w.drew.setRow g C1.toArray).heap[g]? = some (.cells C1.toArray 49 (0,0)):=setRow_heap w.drew g xu C1.toArray 49 (0,0) (U HG)
  have kB:Hid (w.grownBy (w.drew.setRow g C1.toArray) (some g)):=⟨rfl,rfl,rfl,by simp,fun k hk xB=>setRow_other w.drew g k C1.toArray (fun e=>xB (by rw [e]))⟩
  have jG:=Y hx1
  clear hx1 hC1 oO hdl
  generalize w.drew.setRow g C1.toArray = X1 at jG kB ⊢
  have xp:∀ (F:TypeId) (c:Nat),(Builtin.clear_ #[26] F #[.slice (some (J g (i * 6))) 1 c]).run Tryz.prog X1 = .ok (.tuple #[]) (X1.setRow g (C1.take (i * 6) ++ zOdL ++ C1.drop (i * 6 + 6)).toArray):=fun F c=>by
   have:=clear_row X1 26 F 49 i0 _ Tryz.underlying26 uG uF g (i * 6) c C1.toArray (U jG) (by show i * 6 + 6 ≤ C1.toArray.size; rw [List.size_toArray,qR]; omega) (by simp [Value.cells,Value.oneCell'])
   simpa [Value.cells] using this
  have HX2:=Y (setRow_heap X1 g C1.toArray (C1.take (i * 6) ++ zOdL ++ C1.drop (i * 6 + 6)).toArray 49 (0,0) (U jG))
  have uP:Hid (w.grownBy (X1.setRow g (C1.take (i * 6) ++ zOdL ++ C1.drop (i * 6 + 6)).toArray) (some g)):=(U kB).trans ⟨rfl,rfl,rfl,by simp,fun k hk xB=>setRow_other X1 g k _ (fun e=>xB (by rw [e]))⟩
  generalize hC2:(C1.take (i * 6) ++ zOdL ++ C1.drop (i * 6 + 6)).toArray = C2 at xp HX2 uP
  have pZ:=Y hC2
  have jQ:=Y qR
  clear hC2
  have k1:¬ i + 1 = i:=by omega
  have k2:i + 1 - i = 1:=by omega
  clear qR
  go_wp2_with fail
  go_ret
  have pN:(l.take i ++ l.drop (i + 1)).length = i + 0:=by have:=U HL; simp; omega
  refine ⟨rfl,⟨by rw [zK Od.len],.inr ⟨g,i + 1,_,by rw [pN],hB,U HX2,by rw [pN]; omega,hmx,?_,?_⟩⟩,U uP⟩
  ·rw [← U pZ]; simp [U jQ]; omega
  ·rw [pN,← U pZ]; simpa using U oC
 ·repeat still_step
  refine wpStill_nil ?_
  refine ey rfl (.tmp 22) (.tmp 25) 26 rfl 49 i0 6 Tryz.underlying26 uG uI g i A xu (U HG) rfl (J g ((i + 1) * 6)) m (A - (i + 1)) ((l.drop (i + 1)).flatMap Od.vs) rfl (by rw [zK Od.len,List.length_drop]; congr 1; have:=U HL; omega) (by have h:=cW (W:=w.drew) (g:=g) (off:=0) (l:=l) (U HRC) (i + 1) l.length; rw [xa (by rw [List.length_drop]; omega),Nat.zero_add] at h; exact h) (bB _) (by omega) (by rw [zK Od.len,List.length_drop,U HSZ]; have:=U HL; omega) ?_
  have hdl:((l.drop (i + 1)).flatMap Od.vs).length = m * 6:=by rw [zK Od.len,List.length_drop]; congr 1; have:=U HL; omega
  rw [hdl]
  obtain ⟨oO,qR⟩:=row_gone (zs:=zOdL) (U HL) vW (U HSZ) (U HTK) rfl
  have oC:=Y oO
  generalize hC1:(xu.toList.take (i * 6) ++ (l.drop (i + 1)).flatMap Od.vs ++ xu.toList.drop (i * 6 + m * 6)) = C1 at oC qR ⊢
  have hx1:(w.drew.setRow g C1.toArray).heap[g]? = some (.cells C1.toArray 49 (0,0)):=setRow_heap w.drew g xu C1.toArray 49 (0,0) (U HG)
  have kB:Hid (w.grownBy (w.drew.setRow g C1.toArray) (some g)):=⟨rfl,rfl,rfl,by simp,fun k hk xB=>setRow_other w.drew g k C1.toArray (fun e=>xB (by rw [e]))⟩
  have jG:=Y hx1
  clear hx1 hC1 oO hdl
  generalize w.drew.setRow g C1.toArray = X1 at jG kB ⊢
  have xp:∀ (F:TypeId) (c:Nat),(Builtin.clear_ #[26] F #[.slice (some (J g ((i + m) * 6))) 1 c]).run Tryz.prog X1 = .ok (.tuple #[]) (X1.setRow g (C1.take ((i + m) * 6) ++ zOdL ++ C1.drop ((i + m) * 6 + 6)).toArray):=fun F c=>by
   have:=clear_row X1 26 F 49 i0 _ Tryz.underlying26 uG uF g ((i + m) * 6) c C1.toArray (U jG) (by show (i + m) * 6 + 6 ≤ C1.toArray.size; rw [List.size_toArray,qR]; omega) (by simp [Value.cells,Value.oneCell'])
   simpa [Value.cells] using this
  have HX2:=Y (setRow_heap X1 g C1.toArray (C1.take ((i + m) * 6) ++ zOdL ++ C1.drop ((i + m) * 6 + 6)).toArray 49 (0,0) (U jG))
  have uP:Hid (w.grownBy (X1.setRow g (C1.take ((i + m) * 6) ++ zOdL ++ C1.drop ((i + m) * 6 + 6)).toArray) (some g)):=(U kB).trans ⟨rfl,rfl,rfl,by simp,fun k hk xB=>setRow_other X1 g k _ (fun e=>xB (by rw [e]))⟩
  generalize hC2:(C1.take ((i + m) * 6) ++ zOdL ++ C1.drop ((i + m) * 6 + 6)).toArray = C2 at xp HX2 uP
  have pZ:=Y hC2
  have jQ:=Y qR
  clear hC2
  have k1:¬ A = i + m:=by have:=U HL; omega
  have k2:i + 1 + m - (i + m) = 1:=by omega
  have k3:(i:Int) + m ≤ (i:Int) + 1 + m:=by omega
  have k4:(0:Int) ≤ (i:Int) + m:=by omega
  clear qR
  go_wp2_with fail
  go_ret
  have pN:(l.take i ++ l.drop (i + 1)).length = i + m:=by have:=U HL; simp; omega
  refine ⟨rfl,⟨by rw [zK Od.len],.inr ⟨g,A,_,by rw [pN],hB,U HX2,by rw [pN]; omega,hmx,?_,?_⟩⟩,U uP⟩
  ·rw [← U pZ]; simp [U jQ]; omega
  ·rw [pN,← U pZ]; simpa using U oC
theorem flat_set {α:Type} {f:α→List Value} {sz:Nat} (hf:∀ c,(f c).length = sz):∀ (l:List α) (i j:Nat) (c c':α) (u:Value),l[i]? = some c→j < sz→f c' = (f c).set j u→(l.flatMap f).set (i * sz + j) u = (l.set i c').flatMap f
 | [],_,_,_,_,_,h,_,_=>by simp at h
 | a :: l,0,j,c,c',u,h,R,hc=>by
  simp at h; subst h
  rw [List.set_cons_zero,List.flatMap_cons,List.flatMap_cons,hc,Nat.zero_mul,Nat.zero_add,List.set_append_left _ _ (by rw [hf]; exact R)]
 | a :: l,i + 1,j,c,c',u,h,R,hc=>by
  simp at h
  rw [List.set_cons_succ,List.flatMap_cons,List.flatMap_cons,← flat_set hf l i j c c' u h R hc,List.set_append_right _ _ (by rw [hf,Nat.add_mul]; omega),hf]
  congr 2
  rw [Nat.add_mul]; omega
def aM (l:List Od) (k:Nat) (c:Od) (qty:Int):List Od:=if c.left = qty then l.take k ++ l.drop (k + 1) else l.set k { c with left:=c.left - qty }
structure TookAt (p o:Nat) (G:Option Nat) (w w':World):Prop where
 os:w'.os = w.os
 tape:w'.tape = w.tape
 output:w'.output = w.output
 size:w.heap.size ≤ w'.heap.size
 block:∀ k,k < w.heap.size→k ≠ p→some k ≠ G→w'.heap[k]? = w.heap[k]?
 cell:∀ j,j ≠ o + 1→w'.cell? ⟨p,j,none⟩ = w.cell? ⟨p,j,none⟩
 frozen:∀ j,w'.frozen? ⟨p,j,none⟩ = w.frozen? ⟨p,j,none⟩
 kind:∀ cur t x,w.heap[p]? = some (.cells cur t x)→∃ cur',w'.heap[p]? = some (.cells cur' t x)
theorem zO (w:World) (p o:Nat) (u:Value) {xu:Array Value} {t:TypeId} {x:Nat × Nat} (h:w.heap[p]? = some (.cells xu t x)):∃ cur',(w.setCell (J p o) u).heap[p]? = some (.cells cur' t x):=by
 simp [World.setCell,Array.getElem?_modify,h]
theorem zv {W:World} {B e sz n:Nat} {v:Value} {xs:List Value} (h:W.ownsRow B e sz v n xs) {b:Nat} (X:some b ≠ v.ownBlock) (o:Nat) (u:Value):(W.setCell (J b o) u).ownsRow B e sz v n xs :=
 h.kept (row:=some b) ⟨rfl,rfl,rfl,by simp [World.setCell],fun k _ hk=>yT _ _ _ _ (fun e=>hk (by rw [e]))⟩ (.inr (Ne.symm X))
theorem bI {p o:Nat} {G:Option Nat} {w w':World} (h:w.grownBy w' G) (hp:p < w.heap.size) (xB:some p ≠ G):TookAt p o G w w' :=
 ⟨h.os,h.tape,h.output,h.size,fun k hk _ hG=>h.block k hk hG,fun j _=>yR (a:=(J p j)) (h.block p hp xB),fun j=>World.frozen?_of_block (a:=(J p j)) (h.block p hp xB),fun xu t x hh=>⟨xu,(h.block p hp xB).trans hh⟩⟩
theorem ch {p o:Nat} {G:Option Nat} {w w1 w2:World} (Q:TookAt p o G w w1) (N:TookAt p o G w1 w2):TookAt p o G w w2 :=
 ⟨N.os.trans Q.os,N.tape.trans Q.tape,N.output.trans Q.output,yO Q.size N.size,fun k hk hp hG=>(N.block k (yK hk Q.size) hp hG).trans (Q.block k hk hp hG),fun j R=>(N.cell j R).trans (Q.cell j R),fun j=>(N.frozen j).trans (Q.frozen j),fun xu t x hh=>by obtain ⟨c1,h3⟩:=Q.kind xu t x hh; exact N.kind c1 t x h3⟩
theorem db {p o:Nat} {G:Option Nat} (w:World) (u:Value):TookAt p o G w (w.setCell (J p (o + 1)) u) :=
 ⟨rfl,rfl,rfl,by simp [World.setCell],fun k _ hp _=>yT _ _ _ _ hp,fun j R=>yM _ _ _ _ (zQ (fun e=>R e.symm)),fun j=>World.frozen?_setCell _ _ _ _,fun xu t x hh=>zO w p (o + 1) u hh⟩
theorem zm {W W':World} {B:Nat} {v:Value} {l:List Od} (h:ORow W B v l) (X:yn W W'):ORow W' B v l :=
 World.ownsRow.kept h (row:=none) (aW X tg) (by cases v.ownBlock <;> simp)
theorem oRow_left {W:World} {B g n A k:Nat} {l:List Od} {c:Od} (h:ORow W B (.slice (some (J g 0)) n A) l) (hn:l.length = n) (hk:l[k]? = some c) (x:Int) :
  ORow (W.setCell (J g (k * 6 + 3)) (H x)) B (.slice (some (J g 0)) n A) (l.set k { c with left:=x })∧W.grownBy (W.setCell (J g (k * 6 + 3)) (H x)) (some g):=by
 subst hn
 have s:=World.ownsRow.stored h (k * 6 + 3) (H x)
 refine ⟨?_,s.2⟩
 have e:=flat_set Od.len l k 3 c { c with left:=x } (H x) hk (by omega) rfl
 show World.ownsRow _ _ _ _ _ (l.set k _).length _
 rw [List.length_set,← e]; exact s.1
theorem takeFrom_any (p o B:Nat) (next id qty:Int) (vq:Value) (l:List Od) (k:Nat) (c:Od) (w:World) (c0:w.cell? (J p o) = some (H next)) (c1:w.cell? (J p (o + 1)) = some vq) (f1:w.frozen? (J p (o + 1)) = false)
  (Z:ORow w B vq l) (hp:some p ≠ vq.ownBlock) (hpw:p < w.heap.size) (hB:B ≤ w.heap.size) (hn:l.length ≤ 1000) (hk:plc l id = k) (hc:l[k]? = some c) (jp:0 ≤ qty) (jq:qty ≤ c.left) (xp:c.left ≤ 1000000) :
  Calls Tryz.prog 117 #[I p o,H id,H qty] w fun e w'=>∃ vu,e = ym (.tuple #[])∧w'.cell? (J p (o + 1)) = some vu∧ORow w' B vu (aM l k c qty)∧TookAt p o vq.ownBlock w w':=by
 have xB:l ≠ []:=by rintro rfl; simp at hc
 have kN:=(yH.1 hc).1
 have HO:=Y Z
 obtain ⟨g,A,rfl,vW,hBg,hgw⟩:=dr Z xB
 have HK:=Y hk
 have HC:=Y hc
 clear Z hk hc xB
 go_enter Tryz.func117,Tryz.ntmps117
 go_wp2_with fail
 refine (dJ next _ l id w (zN (U HO) (by omega))).mono ?_
 rintro e w1 ⟨rfl,xV⟩
 rw [U HK]
 have xU:=Y xV
 have vn:=Y (zm (U HO) xV)
 have d1:w1.cell? (J p (o + 1)) = some (.slice (some (J g 0)) l.length A):=(xV.cell (p:=(J p (o + 1))) hpw).trans c1
 have e1:w1.frozen? (J p (o + 1)) = false:=(xV.frozen (p:=(J p (o + 1))) hpw).trans f1
 have hsz1:=xV.size
 obtain ⟨a',cp',ee,_,hcl1⟩:=zN (U vn) (by omega)
 obtain ⟨b',uM,e2,_,hcl1⟩:=hcl1 (by intro h; rw [h] at kN; simp at kN)
 rw [e2] at ee
 simp only [Value.slice.injEq,Option.some.injEq,Addr.mk.injEq,and_true,true_and] at ee
 obtain ⟨⟨rfl,rfl⟩,-⟩:=ee
 have hcc:=hcl1 k c (U HC)
 rw [Nat.zero_add] at hcc
 obtain ⟨-,-,-,y3,-⟩:=zF hcc
 have fz:=World.ownsRow.frozenAt (U vn) (k * 6 + 3)
 have kX:(k:Int) < l.length:=by omega
 have hk0:(0:Int) ≤ k:=by omega
 have hwr:IntKind.i64.wrap (c.left - qty) = c.left - qty:=by rw [IntKind.wrap_i64]; omega
 have hpg:p ≠ g:=by simpa [Value.ownBlock] using hp
 have HS:=Y (oRow_left (U vn) rfl (U HC) (c.left - qty))
 have d2:(w1.setCell (J g (k * 6 + 3)) (H (c.left - qty))).cell? (J p (o + 1)) = some (.slice (some (J g 0)) l.length A):=(yM _ _ _ _ (fun e=>hpg (by have:=congrArg Addr.block e; simpa using this.symm))).trans d1
 have d3:(w1.setCell (J g (k * 6 + 3)) (H (c.left - qty))).cell? (J g (k * 6 + 3)) = some (H (c.left - qty)):=yN _ _ _ y3
 have d4:(w1.setCell (J g (k * 6 + 3)) (H (c.left - qty))).frozen? (J p (o + 1)) = false:=(World.frozen?_setCell _ _ _ _).trans e1
 clear xV hcc hcl1 c0 c1 f1
 by_cases hz:c.left = qty
 ·have uF:c.left - qty = 0:=by omega
  have HH:Hid (aM l k c qty = l.take k ++ l.drop (k + 1)):=if_pos hz
  obtain ⟨m,hm⟩:∃ m,l.length = k + 1 + m:=⟨l.length - (k + 1),by omega⟩
  have pN:(l.set k { c with left:=c.left - qty }).length = k + 1 + m:=by rw [List.length_set,hm]
  have hdel:(l.set k { c with left:=c.left - qty }).take k ++ (l.set k { c with left:=c.left - qty }).drop (k + 1) = l.take k ++ l.drop (k + 1):=by
   rw [List.take_set_of_le tg,List.drop_set_of_lt (by omega)]
  have HDEL:=Y hdel
  have HM:=Y hm
  have hb0:(c.left - qty == 0) = true:=by rw [beq_iff_eq]; exact uF
  obtain ⟨-,N | ⟨g',pB,xu,N,h3,h4,h5,h6,h7,h8⟩⟩:=(U HS).1
  ·simp at N
  simp only [Value.slice.injEq,Option.some.injEq,Addr.mk.injEq,and_true] at N
  obtain ⟨rfl,h9,rfl⟩:=N
  have HDC:Hid (Calls Tryz.prog 154 #[.slice (some (J g 0)) (k + 1 + m) A,H k,H ((k:Int) + 1)] (w1.setCell (J g (k * 6 + 3)) (H (c.left - qty))) _):=delete_any g k m A B xu (l.set k { c with left:=c.left - qty }) _ pN (by rw [List.length_set]; exact hn) h4 h5 h6 h7 h8 hBg
  have uP:=Y (U HS).2
  have hw1:p < (w1.setCell (J g (k * 6 + 3)) (H (c.left - qty))).heap.size:=by simp [World.setCell]; omega
  clear hdel hz pN h3 h4 h5 h6 h7 h8 h9 vW uF
  rw [hm] at d1 d2 kX ⊢
  clear hm
  go_wp2_with fail
  refine (U HDC).mono ?_
  rw [U HDEL]
  rintro e w3 ⟨rfl,ho3,uY⟩
  have s1:=uY.cell d2 (by simpa using hpg)
  have s2:w3.frozen? (J p (o + 1)) = false:=(World.frozen?_of_block (a:=(J p (o + 1))) (uY.block p hw1 (by simpa using hpg))).trans d4
  have qA:=Y ho3
  have qh:=Y uY
  clear ho3 uY
  go_wp2_with fail
  go_end0
  refine ⟨_,rfl,yN _ _ _ s1,?_,?_⟩
  ·rw [U HH]
   exact zv (U qA) (by simpa [Value.ownBlock] using hpg) (o + 1) _
  ·exact ch (ch (ch (bI (aW (U xU) tg) hpw (by simpa [Value.ownBlock] using hpg)) (bI (U uP) (by omega) (by simpa [Value.ownBlock] using hpg))) (bI (U qh) hw1 (by simpa [Value.ownBlock] using hpg))) (db _ _)
 ·have uF:(c.left - qty == 0) = false:=by rw [xe]; omega
  have HH:Hid (aM l k c qty = l.set k { c with left:=c.left - qty }):=if_neg hz
  go_wp2_with fail
  go_end0
  refine ⟨_,rfl,d2,by rw [U HH]; exact (U HS).1,?_⟩
  exact ch (bI (aW (U xU) tg) hpw (by simpa [Value.ownBlock] using hpg)) (bI (U HS).2 (by omega) (by simpa [Value.ownBlock] using hpg))
def RT (B0:World→Prop) (ty:(Nat→Value)→Act) (k h:Nat) (xk:Prop→Prop→World→Nat→Value→Prop) (x:List Bool) (xn:Act) (W:World):Prop :=
 ∃ f,xn = ty f∧(¬ x[k]? = some true→B0 W)∧∀ j,x[j]? = some true→xk (x[k]? = some true) (x[h]? = some true) W j (f j)
section
variable {B0:World→Prop} {W W':World} {k h:Nat} {xk:Prop→Prop→World→Nat→Value→Prop} {x:List Bool} {f:Nat→Value}
theorem zx (hh:∀ j,x[j]? = some true→xk (x[k]? = some true) (x[h]? = some true) W j (f j)) {i:Nat} (hik:i ≠ k) (hih:i ≠ h) (hm:∀ j v,xk (x[k]? = some true) (x[h]? = some true) W j v→xk (x[k]? = some true) (x[h]? = some true) W' j v) (hB:¬ x[k]? = some true→B0 W') {v:Value} (hv:xk (x[k]? = some true) (x[h]? = some true) W' i v) :
  (¬ (x.set i true)[k]? = some true→B0 W')∧∀ j,(x.set i true)[j]? = some true→xk ((x.set i true)[k]? = some true) ((x.set i true)[h]? = some true) W' j (upd f i v j):=by
 rw [yX hik,yX hih]
 refine ⟨hB,fun j R=>?_⟩
 by_cases hji:j = i
 ·subst hji; rw [zp]; exact hv
 ·rw [zr _ _ hji]
  rw [yX (fun e=>hji e.symm)] at R
  exact hm _ _ (hh j R)
theorem rt_one (hkh:k ≠ h) (hh:∀ j,x[j]? = some true→xk (x[k]? = some true) (x[h]? = some true) W j (f j)) (hk:x[k]? = some false) (hn:¬ x[h]? = some true) (hm:∀ j v,j ≠ k→xk False False W j v→xk True False W' j v) {v:Value} (hv:xk True False W' k v) :
  (¬ (x.set k true)[k]? = some true→B0 W')∧∀ j,(x.set k true)[j]? = some true→xk ((x.set k true)[k]? = some true) ((x.set k true)[h]? = some true) W' j (upd f k v j):=by
 have e:((x.set k true)[k]? = some true) = True:=by
  rw [List.getElem?_set_self (yH.1 hk).1]; simp
 have e2:((x.set k true)[h]? = some true) = False:=by
  rw [yX hkh]; exact eq_false hn
 have e3:(x[h]? = some true) = False:=eq_false hn
 have e4:(x[k]? = some true) = False:=by rw [hk]; simp
 rw [e,e2]
 refine ⟨fun h=>absurd trivial h,fun j R=>?_⟩
 by_cases hji:j = k
 ·subst hji; rw [zp]; exact hv
 ·rw [zr _ _ hji]
  rw [yX (fun e=>hji e.symm)] at R
  have:=hh j R
  rw [e3,e4] at this
  exact hm j _ hji this
theorem rt_two (hkh:h ≠ k) (hh:∀ j,x[j]? = some true→xk (x[k]? = some true) (x[h]? = some true) W j (f j)) (hk:x[k]? = some true) (hn:x[h]? = some false) (hm:∀ j,j ≠ h→x[j]? = some true→xk True False W j (f j)→xk True True W' j (f j)) {v:Value} (hv:xk True True W' h v) :
  (¬ (x.set h true)[k]? = some true→B0 W')∧∀ j,(x.set h true)[j]? = some true→xk ((x.set h true)[k]? = some true) ((x.set h true)[h]? = some true) W' j (upd f h v j):=by
 have e:((x.set h true)[h]? = some true) = True:=by
  rw [List.getElem?_set_self (yH.1 hn).1]; simp
 have e2:((x.set h true)[k]? = some true) = True:=by
  rw [yX hkh,hk]; simp
 have e3:(x[h]? = some true) = False:=by rw [hn]; simp
 have e4:(x[k]? = some true) = True:=by rw [hk]; simp
 rw [e,e2]
 refine ⟨fun h=>absurd trivial h,fun j R=>?_⟩
 by_cases hji:j = h
 ·subst hji; rw [zp]; exact hv
 ·rw [zr _ _ hji]
  rw [yX (fun e=>hji e.symm)] at R
  have:=hh j R
  rw [e3,e4] at this
  exact hm j hji R this
end
end Go.Proofs.YtbakanofkghmiaaGreat
