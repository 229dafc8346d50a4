/-
  An order taken out of a row, by the program's library: proved by walking the function.
-/
import Derived.Test.YtbakanofkghmiaaGreatTj14
import Derived.Laws.CopyOwn
set_option linter.unusedVariables false
set_option maxHeartbeats 6400000
set_option maxRecDepth 100000
namespace Go.Proofs.YtbakanofkghmiaaGreat
open Go.RowKit
theorem di {P:Program} {w:World} {ops:Array Oper} {rest:List Oper} {o:Oper} {a:Act} {h1:Exit→Act→World→Prop} (hgd:o.guard = none) (s x:Operand) (t:TypeId)
  (Z:o.op = .call { callee:=.builtin .append,args:=#[s,x],argTypes:=#[t,t] })
  (e:TypeId) (i:TypeInfo) (size:Nat) (ht:P.underlying t = some (.slice e)) (hi:P.info? e = some i) (hsize:i.size = size)
  (g px sCap:Nat) (xp:Array Value) (hg:w.heap[g]? = some (.cells xp e (0,0))) (hs:a.eval s = .slice (some (J g 0)) px sCap)
  (ad:Addr) (m c:Nat) (news:List Value) (hx:a.eval x = .slice (some ad) m c) (hl:news.length = m * size) (hnews:∀ j u,news[j]? = some u→w.cell? (ad.add j) = some u) (Q:∀ u ∈ news,u.oneCell' = true)
  (hroom:px + m ≤ sCap) (kb:px * size + news.length ≤ xp.size)
  (h:wpList P ops h1 rest (a.put o.dst (.slice (some (J g 0)) (px + m) sCap)) (w.setRow g (xp.toList.take (px * size) ++ news ++ xp.toList.drop (px * size + news.length)).toArray)):wpList P ops h1 (o :: rest) a w:=by
 subst hsize
 refine wpList_plain hgd fun tg hK=>?_
 have hrun:=run_append_room (P:=P) w t o.type e i ht hi g px sCap xp hg ad m c news hl hnews Q hroom kb
 unfold Oper.wp execOp
 simp only [Z,resolve,invoke,builtin,Sem.run_bind,Sem.run_pure,Result.andThen_ok,List.map_toArray,List.map_cons,List.map_nil,hs,hx,hrun]
 exact hK _ _ h
theorem clear_row {P:Program} (w:World) (T ty e:TypeId) (i:TypeInfo) (z:Value) (ht:P.underlying T = some (.slice e)) (hi:P.info? e = some i) (hz:i.zero = some z) (g o c:Nat) (xp:Array Value) (hg:w.heap[g]? = some (.cells xp e (0,0)))
  (kb:o + z.cells.toList.length ≤ xp.size) (Q:∀ v ∈ z.cells.toList,v.oneCell' = true) :
  (Builtin.clear_ #[T] ty #[.slice (some (J g o)) 1 c]).run P w = .ok (.tuple #[]) (w.setRow g (xp.toList.take o ++ z.cells.toList ++ xp.toList.drop (o + z.cells.toList.length)).toArray):=by
 have vy:=run_storeCells_at P g o e z.cells.toList 0 xp w hg (by simpa using kb) Q
 simp only [Nat.add_zero] at vy
 have hzc:(Builtin.zeroCells z.cells 1).toList = z.cells.toList:=by
  refine List.ext_getElem (by simp [Builtin.zeroCells]) fun j Q N=>?_
  have R:j < z.cells.size:=by simpa using N
  simp [Builtin.zeroCells,Nat.mod_eq_of_lt R,R]
 simp [Builtin.clear_,run_underlying ht,zeroValue,typeInfo,hi,hz,hzc,vy]
abbrev zOdL:List Value:=(yu 0 0 0 0 0 ⟨#[]⟩)
theorem row_gone {xp:Array Value} {l:List Od} {i m E:Nat} {zs:List Value} (hl:l.length = i + 1 + m) (hc:l.length ≤ E) (hs:xp.size = E * 6) (ht:xp.toList.take (l.length * 6) = l.flatMap Od.vs) (hz:zs.length = 6) :
  (((xp.toList.take (i * 6) ++ (l.drop (i + 1)).flatMap Od.vs ++ xp.toList.drop (i * 6 + m * 6)).take ((i + m) * 6) ++ zs ++ (xp.toList.take (i * 6) ++ (l.drop (i + 1)).flatMap Od.vs ++ xp.toList.drop (i * 6 + m * 6)).drop ((i + m) * 6 + zs.length)).take ((i + m) * 6) = (l.take i ++ l.drop (i + 1)).flatMap Od.vs) ∧
  (xp.toList.take (i * 6) ++ (l.drop (i + 1)).flatMap Od.vs ++ xp.toList.drop (i * 6 + m * 6)).length = E * 6:=by
 have L:xp.toList.length = E * 6:=by simpa using hs
 have hdl:((l.drop (i + 1)).flatMap Od.vs).length = m * 6:=by rw [zH Od.len,List.length_drop]; congr 1; omega
 have hti:xp.toList.take (i * 6) = (l.take i).flatMap Od.vs:=by
  have h:=congrArg (List.take (i * 6)) ht
  rw [List.take_take,show min (i * 6) (l.length * 6) = i * 6 by omega] at h
  rw [h]
  conv=>lhs; rw [← List.take_append_drop i l,List.flatMap_append]
  rw [List.take_append_of_le_length (by rw [zH Od.len,List.length_take]; omega),yX (by rw [zH Od.len,List.length_take]; omega)]
 have xB:(xp.toList.take (i * 6) ++ (l.drop (i + 1)).flatMap Od.vs).length = (i + m) * 6:=by
  rw [yN,hdl,List.length_take,L]; omega
 refine ⟨?_,?_⟩
 ·rw [List.append_assoc ((List.take _ _)),List.take_append_of_le_length (by rw [List.length_take,yN,xB,List.length_drop,L]; omega),List.take_take,Nat.min_self,List.take_append_of_le_length (by rw [xB]; omega),yX (by rw [xB]; omega),hti,List.flatMap_append]
 ·rw [yN,xB,List.length_drop,L]; omega
theorem delete_any (g i m E B:Nat) (xp:Array Value) (l:List Od) (w:World) (hl:l.length = i + 1 + m) (hn:l.length ≤ 1000) (hg:w.heap[g]? = some (.cells xp 49 (0,0))) (vO:l.length ≤ E) (hmx:E ≤ maxLen) (qM:xp.size = E * 6) (oy:xp.toList.take (l.length * 6) = l.flatMap Od.vs) (hB:B ≤ g) :
  Calls Tryz.prog 154 #[.slice (some (J g 0)) (i + 1 + m) E,H i,H ((i:Int) + 1)] w fun e w'=>e = yl (.slice (some (J g 0)) (i + m) E)∧ORow w' B (.slice (some (J g 0)) (i + m) E) (l.take i ++ l.drop (i + 1))∧w.grownBy w' (some g):=by
 obtain ⟨i0,uz,uA,uF,uR⟩:=info_parts Tryz.infoOrder
 have HG:=Y hg
 have HRC:Hid (∀ j c,l[j]? = some c→w.drew.rangeAt g (0 + j * 6) c.vs):=by
  have Z:ORow w B (.slice (some (J g 0)) l.length E) l:=⟨by rw [zH Od.len],.inr ⟨g,E,xp,rfl,hB,hg,vO,hmx,qM,oy⟩⟩
  obtain ⟨a',c',e,_,h⟩:=zK Z (by omega)
  intro j c R
  obtain ⟨b',uG,e2,_,h⟩:=h (by intro h; rw [h] at R; simp at R)
  rw [e2] at e
  simp only [Value.slice.injEq,Option.some.injEq,Addr.mk.injEq,and_true,true_and] at e
  obtain ⟨⟨rfl,rfl⟩,-⟩:=e
  exact h j c R
 have HTK:=Y oy
 have HSZ:=Y qM
 have HL:=Y hl
 have Q:(i:Int) + 1 ≤ (i:Int) + 1 + m:=by omega
 have N:(i:Int) + 1 + m ≤ E:=by omega
 have h3:(0:Int) ≤ i:=by omega
 have h4:(i:Int) ≤ (i:Int) + 1:=by omega
 have h5:(0:Int) ≤ (i:Int) + 1:=by omega
 have h6:(i:Int) ≤ E:=by omega
 have b1:((i:Int) == (i:Int) + 1) = false:=by rw [xb]; omega
 clear hg oy qM hl
 go_enter Tryz.func154,Tryz.ntmps154
 go_wp2_with fail
 refine db 6 (by kernel_rfl) (by kernel_rfl) ?_
 simp only [yR,List.take_zero,yS,List.drop_zero]
 by_cases hcc:E = i + 1
 ·have hm0:m = 0:=by have:=U HL; omega
  subst hm0
  subst hcc
  repeat still_step
  refine wpStill_nil ?_
  refine di rfl (.tmp 22) (.tmp 25) 26 rfl 49 i0 6 Tryz.underlying26 uz uF g i (i + 1) xp (U HG) rfl (J g 0) 0 0 ((l.drop (i + 1)).flatMap Od.vs) rfl (by rw [zH Od.len,List.length_drop]; congr 1; have:=U HL; omega) (by rw [yY (by have:=U HL; omega)]; simp) (aA _) (by omega) (by rw [zH Od.len,List.length_drop,U HSZ]; have:=U HL; omega) ?_
  have hdl:((l.drop (i + 1)).flatMap Od.vs).length = 0 * 6:=by rw [zH Od.len,List.length_drop]; congr 1; have:=U HL; omega
  rw [hdl]
  obtain ⟨ol,qI⟩:=row_gone (zs:=zOdL) (U HL) vO (U HSZ) (U HTK) rfl
  have kV:=Y ol
  generalize hC1:(xp.toList.take (i * 6) ++ (l.drop (i + 1)).flatMap Od.vs ++ xp.toList.drop (i * 6 + 0 * 6)) = C1 at kV qI ⊢
  have hx1:(w.drew.setRow g C1.toArray).heap[g]? = some (.cells C1.toArray 49 (0,0)):=setRow_heap w.drew g xp C1.toArray 49 (0,0) (U HG)
  have kh:Hid (w.grownBy (w.drew.setRow g C1.toArray) (some g)):=⟨rfl,rfl,rfl,by simp,fun k hk xA=>setRow_other w.drew g k C1.toArray (fun e=>xA (by rw [e]))⟩
  have jS:=Y hx1
  clear hx1 hC1 ol hdl
  generalize w.drew.setRow g C1.toArray = X1 at jS kh ⊢
  have L:∀ (ty:TypeId) (c:Nat),(Builtin.clear_ #[26] ty #[.slice (some (J g (i * 6))) 1 c]).run Tryz.prog X1 = .ok (.tuple #[]) (X1.setRow g (C1.take (i * 6) ++ zOdL ++ C1.drop (i * 6 + 6)).toArray):=fun ty c=>by
   have:=clear_row X1 26 ty 49 i0 _ Tryz.underlying26 uz uA g (i * 6) c C1.toArray (U jS) (by show i * 6 + 6 ≤ C1.toArray.size; rw [List.size_toArray,qI]; omega) (by simp [Value.cells,Value.oneCell'])
   simpa [Value.cells] using this
  have HX2:=Y (setRow_heap X1 g C1.toArray (C1.take (i * 6) ++ zOdL ++ C1.drop (i * 6 + 6)).toArray 49 (0,0) (U jS))
  have uI:Hid (w.grownBy (X1.setRow g (C1.take (i * 6) ++ zOdL ++ C1.drop (i * 6 + 6)).toArray) (some g)):=(U kh).trans ⟨rfl,rfl,rfl,by simp,fun k hk xA=>setRow_other X1 g k _ (fun e=>xA (by rw [e]))⟩
  generalize hC2:(C1.take (i * 6) ++ zOdL ++ C1.drop (i * 6 + 6)).toArray = C2 at L HX2 uI
  have HC2:=Y hC2
  have jE:=Y qI
  clear hC2
  have k1:¬ i + 1 = i:=by omega
  have k2:i + 1 - i = 1:=by omega
  clear qI
  go_wp2_with fail
  go_ret
  have po:(l.take i ++ l.drop (i + 1)).length = i + 0:=by have:=U HL; simp; omega
  refine ⟨rfl,⟨by rw [zH Od.len],.inr ⟨g,i + 1,_,by rw [po],hB,U HX2,by rw [po]; omega,hmx,?_,?_⟩⟩,U uI⟩
  ·rw [← U HC2]; simp [U jE]; omega
  ·rw [po,← U HC2]; simpa using U kV
 ·repeat still_step
  refine wpStill_nil ?_
  refine di rfl (.tmp 22) (.tmp 25) 26 rfl 49 i0 6 Tryz.underlying26 uz uF g i E xp (U HG) rfl (J g ((i + 1) * 6)) m (E - (i + 1)) ((l.drop (i + 1)).flatMap Od.vs) rfl (by rw [zH Od.len,List.length_drop]; congr 1; have:=U HL; omega) (by have h:=bK (W:=w.drew) (g:=g) (off:=0) (l:=l) (U HRC) (i + 1) l.length; rw [yX (by rw [List.length_drop]; omega),Nat.zero_add] at h; exact h) (aA _) (by omega) (by rw [zH Od.len,List.length_drop,U HSZ]; have:=U HL; omega) ?_
  have hdl:((l.drop (i + 1)).flatMap Od.vs).length = m * 6:=by rw [zH Od.len,List.length_drop]; congr 1; have:=U HL; omega
  rw [hdl]
  obtain ⟨ol,qI⟩:=row_gone (zs:=zOdL) (U HL) vO (U HSZ) (U HTK) rfl
  have kV:=Y ol
  generalize hC1:(xp.toList.take (i * 6) ++ (l.drop (i + 1)).flatMap Od.vs ++ xp.toList.drop (i * 6 + m * 6)) = C1 at kV qI ⊢
  have hx1:(w.drew.setRow g C1.toArray).heap[g]? = some (.cells C1.toArray 49 (0,0)):=setRow_heap w.drew g xp C1.toArray 49 (0,0) (U HG)
  have kh:Hid (w.grownBy (w.drew.setRow g C1.toArray) (some g)):=⟨rfl,rfl,rfl,by simp,fun k hk xA=>setRow_other w.drew g k C1.toArray (fun e=>xA (by rw [e]))⟩
  have jS:=Y hx1
  clear hx1 hC1 ol hdl
  generalize w.drew.setRow g C1.toArray = X1 at jS kh ⊢
  have L:∀ (ty:TypeId) (c:Nat),(Builtin.clear_ #[26] ty #[.slice (some (J g ((i + m) * 6))) 1 c]).run Tryz.prog X1 = .ok (.tuple #[]) (X1.setRow g (C1.take ((i + m) * 6) ++ zOdL ++ C1.drop ((i + m) * 6 + 6)).toArray):=fun ty c=>by
   have:=clear_row X1 26 ty 49 i0 _ Tryz.underlying26 uz uA g ((i + m) * 6) c C1.toArray (U jS) (by show (i + m) * 6 + 6 ≤ C1.toArray.size; rw [List.size_toArray,qI]; omega) (by simp [Value.cells,Value.oneCell'])
   simpa [Value.cells] using this
  have HX2:=Y (setRow_heap X1 g C1.toArray (C1.take ((i + m) * 6) ++ zOdL ++ C1.drop ((i + m) * 6 + 6)).toArray 49 (0,0) (U jS))
  have uI:Hid (w.grownBy (X1.setRow g (C1.take ((i + m) * 6) ++ zOdL ++ C1.drop ((i + m) * 6 + 6)).toArray) (some g)):=(U kh).trans ⟨rfl,rfl,rfl,by simp,fun k hk xA=>setRow_other X1 g k _ (fun e=>xA (by rw [e]))⟩
  generalize hC2:(C1.take ((i + m) * 6) ++ zOdL ++ C1.drop ((i + m) * 6 + 6)).toArray = C2 at L HX2 uI
  have HC2:=Y hC2
  have jE:=Y qI
  clear hC2
  have k1:¬ E = i + m:=by have:=U HL; omega
  have k2:i + 1 + m - (i + m) = 1:=by omega
  have k3:(i:Int) + m ≤ (i:Int) + 1 + m:=by omega
  have k4:(0:Int) ≤ (i:Int) + m:=by omega
  clear qI
  go_wp2_with fail
  go_ret
  have po:(l.take i ++ l.drop (i + 1)).length = i + m:=by have:=U HL; simp; omega
  refine ⟨rfl,⟨by rw [zH Od.len],.inr ⟨g,E,_,by rw [po],hB,U HX2,by rw [po]; omega,hmx,?_,?_⟩⟩,U uI⟩
  ·rw [← U HC2]; simp [U jE]; omega
  ·rw [po,← U HC2]; simpa using U kV
theorem flat_set {α:Type} {f:α→List Value} {sz:Nat} (hf:∀ c,(f c).length = sz):∀ (l:List α) (i j:Nat) (c c':α) (u:Value),l[i]? = some c→j < sz→f c' = (f c).set j u→(l.flatMap f).set (i * sz + j) u = (l.set i c').flatMap f
 | [],_,_,_,_,_,h,_,_=>by simp at h
 | a :: l,0,j,c,c',u,h,R,hc=>by
  simp at h; subst h
  rw [List.set_cons_zero,List.flatMap_cons,List.flatMap_cons,hc,Nat.zero_mul,Nat.zero_add,List.set_append_left _ _ (by rw [hf]; exact R)]
 | a :: l,i + 1,j,c,c',u,h,R,hc=>by
  simp at h
  rw [List.set_cons_succ,List.flatMap_cons,List.flatMap_cons,← flat_set hf l i j c c' u h R hc,List.set_append_right _ _ (by rw [hf,Nat.add_mul]; omega),hf]
  congr 2
  rw [Nat.add_mul]; omega
def pO (l:List Od) (k:Nat) (c:Od) (qty:Int):List Od:=if c.left = qty then l.take k ++ l.drop (k + 1) else l.set k { c with left:=c.left - qty }
structure TookAt (p o:Nat) (xe:Option Nat) (w w':World):Prop where
 os:w'.os = w.os
 tape:w'.tape = w.tape
 output:w'.output = w.output
 size:w.heap.size ≤ w'.heap.size
 block:∀ k,k < w.heap.size→k ≠ p→some k ≠ xe→w'.heap[k]? = w.heap[k]?
 cell:∀ j,j ≠ o + 1→w'.cell? ⟨p,j,none⟩ = w.cell? ⟨p,j,none⟩
 frozen:∀ j,w'.frozen? ⟨p,j,none⟩ = w.frozen? ⟨p,j,none⟩
 kind:∀ cur t x,w.heap[p]? = some (.cells cur t x)→∃ cur',w'.heap[p]? = some (.cells cur' t x)
theorem zL (w:World) (p o:Nat) (u:Value) {xp:Array Value} {t:TypeId} {x:Nat × Nat} (h:w.heap[p]? = some (.cells xp t x)):∃ cur',(w.setCell (J p o) u).heap[p]? = some (.cells cur' t x):=by
 simp [World.setCell,Array.getElem?_modify,h]
theorem zr {W:World} {B e sz n:Nat} {v:Value} {xs:List Value} (h:W.ownsRow B e sz v n xs) {b:Nat} (F:some b ≠ v.ownBlock) (o:Nat) (u:Value):(W.setCell (J b o) u).ownsRow B e sz v n xs :=
 h.kept (row:=some b) ⟨rfl,rfl,rfl,by simp [World.setCell],fun k _ hk=>yQ _ _ _ _ (fun e=>hk (by rw [e]))⟩ (.inr (Ne.symm F))
theorem aG {p o:Nat} {xe:Option Nat} {w w':World} (h:w.grownBy w' xe) (hp:p < w.heap.size) (xA:some p ≠ xe):TookAt p o xe w w' :=
 ⟨h.os,h.tape,h.output,h.size,fun k hk _ hG=>h.block k hk hG,fun j _=>yO (a:=(J p j)) (h.block p hp xA),fun j=>World.frozen?_of_block (a:=(J p j)) (h.block p hp xA),fun xp t x hh=>⟨xp,(h.block p hp xA).trans hh⟩⟩
theorem aU {p o:Nat} {xe:Option Nat} {w w1 w2:World} (Q:TookAt p o xe w w1) (N:TookAt p o xe w1 w2):TookAt p o xe w w2 :=
 ⟨N.os.trans Q.os,N.tape.trans Q.tape,N.output.trans Q.output,yL Q.size N.size,fun k hk hp hG=>(N.block k (yH hk Q.size) hp hG).trans (Q.block k hk hp hG),fun j R=>(N.cell j R).trans (Q.cell j R),fun j=>(N.frozen j).trans (Q.frozen j),fun xp t x hh=>by obtain ⟨c1,h3⟩:=Q.kind xp t x hh; exact N.kind c1 t x h3⟩
theorem bO {p o:Nat} {xe:Option Nat} (w:World) (u:Value):TookAt p o xe w (w.setCell (J p (o + 1)) u) :=
 ⟨rfl,rfl,rfl,by simp [World.setCell],fun k _ hp _=>yQ _ _ _ _ hp,fun j R=>yJ _ _ _ _ (zN (fun e=>R e.symm)),fun j=>World.frozen?_setCell _ _ _ _,fun xp t x hh=>zL w p (o + 1) u hh⟩
theorem zk {W W':World} {B:Nat} {v:Value} {l:List Od} (h:ORow W B v l) (F:ym W W'):ORow W' B v l :=
 World.ownsRow.kept h (row:=none) (pX F qt) (by cases v.ownBlock <;> simp)
theorem oRow_left {W:World} {B g n E k:Nat} {l:List Od} {c:Od} (h:ORow W B (.slice (some (J g 0)) n E) l) (hn:l.length = n) (hk:l[k]? = some c) (x:Int) :
  ORow (W.setCell (J g (k * 6 + 3)) (H x)) B (.slice (some (J g 0)) n E) (l.set k { c with left:=x })∧W.grownBy (W.setCell (J g (k * 6 + 3)) (H x)) (some g):=by
 subst hn
 have s:=World.ownsRow.stored h (k * 6 + 3) (H x)
 refine ⟨?_,s.2⟩
 have e:=flat_set Od.len l k 3 c { c with left:=x } (H x) hk (by omega) rfl
 show World.ownsRow _ _ _ _ _ (l.set k _).length _
 rw [List.length_set,← e]; exact s.1
theorem takeFrom_any (p o B:Nat) (next id qty:Int) (vq:Value) (l:List Od) (k:Nat) (c:Od) (w:World) (c0:w.cell? (J p o) = some (H next)) (c1:w.cell? (J p (o + 1)) = some vq) (f1:w.frozen? (J p (o + 1)) = false)
  (Z:ORow w B vq l) (hp:some p ≠ vq.ownBlock) (hpw:p < w.heap.size) (hB:B ≤ w.heap.size) (hn:l.length ≤ 1000) (hk:plc l id = k) (hc:l[k]? = some c) (jf:0 ≤ qty) (qW:qty ≤ c.left) (L:c.left ≤ 1000000) :
  Calls Tryz.prog 117 #[I p o,H id,H qty] w fun e w'=>∃ vl,e = yl (.tuple #[])∧w'.cell? (J p (o + 1)) = some vl∧ORow w' B vl (pO l k c qty)∧TookAt p o vq.ownBlock w w':=by
 have xA:l ≠ []:=by rintro rfl; simp at hc
 have kc:=(yE.1 hc).1
 have HO:=Y Z
 obtain ⟨g,E,rfl,vO,hBg,hgw⟩:=ch Z xA
 have HK:=Y hk
 have HC:=Y hc
 clear Z hk hc xA
 go_enter Tryz.func117,Tryz.ntmps117
 go_wp2_with fail
 refine (cH next _ l id w (zK (U HO) (by omega))).mono ?_
 rintro e w1 ⟨rfl,xS⟩
 rw [U HK]
 have xT:=Y xS
 have vh:=Y (zk (U HO) xS)
 have d1:w1.cell? (J p (o + 1)) = some (.slice (some (J g 0)) l.length E):=(xS.cell (p:=(J p (o + 1))) hpw).trans c1
 have e1:w1.frozen? (J p (o + 1)) = false:=(xS.frozen (p:=(J p (o + 1))) hpw).trans f1
 have hsz1:=xS.size
 obtain ⟨a',cp',ee,_,hcl1⟩:=zK (U vh) (by omega)
 obtain ⟨b',uG,e2,_,hcl1⟩:=hcl1 (by intro h; rw [h] at kc; simp at kc)
 rw [e2] at ee
 simp only [Value.slice.injEq,Option.some.injEq,Addr.mk.injEq,and_true,true_and] at ee
 obtain ⟨⟨rfl,rfl⟩,-⟩:=ee
 have hcc:=hcl1 k c (U HC)
 rw [Nat.zero_add] at hcc
 obtain ⟨-,-,-,y3,-⟩:=zC hcc
 have fz:=World.ownsRow.frozenAt (U vh) (k * 6 + 3)
 have kF:(k:Int) < l.length:=by omega
 have hk0:(0:Int) ≤ k:=by omega
 have hwr:IntKind.i64.wrap (c.left - qty) = c.left - qty:=by rw [IntKind.wrap_i64]; omega
 have hpg:p ≠ g:=by simpa [Value.ownBlock] using hp
 have HS:=Y (oRow_left (U vh) rfl (U HC) (c.left - qty))
 have d2:(w1.setCell (J g (k * 6 + 3)) (H (c.left - qty))).cell? (J p (o + 1)) = some (.slice (some (J g 0)) l.length E):=(yJ _ _ _ _ (fun e=>hpg (by have:=congrArg Addr.block e; simpa using this.symm))).trans d1
 have d3:(w1.setCell (J g (k * 6 + 3)) (H (c.left - qty))).cell? (J g (k * 6 + 3)) = some (H (c.left - qty)):=yK _ _ _ y3
 have d4:(w1.setCell (J g (k * 6 + 3)) (H (c.left - qty))).frozen? (J p (o + 1)) = false:=(World.frozen?_setCell _ _ _ _).trans e1
 clear xS hcc hcl1 c0 c1 f1
 by_cases hz:c.left = qty
 ·have uA:c.left - qty = 0:=by omega
  have HH:Hid (pO l k c qty = l.take k ++ l.drop (k + 1)):=if_pos hz
  obtain ⟨m,hm⟩:∃ m,l.length = k + 1 + m:=⟨l.length - (k + 1),by omega⟩
  have po:(l.set k { c with left:=c.left - qty }).length = k + 1 + m:=by rw [List.length_set,hm]
  have hdel:(l.set k { c with left:=c.left - qty }).take k ++ (l.set k { c with left:=c.left - qty }).drop (k + 1) = l.take k ++ l.drop (k + 1):=by
   rw [List.take_set_of_le qt,List.drop_set_of_lt (by omega)]
  have HDEL:=Y hdel
  have HM:=Y hm
  have hb0:(c.left - qty == 0) = true:=by rw [beq_iff_eq]; exact uA
  obtain ⟨-,N | ⟨g',oX,xp,N,h3,h4,h5,h6,h7,h8⟩⟩:=(U HS).1
  ·simp at N
  simp only [Value.slice.injEq,Option.some.injEq,Addr.mk.injEq,and_true] at N
  obtain ⟨rfl,h9,rfl⟩:=N
  have HDC:Hid (Calls Tryz.prog 154 #[.slice (some (J g 0)) (k + 1 + m) E,H k,H ((k:Int) + 1)] (w1.setCell (J g (k * 6 + 3)) (H (c.left - qty))) _):=delete_any g k m E B xp (l.set k { c with left:=c.left - qty }) _ po (by rw [List.length_set]; exact hn) h4 h5 h6 h7 h8 hBg
  have uI:=Y (U HS).2
  have hw1:p < (w1.setCell (J g (k * 6 + 3)) (H (c.left - qty))).heap.size:=by simp [World.setCell]; omega
  clear hdel hz po h3 h4 h5 h6 h7 h8 h9 vO uA
  rw [hm] at d1 d2 kF ⊢
  clear hm
  go_wp2_with fail
  refine (U HDC).mono ?_
  rw [U HDEL]
  rintro e w3 ⟨rfl,ho3,uV⟩
  have s1:=uV.cell d2 (by simpa using hpg)
  have s2:w3.frozen? (J p (o + 1)) = false:=(World.frozen?_of_block (a:=(J p (o + 1))) (uV.block p hw1 (by simpa using hpg))).trans d4
  have qD:=Y ho3
  have vZ:=Y uV
  clear ho3 uV
  go_wp2_with fail
  go_end0
  refine ⟨_,rfl,yK _ _ _ s1,?_,?_⟩
  ·rw [U HH]
   exact zr (U qD) (by simpa [Value.ownBlock] using hpg) (o + 1) _
  ·exact aU (aU (aU (aG (pX (U xT) qt) hpw (by simpa [Value.ownBlock] using hpg)) (aG (U uI) (by omega) (by simpa [Value.ownBlock] using hpg))) (aG (U vZ) hw1 (by simpa [Value.ownBlock] using hpg))) (bO _ _)
 ·have uA:(c.left - qty == 0) = false:=by rw [xb]; omega
  have HH:Hid (pO l k c qty = l.set k { c with left:=c.left - qty }):=if_neg hz
  go_wp2_with fail
  go_end0
  refine ⟨_,rfl,d2,by rw [U HH]; exact (U HS).1,?_⟩
  exact aU (aG (pX (U xT) qt) hpw (by simpa [Value.ownBlock] using hpg)) (aG (U HS).2 (by omega) (by simpa [Value.ownBlock] using hpg))
def RT (B0:World→Prop) (hb:(Nat→Value)→Act) (k h:Nat) (dp:Prop→Prop→World→Nat→Value→Prop) (x:List Bool) (hR:Act) (W:World):Prop :=
 ∃ f,hR = hb f∧(¬ x[k]? = some true→B0 W)∧∀ j,x[j]? = some true→dp (x[k]? = some true) (x[h]? = some true) W j (f j)
section
variable {B0:World→Prop} {W W':World} {k h:Nat} {dp:Prop→Prop→World→Nat→Value→Prop} {x:List Bool} {f:Nat→Value}
theorem zu (hh:∀ j,x[j]? = some true→dp (x[k]? = some true) (x[h]? = some true) W j (f j)) {i:Nat} (hik:i ≠ k) (hih:i ≠ h) (hm:∀ j v,dp (x[k]? = some true) (x[h]? = some true) W j v→dp (x[k]? = some true) (x[h]? = some true) W' j v) (hB:¬ x[k]? = some true→B0 W') {v:Value} (hv:dp (x[k]? = some true) (x[h]? = some true) W' i v) :
  (¬ (x.set i true)[k]? = some true→B0 W')∧∀ j,(x.set i true)[j]? = some true→dp ((x.set i true)[k]? = some true) ((x.set i true)[h]? = some true) W' j (upd f i v j):=by
 rw [yU hik,yU hih]
 refine ⟨hB,fun j R=>?_⟩
 by_cases hji:j = i
 ·subst hji; rw [zn]; exact hv
 ·rw [zo _ _ hji]
  rw [yU (fun e=>hji e.symm)] at R
  exact hm _ _ (hh j R)
theorem rt_one (hkh:k ≠ h) (hh:∀ j,x[j]? = some true→dp (x[k]? = some true) (x[h]? = some true) W j (f j)) (hk:x[k]? = some false) (hn:¬ x[h]? = some true) (hm:∀ j v,j ≠ k→dp False False W j v→dp True False W' j v) {v:Value} (hv:dp True False W' k v) :
  (¬ (x.set k true)[k]? = some true→B0 W')∧∀ j,(x.set k true)[j]? = some true→dp ((x.set k true)[k]? = some true) ((x.set k true)[h]? = some true) W' j (upd f k v j):=by
 have e:((x.set k true)[k]? = some true) = True:=by
  rw [List.getElem?_set_self (yE.1 hk).1]; simp
 have e2:((x.set k true)[h]? = some true) = False:=by
  rw [yU hkh]; exact eq_false hn
 have e3:(x[h]? = some true) = False:=eq_false hn
 have e4:(x[k]? = some true) = False:=by rw [hk]; simp
 rw [e,e2]
 refine ⟨fun h=>absurd trivial h,fun j R=>?_⟩
 by_cases hji:j = k
 ·subst hji; rw [zn]; exact hv
 ·rw [zo _ _ hji]
  rw [yU (fun e=>hji e.symm)] at R
  have:=hh j R
  rw [e3,e4] at this
  exact hm j _ hji this
theorem rt_two (hkh:h ≠ k) (hh:∀ j,x[j]? = some true→dp (x[k]? = some true) (x[h]? = some true) W j (f j)) (hk:x[k]? = some true) (hn:x[h]? = some false) (hm:∀ j,j ≠ h→x[j]? = some true→dp True False W j (f j)→dp True True W' j (f j)) {v:Value} (hv:dp True True W' h v) :
  (¬ (x.set h true)[k]? = some true→B0 W')∧∀ j,(x.set h true)[j]? = some true→dp ((x.set h true)[k]? = some true) ((x.set h true)[h]? = some true) W' j (upd f h v j):=by
 have e:((x.set h true)[h]? = some true) = True:=by
  rw [List.getElem?_set_self (yE.1 hn).1]; simp
 have e2:((x.set h true)[k]? = some true) = True:=by
  rw [yU hkh,hk]; simp
 have e3:(x[h]? = some true) = False:=by rw [hn]; simp
 have e4:(x[k]? = some true) = True:=by rw [hk]; simp
 rw [e,e2]
 refine ⟨fun h=>absurd trivial h,fun j R=>?_⟩
 by_cases hji:j = h
 ·subst hji; rw [zn]; exact hv
 ·rw [zo _ _ hji]
  rw [yU (fun e=>hji e.symm)] at R
  have:=hh j R
  rw [e3,e4] at this
  exact hm j hji R this
end
def trE (uw oZ qty pd:Int):Ev:=⟨3,zCm,uw,oZ,qty,pd,0⟩
abbrev ERow (W:World) (B:Nat) (v:Value) (l:List Ev):Prop:=W.ownsRow B 46 14 v l.length (l.flatMap Ev.vs)
theorem infoEv:(Tryz.prog.info? 46).map (fun i=>(i.zero,i.size,i.bytes)) = some (some (.agg (yt 0 0 0 0 0 0 0 0 ⟨#[]⟩ 0 0 0 0 0).toArray),14,120):=by kernel_rfl
theorem one_ev (e:Ev):∀ u ∈ e.vs,u.oneCell' = true:=by
 intro u hu
 simp [Ev.vs] at hu
 rcases hu with rfl | rfl | rfl | rfl | rfl | rfl | rfl | rfl | rfl | rfl | rfl | rfl | rfl | rfl <;> rfl
theorem zG {W W':World} {B:Nat} {v:Value} {l:List Ev} (h:ERow W B v l) (F:ym W W'):ERow W' B v l :=
 World.ownsRow.kept h (row:=none) (pX F qt) (by cases v.ownBlock <;> simp)
theorem bz {W:World} {B:Nat} {v:Value} {l:List Ev} (h:ERow W B v l) {b:Nat} (F:b < B) (o:Nat) (u:Value):ERow (W.setCell (J b o) u) B v l :=
 ownsRow_setCell_below h (a:=(J b o)) F u
theorem cK {W:World} {B e sz n:Nat} {v:Value} {xs:List Value} (h:W.ownsRow B e sz v n xs) (hn:0 < n):∃ g c,v = .slice (some (J g 0)) n c:=by
 rcases h.2 with ⟨_,h0⟩ | ⟨g,E,_,Q,_⟩
 ·omega
 ·exact ⟨g,E,Q⟩
theorem cellsT (W:World) (e:Ev) (t:TypeId):∀ j u,e.vs[j]? = some u→(W.alloc (Obj.cells e.vs.toArray t)).cell? (((yp W 0):Addr).add j) = some u:=fun j u h=>aY W e.vs t j u h
def DT (mb fb B:Nat) (W0:World) (vt:Value) (ts:List Ev) (uw oZ qty pd:Int) (p q:Prop) (V:World):Nat→Value→Prop
 | 0,v=>v = I mb 0
 | 1,v=>v = I mb 0
 | 2,v=>v = I mb 0
 | 3,v=>v = I mb 8
 | 4,v=>v = vt
 | 5,v=>v = I mb 0
 | 6,v=>v = I mb 0
 | 7,v=>v = I mb 2
 | 8,v=>v = I mb 2
 | 9,v=>v = H uw
 | 10,v=>v = I fb 0
 | 11,v=>v = H oZ
 | 12,v=>v = H qty
 | 13,v=>v = I fb 2
 | 14,v=>v = H pd
 | 15,v=>v = evV (trE uw oZ qty pd)
 | 16,v=>∃ s,v = .slice (some (J s 0)) 1 1∧(¬ p→∀ j u,(trE uw oZ qty pd).vs[j]? = some u→V.cell? (((J s 0):Addr).add j) = some u)
 | 17,v=>∃ a c,v = .slice a (ts.length + 1) c∧p∧(¬ q→ERow V B v (ts ++ [trE uw oZ qty pd])∧W0.grownBy V vt.ownBlock)∧(q→V.cell? (J mb 8) = some v∧ERow V B v (ts ++ [trE uw oZ qty pd])∧TookAt mb 7 vt.ownBlock W0 V)
 | 18,v=>v = I mb 0
 | 19,v=>v = I mb 8
 | _,_=>True
section
variable {mb fb B:Nat} {W0 V V':World} {vt:Value} {ts:List Ev} {uw oZ qty pd:Int} {p q:Prop}
theorem dt_alloc {o:Obj} (hp:¬ p):∀ j v,DT mb fb B W0 vt ts uw oZ qty pd p q V j v→DT mb fb B W0 vt ts uw oZ qty pd p q (V.alloc o) j v:=by
 intro j v h
 match j with
 | 0 | 1 | 2 | 3 | 4 | 5 | 6 | 7 | 8 | 9 | 10 | 11 | 12 | 13 | 14 | 15 | 18 | 19=>exact h
 | 16 =>
  obtain ⟨s,Q,N⟩:=h
  exact ⟨s,Q,fun hp j u hu=>(yT _ _ _ (yI V _ (N hp j u hu))).trans (N hp j u hu)⟩
 | 17=>obtain ⟨_,_,_,N,_⟩:=h; exact absurd N hp
 | j + 20=>trivial
theorem dt_one:∀ j v,j ≠ 17→DT mb fb B W0 vt ts uw oZ qty pd False False V j v→DT mb fb B W0 vt ts uw oZ qty pd True False V' j v:=by
 intro j v R h
 match j with
 | 0 | 1 | 2 | 3 | 4 | 5 | 6 | 7 | 8 | 9 | 10 | 11 | 12 | 13 | 14 | 15 | 18 | 19=>exact h
 | 16 =>
  obtain ⟨s,Q,N⟩:=h
  exact ⟨s,Q,fun hp=>absurd trivial hp⟩
 | 17=>exact absurd rfl R
 | j + 20=>trivial
theorem dt_two {v:Value}:∀ j,j ≠ 20→DT mb fb B W0 vt ts uw oZ qty pd True False V j v→(j = 17→DT mb fb B W0 vt ts uw oZ qty pd True True V' 17 v)→DT mb fb B W0 vt ts uw oZ qty pd True True V' j v:=by
 intro j R h kn
 match j with
 | 0 | 1 | 2 | 3 | 4 | 5 | 6 | 7 | 8 | 9 | 10 | 11 | 12 | 13 | 14 | 15 | 18 | 19=>exact h
 | 16 =>
  obtain ⟨s,Q,N⟩:=h
  exact ⟨s,Q,fun hp=>absurd trivial hp⟩
 | 17=>exact kn rfl
 | j + 20=>trivial
end
end Go.Proofs.YtbakanofkghmiaaGreat
