/-
  An order taken out of a row, by the program's library: proved by walking the function.
-/
import Derived.Test.YtdliebbfcmdmaaaGreatMj11
import Derived.Laws.CopyOwn
set_option linter.unusedVariables false
set_option maxHeartbeats 6400000
set_option maxRecDepth 100000
namespace Go.Proofs.YtdliebbfcmdmaaaGreat
open Go.RowKit
theorem dW {P:Program} {w:World} {ops:Array Oper} {rest:List Oper} {o:Oper} {a:Act} {h1:Exit→Act→World→Prop} (hgd:o.guard = none) (s x:Operand) (t:TypeId)
  (Z:o.op = .call { callee:=.builtin .append,args:=#[s,x],argTypes:=#[t,t] })
  (e:TypeId) (i:TypeInfo) (size:Nat) (ht:P.underlying t = some (.slice e)) (hi:P.info? e = some i) (hsize:i.size = size)
  (g pS sCap:Nat) (xr:Array Value) (hg:w.heap[g]? = some (.cells xr e (0,0))) (hs:a.eval s = .slice (some (J g 0)) pS sCap)
  (ad:Addr) (m c:Nat) (news:List Value) (hx:a.eval x = .slice (some ad) m c) (hl:news.length = m * size) (hnews:∀ j u,news[j]? = some u→w.cell? (ad.add j) = some u) (Q:∀ u ∈ news,u.oneCell' = true)
  (hroom:pS + m ≤ sCap) (kz:pS * size + news.length ≤ xr.size)
  (h:wpList P ops h1 rest (a.put o.dst (.slice (some (J g 0)) (pS + m) sCap)) (w.setRow g (xr.toList.take (pS * size) ++ news ++ xr.toList.drop (pS * size + news.length)).toArray)):wpList P ops h1 (o :: rest) a w:=by
 subst hsize
 refine wpList_plain hgd fun hR hK=>?_
 have hrun:=run_append_room (P:=P) w t o.type e i ht hi g pS sCap xr hg ad m c news hl hnews Q hroom kz
 unfold Oper.wp execOp
 simp only [Z,resolve,invoke,builtin,Sem.run_bind,Sem.run_pure,Result.andThen_ok,List.map_toArray,List.map_cons,List.map_nil,hs,hx,hrun]
 exact hK _ _ h
theorem clear_row {P:Program} (w:World) (T X e:TypeId) (i:TypeInfo) (z:Value) (ht:P.underlying T = some (.slice e)) (hi:P.info? e = some i) (hz:i.zero = some z) (g o c:Nat) (xr:Array Value) (hg:w.heap[g]? = some (.cells xr e (0,0)))
  (kz:o + z.cells.toList.length ≤ xr.size) (Q:∀ v ∈ z.cells.toList,v.oneCell' = true) :
  (Builtin.clear_ #[T] X #[.slice (some (J g o)) 1 c]).run P w = .ok (.tuple #[]) (w.setRow g (xr.toList.take o ++ z.cells.toList ++ xr.toList.drop (o + z.cells.toList.length)).toArray):=by
 have vv:=run_storeCells_at P g o e z.cells.toList 0 xr w hg (by simpa using kz) Q
 simp only [Nat.add_zero] at vv
 have hzc:(Builtin.zeroCells z.cells 1).toList = z.cells.toList:=by
  refine List.ext_getElem (by simp [Builtin.zeroCells]) fun j Q N=>?_
  have R:j < z.cells.size:=by simpa using N
  simp [Builtin.zeroCells,Nat.mod_eq_of_lt R,R]
 simp [Builtin.clear_,run_underlying ht,zeroValue,typeInfo,hi,hz,hzc,vv]
abbrev zOdL:List Value:=(yv 0 0 0 0 0 ⟨#[]⟩)
theorem row_gone {xr:Array Value} {l:List Od} {i m A:Nat} {zs:List Value} (hl:l.length = i + 1 + m) (hc:l.length ≤ A) (hs:xr.size = A * 6) (ht:xr.toList.take (l.length * 6) = l.flatMap Od.vs) (hz:zs.length = 6) :
  (((xr.toList.take (i * 6) ++ (l.drop (i + 1)).flatMap Od.vs ++ xr.toList.drop (i * 6 + m * 6)).take ((i + m) * 6) ++ zs ++ (xr.toList.take (i * 6) ++ (l.drop (i + 1)).flatMap Od.vs ++ xr.toList.drop (i * 6 + m * 6)).drop ((i + m) * 6 + zs.length)).take ((i + m) * 6) = (l.take i ++ l.drop (i + 1)).flatMap Od.vs) ∧
  (xr.toList.take (i * 6) ++ (l.drop (i + 1)).flatMap Od.vs ++ xr.toList.drop (i * 6 + m * 6)).length = A * 6:=by
 have xo:xr.toList.length = A * 6:=by simpa using hs
 have hdl:((l.drop (i + 1)).flatMap Od.vs).length = m * 6:=by rw [zH Od.len,List.length_drop]; congr 1; omega
 have hti:xr.toList.take (i * 6) = (l.take i).flatMap Od.vs:=by
  have h:=congrArg (List.take (i * 6)) ht
  rw [List.take_take,show min (i * 6) (l.length * 6) = i * 6 by omega] at h
  rw [h]
  conv=>lhs; rw [← List.take_append_drop i l,List.flatMap_append]
  rw [List.take_append_of_le_length (by rw [zH Od.len,List.length_take]; omega),yZ (by rw [zH Od.len,List.length_take]; omega)]
 have xD:(xr.toList.take (i * 6) ++ (l.drop (i + 1)).flatMap Od.vs).length = (i + m) * 6:=by
  rw [yP,hdl,List.length_take,xo]; omega
 refine ⟨?_,?_⟩
 ·rw [List.append_assoc ((List.take _ _)),List.take_append_of_le_length (by rw [List.length_take,yP,xD,List.length_drop,xo]; omega),List.take_take,Nat.min_self,List.take_append_of_le_length (by rw [xD]; omega),yZ (by rw [xD]; omega),hti,List.flatMap_append]
 ·rw [yP,xD,List.length_drop,xo]; omega
theorem delete_any (g i m A B:Nat) (xr:Array Value) (l:List Od) (w:World) (hl:l.length = i + 1 + m) (hn:l.length ≤ 1000) (hg:w.heap[g]? = some (.cells xr 66 (0,0))) (vY:l.length ≤ A) (hmx:A ≤ maxLen) (jJ:xr.size = A * 6) (oT:xr.toList.take (l.length * 6) = l.flatMap Od.vs) (hB:B ≤ g) :
  Calls Tryz.prog 90 #[.slice (some (J g 0)) (i + 1 + m) A,H i,H ((i:Int) + 1)] w fun e w'=>e = ym (.slice (some (J g 0)) (i + m) A)∧ORow w' B (.slice (some (J g 0)) (i + m) A) (l.take i ++ l.drop (i + 1))∧w.grownBy w' (some g):=by
 obtain ⟨i0,uE,uA,uC,uM⟩:=info_parts Tryz.infoOrder
 have HG:=Y hg
 have HRC:Hid (∀ j c,l[j]? = some c→w.drew.rangeAt g (0 + j * 6) c.vs):=by
  have Z:ORow w B (.slice (some (J g 0)) l.length A) l:=⟨by rw [zH Od.len],.inr ⟨g,A,xr,rfl,hB,hg,vY,hmx,jJ,oT⟩⟩
  obtain ⟨a',c',e,_,h⟩:=zK Z (by omega)
  intro j c R
  obtain ⟨b',uJ,e2,_,h⟩:=h (by intro h; rw [h] at R; simp at R)
  rw [e2] at e
  simp only [Value.slice.injEq,Option.some.injEq,Addr.mk.injEq,and_true,true_and] at e
  obtain ⟨⟨rfl,rfl⟩,-⟩:=e
  exact h j c R
 have kG:=Y oT
 have HSZ:=Y jJ
 have HL:=Y hl
 have Q:(i:Int) + 1 ≤ (i:Int) + 1 + m:=by omega
 have N:(i:Int) + 1 + m ≤ A:=by omega
 have h3:(0:Int) ≤ i:=by omega
 have h4:(i:Int) ≤ (i:Int) + 1:=by omega
 have h5:(0:Int) ≤ (i:Int) + 1:=by omega
 have h6:(i:Int) ≤ A:=by omega
 have b1:((i:Int) == (i:Int) + 1) = false:=by rw [xd]; omega
 clear hg oT jJ hl
 go_enter Tryz.func90,Tryz.ntmps90
 go_wp2_with fail
 refine dQ 6 (by kernel_rfl) (by kernel_rfl) ?_
 simp only [yT,List.take_zero,yU,List.drop_zero]
 by_cases hcc:A = i + 1
 ·have hm0:m = 0:=by have:=U HL; omega
  subst hm0
  subst hcc
  repeat still_step
  refine wpStill_nil ?_
  refine dW rfl (.tmp 22) (.tmp 25) 29 rfl 66 i0 6 Tryz.underlying29 uE uC g i (i + 1) xr (U HG) rfl (J g 0) 0 0 ((l.drop (i + 1)).flatMap Od.vs) rfl (by rw [zH Od.len,List.length_drop]; congr 1; have:=U HL; omega) (by rw [xa (by have:=U HL; omega)]; simp) (bd _) (by omega) (by rw [zH Od.len,List.length_drop,U HSZ]; have:=U HL; omega) ?_
  have hdl:((l.drop (i + 1)).flatMap Od.vs).length = 0 * 6:=by rw [zH Od.len,List.length_drop]; congr 1; have:=U HL; omega
  rw [hdl]
  obtain ⟨oK,qP⟩:=row_gone (zs:=zOdL) (U HL) vY (U HSZ) (U kG) rfl
  have oy:=Y oK
  generalize hC1:(xr.toList.take (i * 6) ++ (l.drop (i + 1)).flatMap Od.vs ++ xr.toList.drop (i * 6 + 0 * 6)) = C1 at oy qP ⊢
  have hx1:(w.drew.setRow g C1.toArray).heap[g]? = some (.cells C1.toArray 66 (0,0)):=setRow_heap w.drew g xr C1.toArray 66 (0,0) (U HG)
  have jN:Hid (w.grownBy (w.drew.setRow g C1.toArray) (some g)):=⟨rfl,rfl,rfl,by simp,fun k hk xB=>setRow_other w.drew g k C1.toArray (fun e=>xB (by rw [e]))⟩
  have jG:=Y hx1
  clear hx1 hC1 oK hdl
  generalize w.drew.setRow g C1.toArray = X1 at jG jN ⊢
  have xo:∀ (X:TypeId) (c:Nat),(Builtin.clear_ #[29] X #[.slice (some (J g (i * 6))) 1 c]).run Tryz.prog X1 = .ok (.tuple #[]) (X1.setRow g (C1.take (i * 6) ++ zOdL ++ C1.drop (i * 6 + 6)).toArray):=fun X c=>by
   have:=clear_row X1 29 X 66 i0 _ Tryz.underlying29 uE uA g (i * 6) c C1.toArray (U jG) (by show i * 6 + 6 ≤ C1.toArray.size; rw [List.size_toArray,qP]; omega) (by simp [Value.cells,Value.oneCell'])
   simpa [Value.cells] using this
  have HX2:=Y (setRow_heap X1 g C1.toArray (C1.take (i * 6) ++ zOdL ++ C1.drop (i * 6 + 6)).toArray 66 (0,0) (U jG))
  have uL:Hid (w.grownBy (X1.setRow g (C1.take (i * 6) ++ zOdL ++ C1.drop (i * 6 + 6)).toArray) (some g)):=(U jN).trans ⟨rfl,rfl,rfl,by simp,fun k hk xB=>setRow_other X1 g k _ (fun e=>xB (by rw [e]))⟩
  generalize hC2:(C1.take (i * 6) ++ zOdL ++ C1.drop (i * 6 + 6)).toArray = C2 at xo HX2 uL
  have pU:=Y hC2
  have jR:=Y qP
  clear hC2
  have k1:¬ i + 1 = i:=by omega
  have k2:i + 1 - i = 1:=by omega
  clear qP
  go_wp2_with fail
  go_ret
  have pH:(l.take i ++ l.drop (i + 1)).length = i + 0:=by have:=U HL; simp; omega
  refine ⟨rfl,⟨by rw [zH Od.len],.inr ⟨g,i + 1,_,by rw [pH],hB,U HX2,by rw [pH]; omega,hmx,?_,?_⟩⟩,U uL⟩
  ·rw [← U pU]; simp [U jR]; omega
  ·rw [pH,← U pU]; simpa using U oy
 ·repeat still_step
  refine wpStill_nil ?_
  refine dW rfl (.tmp 22) (.tmp 25) 29 rfl 66 i0 6 Tryz.underlying29 uE uC g i A xr (U HG) rfl (J g ((i + 1) * 6)) m (A - (i + 1)) ((l.drop (i + 1)).flatMap Od.vs) rfl (by rw [zH Od.len,List.length_drop]; congr 1; have:=U HL; omega) (by have h:=cJ (W:=w.drew) (g:=g) (off:=0) (l:=l) (U HRC) (i + 1) l.length; rw [yZ (by rw [List.length_drop]; omega),Nat.zero_add] at h; exact h) (bd _) (by omega) (by rw [zH Od.len,List.length_drop,U HSZ]; have:=U HL; omega) ?_
  have hdl:((l.drop (i + 1)).flatMap Od.vs).length = m * 6:=by rw [zH Od.len,List.length_drop]; congr 1; have:=U HL; omega
  rw [hdl]
  obtain ⟨oK,qP⟩:=row_gone (zs:=zOdL) (U HL) vY (U HSZ) (U kG) rfl
  have oy:=Y oK
  generalize hC1:(xr.toList.take (i * 6) ++ (l.drop (i + 1)).flatMap Od.vs ++ xr.toList.drop (i * 6 + m * 6)) = C1 at oy qP ⊢
  have hx1:(w.drew.setRow g C1.toArray).heap[g]? = some (.cells C1.toArray 66 (0,0)):=setRow_heap w.drew g xr C1.toArray 66 (0,0) (U HG)
  have jN:Hid (w.grownBy (w.drew.setRow g C1.toArray) (some g)):=⟨rfl,rfl,rfl,by simp,fun k hk xB=>setRow_other w.drew g k C1.toArray (fun e=>xB (by rw [e]))⟩
  have jG:=Y hx1
  clear hx1 hC1 oK hdl
  generalize w.drew.setRow g C1.toArray = X1 at jG jN ⊢
  have xo:∀ (X:TypeId) (c:Nat),(Builtin.clear_ #[29] X #[.slice (some (J g ((i + m) * 6))) 1 c]).run Tryz.prog X1 = .ok (.tuple #[]) (X1.setRow g (C1.take ((i + m) * 6) ++ zOdL ++ C1.drop ((i + m) * 6 + 6)).toArray):=fun X c=>by
   have:=clear_row X1 29 X 66 i0 _ Tryz.underlying29 uE uA g ((i + m) * 6) c C1.toArray (U jG) (by show (i + m) * 6 + 6 ≤ C1.toArray.size; rw [List.size_toArray,qP]; omega) (by simp [Value.cells,Value.oneCell'])
   simpa [Value.cells] using this
  have HX2:=Y (setRow_heap X1 g C1.toArray (C1.take ((i + m) * 6) ++ zOdL ++ C1.drop ((i + m) * 6 + 6)).toArray 66 (0,0) (U jG))
  have uL:Hid (w.grownBy (X1.setRow g (C1.take ((i + m) * 6) ++ zOdL ++ C1.drop ((i + m) * 6 + 6)).toArray) (some g)):=(U jN).trans ⟨rfl,rfl,rfl,by simp,fun k hk xB=>setRow_other X1 g k _ (fun e=>xB (by rw [e]))⟩
  generalize hC2:(C1.take ((i + m) * 6) ++ zOdL ++ C1.drop ((i + m) * 6 + 6)).toArray = C2 at xo HX2 uL
  have pU:=Y hC2
  have jR:=Y qP
  clear hC2
  have k1:¬ A = i + m:=by have:=U HL; omega
  have k2:i + 1 + m - (i + m) = 1:=by omega
  have k3:(i:Int) + m ≤ (i:Int) + 1 + m:=by omega
  have k4:(0:Int) ≤ (i:Int) + m:=by omega
  clear qP
  go_wp2_with fail
  go_ret
  have pH:(l.take i ++ l.drop (i + 1)).length = i + m:=by have:=U HL; simp; omega
  refine ⟨rfl,⟨by rw [zH Od.len],.inr ⟨g,A,_,by rw [pH],hB,U HX2,by rw [pH]; omega,hmx,?_,?_⟩⟩,U uL⟩
  ·rw [← U pU]; simp [U jR]; omega
  ·rw [pH,← U pU]; simpa using U oy
theorem flat_set {α:Type} {f:α→List Value} {sz:Nat} (hf:∀ c,(f c).length = sz):∀ (l:List α) (i j:Nat) (c c':α) (u:Value),l[i]? = some c→j < sz→f c' = (f c).set j u→(l.flatMap f).set (i * sz + j) u = (l.set i c').flatMap f
 | [],_,_,_,_,_,h,_,_=>by simp at h
 | a :: l,0,j,c,c',u,h,R,hc=>by
  simp at h; subst h
  rw [List.set_cons_zero,List.flatMap_cons,List.flatMap_cons,hc,Nat.zero_mul,Nat.zero_add,List.set_append_left _ _ (by rw [hf]; exact R)]
 | a :: l,i + 1,j,c,c',u,h,R,hc=>by
  simp at h
  rw [List.set_cons_succ,List.flatMap_cons,List.flatMap_cons,← flat_set hf l i j c c' u h R hc,List.set_append_right _ _ (by rw [hf,Nat.add_mul]; omega),hf]
  congr 2
  rw [Nat.add_mul]; omega
def az (l:List Od) (k:Nat) (c:Od) (qty:Int):List Od:=if c.left = qty then l.take k ++ l.drop (k + 1) else l.set k { c with left:=c.left - qty }
structure TookAt (p o:Nat) (G:Option Nat) (w w':World):Prop where
 os:w'.os = w.os
 tape:w'.tape = w.tape
 output:w'.output = w.output
 size:w.heap.size ≤ w'.heap.size
 block:∀ k,k < w.heap.size→k ≠ p→some k ≠ G→w'.heap[k]? = w.heap[k]?
 cell:∀ j,j ≠ o + 1→w'.cell? ⟨p,j,none⟩ = w.cell? ⟨p,j,none⟩
 frozen:∀ j,w'.frozen? ⟨p,j,none⟩ = w.frozen? ⟨p,j,none⟩
 kind:∀ cur t x,w.heap[p]? = some (.cells cur t x)→∃ cur',w'.heap[p]? = some (.cells cur' t x)
theorem zM (w:World) (p o:Nat) (u:Value) {xr:Array Value} {t:TypeId} {x:Nat × Nat} (h:w.heap[p]? = some (.cells xr t x)):∃ cur',(w.setCell (J p o) u).heap[p]? = some (.cells cur' t x):=by
 simp [World.setCell,Array.getElem?_modify,h]
theorem zr {W:World} {B e sz n:Nat} {v:Value} {xs:List Value} (h:W.ownsRow B e sz v n xs) {b:Nat} (L:some b ≠ v.ownBlock) (o:Nat) (u:Value):(W.setCell (J b o) u).ownsRow B e sz v n xs :=
 h.kept (row:=some b) ⟨rfl,rfl,rfl,by simp [World.setCell],fun k _ hk=>yS _ _ _ _ (fun e=>hk (by rw [e]))⟩ (.inr (Ne.symm L))
theorem br {p o:Nat} {G:Option Nat} {w w':World} (h:w.grownBy w' G) (hp:p < w.heap.size) (xB:some p ≠ G):TookAt p o G w w' :=
 ⟨h.os,h.tape,h.output,h.size,fun k hk _ hG=>h.block k hk hG,fun j _=>yQ (a:=(J p j)) (h.block p hp xB),fun j=>World.frozen?_of_block (a:=(J p j)) (h.block p hp xB),fun xr t x hh=>⟨xr,(h.block p hp xB).trans hh⟩⟩
theorem bN {p o:Nat} {G:Option Nat} {w w1 w2:World} (Q:TookAt p o G w w1) (N:TookAt p o G w1 w2):TookAt p o G w w2 :=
 ⟨N.os.trans Q.os,N.tape.trans Q.tape,N.output.trans Q.output,yN Q.size N.size,fun k hk hp hG=>(N.block k (yJ hk Q.size) hp hG).trans (Q.block k hk hp hG),fun j R=>(N.cell j R).trans (Q.cell j R),fun j=>(N.frozen j).trans (Q.frozen j),fun xr t x hh=>by obtain ⟨c1,h3⟩:=Q.kind xr t x hh; exact N.kind c1 t x h3⟩
theorem cP {p o:Nat} {G:Option Nat} (w:World) (u:Value):TookAt p o G w (w.setCell (J p (o + 1)) u) :=
 ⟨rfl,rfl,rfl,by simp [World.setCell],fun k _ hp _=>yS _ _ _ _ hp,fun j R=>yL _ _ _ _ (zO (fun e=>R e.symm)),fun j=>World.frozen?_setCell _ _ _ _,fun xr t x hh=>zM w p (o + 1) u hh⟩
theorem zk {W W':World} {B:Nat} {v:Value} {l:List Od} (h:ORow W B v l) (L:yn W W'):ORow W' B v l :=
 World.ownsRow.kept h (row:=none) (zX L tg) (by cases v.ownBlock <;> simp)
theorem oRow_left {W:World} {B g n A k:Nat} {l:List Od} {c:Od} (h:ORow W B (.slice (some (J g 0)) n A) l) (hn:l.length = n) (hk:l[k]? = some c) (x:Int) :
  ORow (W.setCell (J g (k * 6 + 3)) (H x)) B (.slice (some (J g 0)) n A) (l.set k { c with left:=x })∧W.grownBy (W.setCell (J g (k * 6 + 3)) (H x)) (some g):=by
 subst hn
 have s:=World.ownsRow.stored h (k * 6 + 3) (H x)
 refine ⟨?_,s.2⟩
 have e:=flat_set Od.len l k 3 c { c with left:=x } (H x) hk (by omega) rfl
 show World.ownsRow _ _ _ _ _ (l.set k _).length _
 rw [List.length_set,← e]; exact s.1
theorem takeFrom_any (p o B:Nat) (next id qty:Int) (vq:Value) (l:List Od) (k:Nat) (c:Od) (w:World) (c0:w.cell? (J p o) = some (H next)) (c1:w.cell? (J p (o + 1)) = some vq) (f1:w.frozen? (J p (o + 1)) = false)
  (Z:ORow w B vq l) (hp:some p ≠ vq.ownBlock) (hpw:p < w.heap.size) (hB:B ≤ w.heap.size) (hn:l.length ≤ 1000) (hk:plc l id = k) (hc:l[k]? = some c) (jm:0 ≤ qty) (jn:qty ≤ c.left) (xo:c.left ≤ 1000000) :
  Calls Tryz.prog 59 #[I p o,H id,H qty] w fun e w'=>∃ vw,e = ym (.tuple #[])∧w'.cell? (J p (o + 1)) = some vw∧ORow w' B vw (az l k c qty)∧TookAt p o vq.ownBlock w w':=by
 have xB:l ≠ []:=by rintro rfl; simp at hc
 have kO:=(yG.1 hc).1
 have HO:=Y Z
 obtain ⟨g,A,rfl,vY,hBg,hgw⟩:=df Z xB
 have HK:=Y hk
 have HC:=Y hc
 clear Z hk hc xB
 go_enter Tryz.func59,Tryz.ntmps59
 go_wp2_with fail
 refine (dn next _ l id w (zK (U HO) (by omega))).mono ?_
 rintro e w1 ⟨rfl,xX⟩
 rw [U HK]
 have xW:=Y xX
 have vh:=Y (zk (U HO) xX)
 have d1:w1.cell? (J p (o + 1)) = some (.slice (some (J g 0)) l.length A):=(xX.cell (p:=(J p (o + 1))) hpw).trans c1
 have e1:w1.frozen? (J p (o + 1)) = false:=(xX.frozen (p:=(J p (o + 1))) hpw).trans f1
 have hsz1:=xX.size
 obtain ⟨a',cp',ee,_,hcl1⟩:=zK (U vh) (by omega)
 obtain ⟨b',uJ,e2,_,hcl1⟩:=hcl1 (by intro h; rw [h] at kO; simp at kO)
 rw [e2] at ee
 simp only [Value.slice.injEq,Option.some.injEq,Addr.mk.injEq,and_true,true_and] at ee
 obtain ⟨⟨rfl,rfl⟩,-⟩:=ee
 have hcc:=hcl1 k c (U HC)
 rw [Nat.zero_add] at hcc
 obtain ⟨-,-,-,y3,-⟩:=zC hcc
 have fz:=World.ownsRow.frozenAt (U vh) (k * 6 + 3)
 have kY:(k:Int) < l.length:=by omega
 have hk0:(0:Int) ≤ k:=by omega
 have hwr:IntKind.i64.wrap (c.left - qty) = c.left - qty:=by rw [IntKind.wrap_i64]; omega
 have hpg:p ≠ g:=by simpa [Value.ownBlock] using hp
 have HS:=Y (oRow_left (U vh) rfl (U HC) (c.left - qty))
 have d2:(w1.setCell (J g (k * 6 + 3)) (H (c.left - qty))).cell? (J p (o + 1)) = some (.slice (some (J g 0)) l.length A):=(yL _ _ _ _ (fun e=>hpg (by have:=congrArg Addr.block e; simpa using this.symm))).trans d1
 have d3:(w1.setCell (J g (k * 6 + 3)) (H (c.left - qty))).cell? (J g (k * 6 + 3)) = some (H (c.left - qty)):=yM _ _ _ y3
 have d4:(w1.setCell (J g (k * 6 + 3)) (H (c.left - qty))).frozen? (J p (o + 1)) = false:=(World.frozen?_setCell _ _ _ _).trans e1
 clear xX hcc hcl1 c0 c1 f1
 by_cases hz:c.left = qty
 ·have uA:c.left - qty = 0:=by omega
  have HH:Hid (az l k c qty = l.take k ++ l.drop (k + 1)):=if_pos hz
  obtain ⟨m,hm⟩:∃ m,l.length = k + 1 + m:=⟨l.length - (k + 1),by omega⟩
  have pH:(l.set k { c with left:=c.left - qty }).length = k + 1 + m:=by rw [List.length_set,hm]
  have hdel:(l.set k { c with left:=c.left - qty }).take k ++ (l.set k { c with left:=c.left - qty }).drop (k + 1) = l.take k ++ l.drop (k + 1):=by
   rw [List.take_set_of_le tg,List.drop_set_of_lt (by omega)]
  have HDEL:=Y hdel
  have HM:=Y hm
  have hb0:(c.left - qty == 0) = true:=by rw [beq_iff_eq]; exact uA
  obtain ⟨-,N | ⟨g',pw,xr,N,h3,h4,h5,h6,h7,h8⟩⟩:=(U HS).1
  ·simp at N
  simp only [Value.slice.injEq,Option.some.injEq,Addr.mk.injEq,and_true] at N
  obtain ⟨rfl,h9,rfl⟩:=N
  have HDC:Hid (Calls Tryz.prog 90 #[.slice (some (J g 0)) (k + 1 + m) A,H k,H ((k:Int) + 1)] (w1.setCell (J g (k * 6 + 3)) (H (c.left - qty))) _):=delete_any g k m A B xr (l.set k { c with left:=c.left - qty }) _ pH (by rw [List.length_set]; exact hn) h4 h5 h6 h7 h8 hBg
  have uL:=Y (U HS).2
  have hw1:p < (w1.setCell (J g (k * 6 + 3)) (H (c.left - qty))).heap.size:=by simp [World.setCell]; omega
  clear hdel hz pH h3 h4 h5 h6 h7 h8 h9 vY uA
  rw [hm] at d1 d2 kY ⊢
  clear hm
  go_wp2_with fail
  refine (U HDC).mono ?_
  rw [U HDEL]
  rintro e w3 ⟨rfl,ho3,uW⟩
  have s1:=uW.cell d2 (by simpa using hpg)
  have s2:w3.frozen? (J p (o + 1)) = false:=(World.frozen?_of_block (a:=(J p (o + 1))) (uW.block p hw1 (by simpa using hpg))).trans d4
  have qL:=Y ho3
  have vK:=Y uW
  clear ho3 uW
  go_wp2_with fail
  go_end0
  refine ⟨_,rfl,yM _ _ _ s1,?_,?_⟩
  ·rw [U HH]
   exact zr (U qL) (by simpa [Value.ownBlock] using hpg) (o + 1) _
  ·exact bN (bN (bN (br (zX (U xW) tg) hpw (by simpa [Value.ownBlock] using hpg)) (br (U uL) (by omega) (by simpa [Value.ownBlock] using hpg))) (br (U vK) hw1 (by simpa [Value.ownBlock] using hpg))) (cP _ _)
 ·have uA:(c.left - qty == 0) = false:=by rw [xd]; omega
  have HH:Hid (az l k c qty = l.set k { c with left:=c.left - qty }):=if_neg hz
  go_wp2_with fail
  go_end0
  refine ⟨_,rfl,d2,by rw [U HH]; exact (U HS).1,?_⟩
  exact bN (br (zX (U xW) tg) hpw (by simpa [Value.ownBlock] using hpg)) (br (U HS).2 (by omega) (by simpa [Value.ownBlock] using hpg))
section
variable {B0:Nat→World→Prop} {W W':World} {k:Nat} {xj:Prop→World→Nat→Value→Prop} {x:List Bool} {f:Nat→Value}
end
def RT (B0:World→Prop) (qt:(Nat→Value)→Act) (k h:Nat) (xj:Prop→Prop→World→Nat→Value→Prop) (x:List Bool) (xm:Act) (W:World):Prop :=
 ∃ f,xm = qt f∧(¬ x[k]? = some true→B0 W)∧∀ j,x[j]? = some true→xj (x[k]? = some true) (x[h]? = some true) W j (f j)
section
variable {B0:World→Prop} {W W':World} {k h:Nat} {xj:Prop→Prop→World→Nat→Value→Prop} {x:List Bool} {f:Nat→Value}
theorem zv (hh:∀ j,x[j]? = some true→xj (x[k]? = some true) (x[h]? = some true) W j (f j)) {i:Nat} (hik:i ≠ k) (hih:i ≠ h) (hm:∀ j v,xj (x[k]? = some true) (x[h]? = some true) W j v→xj (x[k]? = some true) (x[h]? = some true) W' j v) (hB:¬ x[k]? = some true→B0 W') {v:Value} (hv:xj (x[k]? = some true) (x[h]? = some true) W' i v) :
  (¬ (x.set i true)[k]? = some true→B0 W')∧∀ j,(x.set i true)[j]? = some true→xj ((x.set i true)[k]? = some true) ((x.set i true)[h]? = some true) W' j (upd f i v j):=by
 rw [yW hik,yW hih]
 refine ⟨hB,fun j R=>?_⟩
 by_cases hji:j = i
 ·subst hji; rw [zn]; exact hv
 ·rw [zo _ _ hji]
  rw [yW (fun e=>hji e.symm)] at R
  exact hm _ _ (hh j R)
theorem rt_one (hkh:k ≠ h) (hh:∀ j,x[j]? = some true→xj (x[k]? = some true) (x[h]? = some true) W j (f j)) (hk:x[k]? = some false) (hn:¬ x[h]? = some true) (hm:∀ j v,j ≠ k→xj False False W j v→xj True False W' j v) {v:Value} (hv:xj True False W' k v) :
  (¬ (x.set k true)[k]? = some true→B0 W')∧∀ j,(x.set k true)[j]? = some true→xj ((x.set k true)[k]? = some true) ((x.set k true)[h]? = some true) W' j (upd f k v j):=by
 have e:((x.set k true)[k]? = some true) = True:=by
  rw [List.getElem?_set_self (yG.1 hk).1]; simp
 have e2:((x.set k true)[h]? = some true) = False:=by
  rw [yW hkh]; exact eq_false hn
 have e3:(x[h]? = some true) = False:=eq_false hn
 have e4:(x[k]? = some true) = False:=by rw [hk]; simp
 rw [e,e2]
 refine ⟨fun h=>absurd trivial h,fun j R=>?_⟩
 by_cases hji:j = k
 ·subst hji; rw [zn]; exact hv
 ·rw [zo _ _ hji]
  rw [yW (fun e=>hji e.symm)] at R
  have:=hh j R
  rw [e3,e4] at this
  exact hm j _ hji this
theorem rt_two (hkh:h ≠ k) (hh:∀ j,x[j]? = some true→xj (x[k]? = some true) (x[h]? = some true) W j (f j)) (hk:x[k]? = some true) (hn:x[h]? = some false) (hm:∀ j,j ≠ h→x[j]? = some true→xj True False W j (f j)→xj True True W' j (f j)) {v:Value} (hv:xj True True W' h v) :
  (¬ (x.set h true)[k]? = some true→B0 W')∧∀ j,(x.set h true)[j]? = some true→xj ((x.set h true)[k]? = some true) ((x.set h true)[h]? = some true) W' j (upd f h v j):=by
 have e:((x.set h true)[h]? = some true) = True:=by
  rw [List.getElem?_set_self (yG.1 hn).1]; simp
 have e2:((x.set h true)[k]? = some true) = True:=by
  rw [yW hkh,hk]; simp
 have e3:(x[h]? = some true) = False:=by rw [hn]; simp
 have e4:(x[k]? = some true) = True:=by rw [hk]; simp
 rw [e,e2]
 refine ⟨fun h=>absurd trivial h,fun j R=>?_⟩
 by_cases hji:j = h
 ·subst hji; rw [zn]; exact hv
 ·rw [zo _ _ hji]
  rw [yW (fun e=>hji e.symm)] at R
  have:=hh j R
  rw [e3,e4] at this
  exact hm j hji R this
end
def trE (uy py qty pz:Int):Ev:=⟨3,zCm,uy,py,qty,pz,0⟩
abbrev ERow (W:World) (B:Nat) (v:Value) (l:List Ev):Prop:=W.ownsRow B 41 14 v l.length (l.flatMap Ev.vs)
theorem infoEv:(Tryz.prog.info? 41).map (fun i=>(i.zero,i.size,i.bytes)) = some (some (.agg (yu 0 0 0 0 0 0 0 0 ⟨#[]⟩ 0 0 0 0 0).toArray),14,120):=by kernel_rfl
theorem one_ev (e:Ev):∀ u ∈ e.vs,u.oneCell' = true:=by
 intro u hu
 simp [Ev.vs] at hu
 rcases hu with rfl | rfl | rfl | rfl | rfl | rfl | rfl | rfl | rfl | rfl | rfl | rfl | rfl | rfl <;> rfl
theorem zG {W W':World} {B:Nat} {v:Value} {l:List Ev} (h:ERow W B v l) (L:yn W W'):ERow W' B v l :=
 World.ownsRow.kept h (row:=none) (zX L tg) (by cases v.ownBlock <;> simp)
theorem cy {W:World} {B:Nat} {v:Value} {l:List Ev} (h:ERow W B v l) {b:Nat} (L:b < B) (o:Nat) (u:Value):ERow (W.setCell (J b o) u) B v l :=
 ownsRow_setCell_below h (a:=(J b o)) L u
theorem dt {W:World} {B e sz n:Nat} {v:Value} {xs:List Value} (h:W.ownsRow B e sz v n xs) (hn:0 < n):∃ g c,v = .slice (some (J g 0)) n c:=by
 rcases h.2 with ⟨_,h0⟩ | ⟨g,A,_,Q,_⟩
 ·omega
 ·exact ⟨g,A,Q⟩
theorem cellsT (W:World) (e:Ev) (t:TypeId):∀ j u,e.vs[j]? = some u→(W.alloc (Obj.cells e.vs.toArray t)).cell? (((yq W 0):Addr).add j) = some u:=fun j u h=>bT W e.vs t j u h
def DT (mb fb B:Nat) (W0:World) (vt:Value) (ts:List Ev) (uy py qty pz:Int) (p q:Prop) (V:World):Nat→Value→Prop
 | 0,v=>v = I mb 0
 | 1,v=>v = I mb 0
 | 2,v=>v = I mb 0
 | 3,v=>v = I mb 8
 | 4,v=>v = vt
 | 5,v=>v = I mb 0
 | 6,v=>v = I mb 0
 | 7,v=>v = I mb 2
 | 8,v=>v = I mb 2
 | 9,v=>v = H uy
 | 10,v=>v = I fb 0
 | 11,v=>v = H py
 | 12,v=>v = H qty
 | 13,v=>v = I fb 2
 | 14,v=>v = H pz
 | 15,v=>v = evV (trE uy py qty pz)
 | 16,v=>∃ s,v = .slice (some (J s 0)) 1 1∧(¬ p→∀ j u,(trE uy py qty pz).vs[j]? = some u→V.cell? (((J s 0):Addr).add j) = some u)
 | 17,v=>∃ a c,v = .slice a (ts.length + 1) c∧p∧(¬ q→ERow V B v (ts ++ [trE uy py qty pz])∧W0.grownBy V vt.ownBlock)∧(q→V.cell? (J mb 8) = some v∧ERow V B v (ts ++ [trE uy py qty pz])∧TookAt mb 7 vt.ownBlock W0 V)
 | 18,v=>v = I mb 0
 | 19,v=>v = I mb 8
 | _,_=>True
section
variable {mb fb B:Nat} {W0 V V':World} {vt:Value} {ts:List Ev} {uy py qty pz:Int} {p q:Prop}
theorem dt_alloc {o:Obj} (hp:¬ p):∀ j v,DT mb fb B W0 vt ts uy py qty pz p q V j v→DT mb fb B W0 vt ts uy py qty pz p q (V.alloc o) j v:=by
 intro j v h
 match j with
 | 0 | 1 | 2 | 3 | 4 | 5 | 6 | 7 | 8 | 9 | 10 | 11 | 12 | 13 | 14 | 15 | 18 | 19=>exact h
 | 16 =>
  obtain ⟨s,Q,N⟩:=h
  exact ⟨s,Q,fun hp j u hu=>(yV _ _ _ (yK V _ (N hp j u hu))).trans (N hp j u hu)⟩
 | 17=>obtain ⟨_,_,_,N,_⟩:=h; exact absurd N hp
 | j + 20=>trivial
theorem dt_one:∀ j v,j ≠ 17→DT mb fb B W0 vt ts uy py qty pz False False V j v→DT mb fb B W0 vt ts uy py qty pz True False V' j v:=by
 intro j v R h
 match j with
 | 0 | 1 | 2 | 3 | 4 | 5 | 6 | 7 | 8 | 9 | 10 | 11 | 12 | 13 | 14 | 15 | 18 | 19=>exact h
 | 16 =>
  obtain ⟨s,Q,N⟩:=h
  exact ⟨s,Q,fun hp=>absurd trivial hp⟩
 | 17=>exact absurd rfl R
 | j + 20=>trivial
theorem dt_two {v:Value}:∀ j,j ≠ 20→DT mb fb B W0 vt ts uy py qty pz True False V j v→(j = 17→DT mb fb B W0 vt ts uy py qty pz True True V' 17 v)→DT mb fb B W0 vt ts uy py qty pz True True V' j v:=by
 intro j R h kI
 match j with
 | 0 | 1 | 2 | 3 | 4 | 5 | 6 | 7 | 8 | 9 | 10 | 11 | 12 | 13 | 14 | 15 | 18 | 19=>exact h
 | 16 =>
  obtain ⟨s,Q,N⟩:=h
  exact ⟨s,Q,fun hp=>absurd trivial hp⟩
 | 17=>exact kI rfl
 | j + 20=>trivial
end
end Go.Proofs.YtdliebbfcmdmaaaGreat
