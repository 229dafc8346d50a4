/-
  An order taken out of a row, by the program's library: proved by walking the function.
-/
import Derived.Test.YtbakanofkghmiaaGreatUj13
import Derived.Laws.CopyOwn
set_option linter.unusedVariables false
set_option maxHeartbeats 6400000
set_option maxRecDepth 100000
namespace Go.Proofs.YtbakanofkghmiaaGreat
open Go.RowKit
theorem eu {P:Program} {w:World} {ops:Array Oper} {rest:List Oper} {o:Oper} {a:Act} {xe:Exit→Act→World→Prop} (hgd:o.guard = none) (s x:Operand) (t:TypeId)
  (Z:o.op = .call { callee:=.builtin .append,args:=#[s,x],argTypes:=#[t,t] })
  (e:TypeId) (i:TypeInfo) (size:Nat) (ht:P.underlying t = some (.slice e)) (hi:P.info? e = some i) (hsize:i.size = size)
  (g pS sCap:Nat) (xp:Array Value) (hg:w.heap[g]? = some (.cells xp e (0,0))) (hs:a.eval s = .slice (some (J g 0)) pS sCap)
  (ad:Addr) (m c:Nat) (news:List Value) (hx:a.eval x = .slice (some ad) m c) (hl:news.length = m * size) (hnews:∀ j u,news[j]? = some u→w.cell? (ad.add j) = some u) (G:∀ u ∈ news,u.oneCell' = true)
  (hroom:pS + m ≤ sCap) (kq:pS * size + news.length ≤ xp.size)
  (h:wpList P ops xe rest (a.put o.dst (.slice (some (J g 0)) (pS + m) sCap)) (w.setRow g (xp.toList.take (pS * size) ++ news ++ xp.toList.drop (pS * size + news.length)).toArray)):wpList P ops xe (o :: rest) a w:=by
 subst hsize
 refine wpList_plain hgd fun hj hK=>?_
 have hrun:=run_append_room (P:=P) w t o.type e i ht hi g pS sCap xp hg ad m c news hl hnews G hroom kq
 unfold Oper.wp execOp
 simp only [Z,resolve,invoke,builtin,Sem.run_bind,Sem.run_pure,Result.andThen_ok,List.map_toArray,List.map_cons,List.map_nil,hs,hx,hrun]
 exact hK _ _ h
theorem clear_row {P:Program} (w:World) (T ty e:TypeId) (i:TypeInfo) (z:Value) (ht:P.underlying T = some (.slice e)) (hi:P.info? e = some i) (hz:i.zero = some z) (g o c:Nat) (xp:Array Value) (hg:w.heap[g]? = some (.cells xp e (0,0)))
  (kq:o + z.cells.toList.length ≤ xp.size) (G:∀ v ∈ z.cells.toList,v.oneCell' = true) :
  (Builtin.clear_ #[T] ty #[.slice (some (J g o)) 1 c]).run P w = .ok (.tuple #[]) (w.setRow g (xp.toList.take o ++ z.cells.toList ++ xp.toList.drop (o + z.cells.toList.length)).toArray):=by
 have uO:=run_storeCells_at P g o e z.cells.toList 0 xp w hg (by simpa using kq) G
 simp only [Nat.add_zero] at uO
 have hzc:(Builtin.zeroCells z.cells 1).toList = z.cells.toList:=by
  refine List.ext_getElem (by simp [Builtin.zeroCells]) fun j G D=>?_
  have K:j < z.cells.size:=by simpa using D
  simp [Builtin.zeroCells,Nat.mod_eq_of_lt K,K]
 simp [Builtin.clear_,run_underlying ht,zeroValue,typeInfo,hi,hz,hzc,uO]
abbrev zOdL:List Value:=(yu 0 0 0 0 0 ⟨#[]⟩)
theorem row_gone {xp:Array Value} {l:List Od} {i m A:Nat} {zs:List Value} (hl:l.length = i + 1 + m) (hc:l.length ≤ A) (hs:xp.size = A * 6) (ht:xp.toList.take (l.length * 6) = l.flatMap Od.vs) (hz:zs.length = 6) :
  (((xp.toList.take (i * 6) ++ (l.drop (i + 1)).flatMap Od.vs ++ xp.toList.drop (i * 6 + m * 6)).take ((i + m) * 6) ++ zs ++ (xp.toList.take (i * 6) ++ (l.drop (i + 1)).flatMap Od.vs ++ xp.toList.drop (i * 6 + m * 6)).drop ((i + m) * 6 + zs.length)).take ((i + m) * 6) = (l.take i ++ l.drop (i + 1)).flatMap Od.vs) ∧
  (xp.toList.take (i * 6) ++ (l.drop (i + 1)).flatMap Od.vs ++ xp.toList.drop (i * 6 + m * 6)).length = A * 6:=by
 have X:xp.toList.length = A * 6:=by simpa using hs
 have hdl:((l.drop (i + 1)).flatMap Od.vs).length = m * 6:=by rw [zK Od.len,List.length_drop]; congr 1; omega
 have hti:xp.toList.take (i * 6) = (l.take i).flatMap Od.vs:=by
  have h:=congrArg (List.take (i * 6)) ht
  rw [List.take_take,show min (i * 6) (l.length * 6) = i * 6 by omega] at h
  rw [h]
  conv=>lhs; rw [← List.take_append_drop i l,List.flatMap_append]
  rw [List.take_append_of_le_length (by rw [zK Od.len,List.length_take]; omega),yX (by rw [zK Od.len,List.length_take]; omega)]
 have xC:(xp.toList.take (i * 6) ++ (l.drop (i + 1)).flatMap Od.vs).length = (i + m) * 6:=by
  rw [yN,hdl,List.length_take,X]; omega
 refine ⟨?_,?_⟩
 ·rw [List.append_assoc ((List.take _ _)),List.take_append_of_le_length (by rw [List.length_take,yN,xC,List.length_drop,X]; omega),List.take_take,Nat.min_self,List.take_append_of_le_length (by rw [xC]; omega),yX (by rw [xC]; omega),hti,List.flatMap_append]
 ·rw [yN,xC,List.length_drop,X]; omega
theorem delete_any (g i m A B:Nat) (xp:Array Value) (l:List Od) (w:World) (hl:l.length = i + 1 + m) (hn:l.length ≤ 1000) (hg:w.heap[g]? = some (.cells xp 49 (0,0))) (vW:l.length ≤ A) (hmx:A ≤ maxLen) (qV:xp.size = A * 6) (oL:xp.toList.take (l.length * 6) = l.flatMap Od.vs) (hB:B ≤ g) :
  Calls Tryz.prog 154 #[.slice (some (J g 0)) (i + 1 + m) A,H i,H ((i:Int) + 1)] w fun e w'=>e = yl (.slice (some (J g 0)) (i + m) A)∧ORow w' B (.slice (some (J g 0)) (i + m) A) (l.take i ++ l.drop (i + 1))∧w.grownBy w' (some g):=by
 obtain ⟨i0,uE,uF,uK,uV⟩:=info_parts Tryz.infoOrder
 have HG:=Y hg
 have HRC:Hid (∀ j c,l[j]? = some c→w.drew.rangeAt g (0 + j * 6) c.vs):=by
  have Z:ORow w B (.slice (some (J g 0)) l.length A) l:=⟨by rw [zK Od.len],.inr ⟨g,A,xp,rfl,hB,hg,vW,hmx,qV,oL⟩⟩
  obtain ⟨a',c',e,_,h⟩:=zR Z (by omega)
  intro j c K
  obtain ⟨b',ux,e2,_,h⟩:=h (by intro h; rw [h] at K; simp at K)
  rw [e2] at e
  simp only [Value.slice.injEq,Option.some.injEq,Addr.mk.injEq,and_true,true_and] at e
  obtain ⟨⟨rfl,rfl⟩,-⟩:=e
  exact h j c K
 have oP:=Y oL
 have HSZ:=Y qV
 have HL:=Y hl
 have G:(i:Int) + 1 ≤ (i:Int) + 1 + m:=by omega
 have D:(i:Int) + 1 + m ≤ A:=by omega
 have h3:(0:Int) ≤ i:=by omega
 have h4:(i:Int) ≤ (i:Int) + 1:=by omega
 have h5:(0:Int) ≤ (i:Int) + 1:=by omega
 have h6:(i:Int) ≤ A:=by omega
 have b1:((i:Int) == (i:Int) + 1) = false:=by rw [xb]; omega
 clear hg oL qV hl
 go_enter Tryz.func154,Tryz.ntmps154
 go_wp2_with fail
 refine eg 6 (by kernel_rfl) (by kernel_rfl) ?_
 simp only [yR,List.take_zero,yS,List.drop_zero]
 by_cases hcc:A = i + 1
 ·have hm0:m = 0:=by have:=U HL; omega
  subst hm0
  subst hcc
  repeat still_step
  refine wpStill_nil ?_
  refine eu rfl (.tmp 22) (.tmp 25) 26 rfl 49 i0 6 Tryz.underlying26 uE uK g i (i + 1) xp (U HG) rfl (J g 0) 0 0 ((l.drop (i + 1)).flatMap Od.vs) rfl (by rw [zK Od.len,List.length_drop]; congr 1; have:=U HL; omega) (by rw [yY (by have:=U HL; omega)]; simp) (bi _) (by omega) (by rw [zK Od.len,List.length_drop,U HSZ]; have:=U HL; omega) ?_
  have hdl:((l.drop (i + 1)).flatMap Od.vs).length = 0 * 6:=by rw [zK Od.len,List.length_drop]; congr 1; have:=U HL; omega
  rw [hdl]
  obtain ⟨oE,qQ⟩:=row_gone (zs:=zOdL) (U HL) vW (U HSZ) (U oP) rfl
  have ot:=Y oE
  generalize hC1:(xp.toList.take (i * 6) ++ (l.drop (i + 1)).flatMap Od.vs ++ xp.toList.drop (i * 6 + 0 * 6)) = C1 at ot qQ ⊢
  have hx1:(w.drew.setRow g C1.toArray).heap[g]? = some (.cells C1.toArray 49 (0,0)):=setRow_heap w.drew g xp C1.toArray 49 (0,0) (U HG)
  have kw:Hid (w.grownBy (w.drew.setRow g C1.toArray) (some g)):=⟨rfl,rfl,rfl,by simp,fun k hk xA=>setRow_other w.drew g k C1.toArray (fun e=>xA (by rw [e]))⟩
  have jw:=Y hx1
  clear hx1 hC1 oE hdl
  generalize w.drew.setRow g C1.toArray = X1 at jw kw ⊢
  have X:∀ (ty:TypeId) (c:Nat),(Builtin.clear_ #[26] ty #[.slice (some (J g (i * 6))) 1 c]).run Tryz.prog X1 = .ok (.tuple #[]) (X1.setRow g (C1.take (i * 6) ++ zOdL ++ C1.drop (i * 6 + 6)).toArray):=fun ty c=>by
   have:=clear_row X1 26 ty 49 i0 _ Tryz.underlying26 uE uF g (i * 6) c C1.toArray (U jw) (by show i * 6 + 6 ≤ C1.toArray.size; rw [List.size_toArray,qQ]; omega) (by simp [Value.cells,Value.oneCell'])
   simpa [Value.cells] using this
  have ai:=Y (setRow_heap X1 g C1.toArray (C1.take (i * 6) ++ zOdL ++ C1.drop (i * 6 + 6)).toArray 49 (0,0) (U jw))
  have uN:Hid (w.grownBy (X1.setRow g (C1.take (i * 6) ++ zOdL ++ C1.drop (i * 6 + 6)).toArray) (some g)):=(U kw).trans ⟨rfl,rfl,rfl,by simp,fun k hk xA=>setRow_other X1 g k _ (fun e=>xA (by rw [e]))⟩
  generalize hC2:(C1.take (i * 6) ++ zOdL ++ C1.drop (i * 6 + 6)).toArray = C2 at X ai uN
  have HC2:=Y hC2
  have jN:=Y qQ
  clear hC2
  have k1:¬ i + 1 = i:=by omega
  have k2:i + 1 - i = 1:=by omega
  clear qQ
  go_wp2_with fail
  go_ret
  have pJ:(l.take i ++ l.drop (i + 1)).length = i + 0:=by have:=U HL; simp; omega
  refine ⟨rfl,⟨by rw [zK Od.len],.inr ⟨g,i + 1,_,by rw [pJ],hB,U ai,by rw [pJ]; omega,hmx,?_,?_⟩⟩,U uN⟩
  ·rw [← U HC2]; simp [U jN]; omega
  ·rw [pJ,← U HC2]; simpa using U ot
 ·repeat still_step
  refine wpStill_nil ?_
  refine eu rfl (.tmp 22) (.tmp 25) 26 rfl 49 i0 6 Tryz.underlying26 uE uK g i A xp (U HG) rfl (J g ((i + 1) * 6)) m (A - (i + 1)) ((l.drop (i + 1)).flatMap Od.vs) rfl (by rw [zK Od.len,List.length_drop]; congr 1; have:=U HL; omega) (by have h:=cW (W:=w.drew) (g:=g) (off:=0) (l:=l) (U HRC) (i + 1) l.length; rw [yX (by rw [List.length_drop]; omega),Nat.zero_add] at h; exact h) (bi _) (by omega) (by rw [zK Od.len,List.length_drop,U HSZ]; have:=U HL; omega) ?_
  have hdl:((l.drop (i + 1)).flatMap Od.vs).length = m * 6:=by rw [zK Od.len,List.length_drop]; congr 1; have:=U HL; omega
  rw [hdl]
  obtain ⟨oE,qQ⟩:=row_gone (zs:=zOdL) (U HL) vW (U HSZ) (U oP) rfl
  have ot:=Y oE
  generalize hC1:(xp.toList.take (i * 6) ++ (l.drop (i + 1)).flatMap Od.vs ++ xp.toList.drop (i * 6 + m * 6)) = C1 at ot qQ ⊢
  have hx1:(w.drew.setRow g C1.toArray).heap[g]? = some (.cells C1.toArray 49 (0,0)):=setRow_heap w.drew g xp C1.toArray 49 (0,0) (U HG)
  have kw:Hid (w.grownBy (w.drew.setRow g C1.toArray) (some g)):=⟨rfl,rfl,rfl,by simp,fun k hk xA=>setRow_other w.drew g k C1.toArray (fun e=>xA (by rw [e]))⟩
  have jw:=Y hx1
  clear hx1 hC1 oE hdl
  generalize w.drew.setRow g C1.toArray = X1 at jw kw ⊢
  have X:∀ (ty:TypeId) (c:Nat),(Builtin.clear_ #[26] ty #[.slice (some (J g ((i + m) * 6))) 1 c]).run Tryz.prog X1 = .ok (.tuple #[]) (X1.setRow g (C1.take ((i + m) * 6) ++ zOdL ++ C1.drop ((i + m) * 6 + 6)).toArray):=fun ty c=>by
   have:=clear_row X1 26 ty 49 i0 _ Tryz.underlying26 uE uF g ((i + m) * 6) c C1.toArray (U jw) (by show (i + m) * 6 + 6 ≤ C1.toArray.size; rw [List.size_toArray,qQ]; omega) (by simp [Value.cells,Value.oneCell'])
   simpa [Value.cells] using this
  have ai:=Y (setRow_heap X1 g C1.toArray (C1.take ((i + m) * 6) ++ zOdL ++ C1.drop ((i + m) * 6 + 6)).toArray 49 (0,0) (U jw))
  have uN:Hid (w.grownBy (X1.setRow g (C1.take ((i + m) * 6) ++ zOdL ++ C1.drop ((i + m) * 6 + 6)).toArray) (some g)):=(U kw).trans ⟨rfl,rfl,rfl,by simp,fun k hk xA=>setRow_other X1 g k _ (fun e=>xA (by rw [e]))⟩
  generalize hC2:(C1.take ((i + m) * 6) ++ zOdL ++ C1.drop ((i + m) * 6 + 6)).toArray = C2 at X ai uN
  have HC2:=Y hC2
  have jN:=Y qQ
  clear hC2
  have k1:¬ A = i + m:=by have:=U HL; omega
  have k2:i + 1 + m - (i + m) = 1:=by omega
  have k3:(i:Int) + m ≤ (i:Int) + 1 + m:=by omega
  have k4:(0:Int) ≤ (i:Int) + m:=by omega
  clear qQ
  go_wp2_with fail
  go_ret
  have pJ:(l.take i ++ l.drop (i + 1)).length = i + m:=by have:=U HL; simp; omega
  refine ⟨rfl,⟨by rw [zK Od.len],.inr ⟨g,A,_,by rw [pJ],hB,U ai,by rw [pJ]; omega,hmx,?_,?_⟩⟩,U uN⟩
  ·rw [← U HC2]; simp [U jN]; omega
  ·rw [pJ,← U HC2]; simpa using U ot
theorem flat_set {α:Type} {f:α→List Value} {sz:Nat} (hf:∀ c,(f c).length = sz):∀ (l:List α) (i j:Nat) (c c':α) (u:Value),l[i]? = some c→j < sz→f c' = (f c).set j u→(l.flatMap f).set (i * sz + j) u = (l.set i c').flatMap f
 | [],_,_,_,_,_,h,_,_=>by simp at h
 | a :: l,0,j,c,c',u,h,K,hc=>by
  simp at h; subst h
  rw [List.set_cons_zero,List.flatMap_cons,List.flatMap_cons,hc,Nat.zero_mul,Nat.zero_add,List.set_append_left _ _ (by rw [hf]; exact K)]
 | a :: l,i + 1,j,c,c',u,h,K,hc=>by
  simp at h
  rw [List.set_cons_succ,List.flatMap_cons,List.flatMap_cons,← flat_set hf l i j c c' u h K hc,List.set_append_right _ _ (by rw [hf,Nat.add_mul]; omega),hf]
  congr 2
  rw [Nat.add_mul]; omega
def aB (l:List Od) (k:Nat) (c:Od) (qty:Int):List Od:=if c.left = qty then l.take k ++ l.drop (k + 1) else l.set k { c with left:=c.left - qty }
structure TookAt (p o:Nat) (h1:Option Nat) (w w':World):Prop where
 os:w'.os = w.os
 tape:w'.tape = w.tape
 output:w'.output = w.output
 size:w.heap.size ≤ w'.heap.size
 block:∀ k,k < w.heap.size→k ≠ p→some k ≠ h1→w'.heap[k]? = w.heap[k]?
 cell:∀ j,j ≠ o + 1→w'.cell? ⟨p,j,none⟩ = w.cell? ⟨p,j,none⟩
 frozen:∀ j,w'.frozen? ⟨p,j,none⟩ = w.frozen? ⟨p,j,none⟩
 kind:∀ cur t x,w.heap[p]? = some (.cells cur t x)→∃ cur',w'.heap[p]? = some (.cells cur' t x)
theorem zS (w:World) (p o:Nat) (u:Value) {xp:Array Value} {t:TypeId} {x:Nat × Nat} (h:w.heap[p]? = some (.cells xp t x)):∃ cur',(w.setCell (J p o) u).heap[p]? = some (.cells cur' t x):=by
 simp [World.setCell,Array.getElem?_modify,h]
theorem zw {W:World} {B e sz n:Nat} {v:Value} {xs:List Value} (h:W.ownsRow B e sz v n xs) {b:Nat} (O:some b ≠ v.ownBlock) (o:Nat) (u:Value):(W.setCell (J b o) u).ownsRow B e sz v n xs :=
 h.kept (row:=some b) ⟨rfl,rfl,rfl,by simp [World.setCell],fun k _ hk=>yQ _ _ _ _ (fun e=>hk (by rw [e]))⟩ (.inr (Ne.symm O))
theorem bz {p o:Nat} {h1:Option Nat} {w w':World} (h:w.grownBy w' h1) (hp:p < w.heap.size) (xA:some p ≠ h1):TookAt p o h1 w w' :=
 ⟨h.os,h.tape,h.output,h.size,fun k hk _ hG=>h.block k hk hG,fun j _=>yO (a:=(J p j)) (h.block p hp xA),fun j=>World.frozen?_of_block (a:=(J p j)) (h.block p hp xA),fun xp t x hh=>⟨xp,(h.block p hp xA).trans hh⟩⟩
theorem bQ {p o:Nat} {h1:Option Nat} {w w1 w2:World} (G:TookAt p o h1 w w1) (D:TookAt p o h1 w1 w2):TookAt p o h1 w w2 :=
 ⟨D.os.trans G.os,D.tape.trans G.tape,D.output.trans G.output,yL G.size D.size,fun k hk hp hG=>(D.block k (yH hk G.size) hp hG).trans (G.block k hk hp hG),fun j K=>(D.cell j K).trans (G.cell j K),fun j=>(D.frozen j).trans (G.frozen j),fun xp t x hh=>by obtain ⟨c1,h3⟩:=G.kind xp t x hh; exact D.kind c1 t x h3⟩
theorem cZ {p o:Nat} {h1:Option Nat} (w:World) (u:Value):TookAt p o h1 w (w.setCell (J p (o + 1)) u) :=
 ⟨rfl,rfl,rfl,by simp [World.setCell],fun k _ hp _=>yQ _ _ _ _ hp,fun j K=>yJ _ _ _ _ (zQ (fun e=>K e.symm)),fun j=>World.frozen?_setCell _ _ _ _,fun xp t x hh=>zS w p (o + 1) u hh⟩
theorem zj {W W':World} {B:Nat} {v:Value} {l:List Od} (h:ORow W B v l) (O:ym W W'):ORow W' B v l :=
 World.ownsRow.kept h (row:=none) (aO O hb) (by cases v.ownBlock <;> simp)
theorem oRow_left {W:World} {B g n A k:Nat} {l:List Od} {c:Od} (h:ORow W B (.slice (some (J g 0)) n A) l) (hn:l.length = n) (hk:l[k]? = some c) (x:Int) :
  ORow (W.setCell (J g (k * 6 + 3)) (H x)) B (.slice (some (J g 0)) n A) (l.set k { c with left:=x })∧W.grownBy (W.setCell (J g (k * 6 + 3)) (H x)) (some g):=by
 subst hn
 have s:=World.ownsRow.stored h (k * 6 + 3) (H x)
 refine ⟨?_,s.2⟩
 have e:=flat_set Od.len l k 3 c { c with left:=x } (H x) hk (by omega) rfl
 show World.ownsRow _ _ _ _ _ (l.set k _).length _
 rw [List.length_set,← e]; exact s.1
theorem takeFrom_any (p o B:Nat) (next id qty:Int) (vq:Value) (l:List Od) (k:Nat) (c:Od) (w:World) (c0:w.cell? (J p o) = some (H next)) (c1:w.cell? (J p (o + 1)) = some vq) (f1:w.frozen? (J p (o + 1)) = false)
  (Z:ORow w B vq l) (hp:some p ≠ vq.ownBlock) (hpw:p < w.heap.size) (hB:B ≤ w.heap.size) (hn:l.length ≤ 1000) (hk:plc l id = k) (hc:l[k]? = some c) (jq:0 ≤ qty) (qU:qty ≤ c.left) (X:c.left ≤ 1000000) :
  Calls Tryz.prog 117 #[I p o,H id,H qty] w fun e w'=>∃ vw,e = yl (.tuple #[])∧w'.cell? (J p (o + 1)) = some vw∧ORow w' B vw (aB l k c qty)∧TookAt p o vq.ownBlock w w':=by
 have xA:l ≠ []:=by rintro rfl; simp at hc
 have kg:=(yE.1 hc).1
 have HO:=Y Z
 obtain ⟨g,A,rfl,vW,hBg,hgw⟩:=dn Z xA
 have HK:=Y hk
 have HC:=Y hc
 clear Z hk hc xA
 go_enter Tryz.func117,Tryz.ntmps117
 go_wp2_with fail
 refine (dy next _ l id w (zR (U HO) (by omega))).mono ?_
 rintro e w1 ⟨rfl,xU⟩
 rw [U HK]
 have xW:=Y xU
 have vl:=Y (zj (U HO) xU)
 have d1:w1.cell? (J p (o + 1)) = some (.slice (some (J g 0)) l.length A):=(xU.cell (p:=(J p (o + 1))) hpw).trans c1
 have e1:w1.frozen? (J p (o + 1)) = false:=(xU.frozen (p:=(J p (o + 1))) hpw).trans f1
 have hsz1:=xU.size
 obtain ⟨a',cp',ee,_,hcl1⟩:=zR (U vl) (by omega)
 obtain ⟨b',ux,e2,_,hcl1⟩:=hcl1 (by intro h; rw [h] at kg; simp at kg)
 rw [e2] at ee
 simp only [Value.slice.injEq,Option.some.injEq,Addr.mk.injEq,and_true,true_and] at ee
 obtain ⟨⟨rfl,rfl⟩,-⟩:=ee
 have hcc:=hcl1 k c (U HC)
 rw [Nat.zero_add] at hcc
 obtain ⟨-,-,-,y3,-⟩:=zz hcc
 have fz:=World.ownsRow.frozenAt (U vl) (k * 6 + 3)
 have kR:(k:Int) < l.length:=by omega
 have hk0:(0:Int) ≤ k:=by omega
 have hwr:IntKind.i64.wrap (c.left - qty) = c.left - qty:=by rw [IntKind.wrap_i64]; omega
 have hpg:p ≠ g:=by simpa [Value.ownBlock] using hp
 have HS:=Y (oRow_left (U vl) rfl (U HC) (c.left - qty))
 have d2:(w1.setCell (J g (k * 6 + 3)) (H (c.left - qty))).cell? (J p (o + 1)) = some (.slice (some (J g 0)) l.length A):=(yJ _ _ _ _ (fun e=>hpg (by have:=congrArg Addr.block e; simpa using this.symm))).trans d1
 have d3:(w1.setCell (J g (k * 6 + 3)) (H (c.left - qty))).cell? (J g (k * 6 + 3)) = some (H (c.left - qty)):=yK _ _ _ y3
 have d4:(w1.setCell (J g (k * 6 + 3)) (H (c.left - qty))).frozen? (J p (o + 1)) = false:=(World.frozen?_setCell _ _ _ _).trans e1
 clear xU hcc hcl1 c0 c1 f1
 by_cases hz:c.left = qty
 ·have uF:c.left - qty = 0:=by omega
  have HH:Hid (aB l k c qty = l.take k ++ l.drop (k + 1)):=if_pos hz
  obtain ⟨m,hm⟩:∃ m,l.length = k + 1 + m:=⟨l.length - (k + 1),by omega⟩
  have pJ:(l.set k { c with left:=c.left - qty }).length = k + 1 + m:=by rw [List.length_set,hm]
  have hdel:(l.set k { c with left:=c.left - qty }).take k ++ (l.set k { c with left:=c.left - qty }).drop (k + 1) = l.take k ++ l.drop (k + 1):=by
   rw [List.take_set_of_le hb,List.drop_set_of_lt (by omega)]
  have HDEL:=Y hdel
  have HM:=Y hm
  have hb0:(c.left - qty == 0) = true:=by rw [beq_iff_eq]; exact uF
  obtain ⟨-,D | ⟨g',pq,xp,D,h3,h4,h5,h6,h7,h8⟩⟩:=(U HS).1
  ·simp at D
  simp only [Value.slice.injEq,Option.some.injEq,Addr.mk.injEq,and_true] at D
  obtain ⟨rfl,h9,rfl⟩:=D
  have HDC:Hid (Calls Tryz.prog 154 #[.slice (some (J g 0)) (k + 1 + m) A,H k,H ((k:Int) + 1)] (w1.setCell (J g (k * 6 + 3)) (H (c.left - qty))) _):=delete_any g k m A B xp (l.set k { c with left:=c.left - qty }) _ pJ (by rw [List.length_set]; exact hn) h4 h5 h6 h7 h8 hBg
  have uN:=Y (U HS).2
  have hw1:p < (w1.setCell (J g (k * 6 + 3)) (H (c.left - qty))).heap.size:=by simp [World.setCell]; omega
  clear hdel hz pJ h3 h4 h5 h6 h7 h8 h9 vW uF
  rw [hm] at d1 d2 kR ⊢
  clear hm
  go_wp2_with fail
  refine (U HDC).mono ?_
  rw [U HDEL]
  rintro e w3 ⟨rfl,ho3,vh⟩
  have s1:=vh.cell d2 (by simpa using hpg)
  have s2:w3.frozen? (J p (o + 1)) = false:=(World.frozen?_of_block (a:=(J p (o + 1))) (vh.block p hw1 (by simpa using hpg))).trans d4
  have qL:=Y ho3
  have qf:=Y vh
  clear ho3 vh
  go_wp2_with fail
  go_end0
  refine ⟨_,rfl,yK _ _ _ s1,?_,?_⟩
  ·rw [U HH]
   exact zw (U qL) (by simpa [Value.ownBlock] using hpg) (o + 1) _
  ·exact bQ (bQ (bQ (bz (aO (U xW) hb) hpw (by simpa [Value.ownBlock] using hpg)) (bz (U uN) (by omega) (by simpa [Value.ownBlock] using hpg))) (bz (U qf) hw1 (by simpa [Value.ownBlock] using hpg))) (cZ _ _)
 ·have uF:(c.left - qty == 0) = false:=by rw [xb]; omega
  have HH:Hid (aB l k c qty = l.set k { c with left:=c.left - qty }):=if_neg hz
  go_wp2_with fail
  go_end0
  refine ⟨_,rfl,d2,by rw [U HH]; exact (U HS).1,?_⟩
  exact bQ (bz (aO (U xW) hb) hpw (by simpa [Value.ownBlock] using hpg)) (bz (U HS).2 (by omega) (by simpa [Value.ownBlock] using hpg))
def RT (B0:World→Prop) (qt:(Nat→Value)→Act) (k h:Nat) (h2:Prop→Prop→World→Nat→Value→Prop) (x:List Bool) (xj:Act) (W:World):Prop :=
 ∃ f,xj = qt f∧(¬ x[k]? = some true→B0 W)∧∀ j,x[j]? = some true→h2 (x[k]? = some true) (x[h]? = some true) W j (f j)
section
variable {B0:World→Prop} {W W':World} {k h:Nat} {h2:Prop→Prop→World→Nat→Value→Prop} {x:List Bool} {f:Nat→Value}
theorem zx (hh:∀ j,x[j]? = some true→h2 (x[k]? = some true) (x[h]? = some true) W j (f j)) {i:Nat} (hik:i ≠ k) (hih:i ≠ h) (hm:∀ j v,h2 (x[k]? = some true) (x[h]? = some true) W j v→h2 (x[k]? = some true) (x[h]? = some true) W' j v) (hB:¬ x[k]? = some true→B0 W') {v:Value} (hv:h2 (x[k]? = some true) (x[h]? = some true) W' i v) :
  (¬ (x.set i true)[k]? = some true→B0 W')∧∀ j,(x.set i true)[j]? = some true→h2 ((x.set i true)[k]? = some true) ((x.set i true)[h]? = some true) W' j (upd f i v j):=by
 rw [yU hik,yU hih]
 refine ⟨hB,fun j K=>?_⟩
 by_cases hji:j = i
 ·subst hji; rw [zn]; exact hv
 ·rw [zp _ _ hji]
  rw [yU (fun e=>hji e.symm)] at K
  exact hm _ _ (hh j K)
theorem rt_one (hkh:k ≠ h) (hh:∀ j,x[j]? = some true→h2 (x[k]? = some true) (x[h]? = some true) W j (f j)) (hk:x[k]? = some false) (hn:¬ x[h]? = some true) (hm:∀ j v,j ≠ k→h2 False False W j v→h2 True False W' j v) {v:Value} (hv:h2 True False W' k v) :
  (¬ (x.set k true)[k]? = some true→B0 W')∧∀ j,(x.set k true)[j]? = some true→h2 ((x.set k true)[k]? = some true) ((x.set k true)[h]? = some true) W' j (upd f k v j):=by
 have e:((x.set k true)[k]? = some true) = True:=by
  rw [List.getElem?_set_self (yE.1 hk).1]; simp
 have e2:((x.set k true)[h]? = some true) = False:=by
  rw [yU hkh]; exact eq_false hn
 have e3:(x[h]? = some true) = False:=eq_false hn
 have e4:(x[k]? = some true) = False:=by rw [hk]; simp
 rw [e,e2]
 refine ⟨fun h=>absurd trivial h,fun j K=>?_⟩
 by_cases hji:j = k
 ·subst hji; rw [zn]; exact hv
 ·rw [zp _ _ hji]
  rw [yU (fun e=>hji e.symm)] at K
  have:=hh j K
  rw [e3,e4] at this
  exact hm j _ hji this
theorem rt_two (hkh:h ≠ k) (hh:∀ j,x[j]? = some true→h2 (x[k]? = some true) (x[h]? = some true) W j (f j)) (hk:x[k]? = some true) (hn:x[h]? = some false) (hm:∀ j,j ≠ h→x[j]? = some true→h2 True False W j (f j)→h2 True True W' j (f j)) {v:Value} (hv:h2 True True W' h v) :
  (¬ (x.set h true)[k]? = some true→B0 W')∧∀ j,(x.set h true)[j]? = some true→h2 ((x.set h true)[k]? = some true) ((x.set h true)[h]? = some true) W' j (upd f h v j):=by
 have e:((x.set h true)[h]? = some true) = True:=by
  rw [List.getElem?_set_self (yE.1 hn).1]; simp
 have e2:((x.set h true)[k]? = some true) = True:=by
  rw [yU hkh,hk]; simp
 have e3:(x[h]? = some true) = False:=by rw [hn]; simp
 have e4:(x[k]? = some true) = True:=by rw [hk]; simp
 rw [e,e2]
 refine ⟨fun h=>absurd trivial h,fun j K=>?_⟩
 by_cases hji:j = h
 ·subst hji; rw [zn]; exact hv
 ·rw [zp _ _ hji]
  rw [yU (fun e=>hji e.symm)] at K
  have:=hh j K
  rw [e3,e4] at this
  exact hm j hji K this
end
def trE (uz pv qty pw:Int):Ev:=⟨3,zCm,uz,pv,qty,pw,0⟩
abbrev ERow (W:World) (B:Nat) (v:Value) (l:List Ev):Prop:=W.ownsRow B 46 14 v l.length (l.flatMap Ev.vs)
theorem infoEv:(Tryz.prog.info? 46).map (fun i=>(i.zero,i.size,i.bytes)) = some (some (.agg (yt 0 0 0 0 0 0 0 0 ⟨#[]⟩ 0 0 0 0 0).toArray),14,120):=by kernel_rfl
theorem one_ev (e:Ev):∀ u ∈ e.vs,u.oneCell' = true:=by
 intro u hu
 simp [Ev.vs] at hu
 rcases hu with rfl | rfl | rfl | rfl | rfl | rfl | rfl | rfl | rfl | rfl | rfl | rfl | rfl | rfl <;> rfl
theorem zI {W W':World} {B:Nat} {v:Value} {l:List Ev} (h:ERow W B v l) (O:ym W W'):ERow W' B v l :=
 World.ownsRow.kept h (row:=none) (aO O hb) (by cases v.ownBlock <;> simp)
theorem cE {W:World} {B:Nat} {v:Value} {l:List Ev} (h:ERow W B v l) {b:Nat} (O:b < B) (o:Nat) (u:Value):ERow (W.setCell (J b o) u) B v l :=
 ownsRow_setCell_below h (a:=(J b o)) O u
theorem dL {W:World} {B e sz n:Nat} {v:Value} {xs:List Value} (h:W.ownsRow B e sz v n xs) (hn:0 < n):∃ g c,v = .slice (some (J g 0)) n c:=by
 rcases h.2 with ⟨_,h0⟩ | ⟨g,A,_,G,_⟩
 ·omega
 ·exact ⟨g,A,G⟩
theorem cellsT (W:World) (e:Ev) (t:TypeId):∀ j u,e.vs[j]? = some u→(W.alloc (Obj.cells e.vs.toArray t)).cell? (((yp W 0):Addr).add j) = some u:=fun j u h=>bW W e.vs t j u h
def DT (mb fb B:Nat) (W0:World) (vt:Value) (ts:List Ev) (uz pv qty pw:Int) (p q:Prop) (V:World):Nat→Value→Prop
 | 0,v=>v = I mb 0
 | 1,v=>v = I mb 0
 | 2,v=>v = I mb 0
 | 3,v=>v = I mb 8
 | 4,v=>v = vt
 | 5,v=>v = I mb 0
 | 6,v=>v = I mb 0
 | 7,v=>v = I mb 2
 | 8,v=>v = I mb 2
 | 9,v=>v = H uz
 | 10,v=>v = I fb 0
 | 11,v=>v = H pv
 | 12,v=>v = H qty
 | 13,v=>v = I fb 2
 | 14,v=>v = H pw
 | 15,v=>v = evV (trE uz pv qty pw)
 | 16,v=>∃ s,v = .slice (some (J s 0)) 1 1∧(¬ p→∀ j u,(trE uz pv qty pw).vs[j]? = some u→V.cell? (((J s 0):Addr).add j) = some u)
 | 17,v=>∃ a c,v = .slice a (ts.length + 1) c∧p∧(¬ q→ERow V B v (ts ++ [trE uz pv qty pw])∧W0.grownBy V vt.ownBlock)∧(q→V.cell? (J mb 8) = some v∧ERow V B v (ts ++ [trE uz pv qty pw])∧TookAt mb 7 vt.ownBlock W0 V)
 | 18,v=>v = I mb 0
 | 19,v=>v = I mb 8
 | _,_=>True
section
variable {mb fb B:Nat} {W0 V V':World} {vt:Value} {ts:List Ev} {uz pv qty pw:Int} {p q:Prop}
theorem dt_alloc {o:Obj} (hp:¬ p):∀ j v,DT mb fb B W0 vt ts uz pv qty pw p q V j v→DT mb fb B W0 vt ts uz pv qty pw p q (V.alloc o) j v:=by
 intro j v h
 match j with
 | 0 | 1 | 2 | 3 | 4 | 5 | 6 | 7 | 8 | 9 | 10 | 11 | 12 | 13 | 14 | 15 | 18 | 19=>exact h
 | 16 =>
  obtain ⟨s,G,D⟩:=h
  exact ⟨s,G,fun hp j u hu=>(yT _ _ _ (yI V _ (D hp j u hu))).trans (D hp j u hu)⟩
 | 17=>obtain ⟨_,_,_,D,_⟩:=h; exact absurd D hp
 | j + 20=>trivial
theorem dt_one:∀ j v,j ≠ 17→DT mb fb B W0 vt ts uz pv qty pw False False V j v→DT mb fb B W0 vt ts uz pv qty pw True False V' j v:=by
 intro j v K h
 match j with
 | 0 | 1 | 2 | 3 | 4 | 5 | 6 | 7 | 8 | 9 | 10 | 11 | 12 | 13 | 14 | 15 | 18 | 19=>exact h
 | 16 =>
  obtain ⟨s,G,D⟩:=h
  exact ⟨s,G,fun hp=>absurd trivial hp⟩
 | 17=>exact absurd rfl K
 | j + 20=>trivial
theorem dt_two {v:Value}:∀ j,j ≠ 20→DT mb fb B W0 vt ts uz pv qty pw True False V j v→(j = 17→DT mb fb B W0 vt ts uz pv qty pw True True V' 17 v)→DT mb fb B W0 vt ts uz pv qty pw True True V' j v:=by
 intro j K h kA
 match j with
 | 0 | 1 | 2 | 3 | 4 | 5 | 6 | 7 | 8 | 9 | 10 | 11 | 12 | 13 | 14 | 15 | 18 | 19=>exact h
 | 16 =>
  obtain ⟨s,G,D⟩:=h
  exact ⟨s,G,fun hp=>absurd trivial hp⟩
 | 17=>exact kA rfl
 | j + 20=>trivial
end
end Go.Proofs.YtbakanofkghmiaaGreat
