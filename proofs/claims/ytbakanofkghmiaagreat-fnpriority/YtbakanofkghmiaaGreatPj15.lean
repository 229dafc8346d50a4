/-
  An order taken out of a row, by the program's library: proved by walking the function.
-/
import Derived.Test.YtbakanofkghmiaaGreatPj14
import Derived.Laws.CopyOwn
set_option linter.unusedVariables false
set_option maxHeartbeats 6400000
set_option maxRecDepth 100000
namespace Go.Proofs.YtbakanofkghmiaaGreat
open Go.RowKit
theorem ew {P:Program} {w:World} {ops:Array Oper} {rest:List Oper} {o:Oper} {a:Act} {ya:Exit→Act→World→Prop} (hgd:o.guard = none) (s x:Operand) (t:TypeId)
  (Y:o.op = .call { callee:=.builtin .append,args:=#[s,x],argTypes:=#[t,t] })
  (e:TypeId) (i:TypeInfo) (size:Nat) (ht:P.underlying t = some (.slice e)) (hi:P.info? e = some i) (hsize:i.size = size)
  (g pL sCap:Nat) (xp:Array Value) (hg:w.heap[g]? = some (.cells xp e (0,0))) (hs:a.eval s = .slice (some (J g 0)) pL sCap)
  (ad:Addr) (m c:Nat) (news:List Value) (hx:a.eval x = .slice (some ad) m c) (hl:news.length = m * size) (hnews:∀ j u,news[j]? = some u→w.cell? (ad.add j) = some u) (z:∀ u ∈ news,u.oneCell' = true)
  (hroom:pL + m ≤ sCap) (jY:pL * size + news.length ≤ xp.size)
  (h:wpList P ops ya rest (a.put o.dst (.slice (some (J g 0)) (pL + m) sCap)) (w.setRow g (xp.toList.take (pL * size) ++ news ++ xp.toList.drop (pL * size + news.length)).toArray)):wpList P ops ya (o :: rest) a w:=by
 subst hsize
 refine wpList_plain hgd fun h2 hK=>?_
 have hrun:=run_append_room (P:=P) w t o.type e i ht hi g pL sCap xp hg ad m c news hl hnews z hroom jY
 unfold Oper.wp execOp
 simp only [Y,resolve,invoke,builtin,Sem.run_bind,Sem.run_pure,Result.andThen_ok,List.map_toArray,List.map_cons,List.map_nil,hs,hx,hrun]
 exact hK _ _ h
theorem clear_row {P:Program} (w:World) (T ty e:TypeId) (i:TypeInfo) (h1:Value) (ht:P.underlying T = some (.slice e)) (hi:P.info? e = some i) (hz:i.zero = some h1) (g o c:Nat) (xp:Array Value) (hg:w.heap[g]? = some (.cells xp e (0,0)))
  (jY:o + h1.cells.toList.length ≤ xp.size) (z:∀ v ∈ h1.cells.toList,v.oneCell' = true) :
  (Builtin.clear_ #[T] ty #[.slice (some (J g o)) 1 c]).run P w = .ok (.tuple #[]) (w.setRow g (xp.toList.take o ++ h1.cells.toList ++ xp.toList.drop (o + h1.cells.toList.length)).toArray):=by
 have uH:=run_storeCells_at P g o e h1.cells.toList 0 xp w hg (by simpa using jY) z
 simp only [Nat.add_zero] at uH
 have hzc:(Builtin.zeroCells h1.cells 1).toList = h1.cells.toList:=by
  refine List.ext_getElem (by simp [Builtin.zeroCells]) fun j z K=>?_
  have L:j < h1.cells.size:=by simpa using K
  simp [Builtin.zeroCells,Nat.mod_eq_of_lt L,L]
 simp [Builtin.clear_,run_underlying ht,zeroValue,typeInfo,hi,hz,hzc,uH]
abbrev zOdL:List Value:=(yt 0 0 0 0 0 ⟨#[]⟩)
theorem row_gone {xp:Array Value} {l:List Od} {i m F:Nat} {zs:List Value} (hl:l.length = i + 1 + m) (hc:l.length ≤ F) (hs:xp.size = F * 6) (ht:xp.toList.take (l.length * 6) = l.flatMap Od.vs) (hz:zs.length = 6) :
  (((xp.toList.take (i * 6) ++ (l.drop (i + 1)).flatMap Od.vs ++ xp.toList.drop (i * 6 + m * 6)).take ((i + m) * 6) ++ zs ++ (xp.toList.take (i * 6) ++ (l.drop (i + 1)).flatMap Od.vs ++ xp.toList.drop (i * 6 + m * 6)).drop ((i + m) * 6 + zs.length)).take ((i + m) * 6) = (l.take i ++ l.drop (i + 1)).flatMap Od.vs) ∧
  (xp.toList.take (i * 6) ++ (l.drop (i + 1)).flatMap Od.vs ++ xp.toList.drop (i * 6 + m * 6)).length = F * 6:=by
 have xk:xp.toList.length = F * 6:=by simpa using hs
 have hdl:((l.drop (i + 1)).flatMap Od.vs).length = m * 6:=by rw [zM Od.len,List.length_drop]; congr 1; omega
 have hti:xp.toList.take (i * 6) = (l.take i).flatMap Od.vs:=by
  have h:=congrArg (List.take (i * 6)) ht
  rw [List.take_take,show min (i * 6) (l.length * 6) = i * 6 by omega] at h
  rw [h]
  conv=>lhs; rw [← List.take_append_drop i l,List.flatMap_append]
  rw [List.take_append_of_le_length (by rw [zM Od.len,List.length_take]; omega),yW (by rw [zM Od.len,List.length_take]; omega)]
 have xD:(xp.toList.take (i * 6) ++ (l.drop (i + 1)).flatMap Od.vs).length = (i + m) * 6:=by
  rw [yM,hdl,List.length_take,xk]; omega
 refine ⟨?_,?_⟩
 ·rw [List.append_assoc ((List.take _ _)),List.take_append_of_le_length (by rw [List.length_take,yM,xD,List.length_drop,xk]; omega),List.take_take,Nat.min_self,List.take_append_of_le_length (by rw [xD]; omega),yW (by rw [xD]; omega),hti,List.flatMap_append]
 ·rw [yM,xD,List.length_drop,xk]; omega
theorem delete_any (g i m F B:Nat) (xp:Array Value) (l:List Od) (w:World) (hl:l.length = i + 1 + m) (hn:l.length ≤ 1000) (hg:w.heap[g]? = some (.cells xp 49 (0,0))) (vR:l.length ≤ F) (hmx:F ≤ maxLen) (ke:xp.size = F * 6) (kr:xp.toList.take (l.length * 6) = l.flatMap Od.vs) (hB:B ≤ g) :
  Calls Tryz.prog 154 #[.slice (some (J g 0)) (i + 1 + m) F,H i,H ((i:Int) + 1)] w fun e w'=>e = yk (.slice (some (J g 0)) (i + m) F)∧ORow w' B (.slice (some (J g 0)) (i + m) F) (l.take i ++ l.drop (i + 1))∧w.grownBy w' (some g):=by
 obtain ⟨i0,uv,uq,uw,uM⟩:=info_parts Tryz.infoOrder
 have HG:=Q hg
 have HRC:Hid (∀ j c,l[j]? = some c→w.drew.rangeAt g (0 + j * 6) c.vs):=by
  have Y:ORow w B (.slice (some (J g 0)) l.length F) l:=⟨by rw [zM Od.len],.inr ⟨g,F,xp,rfl,hB,hg,vR,hmx,ke,kr⟩⟩
  obtain ⟨a',c',e,_,h⟩:=zT Y (by omega)
  intro j c L
  obtain ⟨b',vH,e2,_,h⟩:=h (by intro h; rw [h] at L; simp at L)
  rw [e2] at e
  simp only [Value.slice.injEq,Option.some.injEq,Addr.mk.injEq,and_true,true_and] at e
  obtain ⟨⟨rfl,rfl⟩,-⟩:=e
  exact h j c L
 have oK:=Q kr
 have HSZ:=Q ke
 have HL:=Q hl
 have z:(i:Int) + 1 ≤ (i:Int) + 1 + m:=by omega
 have K:(i:Int) + 1 + m ≤ F:=by omega
 have h3:(0:Int) ≤ i:=by omega
 have h4:(i:Int) ≤ (i:Int) + 1:=by omega
 have h5:(0:Int) ≤ (i:Int) + 1:=by omega
 have h6:(i:Int) ≤ F:=by omega
 have b1:((i:Int) == (i:Int) + 1) = false:=by rw [xa]; omega
 clear hg kr ke hl
 go_enter Tryz.func154,Tryz.ntmps154
 go_wp2_with fail
 refine ek 6 (by kernel_rfl) (by kernel_rfl) ?_
 simp only [yQ,List.take_zero,yR,List.drop_zero]
 by_cases hcc:F = i + 1
 ·have hm0:m = 0:=by have:=M HL; omega
  subst hm0
  subst hcc
  repeat still_step
  refine wpStill_nil ?_
  refine ew rfl (.tmp 22) (.tmp 25) 26 rfl 49 i0 6 Tryz.underlying26 uv uw g i (i + 1) xp (M HG) rfl (J g 0) 0 0 ((l.drop (i + 1)).flatMap Od.vs) rfl (by rw [zM Od.len,List.length_drop]; congr 1; have:=M HL; omega) (by rw [yX (by have:=M HL; omega)]; simp) (bh _) (by omega) (by rw [zM Od.len,List.length_drop,M HSZ]; have:=M HL; omega) ?_
  have hdl:((l.drop (i + 1)).flatMap Od.vs).length = 0 * 6:=by rw [zM Od.len,List.length_drop]; congr 1; have:=M HL; omega
  rw [hdl]
  obtain ⟨oq,qJ⟩:=row_gone (zs:=zOdL) (M HL) vR (M HSZ) (M oK) rfl
  have kZ:=Q oq
  generalize hC1:(xp.toList.take (i * 6) ++ (l.drop (i + 1)).flatMap Od.vs ++ xp.toList.drop (i * 6 + 0 * 6)) = C1 at kZ qJ ⊢
  have hx1:(w.drew.setRow g C1.toArray).heap[g]? = some (.cells C1.toArray 49 (0,0)):=setRow_heap w.drew g xp C1.toArray 49 (0,0) (M HG)
  have kg:Hid (w.grownBy (w.drew.setRow g C1.toArray) (some g)):=⟨rfl,rfl,rfl,by simp,fun k hk xA=>setRow_other w.drew g k C1.toArray (fun e=>xA (by rw [e]))⟩
  have jg:=Q hx1
  clear hx1 hC1 oq hdl
  generalize w.drew.setRow g C1.toArray = X1 at jg kg ⊢
  have xk:∀ (ty:TypeId) (c:Nat),(Builtin.clear_ #[26] ty #[.slice (some (J g (i * 6))) 1 c]).run Tryz.prog X1 = .ok (.tuple #[]) (X1.setRow g (C1.take (i * 6) ++ zOdL ++ C1.drop (i * 6 + 6)).toArray):=fun ty c=>by
   have:=clear_row X1 26 ty 49 i0 _ Tryz.underlying26 uv uq g (i * 6) c C1.toArray (M jg) (by show i * 6 + 6 ≤ C1.toArray.size; rw [List.size_toArray,qJ]; omega) (by simp [Value.cells,Value.oneCell'])
   simpa [Value.cells] using this
  have pY:=Q (setRow_heap X1 g C1.toArray (C1.take (i * 6) ++ zOdL ++ C1.drop (i * 6 + 6)).toArray 49 (0,0) (M jg))
  have vz:Hid (w.grownBy (X1.setRow g (C1.take (i * 6) ++ zOdL ++ C1.drop (i * 6 + 6)).toArray) (some g)):=(M kg).trans ⟨rfl,rfl,rfl,by simp,fun k hk xA=>setRow_other X1 g k _ (fun e=>xA (by rw [e]))⟩
  generalize hC2:(C1.take (i * 6) ++ zOdL ++ C1.drop (i * 6 + 6)).toArray = C2 at xk pY vz
  have HC2:=Q hC2
  have ju:=Q qJ
  clear hC2
  have k1:¬ i + 1 = i:=by omega
  have k2:i + 1 - i = 1:=by omega
  clear qJ
  go_wp2_with fail
  go_ret
  have pE:(l.take i ++ l.drop (i + 1)).length = i + 0:=by have:=M HL; simp; omega
  refine ⟨rfl,⟨by rw [zM Od.len],.inr ⟨g,i + 1,_,by rw [pE],hB,M pY,by rw [pE]; omega,hmx,?_,?_⟩⟩,M vz⟩
  ·rw [← M HC2]; simp [M ju]; omega
  ·rw [pE,← M HC2]; simpa using M kZ
 ·repeat still_step
  refine wpStill_nil ?_
  refine ew rfl (.tmp 22) (.tmp 25) 26 rfl 49 i0 6 Tryz.underlying26 uv uw g i F xp (M HG) rfl (J g ((i + 1) * 6)) m (F - (i + 1)) ((l.drop (i + 1)).flatMap Od.vs) rfl (by rw [zM Od.len,List.length_drop]; congr 1; have:=M HL; omega) (by have h:=cZ (W:=w.drew) (g:=g) (off:=0) (l:=l) (M HRC) (i + 1) l.length; rw [yW (by rw [List.length_drop]; omega),Nat.zero_add] at h; exact h) (bh _) (by omega) (by rw [zM Od.len,List.length_drop,M HSZ]; have:=M HL; omega) ?_
  have hdl:((l.drop (i + 1)).flatMap Od.vs).length = m * 6:=by rw [zM Od.len,List.length_drop]; congr 1; have:=M HL; omega
  rw [hdl]
  obtain ⟨oq,qJ⟩:=row_gone (zs:=zOdL) (M HL) vR (M HSZ) (M oK) rfl
  have kZ:=Q oq
  generalize hC1:(xp.toList.take (i * 6) ++ (l.drop (i + 1)).flatMap Od.vs ++ xp.toList.drop (i * 6 + m * 6)) = C1 at kZ qJ ⊢
  have hx1:(w.drew.setRow g C1.toArray).heap[g]? = some (.cells C1.toArray 49 (0,0)):=setRow_heap w.drew g xp C1.toArray 49 (0,0) (M HG)
  have kg:Hid (w.grownBy (w.drew.setRow g C1.toArray) (some g)):=⟨rfl,rfl,rfl,by simp,fun k hk xA=>setRow_other w.drew g k C1.toArray (fun e=>xA (by rw [e]))⟩
  have jg:=Q hx1
  clear hx1 hC1 oq hdl
  generalize w.drew.setRow g C1.toArray = X1 at jg kg ⊢
  have xk:∀ (ty:TypeId) (c:Nat),(Builtin.clear_ #[26] ty #[.slice (some (J g ((i + m) * 6))) 1 c]).run Tryz.prog X1 = .ok (.tuple #[]) (X1.setRow g (C1.take ((i + m) * 6) ++ zOdL ++ C1.drop ((i + m) * 6 + 6)).toArray):=fun ty c=>by
   have:=clear_row X1 26 ty 49 i0 _ Tryz.underlying26 uv uq g ((i + m) * 6) c C1.toArray (M jg) (by show (i + m) * 6 + 6 ≤ C1.toArray.size; rw [List.size_toArray,qJ]; omega) (by simp [Value.cells,Value.oneCell'])
   simpa [Value.cells] using this
  have pY:=Q (setRow_heap X1 g C1.toArray (C1.take ((i + m) * 6) ++ zOdL ++ C1.drop ((i + m) * 6 + 6)).toArray 49 (0,0) (M jg))
  have vz:Hid (w.grownBy (X1.setRow g (C1.take ((i + m) * 6) ++ zOdL ++ C1.drop ((i + m) * 6 + 6)).toArray) (some g)):=(M kg).trans ⟨rfl,rfl,rfl,by simp,fun k hk xA=>setRow_other X1 g k _ (fun e=>xA (by rw [e]))⟩
  generalize hC2:(C1.take ((i + m) * 6) ++ zOdL ++ C1.drop ((i + m) * 6 + 6)).toArray = C2 at xk pY vz
  have HC2:=Q hC2
  have ju:=Q qJ
  clear hC2
  have k1:¬ F = i + m:=by have:=M HL; omega
  have k2:i + 1 + m - (i + m) = 1:=by omega
  have k3:(i:Int) + m ≤ (i:Int) + 1 + m:=by omega
  have k4:(0:Int) ≤ (i:Int) + m:=by omega
  clear qJ
  go_wp2_with fail
  go_ret
  have pE:(l.take i ++ l.drop (i + 1)).length = i + m:=by have:=M HL; simp; omega
  refine ⟨rfl,⟨by rw [zM Od.len],.inr ⟨g,F,_,by rw [pE],hB,M pY,by rw [pE]; omega,hmx,?_,?_⟩⟩,M vz⟩
  ·rw [← M HC2]; simp [M ju]; omega
  ·rw [pE,← M HC2]; simpa using M kZ
theorem flat_set {α:Type} {f:α→List Value} {sz:Nat} (hf:∀ c,(f c).length = sz):∀ (l:List α) (i j:Nat) (c c':α) (u:Value),l[i]? = some c→j < sz→f c' = (f c).set j u→(l.flatMap f).set (i * sz + j) u = (l.set i c').flatMap f
 | [],_,_,_,_,_,h,_,_=>by simp at h
 | a :: l,0,j,c,c',u,h,L,hc=>by
  simp at h; subst h
  rw [List.set_cons_zero,List.flatMap_cons,List.flatMap_cons,hc,Nat.zero_mul,Nat.zero_add,List.set_append_left _ _ (by rw [hf]; exact L)]
 | a :: l,i + 1,j,c,c',u,h,L,hc=>by
  simp at h
  rw [List.set_cons_succ,List.flatMap_cons,List.flatMap_cons,← flat_set hf l i j c c' u h L hc,List.set_append_right _ _ (by rw [hf,Nat.add_mul]; omega),hf]
  congr 2
  rw [Nat.add_mul]; omega
def zR (l:List Od) (k:Nat) (c:Od) (qty:Int):List Od:=if c.left = qty then l.take k ++ l.drop (k + 1) else l.set k { c with left:=c.left - qty }
structure TookAt (p o:Nat) (G:Option Nat) (w w':World):Prop where
 os:w'.os = w.os
 tape:w'.tape = w.tape
 output:w'.output = w.output
 size:w.heap.size ≤ w'.heap.size
 block:∀ k,k < w.heap.size→k ≠ p→some k ≠ G→w'.heap[k]? = w.heap[k]?
 cell:∀ j,j ≠ o + 1→w'.cell? ⟨p,j,none⟩ = w.cell? ⟨p,j,none⟩
 frozen:∀ j,w'.frozen? ⟨p,j,none⟩ = w.frozen? ⟨p,j,none⟩
 kind:∀ cur t x,w.heap[p]? = some (.cells cur t x)→∃ cur',w'.heap[p]? = some (.cells cur' t x)
theorem zY (w:World) (p o:Nat) (u:Value) {xp:Array Value} {t:TypeId} {x:Nat × Nat} (h:w.heap[p]? = some (.cells xp t x)):∃ cur',(w.setCell (J p o) u).heap[p]? = some (.cells cur' t x):=by
 simp [World.setCell,Array.getElem?_modify,h]
theorem zw {W:World} {B e sz n:Nat} {v:Value} {xs:List Value} (h:W.ownsRow B e sz v n xs) {b:Nat} (hb:some b ≠ v.ownBlock) (o:Nat) (u:Value):(W.setCell (J b o) u).ownsRow B e sz v n xs :=
 h.kept (row:=some b) ⟨rfl,rfl,rfl,by simp [World.setCell],fun k _ hk=>yP _ _ _ _ (fun e=>hk (by rw [e]))⟩ (.inr (Ne.symm hb))
theorem bD {p o:Nat} {G:Option Nat} {w w':World} (h:w.grownBy w' G) (hp:p < w.heap.size) (xA:some p ≠ G):TookAt p o G w w' :=
 ⟨h.os,h.tape,h.output,h.size,fun k hk _ hG=>h.block k hk hG,fun j _=>yN (a:=(J p j)) (h.block p hp xA),fun j=>World.frozen?_of_block (a:=(J p j)) (h.block p hp xA),fun xp t x hh=>⟨xp,(h.block p hp xA).trans hh⟩⟩
theorem bU {p o:Nat} {G:Option Nat} {w w1 w2:World} (z:TookAt p o G w w1) (K:TookAt p o G w1 w2):TookAt p o G w w2 :=
 ⟨K.os.trans z.os,K.tape.trans z.tape,K.output.trans z.output,yK z.size K.size,fun k hk hp hG=>(K.block k (yG hk z.size) hp hG).trans (z.block k hk hp hG),fun j L=>(K.cell j L).trans (z.cell j L),fun j=>(K.frozen j).trans (z.frozen j),fun xp t x hh=>by obtain ⟨c1,h3⟩:=z.kind xp t x hh; exact K.kind c1 t x h3⟩
theorem df {p o:Nat} {G:Option Nat} (w:World) (u:Value):TookAt p o G w (w.setCell (J p (o + 1)) u) :=
 ⟨rfl,rfl,rfl,by simp [World.setCell],fun k _ hp _=>yP _ _ _ _ hp,fun j L=>yI _ _ _ _ (zI (fun e=>L e.symm)),fun j=>World.frozen?_setCell _ _ _ _,fun xp t x hh=>zY w p (o + 1) u hh⟩
theorem zj {W W':World} {B:Nat} {v:Value} {l:List Od} (h:ORow W B v l) (hb:yl W W'):ORow W' B v l :=
 World.ownsRow.kept h (row:=none) (zU hb tg) (by cases v.ownBlock <;> simp)
theorem oRow_left {W:World} {B g n F k:Nat} {l:List Od} {c:Od} (h:ORow W B (.slice (some (J g 0)) n F) l) (hn:l.length = n) (hk:l[k]? = some c) (x:Int) :
  ORow (W.setCell (J g (k * 6 + 3)) (H x)) B (.slice (some (J g 0)) n F) (l.set k { c with left:=x })∧W.grownBy (W.setCell (J g (k * 6 + 3)) (H x)) (some g):=by
 subst hn
 have s:=World.ownsRow.stored h (k * 6 + 3) (H x)
 refine ⟨?_,s.2⟩
 have e:=flat_set Od.len l k 3 c { c with left:=x } (H x) hk (by omega) rfl
 show World.ownsRow _ _ _ _ _ (l.set k _).length _
 rw [List.length_set,← e]; exact s.1
theorem takeFrom_any (p o B:Nat) (next id qty:Int) (vq:Value) (l:List Od) (k:Nat) (c:Od) (w:World) (c0:w.cell? (J p o) = some (H next)) (c1:w.cell? (J p (o + 1)) = some vq) (f1:w.frozen? (J p (o + 1)) = false)
  (Y:ORow w B vq l) (hp:some p ≠ vq.ownBlock) (hpw:p < w.heap.size) (hB:B ≤ w.heap.size) (hn:l.length ≤ 1000) (hk:plc l id = k) (hc:l[k]? = some c) (je:0 ≤ qty) (qy:qty ≤ c.left) (xk:c.left ≤ 1000000) :
  Calls Tryz.prog 117 #[I p o,H id,H qty] w fun e w'=>∃ uV,e = yk (.tuple #[])∧w'.cell? (J p (o + 1)) = some uV∧ORow w' B uV (zR l k c qty)∧TookAt p o vq.ownBlock w w':=by
 have xA:l ≠ []:=by rintro rfl; simp at hc
 have jZ:=(yD.1 hc).1
 have HO:=Q Y
 obtain ⟨g,F,rfl,vR,hBg,hgw⟩:=dt Y xA
 have HK:=Q hk
 have HC:=Q hc
 clear Y hk hc xA
 go_enter Tryz.func117,Tryz.ntmps117
 go_wp2_with fail
 refine (dJ next _ l id w (zT (M HO) (by omega))).mono ?_
 rintro e w1 ⟨rfl,xR⟩
 rw [M HK]
 have xT:=Q xR
 have uZ:=Q (zj (M HO) xR)
 have d1:w1.cell? (J p (o + 1)) = some (.slice (some (J g 0)) l.length F):=(xR.cell (p:=(J p (o + 1))) hpw).trans c1
 have e1:w1.frozen? (J p (o + 1)) = false:=(xR.frozen (p:=(J p (o + 1))) hpw).trans f1
 have hsz1:=xR.size
 obtain ⟨a',cp',ee,_,hcl1⟩:=zT (M uZ) (by omega)
 obtain ⟨b',vH,e2,_,hcl1⟩:=hcl1 (by intro h; rw [h] at jZ; simp at jZ)
 rw [e2] at ee
 simp only [Value.slice.injEq,Option.some.injEq,Addr.mk.injEq,and_true,true_and] at ee
 obtain ⟨⟨rfl,rfl⟩,-⟩:=ee
 have hcc:=hcl1 k c (M HC)
 rw [Nat.zero_add] at hcc
 obtain ⟨-,-,-,y3,-⟩:=zx hcc
 have fz:=World.ownsRow.frozenAt (M uZ) (k * 6 + 3)
 have ow:(k:Int) < l.length:=by omega
 have hk0:(0:Int) ≤ k:=by omega
 have hwr:IntKind.i64.wrap (c.left - qty) = c.left - qty:=by rw [IntKind.wrap_i64]; omega
 have hpg:p ≠ g:=by simpa [Value.ownBlock] using hp
 have HS:=Q (oRow_left (M uZ) rfl (M HC) (c.left - qty))
 have d2:(w1.setCell (J g (k * 6 + 3)) (H (c.left - qty))).cell? (J p (o + 1)) = some (.slice (some (J g 0)) l.length F):=(yI _ _ _ _ (fun e=>hpg (by have:=congrArg Addr.block e; simpa using this.symm))).trans d1
 have d3:(w1.setCell (J g (k * 6 + 3)) (H (c.left - qty))).cell? (J g (k * 6 + 3)) = some (H (c.left - qty)):=yJ _ _ _ y3
 have d4:(w1.setCell (J g (k * 6 + 3)) (H (c.left - qty))).frozen? (J p (o + 1)) = false:=(World.frozen?_setCell _ _ _ _).trans e1
 clear xR hcc hcl1 c0 c1 f1
 by_cases hz:c.left = qty
 ·have uq:c.left - qty = 0:=by omega
  have HH:Hid (zR l k c qty = l.take k ++ l.drop (k + 1)):=if_pos hz
  obtain ⟨m,hm⟩:∃ m,l.length = k + 1 + m:=⟨l.length - (k + 1),by omega⟩
  have pE:(l.set k { c with left:=c.left - qty }).length = k + 1 + m:=by rw [List.length_set,hm]
  have hdel:(l.set k { c with left:=c.left - qty }).take k ++ (l.set k { c with left:=c.left - qty }).drop (k + 1) = l.take k ++ l.drop (k + 1):=by
   rw [List.take_set_of_le tg,List.drop_set_of_lt (by omega)]
  have HDEL:=Q hdel
  have HM:=Q hm
  have hb0:(c.left - qty == 0) = true:=by rw [beq_iff_eq]; exact uq
  obtain ⟨-,K | ⟨g',po,xp,K,h3,h4,h5,h6,h7,h8⟩⟩:=(M HS).1
  ·simp at K
  simp only [Value.slice.injEq,Option.some.injEq,Addr.mk.injEq,and_true] at K
  obtain ⟨rfl,h9,rfl⟩:=K
  have HDC:Hid (Calls Tryz.prog 154 #[.slice (some (J g 0)) (k + 1 + m) F,H k,H ((k:Int) + 1)] (w1.setCell (J g (k * 6 + 3)) (H (c.left - qty))) _):=delete_any g k m F B xp (l.set k { c with left:=c.left - qty }) _ pE (by rw [List.length_set]; exact hn) h4 h5 h6 h7 h8 hBg
  have vz:=Q (M HS).2
  have hw1:p < (w1.setCell (J g (k * 6 + 3)) (H (c.left - qty))).heap.size:=by simp [World.setCell]; omega
  clear hdel hz pE h3 h4 h5 h6 h7 h8 h9 vR uq
  rw [hm] at d1 d2 ow ⊢
  clear hm
  go_wp2_with fail
  refine (M HDC).mono ?_
  rw [M HDEL]
  rintro e w3 ⟨rfl,ho3,uz⟩
  have s1:=uz.cell d2 (by simpa using hpg)
  have s2:w3.frozen? (J p (o + 1)) = false:=(World.frozen?_of_block (a:=(J p (o + 1))) (uz.block p hw1 (by simpa using hpg))).trans d4
  have qB:=Q ho3
  have vJ:=Q uz
  clear ho3 uz
  go_wp2_with fail
  go_end0
  refine ⟨_,rfl,yJ _ _ _ s1,?_,?_⟩
  ·rw [M HH]
   exact zw (M qB) (by simpa [Value.ownBlock] using hpg) (o + 1) _
  ·exact bU (bU (bU (bD (zU (M xT) tg) hpw (by simpa [Value.ownBlock] using hpg)) (bD (M vz) (by omega) (by simpa [Value.ownBlock] using hpg))) (bD (M vJ) hw1 (by simpa [Value.ownBlock] using hpg))) (df _ _)
 ·have uq:(c.left - qty == 0) = false:=by rw [xa]; omega
  have HH:Hid (zR l k c qty = l.set k { c with left:=c.left - qty }):=if_neg hz
  go_wp2_with fail
  go_end0
  refine ⟨_,rfl,d2,by rw [M HH]; exact (M HS).1,?_⟩
  exact bU (bD (zU (M xT) tg) hpw (by simpa [Value.ownBlock] using hpg)) (bD (M HS).2 (by omega) (by simpa [Value.ownBlock] using hpg))
def RT (B0:World→Prop) (xh:(Nat→Value)→Act) (k h:Nat) (xd:Prop→Prop→World→Nat→Value→Prop) (x:List Bool) (hR:Act) (W:World):Prop :=
 ∃ f,hR = xh f∧(¬ x[k]? = some true→B0 W)∧∀ j,x[j]? = some true→xd (x[k]? = some true) (x[h]? = some true) W j (f j)
section
variable {B0:World→Prop} {W W':World} {k h:Nat} {xd:Prop→Prop→World→Nat→Value→Prop} {x:List Bool} {f:Nat→Value}
theorem zy (hh:∀ j,x[j]? = some true→xd (x[k]? = some true) (x[h]? = some true) W j (f j)) {i:Nat} (hik:i ≠ k) (hih:i ≠ h) (hm:∀ j v,xd (x[k]? = some true) (x[h]? = some true) W j v→xd (x[k]? = some true) (x[h]? = some true) W' j v) (hB:¬ x[k]? = some true→B0 W') {v:Value} (hv:xd (x[k]? = some true) (x[h]? = some true) W' i v) :
  (¬ (x.set i true)[k]? = some true→B0 W')∧∀ j,(x.set i true)[j]? = some true→xd ((x.set i true)[k]? = some true) ((x.set i true)[h]? = some true) W' j (upd f i v j):=by
 rw [yT hik,yT hih]
 refine ⟨hB,fun j L=>?_⟩
 by_cases hji:j = i
 ·subst hji; rw [zp]; exact hv
 ·rw [zr _ _ hji]
  rw [yT (fun e=>hji e.symm)] at L
  exact hm _ _ (hh j L)
theorem rt_one (hkh:k ≠ h) (hh:∀ j,x[j]? = some true→xd (x[k]? = some true) (x[h]? = some true) W j (f j)) (hk:x[k]? = some false) (hn:¬ x[h]? = some true) (hm:∀ j v,j ≠ k→xd False False W j v→xd True False W' j v) {v:Value} (hv:xd True False W' k v) :
  (¬ (x.set k true)[k]? = some true→B0 W')∧∀ j,(x.set k true)[j]? = some true→xd ((x.set k true)[k]? = some true) ((x.set k true)[h]? = some true) W' j (upd f k v j):=by
 have e:((x.set k true)[k]? = some true) = True:=by
  rw [List.getElem?_set_self (yD.1 hk).1]; simp
 have e2:((x.set k true)[h]? = some true) = False:=by
  rw [yT hkh]; exact eq_false hn
 have e3:(x[h]? = some true) = False:=eq_false hn
 have e4:(x[k]? = some true) = False:=by rw [hk]; simp
 rw [e,e2]
 refine ⟨fun h=>absurd trivial h,fun j L=>?_⟩
 by_cases hji:j = k
 ·subst hji; rw [zp]; exact hv
 ·rw [zr _ _ hji]
  rw [yT (fun e=>hji e.symm)] at L
  have:=hh j L
  rw [e3,e4] at this
  exact hm j _ hji this
theorem rt_two (hkh:h ≠ k) (hh:∀ j,x[j]? = some true→xd (x[k]? = some true) (x[h]? = some true) W j (f j)) (hk:x[k]? = some true) (hn:x[h]? = some false) (hm:∀ j,j ≠ h→x[j]? = some true→xd True False W j (f j)→xd True True W' j (f j)) {v:Value} (hv:xd True True W' h v) :
  (¬ (x.set h true)[k]? = some true→B0 W')∧∀ j,(x.set h true)[j]? = some true→xd ((x.set h true)[k]? = some true) ((x.set h true)[h]? = some true) W' j (upd f h v j):=by
 have e:((x.set h true)[h]? = some true) = True:=by
  rw [List.getElem?_set_self (yD.1 hn).1]; simp
 have e2:((x.set h true)[k]? = some true) = True:=by
  rw [yT hkh,hk]; simp
 have e3:(x[h]? = some true) = False:=by rw [hn]; simp
 have e4:(x[k]? = some true) = True:=by rw [hk]; simp
 rw [e,e2]
 refine ⟨fun h=>absurd trivial h,fun j L=>?_⟩
 by_cases hji:j = h
 ·subst hji; rw [zp]; exact hv
 ·rw [zr _ _ hji]
  rw [yT (fun e=>hji e.symm)] at L
  have:=hh j L
  rw [e3,e4] at this
  exact hm j hji L this
end
def trE (ul ps qty pu:Int):Ev:=⟨3,zCm,ul,ps,qty,pu,0⟩
abbrev ERow (W:World) (B:Nat) (v:Value) (l:List Ev):Prop:=W.ownsRow B 46 14 v l.length (l.flatMap Ev.vs)
theorem infoEv:(Tryz.prog.info? 46).map (fun i=>(i.zero,i.size,i.bytes)) = some (some (.agg (ys 0 0 0 0 0 0 0 0 ⟨#[]⟩ 0 0 0 0 0).toArray),14,120):=by kernel_rfl
theorem one_ev (e:Ev):∀ u ∈ e.vs,u.oneCell' = true:=by
 intro u hu
 simp [Ev.vs] at hu
 rcases hu with rfl | rfl | rfl | rfl | rfl | rfl | rfl | rfl | rfl | rfl | rfl | rfl | rfl | rfl <;> rfl
theorem zK {W W':World} {B:Nat} {v:Value} {l:List Ev} (h:ERow W B v l) (hb:yl W W'):ERow W' B v l :=
 World.ownsRow.kept h (row:=none) (zU hb tg) (by cases v.ownBlock <;> simp)
theorem bX {W:World} {B:Nat} {v:Value} {l:List Ev} (h:ERow W B v l) {b:Nat} (hb:b < B) (o:Nat) (u:Value):ERow (W.setCell (J b o) u) B v l :=
 ownsRow_setCell_below h (a:=(J b o)) hb u
theorem dO {W:World} {B e sz n:Nat} {v:Value} {xs:List Value} (h:W.ownsRow B e sz v n xs) (hn:0 < n):∃ g c,v = .slice (some (J g 0)) n c:=by
 rcases h.2 with ⟨_,h0⟩ | ⟨g,F,_,z,_⟩
 ·omega
 ·exact ⟨g,F,z⟩
theorem cellsT (W:World) (e:Ev) (t:TypeId):∀ j u,e.vs[j]? = some u→(W.alloc (Obj.cells e.vs.toArray t)).cell? (((yn W 0):Addr).add j) = some u:=fun j u h=>bQ W e.vs t j u h
def DT (N fb B:Nat) (W0:World) (vt:Value) (ts:List Ev) (ul ps qty pu:Int) (p q:Prop) (V:World):Nat→Value→Prop
 | 0,v=>v = I N 0
 | 1,v=>v = I N 0
 | 2,v=>v = I N 0
 | 3,v=>v = I N 8
 | 4,v=>v = vt
 | 5,v=>v = I N 0
 | 6,v=>v = I N 0
 | 7,v=>v = I N 2
 | 8,v=>v = I N 2
 | 9,v=>v = H ul
 | 10,v=>v = I fb 0
 | 11,v=>v = H ps
 | 12,v=>v = H qty
 | 13,v=>v = I fb 2
 | 14,v=>v = H pu
 | 15,v=>v = evV (trE ul ps qty pu)
 | 16,v=>∃ s,v = .slice (some (J s 0)) 1 1∧(¬ p→∀ j u,(trE ul ps qty pu).vs[j]? = some u→V.cell? (((J s 0):Addr).add j) = some u)
 | 17,v=>∃ a c,v = .slice a (ts.length + 1) c∧p∧(¬ q→ERow V B v (ts ++ [trE ul ps qty pu])∧W0.grownBy V vt.ownBlock)∧(q→V.cell? (J N 8) = some v∧ERow V B v (ts ++ [trE ul ps qty pu])∧TookAt N 7 vt.ownBlock W0 V)
 | 18,v=>v = I N 0
 | 19,v=>v = I N 8
 | _,_=>True
section
variable {N fb B:Nat} {W0 V V':World} {vt:Value} {ts:List Ev} {ul ps qty pu:Int} {p q:Prop}
theorem dt_alloc {o:Obj} (hp:¬ p):∀ j v,DT N fb B W0 vt ts ul ps qty pu p q V j v→DT N fb B W0 vt ts ul ps qty pu p q (V.alloc o) j v:=by
 intro j v h
 match j with
 | 0 | 1 | 2 | 3 | 4 | 5 | 6 | 7 | 8 | 9 | 10 | 11 | 12 | 13 | 14 | 15 | 18 | 19=>exact h
 | 16 =>
  obtain ⟨s,z,K⟩:=h
  exact ⟨s,z,fun hp j u hu=>(yS _ _ _ (yH V _ (K hp j u hu))).trans (K hp j u hu)⟩
 | 17=>obtain ⟨_,_,_,K,_⟩:=h; exact absurd K hp
 | j + 20=>trivial
theorem dt_one:∀ j v,j ≠ 17→DT N fb B W0 vt ts ul ps qty pu False False V j v→DT N fb B W0 vt ts ul ps qty pu True False V' j v:=by
 intro j v L h
 match j with
 | 0 | 1 | 2 | 3 | 4 | 5 | 6 | 7 | 8 | 9 | 10 | 11 | 12 | 13 | 14 | 15 | 18 | 19=>exact h
 | 16 =>
  obtain ⟨s,z,K⟩:=h
  exact ⟨s,z,fun hp=>absurd trivial hp⟩
 | 17=>exact absurd rfl L
 | j + 20=>trivial
theorem dt_two {v:Value}:∀ j,j ≠ 20→DT N fb B W0 vt ts ul ps qty pu True False V j v→(j = 17→DT N fb B W0 vt ts ul ps qty pu True True V' 17 v)→DT N fb B W0 vt ts ul ps qty pu True True V' j v:=by
 intro j L h ki
 match j with
 | 0 | 1 | 2 | 3 | 4 | 5 | 6 | 7 | 8 | 9 | 10 | 11 | 12 | 13 | 14 | 15 | 18 | 19=>exact h
 | 16 =>
  obtain ⟨s,z,K⟩:=h
  exact ⟨s,z,fun hp=>absurd trivial hp⟩
 | 17=>exact ki rfl
 | j + 20=>trivial
end
end Go.Proofs.YtbakanofkghmiaaGreat
