/-
  Two small facts: a cell that is there, and a place of a list of flags. No function walked.
-/
import Derived.Test.YtbakanofkghmiaaGreatWj18
set_option linter.unusedVariables false
set_option maxHeartbeats 6400000
set_option maxRecDepth 100000
namespace Go.Proofs.YtbakanofkghmiaaGreat
open Go.RowKit
theorem ze {W:World} {b n j:Nat} (h:W.there b 0 n) (K:j < n):∃ u,W.cell? (J b j) = some u∧W.frozen? (J b j) = false:=by
 obtain ⟨G,E⟩:=h j K
 rw [Nat.zero_add] at G E
 obtain ⟨u,hu⟩:=Option.isSome_iff_exists.1 G
 exact ⟨u,hu,E⟩
theorem bU {x:List Bool} {n j:Nat} (hx:x.length = n) (K:j < n):x[j]? = some false ∨ x[j]? = some true:=by
 rw [yH (by omega)]
 cases x[j] <;> simp
def DE (mb B:Nat) (W0:World) (vo:Value) (ts:List Ev) (e:Ev) (p q:Prop) (V:World):Nat→Value→Prop
 | 0,v=>v = I mb 0
 | 1,v=>v = I mb 0
 | 2,v=>v = I mb 0
 | 3,v=>v = I mb 11
 | 4,v=>v = vo
 | 5,v=>v = .agg (yu e.kind e.cmd.k e.cmd.s e.cmd.t e.cmd.l e.cmd.q e.cmd.i e.cmd.p e.cmd.g e.id e.other e.qty e.price e.reason).toArray
 | 6,v=>∃ s,v = .slice (some (J s 0)) 1 1∧(¬ p→∀ j u,e.vs[j]? = some u→V.cell? (((J s 0):Addr).add j) = some u)
 | 7,v=>∃ a c,v = .slice a (ts.length + 1) c∧p∧(¬ q→ERow V B v (ts ++ [e])∧W0.grownBy V vo.ownBlock)∧(q→V.cell? (J mb 11) = some v∧ERow V B v (ts ++ [e])∧TookAt mb 10 vo.ownBlock W0 V)
 | 8,v=>v = I mb 0
 | 9,v=>v = I mb 11
 | _,_=>True
section
variable {mb B:Nat} {W0 V V':World} {vo:Value} {ts:List Ev} {e:Ev} {p q:Prop}
theorem de_alloc {o:Obj} (hp:¬ p):∀ j v,DE mb B W0 vo ts e p q V j v→DE mb B W0 vo ts e p q (V.alloc o) j v:=by
 intro j v h
 match j with
 | 0 | 1 | 2 | 3 | 4 | 5 | 8 | 9=>exact h
 | 6 =>
  obtain ⟨s,G,E⟩:=h
  exact ⟨s,G,fun hp j u hu=>(yV _ _ _ (yK V _ (E hp j u hu))).trans (E hp j u hu)⟩
 | 7=>obtain ⟨_,_,_,E,_⟩:=h; exact absurd E hp
 | j + 10=>trivial
theorem de_one:∀ j v,j ≠ 7→DE mb B W0 vo ts e False False V j v→DE mb B W0 vo ts e True False V' j v:=by
 intro j v K h
 match j with
 | 0 | 1 | 2 | 3 | 4 | 5 | 8 | 9=>exact h
 | 6 =>
  obtain ⟨s,G,E⟩:=h
  exact ⟨s,G,fun hp=>absurd trivial hp⟩
 | 7=>exact absurd rfl K
 | j + 10=>trivial
theorem de_two {v:Value}:∀ j,j ≠ 10→DE mb B W0 vo ts e True False V j v→(j = 7→DE mb B W0 vo ts e True True V' 7 v)→DE mb B W0 vo ts e True True V' j v:=by
 intro j K h h7
 match j with
 | 0 | 1 | 2 | 3 | 4 | 5 | 8 | 9=>exact h
 | 6 =>
  obtain ⟨s,G,E⟩:=h
  exact ⟨s,G,fun hp=>absurd trivial hp⟩
 | 7=>exact h7 rfl
 | j + 10=>trivial
end
theorem tell_any (mb B:Nat) (vo:Value) (ts:List Ev) (e:Ev) (w:World) (c11:w.cell? (J mb 11) = some vo) (f11:w.frozen? (J mb 11) = false) (jg:∃ xr,w.heap[mb]? = some (.cells xr 71 (0,0)))
  (jV:ERow w B vo ts) (hB:B ≤ w.heap.size) (hn:ts.length ≤ 1000) :
  Calls Tryz.prog 65 #[I mb 0,.agg (yu e.kind e.cmd.k e.cmd.s e.cmd.t e.cmd.l e.cmd.q e.cmd.i e.cmd.p e.cmd.g e.id e.other e.qty e.price e.reason).toArray] w fun r w'=>∃ qz,r = ym (.tuple #[])∧w'.cell? (J mb 11) = some qz∧ERow w' B qz (ts ++ [e])∧TookAt mb 10 vo.ownBlock w w':=by
 obtain ⟨i0,uH,uF,uJ,uQ⟩:=info_parts infoEv
 have qL:some mb ≠ vo.ownBlock:=zl jV jg (by decide)
 have qG:mb < w.heap.size:=yK w _ c11
 have xW:=eD w (eF (yu e.kind e.cmd.k e.cmd.s e.cmd.t e.cmd.l e.cmd.q e.cmd.i e.cmd.p e.cmd.g e.id e.other e.qty e.price e.reason).toArray 46)
 have xU:=Y xW
 have xA:w.heap.size < (w.alloc (eF (yu e.kind e.cmd.k e.cmd.s e.cmd.t e.cmd.l e.cmd.q e.cmd.i e.cmd.p e.cmd.g e.id e.other e.qty e.price e.reason).toArray 46)).heap.size:=by rw [zh]; omega
 have jw:Hid (World.rangeAt (w.alloc (eF (yu e.kind e.cmd.k e.cmd.s e.cmd.t e.cmd.l e.cmd.q e.cmd.i e.cmd.p e.cmd.g e.id e.other e.qty e.price e.reason).toArray 46)) w.heap.size 0 e.vs):=zi w e.vs _
 have qa:Hid (World.cell? (w.alloc (eF (yu e.kind e.cmd.k e.cmd.s e.cmd.t e.cmd.l e.cmd.q e.cmd.i e.cmd.p e.cmd.g e.id e.other e.qty e.price e.reason).toArray 46)) (J mb 11) = some vo):=(xW.cell (p:=(J mb 11)) qG).trans c11
 have qP:Hid (World.frozen? (w.alloc (eF (yu e.kind e.cmd.k e.cmd.s e.cmd.t e.cmd.l e.cmd.q e.cmd.i e.cmd.p e.cmd.g e.id e.other e.qty e.price e.reason).toArray 46)) (J mb 11) = false):=(World.frozen?_of_block (a:=(J mb 11)) (xW.block mb qG)).trans f11
 have ux:Hid (∃ xr,(w.alloc (eF (yu e.kind e.cmd.k e.cmd.s e.cmd.t e.cmd.l e.cmd.q e.cmd.i e.cmd.p e.cmd.g e.id e.other e.qty e.price e.reason).toArray 46)).heap[mb]? = some (.cells xr 71 (0,0))):=by obtain ⟨xr,hc⟩:=jg; exact ⟨xr,(xW.block mb qG).trans hc⟩
 have jS:=Y (zI jV xW)
 clear c11 f11 jg jV xW
 go_enter Tryz.func65,Tryz.ntmps65
 refine eH fun hj xu=>?_
 go_wp2_with fail
 refine U xu _ _ ?_
 clear xu
 generalize (w.alloc (eF (yu e.kind e.cmd.k e.cmd.s e.cmd.t e.cmd.l e.cmd.q e.cmd.i e.cmd.p e.cmd.g e.id e.other e.qty e.price e.reason).toArray 46)) = hR at xU xA jw qa qP ux jS ⊢
 have hBX:B ≤ hR.heap.size:=by omega
 have jW:mb < hR.heap.size:=by omega
 refine zj (RT (fun V=>yn hR V) (fun f=>{ tmps:=#[I mb 0,.agg (yu e.kind e.cmd.k e.cmd.s e.cmd.t e.cmd.l e.cmd.q e.cmd.i e.cmd.p e.cmd.g e.id e.other e.qty e.price e.reason).toArray,M,yp w 0,f 0,f 1,f 2,f 3,f 4,f 5,f 6,f 7,f 8,f 9],defers:=[] }) 7 10 (DE mb B hR vo ts e)) (by kernel_rfl) ?_ ?_ ?_
 ·exact ⟨fun _=>M,rfl,fun _=>⟨rfl,rfl,rfl,Nat.le_refl _,fun _ _=>rfl⟩,fun j K=>by rw [yI] at K; split at K <;> simp at K⟩
 ·rintro x xm V ⟨f,rfl,-,hD⟩ hx xP
  have xp:=zV xP hx (acyc _ (by kernel_rfl))
  have k7:x[7]? = some true:=xp 7 (by simp)
  have k10:x[10]? = some true:=xp 10 (by simp)
  obtain ⟨va,vc,-,-,-,vk⟩:=hD 7 k7
  obtain ⟨q1,q2,q3⟩:=vk k10
  have vv:Hid (_∧_∧_):=⟨q1,q2,q3⟩
  clear hD xp xP hx k7 k10 vk q1 q2 q3
  dsimp only
  go_wp2_with fail
  go_end0
  exact ⟨_,rfl,(U vv).1,(U vv).2.1,cy (bL (ba (U xU) qt) qG qL) (U vv).2.2⟩
 ·rintro x xm V i op ⟨f,rfl,jB,hD⟩ xo hx Z xy Q
  have ui:=Y jB
  have HD:=Y hD
  have xn:∀ b o u,hR.cell? (J b o) = some u→¬ x[7]? = some true→V.cell? (J b o) = some u:=fun b o u hu hn7=>((U ui hn7).cell (p:=(J b o)) (yK hR _ hu)).trans hu
  have n7':i < 7→0 < i→¬ x[7]? = some true:=fun xJ qu h7=>by
   have h4:=yf xo 7 rfl h7 4 rfl
   have h6:=yf xo 7 rfl h7 6 rfl
   have h3:=yf xo 4 rfl h4 3 rfl
   have h5:=yf xo 6 rfl h6 5 rfl
   have E:=yf xo 3 rfl h3 2 rfl
   have G:=yf xo 2 rfl E 1 rfl
   have uj:∀ j,0 < j→j < 7→x[j]? = some true:=fun j jj K=>by
    rcases (by omega:j = 1 ∨ j = 2 ∨ j = 3 ∨ j = 4 ∨ j = 5 ∨ j = 6) with rfl | rfl | rfl | rfl | rfl | rfl <;> assumption
   rw [uj i qu xJ] at xy; cases xy
  have n10':i < 10→¬ x[10]? = some true:=fun xJ vQ=>by
   have h9:=yf xo 10 rfl vQ 9 rfl
   have h7:=yf xo 10 rfl vQ 7 rfl
   have h8:=yf xo 9 rfl h9 8 rfl
   have h4:=yf xo 7 rfl h7 4 rfl
   have h6:=yf xo 7 rfl h7 6 rfl
   have h0:=yf xo 8 rfl h8 0 rfl
   have h3:=yf xo 4 rfl h4 3 rfl
   have h5:=yf xo 6 rfl h6 5 rfl
   have E:=yf xo 3 rfl h3 2 rfl
   have G:=yf xo 2 rfl E 1 rfl
   have uj:∀ j,j < 10→x[j]? = some true:=fun j K=>by
    rcases (by omega:j = 0 ∨ j = 1 ∨ j = 2 ∨ j = 3 ∨ j = 4 ∨ j = 5 ∨ j = 6 ∨ j = 7 ∨ j = 8 ∨ j = 9) with rfl | rfl | rfl | rfl | rfl | rfl | rfl | rfl | rfl | rfl <;> assumption
   rw [uj i xJ] at xy; cases xy
  clear xo jB
  match i,Z with
  | 0,Z | 1,Z =>
   obtain rfl:=ya Z
   clear Q hD
   rw [if_pos (by rfl)];unfold Oper.wp;go_simp
   exact ⟨upd f _ (I mb 0),by simp [upd],zw (U HD) (by decide) (by decide) (fun _ _ h=>h) (U ui) rfl⟩
  | 2,Z =>
   obtain rfl:=ya Z
   have g:f 1 = I mb 0:=hD 1 (ye Q 1 rfl)
   clear Q hD
   rw [if_pos (by rfl)];unfold Oper.wp;go_simp
   exact ⟨upd f 2 (I mb 0),by simp [upd,g],zw (U HD) (by decide) (by decide) (fun _ _ h=>h) (U ui) rfl⟩
  | 3,Z =>
   obtain rfl:=ya Z
   have g:f 2 = I mb 0:=hD 2 (ye Q 2 rfl)
   clear Q hD
   rw [if_pos (by rfl)];unfold Oper.wp;go_simp
   exact ⟨upd f 3 (I mb 11),by simp [upd,g],zw (U HD) (by decide) (by decide) (fun _ _ h=>h) (U ui) rfl⟩
  | 4,Z =>
   obtain rfl:=ya Z
   have g:f 3 = I mb 11:=hD 3 (ye Q 3 rfl)
   have n7:=n7' (by omega) (by omega)
   have y1:=xn mb 11 _ (U qa) n7
   clear Q hD
   rw [if_pos (by rfl)];unfold Oper.wp;go_simp
   exact ⟨upd f 4 (vo),by simp [upd,g],zw (U HD) (by decide) (by decide) (fun _ _ h=>h) (U ui) rfl⟩
  | 5,Z =>
   obtain rfl:=ya Z
   have n7:=n7' (by omega) (by omega)
   have y0:=xn w.heap.size 0 _ (U jw 0 _ rfl) n7
   have y1:=xn w.heap.size 1 _ (U jw 1 _ rfl) n7
   have y2:=xn w.heap.size 2 _ (U jw 2 _ rfl) n7
   have y3:=xn w.heap.size 3 _ (U jw 3 _ rfl) n7
   have y4:=xn w.heap.size 4 _ (U jw 4 _ rfl) n7
   have y5:=xn w.heap.size 5 _ (U jw 5 _ rfl) n7
   have y6:=xn w.heap.size 6 _ (U jw 6 _ rfl) n7
   have y7:=xn w.heap.size 7 _ (U jw 7 _ rfl) n7
   have y8:=xn w.heap.size 8 _ (U jw 8 _ rfl) n7
   have y9:=xn w.heap.size 9 _ (U jw 9 _ rfl) n7
   have y10:=xn w.heap.size 10 _ (U jw 10 _ rfl) n7
   have y11:=xn w.heap.size 11 _ (U jw 11 _ rfl) n7
   have y12:=xn w.heap.size 12 _ (U jw 12 _ rfl) n7
   have y13:=xn w.heap.size 13 _ (U jw 13 _ rfl) n7
   clear Q hD
   rw [if_pos (by rfl)];unfold Oper.wp;go_simp
   exact ⟨upd f 5 (.agg (yu e.kind e.cmd.k e.cmd.s e.cmd.t e.cmd.l e.cmd.q e.cmd.i e.cmd.p e.cmd.g e.id e.other e.qty e.price e.reason).toArray),by simp [upd],zw (U HD) (by decide) (by decide) (fun _ _ h=>h) (U ui) rfl⟩
  | 6,Z =>
   obtain rfl:=ya Z
   have g:f 5 = .agg (yu e.kind e.cmd.k e.cmd.s e.cmd.t e.cmd.l e.cmd.q e.cmd.i e.cmd.p e.cmd.g e.id e.other e.qty e.price e.reason).toArray:=hD 5 (ye Q 5 rfl)
   have n7:=n7' (by omega) (by omega)
   have xT:=U ui n7
   have hsf:=sfl
   clear Q hD
   rw [if_pos (by rfl)];unfold Oper.wp;go_simp
   refine ⟨upd f 6 (.slice (some (yq V 0)) 1 1),by simp [upd,g],zw (U HD) (by decide) (by decide) (de_alloc n7) (fun _=>xT.alloc xT.size _) ⟨V.heap.size,rfl,fun _=>?_⟩⟩
   exact fun j u h=>cE V e.vs 46 j u h
  | 7,Z =>
   obtain rfl:=ya Z
   have g4:f 4 = vo:=hD 4 (ye Q 4 rfl)
   obtain ⟨s,g6,ol⟩:=hD 6 (ye Q 6 rfl)
   have n7:¬ x[7]? = some true:=by rw [xy]; simp
   have af:=n10' (by omega)
   have xT:=U ui n7
   have uU:ERow V B vo ts:=zI (U jS) xT
   rw [if_pos (by rfl)]
   refine wp_append_own V (.tmp 8) (.tmp 10) 38 rfl B 46 i0 _ 14 120 Tryz.underlying38 uH uF uJ uQ rfl (by decide) vo ts.length (ts.flatMap Ev.vs) g4 uU (J s 0) 1 1 e.vs g6 rfl (ol n7) (one_ev e) (by unfold maxLen; omega) (by omega) (by have:=xT.size; omega) ?_
   intro v' w' xN uk _
   obtain ⟨ga,gc,rfl⟩:=dQ xN (by omega)
   refine ⟨upd f 7 (.slice (some (J ga 0)) (ts.length + 1) gc),rfl,rt_one (by decide) (U HD) xy af (fun j v K h=>de_one j v K h) ⟨some (J ga 0),gc,rfl,trivial,fun _=>⟨?_,?_⟩,fun h=>h.elim⟩⟩
   ·show World.ownsRow _ _ _ _ _ (ts ++ [e]).length _
    rw [yP,List.flatMap_append]; simpa using xN
   ·exact (ba xT qt).trans uk
  | 8,Z =>
   obtain rfl:=ya Z
   have g:f 0 = I mb 0:=hD 0 (ye Q 0 rfl)
   clear Q hD
   rw [if_pos (by rfl)];unfold Oper.wp;go_simp
   exact ⟨upd f 8 (I mb 0),by simp [upd,g],zw (U HD) (by decide) (by decide) (fun _ _ h=>h) (U ui) rfl⟩
  | 9,Z =>
   obtain rfl:=ya Z
   have g:f 8 = I mb 0:=hD 8 (ye Q 8 rfl)
   clear Q hD
   rw [if_pos (by rfl)];unfold Oper.wp;go_simp
   exact ⟨upd f 9 (I mb 11),by simp [upd,g],zw (U HD) (by decide) (by decide) (fun _ _ h=>h) (U ui) rfl⟩
  | 10,Z =>
   obtain rfl:=ya Z
   have g9:f 9 = I mb 11:=hD 9 (ye Q 9 rfl)
   have k7:x[7]? = some true:=Q ⟨7,.data⟩ (by simp) rfl
   have af:¬ x[10]? = some true:=by rw [xy]; simp
   obtain ⟨ga,gc,g7,-,hfa,-⟩:=hD 7 k7
   obtain ⟨jV,uk⟩:=hfa af
   have y1:=uk.cell (U qa) qL
   have f1:V.frozen? (J mb 11) = false:=(World.frozen?_of_block (a:=(J mb 11)) (uk.block mb jW qL)).trans (U qP)
   have jM:=Y (g7 ▸ jV)
   have pA:Hid (∃ xr,V.heap[mb]? = some (.cells xr 71 (0,0))):=by obtain ⟨xr,hc⟩:=U ux; exact ⟨xr,(uk.block mb jW qL).trans hc⟩
   have ph:=Y uk
   clear Q hD jV uk hfa
   rw [if_pos (by rfl)];unfold Oper.wp;go_simp
   refine ⟨upd f 10 M,by simp [upd,g9,g7],rt_two (by decide) (U HD) k7 xy (fun j K hxj h=>de_two j K h (fun hj7=>?_)) trivial⟩
   subst hj7
   obtain ⟨-,-,-,-,-,-⟩:=h
   refine ⟨ga,gc,g7,trivial,fun h=>absurd trivial h,fun _=>?_⟩
   rw [g7]
   refine ⟨yM _ _ _ y1,zu (U jM) (zl (U jM) (U pA) (by decide)) 11 _,?_⟩
   exact cy (bL (U ph) jW qL) (dj (o:=10) _ _)
  | i + 11,Z=>simp at Z
structure Tot where
 gr:Int
 ac:Int
 rf:Int
 tr:Int
 vo:Int
 no:Int
 li:Int
 le:Int
def Tot.vs (t:Tot):List Value:=[H t.gr,H t.ac,H t.rf,H t.tr,H t.vo,H t.no,H t.li,H t.le]
def cntE (t:Tot) (e:Ev):Tot :=
 if e.kind = 1 then { t with ac:=wrap64 (t.ac + 1) } else if e.kind = 2 then { t with rf:=wrap64 (t.rf + 1) }
 else if e.kind = 3 then { t with tr:=wrap64 (t.tr + 1),vo:=wrap64 (t.vo + e.qty),no:=wrap64 (t.no + wrap64 (e.qty * e.price)) } else t
def wgT (t:Tot) (ts:List Ev):Tot:=ts.foldl cntE { t with gr:=wrap64 (t.gr + 1) }
theorem wg_step (t:Tot) (ts:List Ev) {k:Nat} {e:Ev} (h:ts[k]? = some e):wgT t (ts.take (k + 1)) = cntE (wgT t (ts.take k)) e:=by
 unfold wgT
 rw [List.take_add_one,h,List.foldl_append]; rfl
theorem cH {W:World} {b j:Nat} {cs:List Value} {u:Value} (h:W.rangeAt b 0 cs) (K:j < cs.length):(W.setCell (J b j) u).rangeAt b 0 (cs.set j u):=by
 intro i v hi
 rw [Nat.zero_add]
 by_cases kV:j = i
 ·subst kV
  rw [List.getElem?_set_self K] at hi
  cases hi
  have:=h j _ (yH K)
  rw [Nat.zero_add] at this
  exact yM _ _ _ this
 ·rw [yW kV] at hi
  have:=h i v hi
  rw [Nat.zero_add] at this
  exact (yL _ _ _ _ (zP kV)).trans this
theorem keep8 {w W:World} {S:Nat} {cs:List Value} (h:W.rangeAt S 0 cs∧W.there S 0 8∧W.there (S + 1) 0 8∧Below S w W∧S + 1 + 1 ≤ W.heap.size) (j:Nat) (K:j < cs.length) (u:Value):(W.setCell (J S j) u).rangeAt S 0 (cs.set j u)∧(W.setCell (J S j) u).there S 0 8∧(W.setCell (J S j) u).there (S + 1) 0 8∧Below S w (W.setCell (J S j) u)∧S + 1 + 1 ≤ (W.setCell (J S j) u).heap.size :=
 ⟨cH h.1 K,zE h.2.1,zE h.2.2.1,h.2.2.2.1.setCell (p:=(J S j)) qt _,by simp only [World.setCell,Array.size_modify]; exact h.2.2.2.2⟩
theorem bD {W:World} {b o:Nat} {e:Ev} (h:W.rangeAt b o e.vs):W.cell? (J b o) = some (H e.kind)∧W.cell? (J b (o + 1)) = some (H e.cmd.k)∧W.cell? (J b (o + 2)) = some (H e.cmd.s)∧W.cell? (J b (o + 3)) = some (H e.cmd.t)∧W.cell? (J b (o + 4)) = some (H e.cmd.l)∧W.cell? (J b (o + 5)) = some (H e.cmd.q)∧W.cell? (J b (o + 6)) = some (H e.cmd.i)∧W.cell? (J b (o + 7)) = some (yj e.cmd.p)∧W.cell? (J b (o + 8)) = some (yk e.cmd.g)∧W.cell? (J b (o + 9)) = some (H e.id)∧W.cell? (J b (o + 10)) = some (H e.other)∧W.cell? (J b (o + 11)) = some (H e.qty)∧W.cell? (J b (o + 12)) = some (H e.price)∧W.cell? (J b (o + 13)) = some (H e.reason):=⟨h 0 _ rfl,h 1 _ rfl,h 2 _ rfl,h 3 _ rfl,h 4 _ rfl,h 5 _ rfl,h 6 _ rfl,h 7 _ rfl,h 8 _ rfl,h 9 _ rfl,h 10 _ rfl,h 11 _ rfl,h 12 _ rfl,h 13 _ rfl⟩
theorem withGroup_any (t:Tot) (v:Value) (ts:List Ev) (w:World) (hr:RdR Ev.vs 14 w v ts) :
  Calls Tryz.prog 106 #[.agg #[H t.gr,H t.ac,H t.rf,H t.tr,H t.vo,H t.no,H t.li,H t.le],v] w fun r w'=>r = ym (.agg #[H (wgT t ts).gr,H (wgT t ts).ac,H (wgT t ts).rf,H (wgT t ts).tr,H (wgT t ts).vo,H (wgT t ts).no,H (wgT t ts).li,H (wgT t ts).le])∧yn w w':=by
 obtain ⟨a,A,rfl,xE,hc⟩:=hr
 have xq:∀ (k:Nat) (c:Ev),ts[k]? = some c→∃ b off,a = some (J b off)∧b < w.heap.size∧w.rangeAt b (off + k * 14) c.vs:=by
  intro k c hk
  obtain ⟨b,off,G,E,h3⟩:=hc (by intro h; rw [h] at hk; simp at hk)
  exact ⟨b,off,G,E,h3 k c hk⟩
 have HC:=Y xq
 clear xq hc
 have hsf:=sfl
 have xA:=zh w (eF #[H t.gr,H t.ac,H t.rf,H t.tr,H t.vo,H t.no,H t.li,H t.le] 30)
 have ua:((w.alloc (eF #[H t.gr,H t.ac,H t.rf,H t.tr,H t.vo,H t.no,H t.li,H t.le] 30)).alloc (eF #[H 0,H 0,H 0,H 0,H 0,H 0,H 0,H 0] 30)).heap.size = w.heap.size + 1 + 1:=by rw [zh,xA]
 have r1:=zi w [H t.gr,H t.ac,H t.rf,H t.tr,H t.vo,H t.no,H t.li,H t.le] 30
 have t1:=zv w [H t.gr,H t.ac,H t.rf,H t.tr,H t.vo,H t.no,H t.li,H t.le] 30
 have t2:=zv (w.alloc (eF #[H t.gr,H t.ac,H t.rf,H t.tr,H t.vo,H t.no,H t.li,H t.le] 30)) [H 0,H 0,H 0,H 0,H 0,H 0,H 0,H 0] 30
 rw [xA] at t2
 have b1:=eD w (eF #[H t.gr,H t.ac,H t.rf,H t.tr,H t.vo,H t.no,H t.li,H t.le] 30)
 have b2:Below (w.heap.size + 1) (w.alloc (eF #[H t.gr,H t.ac,H t.rf,H t.tr,H t.vo,H t.no,H t.li,H t.le] 30)) ((w.alloc (eF #[H t.gr,H t.ac,H t.rf,H t.tr,H t.vo,H t.no,H t.li,H t.le] 30)).alloc (eF #[H 0,H 0,H 0,H 0,H 0,H 0,H 0,H 0] 30)):=(Below.refl _ _).alloc (by omega) _
 have HX:Hid (_∧_∧_):=⟨zb r1 b2 (by omega),zg t1 b2 (by omega),t2⟩
 have HB:=Y (b1.trans (b2.mono (by omega)))
 have HS:=Y ua
 clear xA ua r1 t1 t2 b1 b2
 go_enter Tryz.func106,Tryz.ntmps106
 refine eH fun hj xu=>?_
 go_wp2_with fail
 refine U xu _ _ ?_
 clear xu
 generalize ((w.alloc (eF #[H t.gr,H t.ac,H t.rf,H t.tr,H t.vo,H t.no,H t.li,H t.le] 30)).alloc (eF #[H 0,H 0,H 0,H 0,H 0,H 0,H 0,H 0] 30)) = hR at HX HB HS ⊢
 have HX:Hid (hR.rangeAt w.heap.size 0 [H t.gr,H t.ac,H t.rf,H t.tr,H t.vo,H t.no,H t.li,H t.le]∧hR.there w.heap.size 0 8∧hR.there (w.heap.size + 1) 0 8):=U HX
 have c0:hR.cell? (yq w 0) = some (H t.gr):=(U HX).1 0 _ rfl
 obtain ⟨y0,z0,q0⟩:=ze (U HX).2.1 (j:=0) (by omega)
 clear z0 y0
 refine eH fun hj xu=>?_
 go_wp2_with fail
 refine U xu _ _ ?_
 clear xu
 have uK:Hid (World.rangeAt (hR.setCell (yq w 0) (H (wrap64 (t.gr + 1)))) w.heap.size 0 (wgT t (ts.take 0)).vs∧World.there (hR.setCell (yq w 0) (H (wrap64 (t.gr + 1)))) w.heap.size 0 8∧World.there (hR.setCell (yq w 0) (H (wrap64 (t.gr + 1)))) (w.heap.size + 1) 0 8∧yn w (hR.setCell (yq w 0) (H (wrap64 (t.gr + 1))))∧(hR.setCell (yq w 0) (H (wrap64 (t.gr + 1)))).heap.size = w.heap.size + 1 + 1):=by
  refine ⟨?_,zE (U HX).2.1,zE (U HX).2.2,(U HB).setCell (p:=(yq w 0)) qt _,by simp [World.setCell]; exact U HS⟩
  intro j u K
  rw [Nat.zero_add]
  match j,K with
  | 0,K=>cases K; exact yM _ _ _ c0
  | 1,K=>cases K; exact (yL _ _ _ _ (zP (by omega))).trans ((U HX).1 1 _ rfl)
  | 2,K=>cases K; exact (yL _ _ _ _ (zP (by omega))).trans ((U HX).1 2 _ rfl)
  | 3,K=>cases K; exact (yL _ _ _ _ (zP (by omega))).trans ((U HX).1 3 _ rfl)
  | 4,K=>cases K; exact (yL _ _ _ _ (zP (by omega))).trans ((U HX).1 4 _ rfl)
  | 5,K=>cases K; exact (yL _ _ _ _ (zP (by omega))).trans ((U HX).1 5 _ rfl)
  | 6,K=>cases K; exact (yL _ _ _ _ (zP (by omega))).trans ((U HX).1 6 _ rfl)
  | 7,K=>cases K; exact (yL _ _ _ _ (zP (by omega))).trans ((U HX).1 7 _ rfl)
  | j + 8,K=>simp [Tot.vs] at K
 have HSU:Hid (_∧_∧_∧_∧_):=⟨(U uK).1,(U uK).2.1,(U uK).2.2.1,(U uK).2.2.2.1,Nat.le_of_eq (U uK).2.2.2.2.symm⟩
 generalize (hR.setCell (yq w 0) (H (wrap64 (t.gr + 1)))) = X1 at uK HSU ⊢
 clear c0 q0 HX HB HS uK
 go_wp2_with fail
 go_loopw [13] (fun iv wr=>∃ (k:Nat),k ≤ ts.length∧iv = H k∧Hid (wr.rangeAt w.heap.size 0 (wgT t (ts.take k)).vs∧wr.there w.heap.size 0 8∧wr.there (w.heap.size + 1) 0 8∧yn w wr∧w.heap.size + 1 + 1 ≤ wr.heap.size)) (fun iv _=>ts.length - (intOf iv).toNat)
 case atStart=>exact ⟨0,Nat.zero_le _,rfl,U HSU⟩
 case round =>
  obtain ⟨k,hk,rfl,ub⟩:=hrel
  by_cases xJ:k < ts.length
  ·obtain ⟨e,jk⟩:∃ e,ts[k]? = some e:=⟨_,yH xJ⟩
   obtain ⟨b,off,rfl,F,xo⟩:=U HC k e jk
   have qb:=Y (wg_step t ts jk)
   have un:(k:Int) < ts.length:=by omega
   have hse:=(U ub).2.2.2.2
   obtain ⟨g0,g1,g2,g3,g4,g5,g6,g7,g8,g9,qR,vF,xZ,kR⟩:=bD (zb xo (U ub).2.2.2.1 F)
   have vr:=eD wr (eF (yu e.kind e.cmd.k e.cmd.s e.cmd.t e.cmd.l e.cmd.q e.cmd.i e.cmd.p e.cmd.g e.id e.other e.qty e.price e.reason).toArray 46)
   have HY:Hid (World.rangeAt (wr.alloc (eF (yu e.kind e.cmd.k e.cmd.s e.cmd.t e.cmd.l e.cmd.q e.cmd.i e.cmd.p e.cmd.g e.id e.other e.qty e.price e.reason).toArray 46)) w.heap.size 0 (wgT t (ts.take k)).vs∧World.there (wr.alloc (eF (yu e.kind e.cmd.k e.cmd.s e.cmd.t e.cmd.l e.cmd.q e.cmd.i e.cmd.p e.cmd.g e.id e.other e.qty e.price e.reason).toArray 46)) w.heap.size 0 8∧World.there (wr.alloc (eF (yu e.kind e.cmd.k e.cmd.s e.cmd.t e.cmd.l e.cmd.q e.cmd.i e.cmd.p e.cmd.g e.id e.other e.qty e.price e.reason).toArray 46)) (w.heap.size + 1) 0 8∧yn w (wr.alloc (eF (yu e.kind e.cmd.k e.cmd.s e.cmd.t e.cmd.l e.cmd.q e.cmd.i e.cmd.p e.cmd.g e.id e.other e.qty e.price e.reason).toArray 46))∧w.heap.size + 1 + 1 ≤ (wr.alloc (eF (yu e.kind e.cmd.k e.cmd.s e.cmd.t e.cmd.l e.cmd.q e.cmd.i e.cmd.p e.cmd.g e.id e.other e.qty e.price e.reason).toArray 46)).heap.size):=⟨zb (U ub).1 vr (by omega),zg (U ub).2.1 vr (by omega),zg (U ub).2.2.1 vr (by omega),(U ub).2.2.2.1.trans (vr.mono (by omega)),yN hse vr.size⟩
   generalize wgT t (ts.take k) = T at qb HY
   obtain ⟨ud,uc,uf,ug,uh,ue,uu,ut⟩:=T
   have xB:w.heap.size ≠ wr.heap.size:=by omega
   have hne':wr.heap.size ≠ w.heap.size:=by omega
   have d0:(wr.alloc (eF (yu e.kind e.cmd.k e.cmd.s e.cmd.t e.cmd.l e.cmd.q e.cmd.i e.cmd.p e.cmd.g e.id e.other e.qty e.price e.reason).toArray 46)).cell? (yq w 0) = some (H ud):=(U HY).1 0 _ rfl
   have p0:(wr.alloc (eF (yu e.kind e.cmd.k e.cmd.s e.cmd.t e.cmd.l e.cmd.q e.cmd.i e.cmd.p e.cmd.g e.id e.other e.qty e.price e.reason).toArray 46)).frozen? (yq w 0) = false:=by have:=((U HY).2.1 0 (by omega)).2; rwa [Nat.zero_add] at this
   have d1:(wr.alloc (eF (yu e.kind e.cmd.k e.cmd.s e.cmd.t e.cmd.l e.cmd.q e.cmd.i e.cmd.p e.cmd.g e.id e.other e.qty e.price e.reason).toArray 46)).cell? (yq w 1) = some (H uc):=(U HY).1 1 _ rfl
   have p1:(wr.alloc (eF (yu e.kind e.cmd.k e.cmd.s e.cmd.t e.cmd.l e.cmd.q e.cmd.i e.cmd.p e.cmd.g e.id e.other e.qty e.price e.reason).toArray 46)).frozen? (yq w 1) = false:=by have:=((U HY).2.1 1 (by omega)).2; rwa [Nat.zero_add] at this
   have d2:(wr.alloc (eF (yu e.kind e.cmd.k e.cmd.s e.cmd.t e.cmd.l e.cmd.q e.cmd.i e.cmd.p e.cmd.g e.id e.other e.qty e.price e.reason).toArray 46)).cell? (yq w 2) = some (H uf):=(U HY).1 2 _ rfl
   have p2:(wr.alloc (eF (yu e.kind e.cmd.k e.cmd.s e.cmd.t e.cmd.l e.cmd.q e.cmd.i e.cmd.p e.cmd.g e.id e.other e.qty e.price e.reason).toArray 46)).frozen? (yq w 2) = false:=by have:=((U HY).2.1 2 (by omega)).2; rwa [Nat.zero_add] at this
   have d3:(wr.alloc (eF (yu e.kind e.cmd.k e.cmd.s e.cmd.t e.cmd.l e.cmd.q e.cmd.i e.cmd.p e.cmd.g e.id e.other e.qty e.price e.reason).toArray 46)).cell? (yq w 3) = some (H ug):=(U HY).1 3 _ rfl
   have p3:(wr.alloc (eF (yu e.kind e.cmd.k e.cmd.s e.cmd.t e.cmd.l e.cmd.q e.cmd.i e.cmd.p e.cmd.g e.id e.other e.qty e.price e.reason).toArray 46)).frozen? (yq w 3) = false:=by have:=((U HY).2.1 3 (by omega)).2; rwa [Nat.zero_add] at this
   have d4:(wr.alloc (eF (yu e.kind e.cmd.k e.cmd.s e.cmd.t e.cmd.l e.cmd.q e.cmd.i e.cmd.p e.cmd.g e.id e.other e.qty e.price e.reason).toArray 46)).cell? (yq w 4) = some (H uh):=(U HY).1 4 _ rfl
   have p4:(wr.alloc (eF (yu e.kind e.cmd.k e.cmd.s e.cmd.t e.cmd.l e.cmd.q e.cmd.i e.cmd.p e.cmd.g e.id e.other e.qty e.price e.reason).toArray 46)).frozen? (yq w 4) = false:=by have:=((U HY).2.1 4 (by omega)).2; rwa [Nat.zero_add] at this
   have d5:(wr.alloc (eF (yu e.kind e.cmd.k e.cmd.s e.cmd.t e.cmd.l e.cmd.q e.cmd.i e.cmd.p e.cmd.g e.id e.other e.qty e.price e.reason).toArray 46)).cell? (yq w 5) = some (H ue):=(U HY).1 5 _ rfl
   have p5:(wr.alloc (eF (yu e.kind e.cmd.k e.cmd.s e.cmd.t e.cmd.l e.cmd.q e.cmd.i e.cmd.p e.cmd.g e.id e.other e.qty e.price e.reason).toArray 46)).frozen? (yq w 5) = false:=by have:=((U HY).2.1 5 (by omega)).2; rwa [Nat.zero_add] at this
   have d6:(wr.alloc (eF (yu e.kind e.cmd.k e.cmd.s e.cmd.t e.cmd.l e.cmd.q e.cmd.i e.cmd.p e.cmd.g e.id e.other e.qty e.price e.reason).toArray 46)).cell? (yq w 6) = some (H uu):=(U HY).1 6 _ rfl
   have p6:(wr.alloc (eF (yu e.kind e.cmd.k e.cmd.s e.cmd.t e.cmd.l e.cmd.q e.cmd.i e.cmd.p e.cmd.g e.id e.other e.qty e.price e.reason).toArray 46)).frozen? (yq w 6) = false:=by have:=((U HY).2.1 6 (by omega)).2; rwa [Nat.zero_add] at this
   have d7:(wr.alloc (eF (yu e.kind e.cmd.k e.cmd.s e.cmd.t e.cmd.l e.cmd.q e.cmd.i e.cmd.p e.cmd.g e.id e.other e.qty e.price e.reason).toArray 46)).cell? (yq w 7) = some (H ut):=(U HY).1 7 _ rfl
   have p7:(wr.alloc (eF (yu e.kind e.cmd.k e.cmd.s e.cmd.t e.cmd.l e.cmd.q e.cmd.i e.cmd.p e.cmd.g e.id e.other e.qty e.price e.reason).toArray 46)).frozen? (yq w 7) = false:=by have:=((U HY).2.1 7 (by omega)).2; rwa [Nat.zero_add] at this
   clear jk xo F vr
   by_cases G:e.kind = 1
   ·have b1:(e.kind == 1) = true:=by simpa using G
    have HN:Hid (wgT t (ts.take (k + 1)) = ⟨ud,wrap64 (uc + 1),uf,ug,uh,ue,uu,ut⟩):=(U qb).trans (if_pos G)
    clear G
    go_wp2_with fail
    go_roundw
    case rel=>exact ⟨k + 1,by omega,by go_num,by rw [U HN]; exact keep8 (U HY) 1 (by simp [Tot.vs]) _⟩
    case measure=>simp [intOf]; omega
   have b1:(e.kind == 1) = false:=by rw [xd]; exact G
   by_cases E:e.kind = 2
   ·have b2:(e.kind == 2) = true:=by simpa using E
    have HN:Hid (wgT t (ts.take (k + 1)) = ⟨ud,uc,wrap64 (uf + 1),ug,uh,ue,uu,ut⟩):=(U qb).trans ((if_neg G).trans (if_pos E))
    clear G E
    go_wp2_with fail
    go_roundw
    case rel=>exact ⟨k + 1,by omega,by go_num,by rw [U HN]; exact keep8 (U HY) 2 (by simp [Tot.vs]) _⟩
    case measure=>simp [intOf]; omega
   have b2:(e.kind == 2) = false:=by rw [xd]; exact E
   by_cases h3:e.kind = 3
   ·have b3:(e.kind == 3) = true:=by simpa using h3
    have HN:Hid (wgT t (ts.take (k + 1)) = ⟨ud,uc,uf,wrap64 (ug + 1),wrap64 (uh + e.qty),wrap64 (ue + wrap64 (e.qty * e.price)),uu,ut⟩):=(U qb).trans ((if_neg G).trans ((if_neg E).trans (if_pos h3)))
    clear G E h3
    go_wp2_with fail
    go_roundw
    case rel=>exact ⟨k + 1,by omega,by go_num,by rw [U HN]; exact keep8 (keep8 (keep8 (U HY) 3 (by simp [Tot.vs]) _) 4 (by simp [Tot.vs]) _) 5 (by simp [Tot.vs]) _⟩
    case measure=>simp [intOf]; omega
   ·have b3:(e.kind == 3) = false:=by rw [xd]; exact h3
    have HN:Hid (wgT t (ts.take (k + 1)) = ⟨ud,uc,uf,ug,uh,ue,uu,ut⟩):=(U qb).trans ((if_neg G).trans ((if_neg E).trans (if_neg h3)))
    clear G E h3
    go_wp2_with fail
    go_roundw
    case rel=>exact ⟨k + 1,by omega,by go_num,by rw [U HN]; exact U HY⟩
    case measure=>simp [intOf]; omega
  ·have un:¬ (k:Int) < ts.length:=by omega
   rw [yZ (by omega)] at ub
   generalize hT:wgT t ts = T at ub
   have oi:=Y hT
   have HY:=Y (U ub)
   clear hT
   obtain ⟨ud,uc,uf,ug,uh,ue,uu,ut⟩:=T
   have c0:wr.cell? (yq w 0) = some (H ud):=(U HY).1 0 _ rfl
   obtain ⟨y0,z0,q0⟩:=ze (U HY).2.2.1 (j:=0) (by omega)
   have c1:wr.cell? (yq w 1) = some (H uc):=(U HY).1 1 _ rfl
   obtain ⟨y1,z1,q1⟩:=ze (U HY).2.2.1 (j:=1) (by omega)
   have c2:wr.cell? (yq w 2) = some (H uf):=(U HY).1 2 _ rfl
   obtain ⟨y2,z2,q2⟩:=ze (U HY).2.2.1 (j:=2) (by omega)
   have c3:wr.cell? (yq w 3) = some (H ug):=(U HY).1 3 _ rfl
   obtain ⟨y3,z3,q3⟩:=ze (U HY).2.2.1 (j:=3) (by omega)
   have c4:wr.cell? (yq w 4) = some (H uh):=(U HY).1 4 _ rfl
   obtain ⟨y4,z4,q4⟩:=ze (U HY).2.2.1 (j:=4) (by omega)
   have c5:wr.cell? (yq w 5) = some (H ue):=(U HY).1 5 _ rfl
   obtain ⟨y5,z5,q5⟩:=ze (U HY).2.2.1 (j:=5) (by omega)
   have c6:wr.cell? (yq w 6) = some (H uu):=(U HY).1 6 _ rfl
   obtain ⟨y6,z6,q6⟩:=ze (U HY).2.2.1 (j:=6) (by omega)
   have c7:wr.cell? (yq w 7) = some (H ut):=(U HY).1 7 _ rfl
   obtain ⟨y7,z7,q7⟩:=ze (U HY).2.2.1 (j:=7) (by omega)
   have xQ:=Y (yX wr (w.heap.size + 1) 0 [H ud,H uc,H uf,H ug,H uh,H ue,H uu,H ut] (fun j K=>(U HY).2.2.1 j K))
   have qf:=Y (zo (w.heap.size + 1) (by omega) [H ud,H uc,H uf,H ug,H uh,H ue,H uu,H ut] 0 wr (U HY).2.2.2.1)
   clear ub
   go_wp2_with fail
   change bodyPost _ _ _ _ _ (wr.setCells (w.heap.size + 1) 0 [H ud,H uc,H uf,H ug,H uh,H ue,H uu,H ut])
   generalize wr.setCells (w.heap.size + 1) 0 [H ud,H uc,H uf,H ug,H uh,H ue,H uu,H ut] = WE at xQ qf ⊢
   obtain ⟨d0,d1,d2,d3,d4,d5,d6,d7⟩:=yD (U xQ)
   try simp only [Exit.inBlock,Exit.then]
   refine bodyPost_ret (by simp [results,Tryz.results106,go_sem,d0,d1,d2,d3,d4,d5,d6,d7]; try rfl) rfl ?_
   exact ⟨by rw [U oi],U qf⟩
def fdyF:List Od→Nat→Int
 | [],_=>-1
 | o :: r,k=>if o.life = 1 then k else fdyF r (k + 1)
def fdy (l:List Od):Int:=fdyF l 0
theorem er (o:Od) (w:World) :
  Calls Tryz.prog 118 #[.agg (yv o.id o.side o.ticks o.left o.life o.tag).toArray] w fun e w'=>e = ym (.bool (o.life == 1))∧yn w w':=by
 obtain ⟨uL,side,ticks,left,life,tag⟩:=o
 simp only
 go_enter Tryz.func118,Tryz.ntmps118
 go_wp2_with fail
 go_ret
 exact ⟨rfl,by go_grown⟩
theorem indexDay_any (v:Value) (l:List Od) (w:World) (hr:RdR Od.vs 6 w v l) :
  Calls Tryz.prog 152 #[v,.func (.func 118) #[] #[]] w fun e w'=>e = ym (H (fdy l))∧yn w w':=by
 obtain ⟨a,A,rfl,xE,hc⟩:=hr
 have xq:∀ (k:Nat) (c:Od),l[k]? = some c→∃ b off,a = some (J b off)∧b < w.heap.size∧w.rangeAt b (off + k * 6) c.vs:=by
  intro k c hk
  obtain ⟨b,off,G,E,h3⟩:=hc (by intro h; rw [h] at hk; simp at hk)
  exact ⟨b,off,G,E,h3 k c hk⟩
 have HC:=Y xq
 clear xq hc
 go_enter Tryz.func152,Tryz.ntmps152
 go_wp2_with fail
 go_loopw [8] (fun iv wr=>∃ (k:Nat),k ≤ l.length∧iv = H k∧Hid (fdy l = fdyF (l.drop k) k)∧yn w wr) (fun iv _=>l.length - (intOf iv).toNat)
 case atStart=>exact ⟨0,Nat.zero_le _,rfl,rfl,Below.refl _ _⟩
 case round =>
  obtain ⟨k,hk,rfl,jX,xk⟩:=hrel
  have HB:=Y xk
  clear xk
  by_cases xJ:k < l.length
  ·obtain ⟨c,uV⟩:∃ c,l[k]? = some c:=⟨_,yH xJ⟩
   have HP:Hid (fdy l = if c.life = 1 then (k:Int) else fdyF (l.drop (k + 1)) (k + 1)):=by
    have:=U jX
    rw [drop_get uV] at this
    exact this
   obtain ⟨b,off,rfl,F,xo⟩:=U HC k c uV
   obtain ⟨g0,g1,g2,g3,g4,g5⟩:=zz (zb xo (U HB) F)
   have un:(k:Int) < l.length:=by omega
   clear uV xo F jX
   go_wp2_with fail
   refine (er c wr).mono ?_
   rintro e w3 ⟨rfl,uC⟩
   have xV:=Y (D (U HB) uC)
   clear uC
   by_cases vl:c.life = 1
   ·have F:(c.life == 1) = true:=by simpa using vl
    have HK:Hid (fdy l = k):=by have:=U HP; rw [if_pos vl] at this; exact this
    clear vl
    go_wp2_with fail
    go_ret
    exact ⟨zr (U HK).symm,U xV⟩
   ·have F:(c.life == 1) = false:=by simpa using vl
    have HK:Hid (fdy l = fdyF (l.drop (k + 1)) (k + 1)):=by have:=U HP; rw [if_neg vl] at this; exact this
    clear vl
    go_wp2_with fail
    go_roundw
    case rel=>exact ⟨k + 1,by omega,by go_num,U HK,U xV⟩
    case measure=>simp [intOf]; omega
  ·have HK:Hid (fdy l = -1):=by
    have h:=U jX
    rw [xa (by omega)] at h
    exact h
   go_wp2_with fail
   go_ret
   exact ⟨zr (U HK).symm,U HB⟩
end Go.Proofs.YtbakanofkghmiaaGreat
