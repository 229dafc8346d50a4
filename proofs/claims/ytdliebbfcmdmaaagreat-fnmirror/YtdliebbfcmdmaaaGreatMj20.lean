/-
  The reason why a command is refused, by the program: proved by walking the functions.
-/
import Derived.Test.YtdliebbfcmdmaaaGreatMj19
set_option linter.unusedVariables false
set_option maxHeartbeats 6400000
set_option maxRecDepth 100000
namespace Go.Proofs.YtdliebbfcmdmaaaGreat
open Go.RowKit
def refR (next:Int) (l:List Od) (c:Cm):Int :=
 if c.k = 1 then (if aB ⟨1,c.s,c.t,c.l,c.q,0,c.p,c.g⟩ c = true then newR next l c else 2)
 else if c.k = 2 then (if aB ⟨2,0,0,0,0,c.i,0,⟨#[]⟩⟩ c = true then idR l c.i else 2)
 else if c.k = 3 then (if aB ⟨3,0,0,0,c.q,c.i,0,⟨#[]⟩⟩ c = true then redR l c.i c.q else 2)
 else if c.k = 4 then (if aB ⟨4,0,0,0,0,0,0,⟨#[]⟩⟩ c = true then 0 else 2)
 else 1
theorem refusal_any (next:Int) (vb:Value) (l:List Od) (c:Cm) (w:World) (hr:RdR Od.vs 6 w vb l) (hs:SlOk vb) (hg:GoodL l) (h0:0 ≤ next) (Q:next ≤ 1000000) (ht:c.g.size ≤ maxLen) :
  Calls Tryz.prog 28 #[.agg #[H next,vb],cmV c] w fun e w'=>e = ym (H (refR next l c))∧yn w w':=by
 obtain ⟨kk,s,X,li,F,ii,pr,O⟩:=c
 unfold cmV
 simp only at ht ⊢
 by_cases e1:kk = 1
 ·subst e1; exact refusal_1 next vb l s X li F ii pr O w hr hs hg h0 Q ht
 by_cases e2:kk = 2
 ·subst e2; exact refusal_2 next vb l s X li F ii pr O w hr hs hg h0 Q ht
 by_cases e3:kk = 3
 ·subst e3; exact refusal_3 next vb l s X li F ii pr O w hr hs hg h0 Q ht
 by_cases e4:kk = 4
 ·subst e4; exact refusal_4 next vb l s X li F ii pr O w hr hs hg h0 Q ht
 have vp:Hid (refR next l ⟨kk,s,X,li,F,ii,pr,O⟩ = 1):=by show _ = _; simp [refR,e1,e2,e3,e4]
 have jl:cmdI ⟨kk,s,X,li,F,ii,pr,O⟩ = .nilIface:=by simp [cmdI,e1,e2,e3,e4]
 obtain ⟨a,A,rfl,xD,hc⟩:=hr
 clear hc hg hs h0 Q ht xD e1 e2 e3 e4
 have xA:=ze w (E #[H next,.slice a l.length A] 31)
 have uc:((w.alloc (E #[H next,.slice a l.length A] 31)).alloc (E (yw kk s X li F ii pr O).toArray 27)).heap.size = w.heap.size + 1 + 1:=by rw [ze,xA]
 have r1:=zg w [H next,.slice a l.length A] 31
 have r2:=zg (w.alloc (E #[H next,.slice a l.length A] 31)) (yw kk s X li F ii pr O) 27
 rw [xA] at r2
 have qm:Below (w.heap.size + 1) (w.alloc (E #[H next,.slice a l.length A] 31)) ((w.alloc (E #[H next,.slice a l.length A] 31)).alloc (E (yw kk s X li F ii pr O).toArray 27)):=(Below.refl _ _).alloc (by rw [xA]; omega) _
 have xF:Hid (yn w ((w.alloc (E #[H next,.slice a l.length A] 31)).alloc (E (yw kk s X li F ii pr O).toArray 27))):=(ed _ _).alloc (by rw [xA]; omega) _
 have HX:Hid (_∧_):=⟨zb r1 qm (by omega),r2⟩
 have ux:Hid (w.heap.size < ((w.alloc (E #[H next,.slice a l.length A] 31)).alloc (E (yw kk s X li F ii pr O).toArray 27)).heap.size∧w.heap.size + 1 < ((w.alloc (E #[H next,.slice a l.length A] 31)).alloc (E (yw kk s X li F ii pr O).toArray 27)).heap.size):=⟨by omega,by omega⟩
 clear xA uc r1 r2 qm
 go_enter Tryz.func28,Tryz.ntmps28
 refine ei fun hR xu=>?_
 go_wp2_with fail
 refine U xu _ _ ?_
 clear xu
 generalize ((w.alloc (E #[H next,.slice a l.length A] 31)).alloc (E (yw kk s X li F ii pr O).toArray 27)) = X2 at xF HX ux ⊢
 have HX:Hid (X2.rangeAt w.heap.size 0 [H next,.slice a l.length A]∧X2.rangeAt (w.heap.size + 1) 0 (yw kk s X li F ii pr O)) :=U HX
 have k0:X2.cell? (yq w 0) = some (H next):=(U HX).1 0 _ rfl
 have k1:X2.cell? (yq w 1) = some (.slice a l.length A):=(U HX).1 1 _ rfl
 obtain ⟨o0,o1,o2,o3,o4,o5,o6,o7⟩:=yD (U HX).2
 go_wp2_with fail
 refine (bU ⟨kk,s,X,li,F,ii,pr,O⟩ X2).mono ?_
 rw [jl]
 clear jl
 rintro e w4 ⟨rfl,xC⟩
 have un:=Y (eh (U xF) xC)
 clear xC
 go_wp2_with fail
 go_ret
 exact ⟨zp (U vp).symm,U un⟩
theorem zc {W:World} {b n j:Nat} (h:W.there b 0 n) (R:j < n):∃ u,W.cell? (J b j) = some u∧W.frozen? (J b j) = false:=by
 obtain ⟨Q,N⟩:=h j R
 rw [Nat.zero_add] at Q N
 obtain ⟨u,hu⟩:=Option.isSome_iff_exists.1 Q
 exact ⟨u,hu,N⟩
theorem bE {x:List Bool} {n j:Nat} (hx:x.length = n) (R:j < n):x[j]? = some false ∨ x[j]? = some true:=by
 rw [yH (by omega)]
 cases x[j] <;> simp
def DE (mb B:Nat) (W0:World) (vo:Value) (ts:List Ev) (e:Ev) (p q:Prop) (V:World):Nat→Value→Prop
 | 0,v=>v = I mb 0
 | 1,v=>v = I mb 0
 | 2,v=>v = I mb 0
 | 3,v=>v = I mb 11
 | 4,v=>v = vo
 | 5,v=>v = .agg (yu e.kind e.cmd.k e.cmd.s e.cmd.t e.cmd.l e.cmd.q e.cmd.i e.cmd.p e.cmd.g e.id e.other e.qty e.price e.reason).toArray
 | 6,v=>∃ s,v = .slice (some (J s 0)) 1 1∧(¬ p→∀ j u,e.vs[j]? = some u→V.cell? (((J s 0):Addr).add j) = some u)
 | 7,v=>∃ a c,v = .slice a (ts.length + 1) c∧p∧(¬ q→ERow V B v (ts ++ [e])∧W0.grownBy V vo.ownBlock)∧(q→V.cell? (J mb 11) = some v∧ERow V B v (ts ++ [e])∧TookAt mb 10 vo.ownBlock W0 V)
 | 8,v=>v = I mb 0
 | 9,v=>v = I mb 11
 | _,_=>True
section
variable {mb B:Nat} {W0 V V':World} {vo:Value} {ts:List Ev} {e:Ev} {p q:Prop}
theorem de_alloc {o:Obj} (hp:¬ p):∀ j v,DE mb B W0 vo ts e p q V j v→DE mb B W0 vo ts e p q (V.alloc o) j v:=by
 intro j v h
 match j with
 | 0 | 1 | 2 | 3 | 4 | 5 | 8 | 9=>exact h
 | 6 =>
  obtain ⟨s,Q,N⟩:=h
  exact ⟨s,Q,fun hp j u hu=>(yV _ _ _ (yK V _ (N hp j u hu))).trans (N hp j u hu)⟩
 | 7=>obtain ⟨_,_,_,N,_⟩:=h; exact absurd N hp
 | j + 10=>trivial
theorem de_one:∀ j v,j ≠ 7→DE mb B W0 vo ts e False False V j v→DE mb B W0 vo ts e True False V' j v:=by
 intro j v R h
 match j with
 | 0 | 1 | 2 | 3 | 4 | 5 | 8 | 9=>exact h
 | 6 =>
  obtain ⟨s,Q,N⟩:=h
  exact ⟨s,Q,fun hp=>absurd trivial hp⟩
 | 7=>exact absurd rfl R
 | j + 10=>trivial
theorem de_two {v:Value}:∀ j,j ≠ 10→DE mb B W0 vo ts e True False V j v→(j = 7→DE mb B W0 vo ts e True True V' 7 v)→DE mb B W0 vo ts e True True V' j v:=by
 intro j R h h7
 match j with
 | 0 | 1 | 2 | 3 | 4 | 5 | 8 | 9=>exact h
 | 6 =>
  obtain ⟨s,Q,N⟩:=h
  exact ⟨s,Q,fun hp=>absurd trivial hp⟩
 | 7=>exact h7 rfl
 | j + 10=>trivial
end
theorem tell_any (mb B:Nat) (vo:Value) (ts:List Ev) (e:Ev) (w:World) (c11:w.cell? (J mb 11) = some vo) (f11:w.frozen? (J mb 11) = false) (qZ:∃ xr,w.heap[mb]? = some (.cells xr 49 (0,0)))
  (jW:ERow w B vo ts) (hB:B ≤ w.heap.size) (hn:ts.length ≤ 1000) :
  Calls Tryz.prog 30 #[I mb 0,.agg (yu e.kind e.cmd.k e.cmd.s e.cmd.t e.cmd.l e.cmd.q e.cmd.i e.cmd.p e.cmd.g e.id e.other e.qty e.price e.reason).toArray] w fun r w'=>∃ qp,r = ym (.tuple #[])∧w'.cell? (J mb 11) = some qp∧ERow w' B qp (ts ++ [e])∧TookAt mb 10 vo.ownBlock w w':=by
 obtain ⟨i0,uE,uA,uC,uM⟩:=info_parts infoEv
 have qF:some mb ≠ vo.ownBlock:=zj jW qZ (by decide)
 have qz:mb < w.heap.size:=yK w _ c11
 have xX:=ed w (E (yu e.kind e.cmd.k e.cmd.s e.cmd.t e.cmd.l e.cmd.q e.cmd.i e.cmd.p e.cmd.g e.id e.other e.qty e.price e.reason).toArray 41)
 have xW:=Y xX
 have xA:w.heap.size < (w.alloc (E (yu e.kind e.cmd.k e.cmd.s e.cmd.t e.cmd.l e.cmd.q e.cmd.i e.cmd.p e.cmd.g e.id e.other e.qty e.price e.reason).toArray 41)).heap.size:=by rw [ze]; omega
 have jp:Hid (World.rangeAt (w.alloc (E (yu e.kind e.cmd.k e.cmd.s e.cmd.t e.cmd.l e.cmd.q e.cmd.i e.cmd.p e.cmd.g e.id e.other e.qty e.price e.reason).toArray 41)) w.heap.size 0 e.vs):=zg w e.vs _
 have qe:Hid (World.cell? (w.alloc (E (yu e.kind e.cmd.k e.cmd.s e.cmd.t e.cmd.l e.cmd.q e.cmd.i e.cmd.p e.cmd.g e.id e.other e.qty e.price e.reason).toArray 41)) (J mb 11) = some vo):=(xX.cell (p:=(J mb 11)) qz).trans c11
 have qK:Hid (World.frozen? (w.alloc (E (yu e.kind e.cmd.k e.cmd.s e.cmd.t e.cmd.l e.cmd.q e.cmd.i e.cmd.p e.cmd.g e.id e.other e.qty e.price e.reason).toArray 41)) (J mb 11) = false):=(World.frozen?_of_block (a:=(J mb 11)) (xX.block mb qz)).trans f11
 have uB:Hid (∃ xr,(w.alloc (E (yu e.kind e.cmd.k e.cmd.s e.cmd.t e.cmd.l e.cmd.q e.cmd.i e.cmd.p e.cmd.g e.id e.other e.qty e.price e.reason).toArray 41)).heap[mb]? = some (.cells xr 49 (0,0))):=by obtain ⟨xr,hc⟩:=qZ; exact ⟨xr,(xX.block mb qz).trans hc⟩
 have jT:=Y (zG jW xX)
 clear c11 f11 qZ jW xX
 go_enter Tryz.func30,Tryz.ntmps30
 refine ei fun hR xu=>?_
 go_wp2_with fail
 refine U xu _ _ ?_
 clear xu
 generalize (w.alloc (E (yu e.kind e.cmd.k e.cmd.s e.cmd.t e.cmd.l e.cmd.q e.cmd.i e.cmd.p e.cmd.g e.id e.other e.qty e.price e.reason).toArray 41)) = ty at xW xA jp qe qK uB jT ⊢
 have hBX:B ≤ ty.heap.size:=by omega
 have jY:mb < ty.heap.size:=by omega
 refine zh (RT (fun V=>yn ty V) (fun f=>{ tmps:=#[I mb 0,.agg (yu e.kind e.cmd.k e.cmd.s e.cmd.t e.cmd.l e.cmd.q e.cmd.i e.cmd.p e.cmd.g e.id e.other e.qty e.price e.reason).toArray,M,yp w 0,f 0,f 1,f 2,f 3,f 4,f 5,f 6,f 7,f 8,f 9],defers:=[] }) 7 10 (DE mb B ty vo ts e)) (by kernel_rfl) ?_ ?_ ?_
 ·exact ⟨fun _=>M,rfl,fun _=>⟨rfl,rfl,rfl,Nat.le_refl _,fun _ _=>rfl⟩,fun j R=>by rw [yI] at R; split at R <;> simp at R⟩
 ·rintro x xm V ⟨f,rfl,-,hD⟩ hx xP
  have xp:=zT xP hx (acyc _ (by kernel_rfl))
  have k7:x[7]? = some true:=xp 7 (by simp)
  have k10:x[10]? = some true:=xp 10 (by simp)
  obtain ⟨va,vc,-,-,-,uU⟩:=hD 7 k7
  obtain ⟨q1,q2,q3⟩:=uU k10
  have vu:Hid (_∧_∧_):=⟨q1,q2,q3⟩
  clear hD xp xP hx k7 k10 uU q1 q2 q3
  dsimp only
  go_wp2_with fail
  go_end0
  exact ⟨_,rfl,(U vu).1,(U vu).2.1,bN (br (zX (U xW) tg) qz qF) (U vu).2.2⟩
 ·rintro x xm V i op ⟨f,rfl,ju,hD⟩ xo hx Z xy D
  have uj:=Y ju
  have HD:=Y hD
  have xn:∀ b o u,ty.cell? (J b o) = some u→¬ x[7]? = some true→V.cell? (J b o) = some u:=fun b o u hu hn7=>((U uj hn7).cell (p:=(J b o)) (yK ty _ hu)).trans hu
  have n7':i < 7→0 < i→¬ x[7]? = some true:=fun xK jy h7=>by
   have h4:=yf xo 7 rfl h7 4 rfl
   have h6:=yf xo 7 rfl h7 6 rfl
   have h3:=yf xo 4 rfl h4 3 rfl
   have h5:=yf xo 6 rfl h6 5 rfl
   have N:=yf xo 3 rfl h3 2 rfl
   have Q:=yf xo 2 rfl N 1 rfl
   have uk:∀ j,0 < j→j < 7→x[j]? = some true:=fun j jd R=>by
    rcases (by omega:j = 1 ∨ j = 2 ∨ j = 3 ∨ j = 4 ∨ j = 5 ∨ j = 6) with rfl | rfl | rfl | rfl | rfl | rfl <;> assumption
   rw [uk i jy xK] at xy; cases xy
  have n10':i < 10→¬ x[10]? = some true:=fun xK vS=>by
   have h9:=yf xo 10 rfl vS 9 rfl
   have h7:=yf xo 10 rfl vS 7 rfl
   have h8:=yf xo 9 rfl h9 8 rfl
   have h4:=yf xo 7 rfl h7 4 rfl
   have h6:=yf xo 7 rfl h7 6 rfl
   have h0:=yf xo 8 rfl h8 0 rfl
   have h3:=yf xo 4 rfl h4 3 rfl
   have h5:=yf xo 6 rfl h6 5 rfl
   have N:=yf xo 3 rfl h3 2 rfl
   have Q:=yf xo 2 rfl N 1 rfl
   have uk:∀ j,j < 10→x[j]? = some true:=fun j R=>by
    rcases (by omega:j = 0 ∨ j = 1 ∨ j = 2 ∨ j = 3 ∨ j = 4 ∨ j = 5 ∨ j = 6 ∨ j = 7 ∨ j = 8 ∨ j = 9) with rfl | rfl | rfl | rfl | rfl | rfl | rfl | rfl | rfl | rfl <;> assumption
   rw [uk i xK] at xy; cases xy
  clear xo ju
  match i,Z with
  | 0,Z | 1,Z =>
   obtain rfl:=ya Z
   clear D hD
   rw [if_pos (by rfl)];unfold Oper.wp;go_simp
   exact ⟨upd f _ (I mb 0),by simp [upd],zv (U HD) (by decide) (by decide) (fun _ _ h=>h) (U uj) rfl⟩
  | 2,Z =>
   obtain rfl:=ya Z
   have g:f 1 = I mb 0:=hD 1 (ye D 1 rfl)
   clear D hD
   rw [if_pos (by rfl)];unfold Oper.wp;go_simp
   exact ⟨upd f 2 (I mb 0),by simp [upd,g],zv (U HD) (by decide) (by decide) (fun _ _ h=>h) (U uj) rfl⟩
  | 3,Z =>
   obtain rfl:=ya Z
   have g:f 2 = I mb 0:=hD 2 (ye D 2 rfl)
   clear D hD
   rw [if_pos (by rfl)];unfold Oper.wp;go_simp
   exact ⟨upd f 3 (I mb 11),by simp [upd,g],zv (U HD) (by decide) (by decide) (fun _ _ h=>h) (U uj) rfl⟩
  | 4,Z =>
   obtain rfl:=ya Z
   have g:f 3 = I mb 11:=hD 3 (ye D 3 rfl)
   have n7:=n7' (by omega) (by omega)
   have y1:=xn mb 11 _ (U qe) n7
   clear D hD
   rw [if_pos (by rfl)];unfold Oper.wp;go_simp
   exact ⟨upd f 4 (vo),by simp [upd,g],zv (U HD) (by decide) (by decide) (fun _ _ h=>h) (U uj) rfl⟩
  | 5,Z =>
   obtain rfl:=ya Z
   have n7:=n7' (by omega) (by omega)
   have y0:=xn w.heap.size 0 _ (U jp 0 _ rfl) n7
   have y1:=xn w.heap.size 1 _ (U jp 1 _ rfl) n7
   have y2:=xn w.heap.size 2 _ (U jp 2 _ rfl) n7
   have y3:=xn w.heap.size 3 _ (U jp 3 _ rfl) n7
   have y4:=xn w.heap.size 4 _ (U jp 4 _ rfl) n7
   have y5:=xn w.heap.size 5 _ (U jp 5 _ rfl) n7
   have y6:=xn w.heap.size 6 _ (U jp 6 _ rfl) n7
   have y7:=xn w.heap.size 7 _ (U jp 7 _ rfl) n7
   have y8:=xn w.heap.size 8 _ (U jp 8 _ rfl) n7
   have y9:=xn w.heap.size 9 _ (U jp 9 _ rfl) n7
   have y10:=xn w.heap.size 10 _ (U jp 10 _ rfl) n7
   have y11:=xn w.heap.size 11 _ (U jp 11 _ rfl) n7
   have y12:=xn w.heap.size 12 _ (U jp 12 _ rfl) n7
   have y13:=xn w.heap.size 13 _ (U jp 13 _ rfl) n7
   clear D hD
   rw [if_pos (by rfl)];unfold Oper.wp;go_simp
   exact ⟨upd f 5 (.agg (yu e.kind e.cmd.k e.cmd.s e.cmd.t e.cmd.l e.cmd.q e.cmd.i e.cmd.p e.cmd.g e.id e.other e.qty e.price e.reason).toArray),by simp [upd],zv (U HD) (by decide) (by decide) (fun _ _ h=>h) (U uj) rfl⟩
  | 6,Z =>
   obtain rfl:=ya Z
   have g:f 5 = .agg (yu e.kind e.cmd.k e.cmd.s e.cmd.t e.cmd.l e.cmd.q e.cmd.i e.cmd.p e.cmd.g e.id e.other e.qty e.price e.reason).toArray:=hD 5 (ye D 5 rfl)
   have n7:=n7' (by omega) (by omega)
   have xV:=U uj n7
   have hsf:=sfl
   clear D hD
   rw [if_pos (by rfl)];unfold Oper.wp;go_simp
   refine ⟨upd f 6 (.slice (some (yq V 0)) 1 1),by simp [upd,g],zv (U HD) (by decide) (by decide) (de_alloc n7) (fun _=>xV.alloc xV.size _) ⟨V.heap.size,rfl,fun _=>?_⟩⟩
   exact fun j u h=>bT V e.vs 41 j u h
  | 7,Z =>
   obtain rfl:=ya Z
   have g4:f 4 = vo:=hD 4 (ye D 4 rfl)
   obtain ⟨s,g6,om⟩:=hD 6 (ye D 6 rfl)
   have n7:¬ x[7]? = some true:=by rw [xy]; simp
   have pP:=n10' (by omega)
   have xV:=U uj n7
   have uV:ERow V B vo ts:=zG (U jT) xV
   rw [if_pos (by rfl)]
   refine wp_append_own V (.tmp 8) (.tmp 10) 39 rfl B 41 i0 _ 14 120 Tryz.underlying39 uE uA uC uM rfl (by decide) vo ts.length (ts.flatMap Ev.vs) g4 uV (J s 0) 1 1 e.vs g6 rfl (om n7) (one_ev e) (by unfold maxLen; omega) (by omega) (by have:=xV.size; omega) ?_
   intro v' w' xL ub _
   obtain ⟨ga,gc,rfl⟩:=dt xL (by omega)
   refine ⟨upd f 7 (.slice (some (J ga 0)) (ts.length + 1) gc),rfl,rt_one (by decide) (U HD) xy pP (fun j v R h=>de_one j v R h) ⟨some (J ga 0),gc,rfl,trivial,fun _=>⟨?_,?_⟩,fun h=>h.elim⟩⟩
   ·show World.ownsRow _ _ _ _ _ (ts ++ [e]).length _
    rw [yP,List.flatMap_append]; simpa using xL
   ·exact (zX xV tg).trans ub
  | 8,Z =>
   obtain rfl:=ya Z
   have g:f 0 = I mb 0:=hD 0 (ye D 0 rfl)
   clear D hD
   rw [if_pos (by rfl)];unfold Oper.wp;go_simp
   exact ⟨upd f 8 (I mb 0),by simp [upd,g],zv (U HD) (by decide) (by decide) (fun _ _ h=>h) (U uj) rfl⟩
  | 9,Z =>
   obtain rfl:=ya Z
   have g:f 8 = I mb 0:=hD 8 (ye D 8 rfl)
   clear D hD
   rw [if_pos (by rfl)];unfold Oper.wp;go_simp
   exact ⟨upd f 9 (I mb 11),by simp [upd,g],zv (U HD) (by decide) (by decide) (fun _ _ h=>h) (U uj) rfl⟩
  | 10,Z =>
   obtain rfl:=ya Z
   have g9:f 9 = I mb 11:=hD 9 (ye D 9 rfl)
   have k7:x[7]? = some true:=D ⟨7,.data⟩ (by simp) rfl
   have pP:¬ x[10]? = some true:=by rw [xy]; simp
   obtain ⟨ga,gc,g7,-,hfa,-⟩:=hD 7 k7
   obtain ⟨jW,ub⟩:=hfa pP
   have y1:=ub.cell (U qe) qF
   have f1:V.frozen? (J mb 11) = false:=(World.frozen?_of_block (a:=(J mb 11)) (ub.block mb jY qF)).trans (U qK)
   have jM:=Y (g7 ▸ jW)
   have pj:Hid (∃ xr,V.heap[mb]? = some (.cells xr 49 (0,0))):=by obtain ⟨xr,hc⟩:=U uB; exact ⟨xr,(ub.block mb jY qF).trans hc⟩
   have oz:=Y ub
   clear D hD jW ub hfa
   rw [if_pos (by rfl)];unfold Oper.wp;go_simp
   refine ⟨upd f 10 M,by simp [upd,g9,g7],rt_two (by decide) (U HD) k7 xy (fun j R hxj h=>de_two j R h (fun hj7=>?_)) trivial⟩
   subst hj7
   obtain ⟨-,-,-,-,-,-⟩:=h
   refine ⟨ga,gc,g7,trivial,fun h=>absurd trivial h,fun _=>?_⟩
   rw [g7]
   refine ⟨yM _ _ _ y1,zr (U jM) (zj (U jM) (U pj) (by decide)) 11 _,?_⟩
   exact bN (br (U oz) jY qF) (cP (o:=10) _ _)
  | i + 11,Z=>simp at Z
structure Tot where
 gr:Int
 ac:Int
 rf:Int
 tr:Int
 vo:Int
 no:Int
 li:Int
 le:Int
def Tot.vs (t:Tot):List Value:=[H t.gr,H t.ac,H t.rf,H t.tr,H t.vo,H t.no,H t.li,H t.le]
def cntE (t:Tot) (e:Ev):Tot :=
 if e.kind = 1 then { t with ac:=wrap64 (t.ac + 1) } else if e.kind = 2 then { t with rf:=wrap64 (t.rf + 1) }
 else if e.kind = 3 then { t with tr:=wrap64 (t.tr + 1),vo:=wrap64 (t.vo + e.qty),no:=wrap64 (t.no + wrap64 (e.qty * e.price)) } else t
def wgT (t:Tot) (ts:List Ev):Tot:=ts.foldl cntE { t with gr:=wrap64 (t.gr + 1) }
theorem wg_step (t:Tot) (ts:List Ev) {k:Nat} {e:Ev} (h:ts[k]? = some e):wgT t (ts.take (k + 1)) = cntE (wgT t (ts.take k)) e:=by
 unfold wgT
 rw [List.take_add_one,h,List.foldl_append]; rfl
theorem bW {W:World} {b j:Nat} {cs:List Value} {u:Value} (h:W.rangeAt b 0 cs) (R:j < cs.length):(W.setCell (J b j) u).rangeAt b 0 (cs.set j u):=by
 intro i v hi
 rw [Nat.zero_add]
 by_cases pD:j = i
 ·subst pD
  rw [List.getElem?_set_self R] at hi
  cases hi
  have:=h j _ (yH R)
  rw [Nat.zero_add] at this
  exact yM _ _ _ this
 ·rw [yW pD] at hi
  have:=h i v hi
  rw [Nat.zero_add] at this
  exact (yL _ _ _ _ (zO pD)).trans this
theorem keep8 {w W:World} {S:Nat} {cs:List Value} (h:W.rangeAt S 0 cs∧W.there S 0 8∧W.there (S + 1) 0 8∧Below S w W∧S + 1 + 1 ≤ W.heap.size) (j:Nat) (R:j < cs.length) (u:Value):(W.setCell (J S j) u).rangeAt S 0 (cs.set j u)∧(W.setCell (J S j) u).there S 0 8∧(W.setCell (J S j) u).there (S + 1) 0 8∧Below S w (W.setCell (J S j) u)∧S + 1 + 1 ≤ (W.setCell (J S j) u).heap.size :=
 ⟨bW h.1 R,zB h.2.1,zB h.2.2.1,h.2.2.2.1.setCell (p:=(J S j)) tg _,by simp only [World.setCell,Array.size_modify]; exact h.2.2.2.2⟩
theorem cz {W:World} {b o:Nat} {e:Ev} (h:W.rangeAt b o e.vs):W.cell? (J b o) = some (H e.kind)∧W.cell? (J b (o + 1)) = some (H e.cmd.k)∧W.cell? (J b (o + 2)) = some (H e.cmd.s)∧W.cell? (J b (o + 3)) = some (H e.cmd.t)∧W.cell? (J b (o + 4)) = some (H e.cmd.l)∧W.cell? (J b (o + 5)) = some (H e.cmd.q)∧W.cell? (J b (o + 6)) = some (H e.cmd.i)∧W.cell? (J b (o + 7)) = some (yj e.cmd.p)∧W.cell? (J b (o + 8)) = some (yk e.cmd.g)∧W.cell? (J b (o + 9)) = some (H e.id)∧W.cell? (J b (o + 10)) = some (H e.other)∧W.cell? (J b (o + 11)) = some (H e.qty)∧W.cell? (J b (o + 12)) = some (H e.price)∧W.cell? (J b (o + 13)) = some (H e.reason):=⟨h 0 _ rfl,h 1 _ rfl,h 2 _ rfl,h 3 _ rfl,h 4 _ rfl,h 5 _ rfl,h 6 _ rfl,h 7 _ rfl,h 8 _ rfl,h 9 _ rfl,h 10 _ rfl,h 11 _ rfl,h 12 _ rfl,h 13 _ rfl⟩
theorem withGroup_any (t:Tot) (v:Value) (ts:List Ev) (w:World) (hr:RdR Ev.vs 14 w v ts) :
  Calls Tryz.prog 48 #[.agg #[H t.gr,H t.ac,H t.rf,H t.tr,H t.vo,H t.no,H t.li,H t.le],v] w fun r w'=>r = ym (.agg #[H (wgT t ts).gr,H (wgT t ts).ac,H (wgT t ts).rf,H (wgT t ts).tr,H (wgT t ts).vo,H (wgT t ts).no,H (wgT t ts).li,H (wgT t ts).le])∧yn w w':=by
 obtain ⟨a,A,rfl,xD,hc⟩:=hr
 have xq:∀ (k:Nat) (c:Ev),ts[k]? = some c→∃ b off,a = some (J b off)∧b < w.heap.size∧w.rangeAt b (off + k * 14) c.vs:=by
  intro k c hk
  obtain ⟨b,off,Q,N,h3⟩:=hc (by intro h; rw [h] at hk; simp at hk)
  exact ⟨b,off,Q,N,h3 k c hk⟩
 have HC:=Y xq
 clear xq hc
 have hsf:=sfl
 have xA:=ze w (E #[H t.gr,H t.ac,H t.rf,H t.tr,H t.vo,H t.no,H t.li,H t.le] 33)
 have uc:((w.alloc (E #[H t.gr,H t.ac,H t.rf,H t.tr,H t.vo,H t.no,H t.li,H t.le] 33)).alloc (E #[H 0,H 0,H 0,H 0,H 0,H 0,H 0,H 0] 33)).heap.size = w.heap.size + 1 + 1:=by rw [ze,xA]
 have r1:=zg w [H t.gr,H t.ac,H t.rf,H t.tr,H t.vo,H t.no,H t.li,H t.le] 33
 have t1:=zu w [H t.gr,H t.ac,H t.rf,H t.tr,H t.vo,H t.no,H t.li,H t.le] 33
 have t2:=zu (w.alloc (E #[H t.gr,H t.ac,H t.rf,H t.tr,H t.vo,H t.no,H t.li,H t.le] 33)) [H 0,H 0,H 0,H 0,H 0,H 0,H 0,H 0] 33
 rw [xA] at t2
 have b1:=ed w (E #[H t.gr,H t.ac,H t.rf,H t.tr,H t.vo,H t.no,H t.li,H t.le] 33)
 have b2:Below (w.heap.size + 1) (w.alloc (E #[H t.gr,H t.ac,H t.rf,H t.tr,H t.vo,H t.no,H t.li,H t.le] 33)) ((w.alloc (E #[H t.gr,H t.ac,H t.rf,H t.tr,H t.vo,H t.no,H t.li,H t.le] 33)).alloc (E #[H 0,H 0,H 0,H 0,H 0,H 0,H 0,H 0] 33)):=(Below.refl _ _).alloc (by omega) _
 have HX:Hid (_∧_∧_):=⟨zb r1 b2 (by omega),zf t1 b2 (by omega),t2⟩
 have HB:=Y (b1.trans (b2.mono (by omega)))
 have HS:=Y uc
 clear xA uc r1 t1 t2 b1 b2
 go_enter Tryz.func48,Tryz.ntmps48
 refine ei fun hR xu=>?_
 go_wp2_with fail
 refine U xu _ _ ?_
 clear xu
 generalize ((w.alloc (E #[H t.gr,H t.ac,H t.rf,H t.tr,H t.vo,H t.no,H t.li,H t.le] 33)).alloc (E #[H 0,H 0,H 0,H 0,H 0,H 0,H 0,H 0] 33)) = ty at HX HB HS ⊢
 have HX:Hid (ty.rangeAt w.heap.size 0 [H t.gr,H t.ac,H t.rf,H t.tr,H t.vo,H t.no,H t.li,H t.le]∧ty.there w.heap.size 0 8∧ty.there (w.heap.size + 1) 0 8):=U HX
 have c0:ty.cell? (yq w 0) = some (H t.gr):=(U HX).1 0 _ rfl
 obtain ⟨y0,z0,q0⟩:=zc (U HX).2.1 (j:=0) (by omega)
 clear z0 y0
 refine ei fun hR xu=>?_
 go_wp2_with fail
 refine U xu _ _ ?_
 clear xu
 have uI:Hid (World.rangeAt (ty.setCell (yq w 0) (H (wrap64 (t.gr + 1)))) w.heap.size 0 (wgT t (ts.take 0)).vs∧World.there (ty.setCell (yq w 0) (H (wrap64 (t.gr + 1)))) w.heap.size 0 8∧World.there (ty.setCell (yq w 0) (H (wrap64 (t.gr + 1)))) (w.heap.size + 1) 0 8∧yn w (ty.setCell (yq w 0) (H (wrap64 (t.gr + 1))))∧(ty.setCell (yq w 0) (H (wrap64 (t.gr + 1)))).heap.size = w.heap.size + 1 + 1):=by
  refine ⟨?_,zB (U HX).2.1,zB (U HX).2.2,(U HB).setCell (p:=(yq w 0)) tg _,by simp [World.setCell]; exact U HS⟩
  intro j u R
  rw [Nat.zero_add]
  match j,R with
  | 0,R=>cases R; exact yM _ _ _ c0
  | 1,R=>cases R; exact (yL _ _ _ _ (zO (by omega))).trans ((U HX).1 1 _ rfl)
  | 2,R=>cases R; exact (yL _ _ _ _ (zO (by omega))).trans ((U HX).1 2 _ rfl)
  | 3,R=>cases R; exact (yL _ _ _ _ (zO (by omega))).trans ((U HX).1 3 _ rfl)
  | 4,R=>cases R; exact (yL _ _ _ _ (zO (by omega))).trans ((U HX).1 4 _ rfl)
  | 5,R=>cases R; exact (yL _ _ _ _ (zO (by omega))).trans ((U HX).1 5 _ rfl)
  | 6,R=>cases R; exact (yL _ _ _ _ (zO (by omega))).trans ((U HX).1 6 _ rfl)
  | 7,R=>cases R; exact (yL _ _ _ _ (zO (by omega))).trans ((U HX).1 7 _ rfl)
  | j + 8,R=>simp [Tot.vs] at R
 have HSU:Hid (_∧_∧_∧_∧_):=⟨(U uI).1,(U uI).2.1,(U uI).2.2.1,(U uI).2.2.2.1,Nat.le_of_eq (U uI).2.2.2.2.symm⟩
 generalize (ty.setCell (yq w 0) (H (wrap64 (t.gr + 1)))) = X1 at uI HSU ⊢
 clear c0 q0 HX HB HS uI
 go_wp2_with fail
 go_loopw [13] (fun iv wr=>∃ (k:Nat),k ≤ ts.length∧iv = H k∧Hid (wr.rangeAt w.heap.size 0 (wgT t (ts.take k)).vs∧wr.there w.heap.size 0 8∧wr.there (w.heap.size + 1) 0 8∧yn w wr∧w.heap.size + 1 + 1 ≤ wr.heap.size)) (fun iv _=>ts.length - (intOf iv).toNat)
 case atStart=>exact ⟨0,Nat.zero_le _,rfl,U HSU⟩
 case round =>
  obtain ⟨k,hk,rfl,uu⟩:=hrel
  by_cases xK:k < ts.length
  ·obtain ⟨e,je⟩:∃ e,ts[k]? = some e:=⟨_,yH xK⟩
   obtain ⟨b,off,rfl,L,xo⟩:=U HC k e je
   have qf:=Y (wg_step t ts je)
   have uv:(k:Int) < ts.length:=by omega
   have hse:=(U uu).2.2.2.2
   obtain ⟨g0,g1,g2,g3,g4,g5,g6,g7,g8,g9,qC,vF,ua,ku⟩:=cz (zb xo (U uu).2.2.2.1 L)
   have vr:=ed wr (E (yu e.kind e.cmd.k e.cmd.s e.cmd.t e.cmd.l e.cmd.q e.cmd.i e.cmd.p e.cmd.g e.id e.other e.qty e.price e.reason).toArray 41)
   have HY:Hid (World.rangeAt (wr.alloc (E (yu e.kind e.cmd.k e.cmd.s e.cmd.t e.cmd.l e.cmd.q e.cmd.i e.cmd.p e.cmd.g e.id e.other e.qty e.price e.reason).toArray 41)) w.heap.size 0 (wgT t (ts.take k)).vs∧World.there (wr.alloc (E (yu e.kind e.cmd.k e.cmd.s e.cmd.t e.cmd.l e.cmd.q e.cmd.i e.cmd.p e.cmd.g e.id e.other e.qty e.price e.reason).toArray 41)) w.heap.size 0 8∧World.there (wr.alloc (E (yu e.kind e.cmd.k e.cmd.s e.cmd.t e.cmd.l e.cmd.q e.cmd.i e.cmd.p e.cmd.g e.id e.other e.qty e.price e.reason).toArray 41)) (w.heap.size + 1) 0 8∧yn w (wr.alloc (E (yu e.kind e.cmd.k e.cmd.s e.cmd.t e.cmd.l e.cmd.q e.cmd.i e.cmd.p e.cmd.g e.id e.other e.qty e.price e.reason).toArray 41))∧w.heap.size + 1 + 1 ≤ (wr.alloc (E (yu e.kind e.cmd.k e.cmd.s e.cmd.t e.cmd.l e.cmd.q e.cmd.i e.cmd.p e.cmd.g e.id e.other e.qty e.price e.reason).toArray 41)).heap.size):=⟨zb (U uu).1 vr (by omega),zf (U uu).2.1 vr (by omega),zf (U uu).2.2.1 vr (by omega),(U uu).2.2.2.1.trans (vr.mono (by omega)),yN hse vr.size⟩
   generalize wgT t (ts.take k) = T at qf HY
   obtain ⟨ue,ud,ug,uh,ui,uf,ut,ur⟩:=T
   have xB:w.heap.size ≠ wr.heap.size:=by omega
   have hne':wr.heap.size ≠ w.heap.size:=by omega
   have d0:(wr.alloc (E (yu e.kind e.cmd.k e.cmd.s e.cmd.t e.cmd.l e.cmd.q e.cmd.i e.cmd.p e.cmd.g e.id e.other e.qty e.price e.reason).toArray 41)).cell? (yq w 0) = some (H ue):=(U HY).1 0 _ rfl
   have p0:(wr.alloc (E (yu e.kind e.cmd.k e.cmd.s e.cmd.t e.cmd.l e.cmd.q e.cmd.i e.cmd.p e.cmd.g e.id e.other e.qty e.price e.reason).toArray 41)).frozen? (yq w 0) = false:=by have:=((U HY).2.1 0 (by omega)).2; rwa [Nat.zero_add] at this
   have d1:(wr.alloc (E (yu e.kind e.cmd.k e.cmd.s e.cmd.t e.cmd.l e.cmd.q e.cmd.i e.cmd.p e.cmd.g e.id e.other e.qty e.price e.reason).toArray 41)).cell? (yq w 1) = some (H ud):=(U HY).1 1 _ rfl
   have p1:(wr.alloc (E (yu e.kind e.cmd.k e.cmd.s e.cmd.t e.cmd.l e.cmd.q e.cmd.i e.cmd.p e.cmd.g e.id e.other e.qty e.price e.reason).toArray 41)).frozen? (yq w 1) = false:=by have:=((U HY).2.1 1 (by omega)).2; rwa [Nat.zero_add] at this
   have d2:(wr.alloc (E (yu e.kind e.cmd.k e.cmd.s e.cmd.t e.cmd.l e.cmd.q e.cmd.i e.cmd.p e.cmd.g e.id e.other e.qty e.price e.reason).toArray 41)).cell? (yq w 2) = some (H ug):=(U HY).1 2 _ rfl
   have p2:(wr.alloc (E (yu e.kind e.cmd.k e.cmd.s e.cmd.t e.cmd.l e.cmd.q e.cmd.i e.cmd.p e.cmd.g e.id e.other e.qty e.price e.reason).toArray 41)).frozen? (yq w 2) = false:=by have:=((U HY).2.1 2 (by omega)).2; rwa [Nat.zero_add] at this
   have d3:(wr.alloc (E (yu e.kind e.cmd.k e.cmd.s e.cmd.t e.cmd.l e.cmd.q e.cmd.i e.cmd.p e.cmd.g e.id e.other e.qty e.price e.reason).toArray 41)).cell? (yq w 3) = some (H uh):=(U HY).1 3 _ rfl
   have p3:(wr.alloc (E (yu e.kind e.cmd.k e.cmd.s e.cmd.t e.cmd.l e.cmd.q e.cmd.i e.cmd.p e.cmd.g e.id e.other e.qty e.price e.reason).toArray 41)).frozen? (yq w 3) = false:=by have:=((U HY).2.1 3 (by omega)).2; rwa [Nat.zero_add] at this
   have d4:(wr.alloc (E (yu e.kind e.cmd.k e.cmd.s e.cmd.t e.cmd.l e.cmd.q e.cmd.i e.cmd.p e.cmd.g e.id e.other e.qty e.price e.reason).toArray 41)).cell? (yq w 4) = some (H ui):=(U HY).1 4 _ rfl
   have p4:(wr.alloc (E (yu e.kind e.cmd.k e.cmd.s e.cmd.t e.cmd.l e.cmd.q e.cmd.i e.cmd.p e.cmd.g e.id e.other e.qty e.price e.reason).toArray 41)).frozen? (yq w 4) = false:=by have:=((U HY).2.1 4 (by omega)).2; rwa [Nat.zero_add] at this
   have d5:(wr.alloc (E (yu e.kind e.cmd.k e.cmd.s e.cmd.t e.cmd.l e.cmd.q e.cmd.i e.cmd.p e.cmd.g e.id e.other e.qty e.price e.reason).toArray 41)).cell? (yq w 5) = some (H uf):=(U HY).1 5 _ rfl
   have p5:(wr.alloc (E (yu e.kind e.cmd.k e.cmd.s e.cmd.t e.cmd.l e.cmd.q e.cmd.i e.cmd.p e.cmd.g e.id e.other e.qty e.price e.reason).toArray 41)).frozen? (yq w 5) = false:=by have:=((U HY).2.1 5 (by omega)).2; rwa [Nat.zero_add] at this
   have d6:(wr.alloc (E (yu e.kind e.cmd.k e.cmd.s e.cmd.t e.cmd.l e.cmd.q e.cmd.i e.cmd.p e.cmd.g e.id e.other e.qty e.price e.reason).toArray 41)).cell? (yq w 6) = some (H ut):=(U HY).1 6 _ rfl
   have p6:(wr.alloc (E (yu e.kind e.cmd.k e.cmd.s e.cmd.t e.cmd.l e.cmd.q e.cmd.i e.cmd.p e.cmd.g e.id e.other e.qty e.price e.reason).toArray 41)).frozen? (yq w 6) = false:=by have:=((U HY).2.1 6 (by omega)).2; rwa [Nat.zero_add] at this
   have d7:(wr.alloc (E (yu e.kind e.cmd.k e.cmd.s e.cmd.t e.cmd.l e.cmd.q e.cmd.i e.cmd.p e.cmd.g e.id e.other e.qty e.price e.reason).toArray 41)).cell? (yq w 7) = some (H ur):=(U HY).1 7 _ rfl
   have p7:(wr.alloc (E (yu e.kind e.cmd.k e.cmd.s e.cmd.t e.cmd.l e.cmd.q e.cmd.i e.cmd.p e.cmd.g e.id e.other e.qty e.price e.reason).toArray 41)).frozen? (yq w 7) = false:=by have:=((U HY).2.1 7 (by omega)).2; rwa [Nat.zero_add] at this
   clear je xo L vr
   by_cases Q:e.kind = 1
   ·have b1:(e.kind == 1) = true:=by simpa using Q
    have HN:Hid (wgT t (ts.take (k + 1)) = ⟨ue,wrap64 (ud + 1),ug,uh,ui,uf,ut,ur⟩):=(U qf).trans (if_pos Q)
    clear Q
    go_wp2_with fail
    go_roundw
    case rel=>exact ⟨k + 1,by omega,by go_num,by rw [U HN]; exact keep8 (U HY) 1 (by simp [Tot.vs]) _⟩
    case measure=>simp [intOf]; omega
   have b1:(e.kind == 1) = false:=by rw [xd]; exact Q
   by_cases N:e.kind = 2
   ·have b2:(e.kind == 2) = true:=by simpa using N
    have HN:Hid (wgT t (ts.take (k + 1)) = ⟨ue,ud,wrap64 (ug + 1),uh,ui,uf,ut,ur⟩):=(U qf).trans ((if_neg Q).trans (if_pos N))
    clear Q N
    go_wp2_with fail
    go_roundw
    case rel=>exact ⟨k + 1,by omega,by go_num,by rw [U HN]; exact keep8 (U HY) 2 (by simp [Tot.vs]) _⟩
    case measure=>simp [intOf]; omega
   have b2:(e.kind == 2) = false:=by rw [xd]; exact N
   by_cases h3:e.kind = 3
   ·have b3:(e.kind == 3) = true:=by simpa using h3
    have HN:Hid (wgT t (ts.take (k + 1)) = ⟨ue,ud,ug,wrap64 (uh + 1),wrap64 (ui + e.qty),wrap64 (uf + wrap64 (e.qty * e.price)),ut,ur⟩):=(U qf).trans ((if_neg Q).trans ((if_neg N).trans (if_pos h3)))
    clear Q N h3
    go_wp2_with fail
    go_roundw
    case rel=>exact ⟨k + 1,by omega,by go_num,by rw [U HN]; exact keep8 (keep8 (keep8 (U HY) 3 (by simp [Tot.vs]) _) 4 (by simp [Tot.vs]) _) 5 (by simp [Tot.vs]) _⟩
    case measure=>simp [intOf]; omega
   ·have b3:(e.kind == 3) = false:=by rw [xd]; exact h3
    have HN:Hid (wgT t (ts.take (k + 1)) = ⟨ue,ud,ug,uh,ui,uf,ut,ur⟩):=(U qf).trans ((if_neg Q).trans ((if_neg N).trans (if_neg h3)))
    clear Q N h3
    go_wp2_with fail
    go_roundw
    case rel=>exact ⟨k + 1,by omega,by go_num,by rw [U HN]; exact U HY⟩
    case measure=>simp [intOf]; omega
  ·have uv:¬ (k:Int) < ts.length:=by omega
   rw [yZ (by omega)] at uu
   generalize hT:wgT t ts = T at uu
   have oj:=Y hT
   have HY:=Y (U uu)
   clear hT
   obtain ⟨ue,ud,ug,uh,ui,uf,ut,ur⟩:=T
   have c0:wr.cell? (yq w 0) = some (H ue):=(U HY).1 0 _ rfl
   obtain ⟨y0,z0,q0⟩:=zc (U HY).2.2.1 (j:=0) (by omega)
   have c1:wr.cell? (yq w 1) = some (H ud):=(U HY).1 1 _ rfl
   obtain ⟨y1,z1,q1⟩:=zc (U HY).2.2.1 (j:=1) (by omega)
   have c2:wr.cell? (yq w 2) = some (H ug):=(U HY).1 2 _ rfl
   obtain ⟨y2,z2,q2⟩:=zc (U HY).2.2.1 (j:=2) (by omega)
   have c3:wr.cell? (yq w 3) = some (H uh):=(U HY).1 3 _ rfl
   obtain ⟨y3,z3,q3⟩:=zc (U HY).2.2.1 (j:=3) (by omega)
   have c4:wr.cell? (yq w 4) = some (H ui):=(U HY).1 4 _ rfl
   obtain ⟨y4,z4,q4⟩:=zc (U HY).2.2.1 (j:=4) (by omega)
   have c5:wr.cell? (yq w 5) = some (H uf):=(U HY).1 5 _ rfl
   obtain ⟨y5,z5,q5⟩:=zc (U HY).2.2.1 (j:=5) (by omega)
   have c6:wr.cell? (yq w 6) = some (H ut):=(U HY).1 6 _ rfl
   obtain ⟨y6,z6,q6⟩:=zc (U HY).2.2.1 (j:=6) (by omega)
   have c7:wr.cell? (yq w 7) = some (H ur):=(U HY).1 7 _ rfl
   obtain ⟨y7,z7,q7⟩:=zc (U HY).2.2.1 (j:=7) (by omega)
   have xQ:=Y (yX wr (w.heap.size + 1) 0 [H ue,H ud,H ug,H uh,H ui,H uf,H ut,H ur] (fun j R=>(U HY).2.2.1 j R))
   have vQ:=Y (zm (w.heap.size + 1) (by omega) [H ue,H ud,H ug,H uh,H ui,H uf,H ut,H ur] 0 wr (U HY).2.2.2.1)
   clear uu
   go_wp2_with fail
   change bodyPost _ _ _ _ _ (wr.setCells (w.heap.size + 1) 0 [H ue,H ud,H ug,H uh,H ui,H uf,H ut,H ur])
   generalize wr.setCells (w.heap.size + 1) 0 [H ue,H ud,H ug,H uh,H ui,H uf,H ut,H ur] = WE at xQ vQ ⊢
   obtain ⟨d0,d1,d2,d3,d4,d5,d6,d7⟩:=yD (U xQ)
   try simp only [Exit.inBlock,Exit.then]
   refine bodyPost_ret (by simp [results,Tryz.results48,go_sem,d0,d1,d2,d3,d4,d5,d6,d7]; try rfl) rfl ?_
   exact ⟨by rw [U oj],U vQ⟩
end Go.Proofs.YtdliebbfcmdmaaaGreat
