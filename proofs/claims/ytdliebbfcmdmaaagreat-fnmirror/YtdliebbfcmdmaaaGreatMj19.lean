/-
  The reason why a command is refused, by the program: proved by walking the function, kind by kind.
-/
import Derived.Test.YtdliebbfcmdmaaaGreatMj18
set_option linter.unusedVariables false
set_option maxHeartbeats 6400000
set_option maxRecDepth 100000
namespace Go.Proofs.YtdliebbfcmdmaaaGreat
open Go.RowKit
def DK (iv tv cv:Value) (sm:Bool) (p:Prop) (V:World):Nat→Value→Prop
 | 0,v=>v = iv
 | 1,v=>v = tv
 | 2,v=>v = cv
 | 3,v=>v = .bool sm
 | 4,v=>v = .bool (!sm)
 | _,_=>True
theorem refusal_1 (next:Int) (vb:Value) (l:List Od) (s X li F ii:Int) (pr:Nat) (O:ByteArray) (w:World) (hr:RdR Od.vs 6 w vb l) (hs:SlOk vb) (hg:GoodL l) (h0:0 ≤ next) (Q:next ≤ 1000000) (ht:O.size ≤ maxLen) :
  Calls Tryz.prog 28 #[.agg #[H next,vb],.agg (yw 1 s X li F ii pr O).toArray] w fun e w'=>e = ym (H (if aB ⟨1,s,X,li,F,0,pr,O⟩ ⟨1,s,X,li,F,ii,pr,O⟩ = true then newR next l ⟨1,s,X,li,F,ii,pr,O⟩ else 2))∧yn w w':=by
 have HR:=Y hr
 have HG:=Y hg
 have vR:=Y hs
 have uG:Hid (0 ≤ next∧next ≤ 1000000):=⟨h0,Q⟩
 have qI:=Y ht
 obtain ⟨a,A,rfl,xD,hc⟩:=hr
 clear hc hg hs h0 Q ht xD
 generalize hsm:aB ⟨1,s,X,li,F,0,pr,O⟩ ⟨1,s,X,li,F,ii,pr,O⟩ = sm
 have HSM:=Y hsm
 clear hsm
 have xA:=ze w (E #[H next,.slice a l.length A] 31)
 have uc:((w.alloc (E #[H next,.slice a l.length A] 31)).alloc (E (yw 1 s X li F ii pr O).toArray 27)).heap.size = w.heap.size + 1 + 1:=by rw [ze,xA]
 have r1:=zg w [H next,.slice a l.length A] 31
 have r2:=zg (w.alloc (E #[H next,.slice a l.length A] 31)) (yw 1 s X li F ii pr O) 27
 rw [xA] at r2
 have qm:Below (w.heap.size + 1) (w.alloc (E #[H next,.slice a l.length A] 31)) ((w.alloc (E #[H next,.slice a l.length A] 31)).alloc (E (yw 1 s X li F ii pr O).toArray 27)):=(Below.refl _ _).alloc (by rw [xA]; omega) _
 have xF:Hid (yn w ((w.alloc (E #[H next,.slice a l.length A] 31)).alloc (E (yw 1 s X li F ii pr O).toArray 27))):=(ed _ _).alloc (by rw [xA]; omega) _
 have HX:Hid (_∧_):=⟨zb r1 qm (by omega),r2⟩
 have ux:Hid (w.heap.size < ((w.alloc (E #[H next,.slice a l.length A] 31)).alloc (E (yw 1 s X li F ii pr O).toArray 27)).heap.size∧w.heap.size + 1 < ((w.alloc (E #[H next,.slice a l.length A] 31)).alloc (E (yw 1 s X li F ii pr O).toArray 27)).heap.size):=⟨by omega,by omega⟩
 clear xA uc r1 r2 qm
 go_enter Tryz.func28,Tryz.ntmps28
 refine ei fun hR xu=>?_
 go_wp2_with fail
 refine U xu _ _ ?_
 clear xu
 generalize ((w.alloc (E #[H next,.slice a l.length A] 31)).alloc (E (yw 1 s X li F ii pr O).toArray 27)) = X2 at xF HX ux ⊢
 have HX:Hid (X2.rangeAt w.heap.size 0 [H next,.slice a l.length A]∧X2.rangeAt (w.heap.size + 1) 0 (yw 1 s X li F ii pr O)):=U HX
 obtain ⟨o0,o1,o2,o3,o4,o5,o6,o7⟩:=yD (U HX).2
 go_wp2_with fail
 refine (bU ⟨1,s,X,li,F,ii,pr,O⟩ X2).mono ?_
 have jl:cmdI ⟨1,s,X,li,F,ii,pr,O⟩ = .iface 74 (.agg #[H s,H X,H li,H F,yj pr,yk O]):=by simp [cmdI,noV]
 rw [jl]
 clear jl
 rintro e w4 ⟨rfl,xC⟩
 have un:=Y (eh (U xF) xC)
 have xS:Hid (w4.rangeAt w.heap.size 0 [H next,.slice a l.length A]∧w4.rangeAt (w.heap.size + 1) 0 (yw 1 s X li F ii pr O)∧w.heap.size < w4.heap.size∧w.heap.size + 1 < w4.heap.size):=⟨zb (U HX).1 xC (U ux).1,zb (U HX).2 xC (U ux).2,yJ (U ux).1 xC.size,yJ (U ux).2 xC.size⟩
 clear xC o0 o1 o2 o3 o4 o5 o6 o7
 go_wp2_with fail
 refine zh (RG w4 (fun f=>{ tmps:=#[.agg #[H next,.slice a l.length A],.agg (yw 1 s X li F ii pr O).toArray,yp w 0,I (w.heap.size + 1) 0,H 0,.iface 74 (.agg #[H s,H X,H li,H F,yj pr,yk O]),M,M,M,.agg (yw 1 s X li F ii pr O).toArray,.iface 74 (.agg #[H s,H X,H li,H F,yj pr,yk O]),.iface 74 (.agg #[H s,H X,H li,H F,yj pr,yk O]),.bool false,f 0,f 1,f 2,f 3,f 4,M,M,M,M,M,M,M,M,M,M,M,M,M,M,M,M,M,M,M,M],defers:=[] }) 99 (DK (.iface 74 (.agg #[H s,H X,H li,H F,yj pr,yk O])) (cmV ⟨1,s,X,li,F,0,pr,O⟩) (.agg (yw 1 s X li F ii pr O).toArray) sm)) (by kernel_rfl) ?_ ?_ ?_
 ·exact ⟨fun _=>M,rfl,⟨rfl,rfl,rfl,Nat.le_refl _,fun _ _=>rfl⟩,fun j R=>by rw [yI] at R; split at R <;> simp at R⟩
 ·rintro x xm V ⟨f,rfl,xk,hD⟩ hx xP
  have xp:=zP xP hx (by kernel_rfl)
  have e4:f 4 = .bool (!sm):=hD 4 (xp 4 (by simp))
  have xv:=Y (eh (U un) xk)
  have z0:=zb (U xS).1 xk (U xS).2.2.1 0 _ rfl
  have z1:=zb (U xS).1 xk (U xS).2.2.1 1 _ rfl
  rw [Nat.zero_add] at z0 z1
  have ta1:∀ W:World,Sem.run Tryz.prog (Instr.typeAssert (.iface 74 (.agg #[H s,H X,H li,H F,yj pr,yk O])) 71 74 true) W = .ok (.tuple #[.agg #[H s,H X,H li,H F,yj pr,yk O],.bool true]) W:=fun W=>by kernel_rfl
  simp only [e4]
  generalize f 0 = e0,f 1 = e1,f 2 = e2,f 3 = e3
  clear hD xp e4 xP hx xk f x
  cases sm
  ·go_wp2_with fail
   go_ret
   exact ⟨rfl,U xv⟩
  ·have xK:w.heap.size < V.heap.size:=yK V (yq w 0) z0
   have y0:World.cell? (V.alloc (E #[H s,H X,H li,H F,yj pr,yk O] 74)) (yq w 0) = some (H next):=(yV _ _ _ xK).trans z0
   have y1:World.cell? (V.alloc (E #[H s,H X,H li,H F,yj pr,yk O] 74)) (yq w 1) = some (.slice a l.length A):=(yV _ _ _ xK).trans z1
   have qJ:Hid (yn w (V.alloc (E #[H s,H X,H li,H F,yj pr,yk O] 74))):=(U xv).alloc (U xv).size _
   clear z0 z1 xK
   have hsf:=sfl
   go_wp2_with fail
   refine (newRefusal_any next _ l ⟨1,s,X,li,F,ii,pr,O⟩ _ (zl (U HR) (U qJ) tg) (U vR) (U HG) (U uG).1 (U uG).2 (U qI)).mono ?_
   rintro e w7 ⟨rfl,jk⟩
   have jA:=Y (eh (U qJ) jk)
   clear jk
   go_wp2_with fail
   go_ret
   exact ⟨rfl,U jA⟩
 ·rintro x xm V i op ⟨f,rfl,xk,hD⟩ xo hx Z xy D
  clear xo
  have xv:=Y xk
  have HD:=Y hD
  have u0:=zb (U xS).2.1 xk (U xS).2.2.2 0 _ rfl
  have u1:=zb (U xS).2.1 xk (U xS).2.2.2 1 _ rfl
  have u2:=zb (U xS).2.1 xk (U xS).2.2.2 2 _ rfl
  have u3:=zb (U xS).2.1 xk (U xS).2.2.2 3 _ rfl
  have u4:=zb (U xS).2.1 xk (U xS).2.2.2 4 _ rfl
  have u5:=zb (U xS).2.1 xk (U xS).2.2.2 5 _ rfl
  have u6:=zb (U xS).2.1 xk (U xS).2.2.2 6 _ rfl
  have u7:=zb (U xS).2.1 xk (U xS).2.2.2 7 _ rfl
  rw [Nat.zero_add] at u0 u1 u2 u3 u4 u5 u6 u7
  match i,Z with
  | 0,Z =>
   obtain rfl:=ya Z
   clear D hD xk
   rw [if_pos (by rfl)];unfold Oper.wp;go_simp
   exact ⟨upd f 0 (.iface 74 (.agg #[H s,H X,H li,H F,yj pr,yk O])),by simp [upd],zd (U xv) (U HD) (by decide) rfl⟩
  | 1,Z =>
   obtain rfl:=ya Z
   have g:f 0 = .iface 74 (.agg #[H s,H X,H li,H F,yj pr,yk O]):=hD 0 (ye D 0 rfl)
   have hm:∀ W:World,Sem.run Tryz.prog (method 289 74 (.agg #[H s,H X,H li,H F,yj pr,yk O]) "loop.example/g00092/impl.told") W = .ok (55,.agg #[H s,H X,H li,H F,yj pr,yk O]) W:=fun W=>by kernel_rfl
   clear D hD xk
   rw [if_pos (by rfl)];unfold Oper.wp;go_simp
   refine (toldNew_any ⟨1,s,X,li,F,ii,pr,O⟩ V).mono ?_
   rintro e w4 ⟨rfl,xC⟩
   exact ⟨upd f 1 (cmV ⟨1,s,X,li,F,0,pr,O⟩),by simp [upd,g]; rfl,aR (U xv) (U HD) xC (by decide) (fun j v h=>h) rfl⟩
  | 2,Z =>
   obtain rfl:=ya Z
   clear D hD xk
   rw [if_pos (by rfl)];unfold Oper.wp;go_simp
   exact ⟨upd f 2 (.agg (yw 1 s X li F ii pr O).toArray),by simp [upd],zd (U xv) (U HD) (by decide) rfl⟩
  | 3,Z =>
   obtain rfl:=ya Z
   have g1:f 1 = cmV ⟨1,s,X,li,F,0,pr,O⟩:=hD 1 (ye D 1 rfl)
   have g2:f 2 = .agg (yw 1 s X li F ii pr O).toArray:=hD 2 (ye D 2 rfl)
   clear D hD xk
   rw [if_pos (by rfl)];unfold Oper.wp;go_simp
   refine (dI ⟨1,s,X,li,F,0,pr,O⟩ ⟨1,s,X,li,F,ii,pr,O⟩ V).mono ?_
   rw [U HSM]
   rintro e w4 ⟨rfl,xC⟩
   exact ⟨upd f 3 (.bool sm),by simp [upd,g1,g2],aR (U xv) (U HD) xC (by decide) (fun j v h=>h) rfl⟩
  | 4,Z =>
   obtain rfl:=ya Z
   have g:f 3 = .bool sm:=hD 3 (ye D 3 rfl)
   clear D hD xk
   rw [if_pos (by rfl)];unfold Oper.wp;go_simp
   exact ⟨upd f 4 (.bool (!sm)),by simp [upd,g],zd (U xv) (U HD) (by decide) rfl⟩
  | n + 5,Z=>simp at Z
theorem refusal_2 (next:Int) (vb:Value) (l:List Od) (s X li F ii:Int) (pr:Nat) (O:ByteArray) (w:World) (hr:RdR Od.vs 6 w vb l) (hs:SlOk vb) (hg:GoodL l) (h0:0 ≤ next) (Q:next ≤ 1000000) (ht:O.size ≤ maxLen) :
  Calls Tryz.prog 28 #[.agg #[H next,vb],.agg (yw 2 s X li F ii pr O).toArray] w fun e w'=>e = ym (H (if aB ⟨2,0,0,0,0,ii,0,⟨#[]⟩⟩ ⟨2,s,X,li,F,ii,pr,O⟩ = true then idR l ii else 2))∧yn w w':=by
 have HR:=Y hr
 have HG:=Y hg
 have vR:=Y hs
 have uG:Hid (0 ≤ next∧next ≤ 1000000):=⟨h0,Q⟩
 have qI:=Y ht
 obtain ⟨a,A,rfl,xD,hc⟩:=hr
 clear hc hg hs h0 Q ht xD
 generalize hsm:aB ⟨2,0,0,0,0,ii,0,⟨#[]⟩⟩ ⟨2,s,X,li,F,ii,pr,O⟩ = sm
 have HSM:=Y hsm
 clear hsm
 have xA:=ze w (E #[H next,.slice a l.length A] 31)
 have uc:((w.alloc (E #[H next,.slice a l.length A] 31)).alloc (E (yw 2 s X li F ii pr O).toArray 27)).heap.size = w.heap.size + 1 + 1:=by rw [ze,xA]
 have r1:=zg w [H next,.slice a l.length A] 31
 have r2:=zg (w.alloc (E #[H next,.slice a l.length A] 31)) (yw 2 s X li F ii pr O) 27
 rw [xA] at r2
 have qm:Below (w.heap.size + 1) (w.alloc (E #[H next,.slice a l.length A] 31)) ((w.alloc (E #[H next,.slice a l.length A] 31)).alloc (E (yw 2 s X li F ii pr O).toArray 27)):=(Below.refl _ _).alloc (by rw [xA]; omega) _
 have xF:Hid (yn w ((w.alloc (E #[H next,.slice a l.length A] 31)).alloc (E (yw 2 s X li F ii pr O).toArray 27))):=(ed _ _).alloc (by rw [xA]; omega) _
 have HX:Hid (_∧_):=⟨zb r1 qm (by omega),r2⟩
 have ux:Hid (w.heap.size < ((w.alloc (E #[H next,.slice a l.length A] 31)).alloc (E (yw 2 s X li F ii pr O).toArray 27)).heap.size∧w.heap.size + 1 < ((w.alloc (E #[H next,.slice a l.length A] 31)).alloc (E (yw 2 s X li F ii pr O).toArray 27)).heap.size):=⟨by omega,by omega⟩
 clear xA uc r1 r2 qm
 go_enter Tryz.func28,Tryz.ntmps28
 refine ei fun hR xu=>?_
 go_wp2_with fail
 refine U xu _ _ ?_
 clear xu
 generalize ((w.alloc (E #[H next,.slice a l.length A] 31)).alloc (E (yw 2 s X li F ii pr O).toArray 27)) = X2 at xF HX ux ⊢
 have HX:Hid (X2.rangeAt w.heap.size 0 [H next,.slice a l.length A]∧X2.rangeAt (w.heap.size + 1) 0 (yw 2 s X li F ii pr O)):=U HX
 obtain ⟨o0,o1,o2,o3,o4,o5,o6,o7⟩:=yD (U HX).2
 go_wp2_with fail
 refine (bU ⟨2,s,X,li,F,ii,pr,O⟩ X2).mono ?_
 have jl:cmdI ⟨2,s,X,li,F,ii,pr,O⟩ = .iface 77 (.agg #[H ii]):=by simp [cmdI]
 rw [jl]
 clear jl
 rintro e w4 ⟨rfl,xC⟩
 have un:=Y (eh (U xF) xC)
 have xS:Hid (w4.rangeAt w.heap.size 0 [H next,.slice a l.length A]∧w4.rangeAt (w.heap.size + 1) 0 (yw 2 s X li F ii pr O)∧w.heap.size < w4.heap.size∧w.heap.size + 1 < w4.heap.size):=⟨zb (U HX).1 xC (U ux).1,zb (U HX).2 xC (U ux).2,yJ (U ux).1 xC.size,yJ (U ux).2 xC.size⟩
 clear xC o0 o1 o2 o3 o4 o5 o6 o7
 go_wp2_with fail
 refine zh (RG w4 (fun f=>{ tmps:=#[.agg #[H next,.slice a l.length A],.agg (yw 2 s X li F ii pr O).toArray,yp w 0,I (w.heap.size + 1) 0,H 0,.iface 77 (.agg #[H ii]),M,M,M,.agg (yw 2 s X li F ii pr O).toArray,.iface 77 (.agg #[H ii]),.iface 77 (.agg #[H ii]),.bool false,f 0,f 1,f 2,f 3,f 4,M,M,M,M,M,M,M,M,M,M,M,M,M,M,M,M,M,M,M,M],defers:=[] }) 99 (DK (.iface 77 (.agg #[H ii])) (cmV ⟨2,0,0,0,0,ii,0,⟨#[]⟩⟩) (.agg (yw 2 s X li F ii pr O).toArray) sm)) (by kernel_rfl) ?_ ?_ ?_
 ·exact ⟨fun _=>M,rfl,⟨rfl,rfl,rfl,Nat.le_refl _,fun _ _=>rfl⟩,fun j R=>by rw [yI] at R; split at R <;> simp at R⟩
 ·rintro x xm V ⟨f,rfl,xk,hD⟩ hx xP
  have xp:=zP xP hx (by kernel_rfl)
  have e4:f 4 = .bool (!sm):=hD 4 (xp 4 (by simp))
  have xv:=Y (eh (U un) xk)
  have z0:=zb (U xS).1 xk (U xS).2.2.1 0 _ rfl
  have z1:=zb (U xS).1 xk (U xS).2.2.1 1 _ rfl
  rw [Nat.zero_add] at z0 z1
  have ta1:∀ W:World,Sem.run Tryz.prog (Instr.typeAssert (.iface 77 (.agg #[H ii])) 71 74 true) W = .ok (.tuple #[.agg #[H 0,H 0,H 0,H 0,yj 0,yk ⟨#[]⟩],.bool false]) W:=fun W=>by kernel_rfl
  have ta2:∀ W:World,Sem.run Tryz.prog (Instr.typeAssert (.iface 77 (.agg #[H ii])) 71 77 true) W = .ok (.tuple #[.agg #[H ii],.bool true]) W:=fun W=>by kernel_rfl
  simp only [e4]
  generalize f 0 = e0,f 1 = e1,f 2 = e2,f 3 = e3
  clear hD xp e4 xP hx xk f x
  cases sm
  ·go_wp2_with fail
   go_ret
   exact ⟨rfl,U xv⟩
  ·have xK:w.heap.size < V.heap.size:=yK V (yq w 0) z0
   have y0:World.cell? (V.alloc (E #[H ii] 77)) (yq w 0) = some (H next):=(yV _ _ _ xK).trans z0
   have y1:World.cell? (V.alloc (E #[H ii] 77)) (yq w 1) = some (.slice a l.length A):=(yV _ _ _ xK).trans z1
   have qJ:Hid (yn w (V.alloc (E #[H ii] 77))):=(U xv).alloc (U xv).size _
   clear z0 z1 xK
   go_wp2_with fail
   refine (idRefusal_any next _ l ii _ (zl (U HR) (U qJ) tg)).mono ?_
   rintro e w7 ⟨rfl,jk⟩
   have jA:=Y (eh (U qJ) jk)
   clear jk
   go_wp2_with fail
   go_ret
   exact ⟨rfl,U jA⟩
 ·rintro x xm V i op ⟨f,rfl,xk,hD⟩ xo hx Z xy D
  clear xo
  have xv:=Y xk
  have HD:=Y hD
  have u0:=zb (U xS).2.1 xk (U xS).2.2.2 0 _ rfl
  have u1:=zb (U xS).2.1 xk (U xS).2.2.2 1 _ rfl
  have u2:=zb (U xS).2.1 xk (U xS).2.2.2 2 _ rfl
  have u3:=zb (U xS).2.1 xk (U xS).2.2.2 3 _ rfl
  have u4:=zb (U xS).2.1 xk (U xS).2.2.2 4 _ rfl
  have u5:=zb (U xS).2.1 xk (U xS).2.2.2 5 _ rfl
  have u6:=zb (U xS).2.1 xk (U xS).2.2.2 6 _ rfl
  have u7:=zb (U xS).2.1 xk (U xS).2.2.2 7 _ rfl
  rw [Nat.zero_add] at u0 u1 u2 u3 u4 u5 u6 u7
  match i,Z with
  | 0,Z =>
   obtain rfl:=ya Z
   clear D hD xk
   rw [if_pos (by rfl)];unfold Oper.wp;go_simp
   exact ⟨upd f 0 (.iface 77 (.agg #[H ii])),by simp [upd],zd (U xv) (U HD) (by decide) rfl⟩
  | 1,Z =>
   obtain rfl:=ya Z
   have g:f 0 = .iface 77 (.agg #[H ii]):=hD 0 (ye D 0 rfl)
   have hm:∀ W:World,Sem.run Tryz.prog (method 289 77 (.agg #[H ii]) "loop.example/g00092/impl.told") W = .ok (135,.agg #[H ii]) W:=fun W=>by kernel_rfl
   clear D hD xk
   rw [if_pos (by rfl)];unfold Oper.wp;go_simp
   refine (toldCancel_any ii V).mono ?_
   rintro e w4 ⟨rfl,xC⟩
   exact ⟨upd f 1 (cmV ⟨2,0,0,0,0,ii,0,⟨#[]⟩⟩),by simp [upd,g]; rfl,aR (U xv) (U HD) xC (by decide) (fun j v h=>h) rfl⟩
  | 2,Z =>
   obtain rfl:=ya Z
   clear D hD xk
   rw [if_pos (by rfl)];unfold Oper.wp;go_simp
   exact ⟨upd f 2 (.agg (yw 2 s X li F ii pr O).toArray),by simp [upd],zd (U xv) (U HD) (by decide) rfl⟩
  | 3,Z =>
   obtain rfl:=ya Z
   have g1:f 1 = cmV ⟨2,0,0,0,0,ii,0,⟨#[]⟩⟩:=hD 1 (ye D 1 rfl)
   have g2:f 2 = .agg (yw 2 s X li F ii pr O).toArray:=hD 2 (ye D 2 rfl)
   clear D hD xk
   rw [if_pos (by rfl)];unfold Oper.wp;go_simp
   refine (dI ⟨2,0,0,0,0,ii,0,⟨#[]⟩⟩ ⟨2,s,X,li,F,ii,pr,O⟩ V).mono ?_
   rw [U HSM]
   rintro e w4 ⟨rfl,xC⟩
   exact ⟨upd f 3 (.bool sm),by simp [upd,g1,g2],aR (U xv) (U HD) xC (by decide) (fun j v h=>h) rfl⟩
  | 4,Z =>
   obtain rfl:=ya Z
   have g:f 3 = .bool sm:=hD 3 (ye D 3 rfl)
   clear D hD xk
   rw [if_pos (by rfl)];unfold Oper.wp;go_simp
   exact ⟨upd f 4 (.bool (!sm)),by simp [upd,g],zd (U xv) (U HD) (by decide) rfl⟩
  | n + 5,Z=>simp at Z
theorem refusal_3 (next:Int) (vb:Value) (l:List Od) (s X li F ii:Int) (pr:Nat) (O:ByteArray) (w:World) (hr:RdR Od.vs 6 w vb l) (hs:SlOk vb) (hg:GoodL l) (h0:0 ≤ next) (Q:next ≤ 1000000) (ht:O.size ≤ maxLen) :
  Calls Tryz.prog 28 #[.agg #[H next,vb],.agg (yw 3 s X li F ii pr O).toArray] w fun e w'=>e = ym (H (if aB ⟨3,0,0,0,F,ii,0,⟨#[]⟩⟩ ⟨3,s,X,li,F,ii,pr,O⟩ = true then redR l ii F else 2))∧yn w w':=by
 have HR:=Y hr
 have HG:=Y hg
 have vR:=Y hs
 have uG:Hid (0 ≤ next∧next ≤ 1000000):=⟨h0,Q⟩
 have qI:=Y ht
 obtain ⟨a,A,rfl,xD,hc⟩:=hr
 clear hc hg hs h0 Q ht xD
 generalize hsm:aB ⟨3,0,0,0,F,ii,0,⟨#[]⟩⟩ ⟨3,s,X,li,F,ii,pr,O⟩ = sm
 have HSM:=Y hsm
 clear hsm
 have xA:=ze w (E #[H next,.slice a l.length A] 31)
 have uc:((w.alloc (E #[H next,.slice a l.length A] 31)).alloc (E (yw 3 s X li F ii pr O).toArray 27)).heap.size = w.heap.size + 1 + 1:=by rw [ze,xA]
 have r1:=zg w [H next,.slice a l.length A] 31
 have r2:=zg (w.alloc (E #[H next,.slice a l.length A] 31)) (yw 3 s X li F ii pr O) 27
 rw [xA] at r2
 have qm:Below (w.heap.size + 1) (w.alloc (E #[H next,.slice a l.length A] 31)) ((w.alloc (E #[H next,.slice a l.length A] 31)).alloc (E (yw 3 s X li F ii pr O).toArray 27)):=(Below.refl _ _).alloc (by rw [xA]; omega) _
 have xF:Hid (yn w ((w.alloc (E #[H next,.slice a l.length A] 31)).alloc (E (yw 3 s X li F ii pr O).toArray 27))):=(ed _ _).alloc (by rw [xA]; omega) _
 have HX:Hid (_∧_):=⟨zb r1 qm (by omega),r2⟩
 have ux:Hid (w.heap.size < ((w.alloc (E #[H next,.slice a l.length A] 31)).alloc (E (yw 3 s X li F ii pr O).toArray 27)).heap.size∧w.heap.size + 1 < ((w.alloc (E #[H next,.slice a l.length A] 31)).alloc (E (yw 3 s X li F ii pr O).toArray 27)).heap.size):=⟨by omega,by omega⟩
 clear xA uc r1 r2 qm
 go_enter Tryz.func28,Tryz.ntmps28
 refine ei fun hR xu=>?_
 go_wp2_with fail
 refine U xu _ _ ?_
 clear xu
 generalize ((w.alloc (E #[H next,.slice a l.length A] 31)).alloc (E (yw 3 s X li F ii pr O).toArray 27)) = X2 at xF HX ux ⊢
 have HX:Hid (X2.rangeAt w.heap.size 0 [H next,.slice a l.length A]∧X2.rangeAt (w.heap.size + 1) 0 (yw 3 s X li F ii pr O)):=U HX
 obtain ⟨o0,o1,o2,o3,o4,o5,o6,o7⟩:=yD (U HX).2
 go_wp2_with fail
 refine (bU ⟨3,s,X,li,F,ii,pr,O⟩ X2).mono ?_
 have jl:cmdI ⟨3,s,X,li,F,ii,pr,O⟩ = .iface 80 (.agg #[H ii,H F]):=by simp [cmdI]
 rw [jl]
 clear jl
 rintro e w4 ⟨rfl,xC⟩
 have un:=Y (eh (U xF) xC)
 have xS:Hid (w4.rangeAt w.heap.size 0 [H next,.slice a l.length A]∧w4.rangeAt (w.heap.size + 1) 0 (yw 3 s X li F ii pr O)∧w.heap.size < w4.heap.size∧w.heap.size + 1 < w4.heap.size):=⟨zb (U HX).1 xC (U ux).1,zb (U HX).2 xC (U ux).2,yJ (U ux).1 xC.size,yJ (U ux).2 xC.size⟩
 clear xC o0 o1 o2 o3 o4 o5 o6 o7
 go_wp2_with fail
 refine zh (RG w4 (fun f=>{ tmps:=#[.agg #[H next,.slice a l.length A],.agg (yw 3 s X li F ii pr O).toArray,yp w 0,I (w.heap.size + 1) 0,H 0,.iface 80 (.agg #[H ii,H F]),M,M,M,.agg (yw 3 s X li F ii pr O).toArray,.iface 80 (.agg #[H ii,H F]),.iface 80 (.agg #[H ii,H F]),.bool false,f 0,f 1,f 2,f 3,f 4,M,M,M,M,M,M,M,M,M,M,M,M,M,M,M,M,M,M,M,M],defers:=[] }) 99 (DK (.iface 80 (.agg #[H ii,H F])) (cmV ⟨3,0,0,0,F,ii,0,⟨#[]⟩⟩) (.agg (yw 3 s X li F ii pr O).toArray) sm)) (by kernel_rfl) ?_ ?_ ?_
 ·exact ⟨fun _=>M,rfl,⟨rfl,rfl,rfl,Nat.le_refl _,fun _ _=>rfl⟩,fun j R=>by rw [yI] at R; split at R <;> simp at R⟩
 ·rintro x xm V ⟨f,rfl,xk,hD⟩ hx xP
  have xp:=zP xP hx (by kernel_rfl)
  have e4:f 4 = .bool (!sm):=hD 4 (xp 4 (by simp))
  have xv:=Y (eh (U un) xk)
  have z0:=zb (U xS).1 xk (U xS).2.2.1 0 _ rfl
  have z1:=zb (U xS).1 xk (U xS).2.2.1 1 _ rfl
  rw [Nat.zero_add] at z0 z1
  have ta1:∀ W:World,Sem.run Tryz.prog (Instr.typeAssert (.iface 80 (.agg #[H ii,H F])) 71 74 true) W = .ok (.tuple #[.agg #[H 0,H 0,H 0,H 0,yj 0,yk ⟨#[]⟩],.bool false]) W:=fun W=>by kernel_rfl
  have ta2:∀ W:World,Sem.run Tryz.prog (Instr.typeAssert (.iface 80 (.agg #[H ii,H F])) 71 77 true) W = .ok (.tuple #[.agg #[H 0],.bool false]) W:=fun W=>by kernel_rfl
  have ta3:∀ W:World,Sem.run Tryz.prog (Instr.typeAssert (.iface 80 (.agg #[H ii,H F])) 71 80 true) W = .ok (.tuple #[.agg #[H ii,H F],.bool true]) W:=fun W=>by kernel_rfl
  simp only [e4]
  generalize f 0 = e0,f 1 = e1,f 2 = e2,f 3 = e3
  clear hD xp e4 xP hx xk f x
  cases sm
  ·go_wp2_with fail
   go_ret
   exact ⟨rfl,U xv⟩
  ·have xK:w.heap.size < V.heap.size:=yK V (yq w 0) z0
   have y0:World.cell? (V.alloc (E #[H ii,H F] 80)) (yq w 0) = some (H next):=(yV _ _ _ xK).trans z0
   have y1:World.cell? (V.alloc (E #[H ii,H F] 80)) (yq w 1) = some (.slice a l.length A):=(yV _ _ _ xK).trans z1
   have qJ:Hid (yn w (V.alloc (E #[H ii,H F] 80))):=(U xv).alloc (U xv).size _
   clear z0 z1 xK
   go_wp2_with fail
   refine (reduceRefusal_any next _ l ii F _ (zl (U HR) (U qJ) tg)).mono ?_
   rintro e w7 ⟨rfl,jk⟩
   have jA:=Y (eh (U qJ) jk)
   clear jk
   go_wp2_with fail
   go_ret
   exact ⟨rfl,U jA⟩
 ·rintro x xm V i op ⟨f,rfl,xk,hD⟩ xo hx Z xy D
  clear xo
  have xv:=Y xk
  have HD:=Y hD
  have u0:=zb (U xS).2.1 xk (U xS).2.2.2 0 _ rfl
  have u1:=zb (U xS).2.1 xk (U xS).2.2.2 1 _ rfl
  have u2:=zb (U xS).2.1 xk (U xS).2.2.2 2 _ rfl
  have u3:=zb (U xS).2.1 xk (U xS).2.2.2 3 _ rfl
  have u4:=zb (U xS).2.1 xk (U xS).2.2.2 4 _ rfl
  have u5:=zb (U xS).2.1 xk (U xS).2.2.2 5 _ rfl
  have u6:=zb (U xS).2.1 xk (U xS).2.2.2 6 _ rfl
  have u7:=zb (U xS).2.1 xk (U xS).2.2.2 7 _ rfl
  rw [Nat.zero_add] at u0 u1 u2 u3 u4 u5 u6 u7
  match i,Z with
  | 0,Z =>
   obtain rfl:=ya Z
   clear D hD xk
   rw [if_pos (by rfl)];unfold Oper.wp;go_simp
   exact ⟨upd f 0 (.iface 80 (.agg #[H ii,H F])),by simp [upd],zd (U xv) (U HD) (by decide) rfl⟩
  | 1,Z =>
   obtain rfl:=ya Z
   have g:f 0 = .iface 80 (.agg #[H ii,H F]):=hD 0 (ye D 0 rfl)
   have hm:∀ W:World,Sem.run Tryz.prog (method 289 80 (.agg #[H ii,H F]) "loop.example/g00092/impl.told") W = .ok (136,.agg #[H ii,H F]) W:=fun W=>by kernel_rfl
   clear D hD xk
   rw [if_pos (by rfl)];unfold Oper.wp;go_simp
   refine (toldReduce_any ii F V).mono ?_
   rintro e w4 ⟨rfl,xC⟩
   exact ⟨upd f 1 (cmV ⟨3,0,0,0,F,ii,0,⟨#[]⟩⟩),by simp [upd,g]; rfl,aR (U xv) (U HD) xC (by decide) (fun j v h=>h) rfl⟩
  | 2,Z =>
   obtain rfl:=ya Z
   clear D hD xk
   rw [if_pos (by rfl)];unfold Oper.wp;go_simp
   exact ⟨upd f 2 (.agg (yw 3 s X li F ii pr O).toArray),by simp [upd],zd (U xv) (U HD) (by decide) rfl⟩
  | 3,Z =>
   obtain rfl:=ya Z
   have g1:f 1 = cmV ⟨3,0,0,0,F,ii,0,⟨#[]⟩⟩:=hD 1 (ye D 1 rfl)
   have g2:f 2 = .agg (yw 3 s X li F ii pr O).toArray:=hD 2 (ye D 2 rfl)
   clear D hD xk
   rw [if_pos (by rfl)];unfold Oper.wp;go_simp
   refine (dI ⟨3,0,0,0,F,ii,0,⟨#[]⟩⟩ ⟨3,s,X,li,F,ii,pr,O⟩ V).mono ?_
   rw [U HSM]
   rintro e w4 ⟨rfl,xC⟩
   exact ⟨upd f 3 (.bool sm),by simp [upd,g1,g2],aR (U xv) (U HD) xC (by decide) (fun j v h=>h) rfl⟩
  | 4,Z =>
   obtain rfl:=ya Z
   have g:f 3 = .bool sm:=hD 3 (ye D 3 rfl)
   clear D hD xk
   rw [if_pos (by rfl)];unfold Oper.wp;go_simp
   exact ⟨upd f 4 (.bool (!sm)),by simp [upd,g],zd (U xv) (U HD) (by decide) rfl⟩
  | n + 5,Z=>simp at Z
theorem refusal_4 (next:Int) (vb:Value) (l:List Od) (s X li F ii:Int) (pr:Nat) (O:ByteArray) (w:World) (hr:RdR Od.vs 6 w vb l) (hs:SlOk vb) (hg:GoodL l) (h0:0 ≤ next) (Q:next ≤ 1000000) (ht:O.size ≤ maxLen) :
  Calls Tryz.prog 28 #[.agg #[H next,vb],.agg (yw 4 s X li F ii pr O).toArray] w fun e w'=>e = ym (H (if aB ⟨4,0,0,0,0,0,0,⟨#[]⟩⟩ ⟨4,s,X,li,F,ii,pr,O⟩ = true then 0 else 2))∧yn w w':=by
 have HR:=Y hr
 have HG:=Y hg
 have vR:=Y hs
 have uG:Hid (0 ≤ next∧next ≤ 1000000):=⟨h0,Q⟩
 have qI:=Y ht
 obtain ⟨a,A,rfl,xD,hc⟩:=hr
 clear hc hg hs h0 Q ht xD
 generalize hsm:aB ⟨4,0,0,0,0,0,0,⟨#[]⟩⟩ ⟨4,s,X,li,F,ii,pr,O⟩ = sm
 have HSM:=Y hsm
 clear hsm
 have xA:=ze w (E #[H next,.slice a l.length A] 31)
 have uc:((w.alloc (E #[H next,.slice a l.length A] 31)).alloc (E (yw 4 s X li F ii pr O).toArray 27)).heap.size = w.heap.size + 1 + 1:=by rw [ze,xA]
 have r1:=zg w [H next,.slice a l.length A] 31
 have r2:=zg (w.alloc (E #[H next,.slice a l.length A] 31)) (yw 4 s X li F ii pr O) 27
 rw [xA] at r2
 have qm:Below (w.heap.size + 1) (w.alloc (E #[H next,.slice a l.length A] 31)) ((w.alloc (E #[H next,.slice a l.length A] 31)).alloc (E (yw 4 s X li F ii pr O).toArray 27)):=(Below.refl _ _).alloc (by rw [xA]; omega) _
 have xF:Hid (yn w ((w.alloc (E #[H next,.slice a l.length A] 31)).alloc (E (yw 4 s X li F ii pr O).toArray 27))):=(ed _ _).alloc (by rw [xA]; omega) _
 have HX:Hid (_∧_):=⟨zb r1 qm (by omega),r2⟩
 have ux:Hid (w.heap.size < ((w.alloc (E #[H next,.slice a l.length A] 31)).alloc (E (yw 4 s X li F ii pr O).toArray 27)).heap.size∧w.heap.size + 1 < ((w.alloc (E #[H next,.slice a l.length A] 31)).alloc (E (yw 4 s X li F ii pr O).toArray 27)).heap.size):=⟨by omega,by omega⟩
 clear xA uc r1 r2 qm
 go_enter Tryz.func28,Tryz.ntmps28
 refine ei fun hR xu=>?_
 go_wp2_with fail
 refine U xu _ _ ?_
 clear xu
 generalize ((w.alloc (E #[H next,.slice a l.length A] 31)).alloc (E (yw 4 s X li F ii pr O).toArray 27)) = X2 at xF HX ux ⊢
 have HX:Hid (X2.rangeAt w.heap.size 0 [H next,.slice a l.length A]∧X2.rangeAt (w.heap.size + 1) 0 (yw 4 s X li F ii pr O)):=U HX
 obtain ⟨o0,o1,o2,o3,o4,o5,o6,o7⟩:=yD (U HX).2
 go_wp2_with fail
 refine (bU ⟨4,s,X,li,F,ii,pr,O⟩ X2).mono ?_
 have jl:cmdI ⟨4,s,X,li,F,ii,pr,O⟩ = .iface 83 (.agg #[]):=by simp [cmdI]
 rw [jl]
 clear jl
 rintro e w4 ⟨rfl,xC⟩
 have un:=Y (eh (U xF) xC)
 have xS:Hid (w4.rangeAt w.heap.size 0 [H next,.slice a l.length A]∧w4.rangeAt (w.heap.size + 1) 0 (yw 4 s X li F ii pr O)∧w.heap.size < w4.heap.size∧w.heap.size + 1 < w4.heap.size):=⟨zb (U HX).1 xC (U ux).1,zb (U HX).2 xC (U ux).2,yJ (U ux).1 xC.size,yJ (U ux).2 xC.size⟩
 clear xC o0 o1 o2 o3 o4 o5 o6 o7
 go_wp2_with fail
 refine zh (RG w4 (fun f=>{ tmps:=#[.agg #[H next,.slice a l.length A],.agg (yw 4 s X li F ii pr O).toArray,yp w 0,I (w.heap.size + 1) 0,H 0,.iface 83 (.agg #[]),M,M,M,.agg (yw 4 s X li F ii pr O).toArray,.iface 83 (.agg #[]),.iface 83 (.agg #[]),.bool false,f 0,f 1,f 2,f 3,f 4,M,M,M,M,M,M,M,M,M,M,M,M,M,M,M,M,M,M,M,M],defers:=[] }) 99 (DK (.iface 83 (.agg #[])) (cmV ⟨4,0,0,0,0,0,0,⟨#[]⟩⟩) (.agg (yw 4 s X li F ii pr O).toArray) sm)) (by kernel_rfl) ?_ ?_ ?_
 ·exact ⟨fun _=>M,rfl,⟨rfl,rfl,rfl,Nat.le_refl _,fun _ _=>rfl⟩,fun j R=>by rw [yI] at R; split at R <;> simp at R⟩
 ·rintro x xm V ⟨f,rfl,xk,hD⟩ hx xP
  have xp:=zP xP hx (by kernel_rfl)
  have e4:f 4 = .bool (!sm):=hD 4 (xp 4 (by simp))
  have xv:=Y (eh (U un) xk)
  have z0:=zb (U xS).1 xk (U xS).2.2.1 0 _ rfl
  have z1:=zb (U xS).1 xk (U xS).2.2.1 1 _ rfl
  rw [Nat.zero_add] at z0 z1
  have ta1:∀ W:World,Sem.run Tryz.prog (Instr.typeAssert (.iface 83 (.agg #[])) 71 74 true) W = .ok (.tuple #[.agg #[H 0,H 0,H 0,H 0,yj 0,yk ⟨#[]⟩],.bool false]) W:=fun W=>by kernel_rfl
  have ta2:∀ W:World,Sem.run Tryz.prog (Instr.typeAssert (.iface 83 (.agg #[])) 71 77 true) W = .ok (.tuple #[.agg #[H 0],.bool false]) W:=fun W=>by kernel_rfl
  have ta3:∀ W:World,Sem.run Tryz.prog (Instr.typeAssert (.iface 83 (.agg #[])) 71 80 true) W = .ok (.tuple #[.agg #[H 0,H 0],.bool false]) W:=fun W=>by kernel_rfl
  simp only [e4]
  generalize f 0 = e0,f 1 = e1,f 2 = e2,f 3 = e3
  clear hD xp e4 xP hx xk f x
  cases sm
  ·go_wp2_with fail
   go_ret
   exact ⟨rfl,U xv⟩
  ·go_wp2_with fail
   go_ret
   exact ⟨rfl,U xv⟩
 ·rintro x xm V i op ⟨f,rfl,xk,hD⟩ xo hx Z xy D
  clear xo
  have xv:=Y xk
  have HD:=Y hD
  have u0:=zb (U xS).2.1 xk (U xS).2.2.2 0 _ rfl
  have u1:=zb (U xS).2.1 xk (U xS).2.2.2 1 _ rfl
  have u2:=zb (U xS).2.1 xk (U xS).2.2.2 2 _ rfl
  have u3:=zb (U xS).2.1 xk (U xS).2.2.2 3 _ rfl
  have u4:=zb (U xS).2.1 xk (U xS).2.2.2 4 _ rfl
  have u5:=zb (U xS).2.1 xk (U xS).2.2.2 5 _ rfl
  have u6:=zb (U xS).2.1 xk (U xS).2.2.2 6 _ rfl
  have u7:=zb (U xS).2.1 xk (U xS).2.2.2 7 _ rfl
  rw [Nat.zero_add] at u0 u1 u2 u3 u4 u5 u6 u7
  match i,Z with
  | 0,Z =>
   obtain rfl:=ya Z
   clear D hD xk
   rw [if_pos (by rfl)];unfold Oper.wp;go_simp
   exact ⟨upd f 0 (.iface 83 (.agg #[])),by simp [upd],zd (U xv) (U HD) (by decide) rfl⟩
  | 1,Z =>
   obtain rfl:=ya Z
   have g:f 0 = .iface 83 (.agg #[]):=hD 0 (ye D 0 rfl)
   have hm:∀ W:World,Sem.run Tryz.prog (method 289 83 (.agg #[]) "loop.example/g00092/impl.told") W = .ok (137,.agg #[]) W:=fun W=>by kernel_rfl
   clear D hD xk
   rw [if_pos (by rfl)];unfold Oper.wp;go_simp
   refine (toldDay_any V).mono ?_
   rintro e w4 ⟨rfl,xC⟩
   exact ⟨upd f 1 (cmV ⟨4,0,0,0,0,0,0,⟨#[]⟩⟩),by simp [upd,g]; rfl,aR (U xv) (U HD) xC (by decide) (fun j v h=>h) rfl⟩
  | 2,Z =>
   obtain rfl:=ya Z
   clear D hD xk
   rw [if_pos (by rfl)];unfold Oper.wp;go_simp
   exact ⟨upd f 2 (.agg (yw 4 s X li F ii pr O).toArray),by simp [upd],zd (U xv) (U HD) (by decide) rfl⟩
  | 3,Z =>
   obtain rfl:=ya Z
   have g1:f 1 = cmV ⟨4,0,0,0,0,0,0,⟨#[]⟩⟩:=hD 1 (ye D 1 rfl)
   have g2:f 2 = .agg (yw 4 s X li F ii pr O).toArray:=hD 2 (ye D 2 rfl)
   clear D hD xk
   rw [if_pos (by rfl)];unfold Oper.wp;go_simp
   refine (dI ⟨4,0,0,0,0,0,0,⟨#[]⟩⟩ ⟨4,s,X,li,F,ii,pr,O⟩ V).mono ?_
   rw [U HSM]
   rintro e w4 ⟨rfl,xC⟩
   exact ⟨upd f 3 (.bool sm),by simp [upd,g1,g2],aR (U xv) (U HD) xC (by decide) (fun j v h=>h) rfl⟩
  | 4,Z =>
   obtain rfl:=ya Z
   have g:f 3 = .bool sm:=hD 3 (ye D 3 rfl)
   clear D hD xk
   rw [if_pos (by rfl)];unfold Oper.wp;go_simp
   exact ⟨upd f 4 (.bool (!sm)),by simp [upd,g],zd (U xv) (U HD) (by decide) rfl⟩
  | n + 5,Z=>simp at Z
end Go.Proofs.YtdliebbfcmdmaaaGreat
