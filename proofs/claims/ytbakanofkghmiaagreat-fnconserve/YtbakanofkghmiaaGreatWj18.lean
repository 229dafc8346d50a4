/-
  The reason why a command is refused, by the program: proved by walking the function, kind by kind.
-/
import Derived.Test.YtbakanofkghmiaaGreatWj17
set_option linter.unusedVariables false
set_option maxHeartbeats 6400000
set_option maxRecDepth 100000
namespace Go.Proofs.YtbakanofkghmiaaGreat
open Go.RowKit
def DK (iv tv cv:Value) (sm:Bool) (p:Prop) (V:World):Nat→Value→Prop
 | 0,v=>v = iv
 | 1,v=>v = tv
 | 2,v=>v = cv
 | 3,v=>v = .bool sm
 | 4,v=>v = .bool (!sm)
 | _,_=>True
theorem refusal_1 (next:Int) (vb:Value) (l:List Od) (s ty li O ii:Int) (pr:Nat) (L:ByteArray) (w:World) (hr:RdR Od.vs 6 w vb l) (hs:SlOk vb) (hg:GoodL l) (h0:0 ≤ next) (G:next ≤ 1000000) (ht:L.size ≤ maxLen) :
  Calls Tryz.prog 63 #[.agg #[H next,vb],.agg (yw 1 s ty li O ii pr L).toArray] w fun e w'=>e = ym (H (if aP ⟨1,s,ty,li,O,0,pr,L⟩ ⟨1,s,ty,li,O,ii,pr,L⟩ = true then newR next l ⟨1,s,ty,li,O,ii,pr,L⟩ else 2))∧yn w w':=by
 have HR:=Y hr
 have HG:=Y hg
 have vP:=Y hs
 have uI:Hid (0 ≤ next∧next ≤ 1000000):=⟨h0,G⟩
 have qI:=Y ht
 obtain ⟨a,A,rfl,xE,hc⟩:=hr
 clear hc hg hs h0 G ht xE
 generalize hsm:aP ⟨1,s,ty,li,O,0,pr,L⟩ ⟨1,s,ty,li,O,ii,pr,L⟩ = sm
 have HSM:=Y hsm
 clear hsm
 have xA:=zh w (eF #[H next,.slice a l.length A] 28)
 have ua:((w.alloc (eF #[H next,.slice a l.length A] 28)).alloc (eF (yw 1 s ty li O ii pr L).toArray 43)).heap.size = w.heap.size + 1 + 1:=by rw [zh,xA]
 have r1:=zi w [H next,.slice a l.length A] 28
 have r2:=zi (w.alloc (eF #[H next,.slice a l.length A] 28)) (yw 1 s ty li O ii pr L) 43
 rw [xA] at r2
 have qw:Below (w.heap.size + 1) (w.alloc (eF #[H next,.slice a l.length A] 28)) ((w.alloc (eF #[H next,.slice a l.length A] 28)).alloc (eF (yw 1 s ty li O ii pr L).toArray 43)):=(Below.refl _ _).alloc (by rw [xA]; omega) _
 have xD:Hid (yn w ((w.alloc (eF #[H next,.slice a l.length A] 28)).alloc (eF (yw 1 s ty li O ii pr L).toArray 43))):=(eD _ _).alloc (by rw [xA]; omega) _
 have HX:Hid (_∧_):=⟨zb r1 qw (by omega),r2⟩
 have uw:Hid (w.heap.size < ((w.alloc (eF #[H next,.slice a l.length A] 28)).alloc (eF (yw 1 s ty li O ii pr L).toArray 43)).heap.size∧w.heap.size + 1 < ((w.alloc (eF #[H next,.slice a l.length A] 28)).alloc (eF (yw 1 s ty li O ii pr L).toArray 43)).heap.size):=⟨by omega,by omega⟩
 clear xA ua r1 r2 qw
 go_enter Tryz.func63,Tryz.ntmps63
 refine eH fun hj xu=>?_
 go_wp2_with fail
 refine U xu _ _ ?_
 clear xu
 generalize ((w.alloc (eF #[H next,.slice a l.length A] 28)).alloc (eF (yw 1 s ty li O ii pr L).toArray 43)) = X2 at xD HX uw ⊢
 have HX:Hid (X2.rangeAt w.heap.size 0 [H next,.slice a l.length A]∧X2.rangeAt (w.heap.size + 1) 0 (yw 1 s ty li O ii pr L)):=U HX
 obtain ⟨o0,o1,o2,o3,o4,o5,o6,o7⟩:=yD (U HX).2
 go_wp2_with fail
 refine (cG ⟨1,s,ty,li,O,ii,pr,L⟩ X2).mono ?_
 have jp:cmdI ⟨1,s,ty,li,O,ii,pr,L⟩ = .iface 112 (.agg #[H s,H ty,H li,H O,yj pr,yk L]):=by simp [cmdI,noV]
 rw [jp]
 clear jp
 rintro e w4 ⟨rfl,xC⟩
 have uo:=Y (D (U xD) xC)
 have xS:Hid (w4.rangeAt w.heap.size 0 [H next,.slice a l.length A]∧w4.rangeAt (w.heap.size + 1) 0 (yw 1 s ty li O ii pr L)∧w.heap.size < w4.heap.size∧w.heap.size + 1 < w4.heap.size):=⟨zb (U HX).1 xC (U uw).1,zb (U HX).2 xC (U uw).2,yJ (U uw).1 xC.size,yJ (U uw).2 xC.size⟩
 clear xC o0 o1 o2 o3 o4 o5 o6 o7
 go_wp2_with fail
 refine zj (RG w4 (fun f=>{ tmps:=#[.agg #[H next,.slice a l.length A],.agg (yw 1 s ty li O ii pr L).toArray,yp w 0,I (w.heap.size + 1) 0,H 0,.iface 112 (.agg #[H s,H ty,H li,H O,yj pr,yk L]),M,M,M,.agg (yw 1 s ty li O ii pr L).toArray,.iface 112 (.agg #[H s,H ty,H li,H O,yj pr,yk L]),.iface 112 (.agg #[H s,H ty,H li,H O,yj pr,yk L]),.bool false,f 0,f 1,f 2,f 3,f 4,M,M,M,M,M,M,M,M,M,M,M,M,M,M,M,M,M,M,M,M],defers:=[] }) 99 (DK (.iface 112 (.agg #[H s,H ty,H li,H O,yj pr,yk L])) (cmV ⟨1,s,ty,li,O,0,pr,L⟩) (.agg (yw 1 s ty li O ii pr L).toArray) sm)) (by kernel_rfl) ?_ ?_ ?_
 ·exact ⟨fun _=>M,rfl,⟨rfl,rfl,rfl,Nat.le_refl _,fun _ _=>rfl⟩,fun j K=>by rw [yI] at K; split at K <;> simp at K⟩
 ·rintro x xm V ⟨f,rfl,xk,hD⟩ hx xP
  have xp:=zR xP hx (by kernel_rfl)
  have e4:f 4 = .bool (!sm):=hD 4 (xp 4 (by simp))
  have xv:=Y (D (U uo) xk)
  have z0:=zb (U xS).1 xk (U xS).2.2.1 0 _ rfl
  have z1:=zb (U xS).1 xk (U xS).2.2.1 1 _ rfl
  rw [Nat.zero_add] at z0 z1
  have ta1:∀ W:World,Sem.run Tryz.prog (Instr.typeAssert (.iface 112 (.agg #[H s,H ty,H li,H O,yj pr,yk L])) 109 112 true) W = .ok (.tuple #[.agg #[H s,H ty,H li,H O,yj pr,yk L],.bool true]) W:=fun W=>by kernel_rfl
  simp only [e4]
  generalize f 0 = e0,f 1 = e1,f 2 = e2,f 3 = e3
  clear hD xp e4 xP hx xk f x
  cases sm
  ·go_wp2_with fail
   go_ret
   exact ⟨rfl,U xv⟩
  ·have xJ:w.heap.size < V.heap.size:=yK V (yq w 0) z0
   have y0:World.cell? (V.alloc (eF #[H s,H ty,H li,H O,yj pr,yk L] 112)) (yq w 0) = some (H next):=(yV _ _ _ xJ).trans z0
   have y1:World.cell? (V.alloc (eF #[H s,H ty,H li,H O,yj pr,yk L] 112)) (yq w 1) = some (.slice a l.length A):=(yV _ _ _ xJ).trans z1
   have qO:Hid (yn w (V.alloc (eF #[H s,H ty,H li,H O,yj pr,yk L] 112))):=(U xv).alloc (U xv).size _
   clear z0 z1 xJ
   have hsf:=sfl
   go_wp2_with fail
   refine (newRefusal_any next _ l ⟨1,s,ty,li,O,ii,pr,L⟩ _ (zn (U HR) (U qO) qt) (U vP) (U HG) (U uI).1 (U uI).2 (U qI)).mono ?_
   rintro e w7 ⟨rfl,qx⟩
   have kc:=Y (D (U qO) qx)
   clear qx
   go_wp2_with fail
   go_ret
   exact ⟨rfl,U kc⟩
 ·rintro x xm V i op ⟨f,rfl,xk,hD⟩ xo hx Z xy Q
  clear xo
  have xv:=Y xk
  have HD:=Y hD
  have u0:=zb (U xS).2.1 xk (U xS).2.2.2 0 _ rfl
  have u1:=zb (U xS).2.1 xk (U xS).2.2.2 1 _ rfl
  have u2:=zb (U xS).2.1 xk (U xS).2.2.2 2 _ rfl
  have u3:=zb (U xS).2.1 xk (U xS).2.2.2 3 _ rfl
  have u4:=zb (U xS).2.1 xk (U xS).2.2.2 4 _ rfl
  have u5:=zb (U xS).2.1 xk (U xS).2.2.2 5 _ rfl
  have u6:=zb (U xS).2.1 xk (U xS).2.2.2 6 _ rfl
  have u7:=zb (U xS).2.1 xk (U xS).2.2.2 7 _ rfl
  rw [Nat.zero_add] at u0 u1 u2 u3 u4 u5 u6 u7
  match i,Z with
  | 0,Z =>
   obtain rfl:=ya Z
   clear Q hD xk
   rw [if_pos (by rfl)];unfold Oper.wp;go_simp
   exact ⟨upd f 0 (.iface 112 (.agg #[H s,H ty,H li,H O,yj pr,yk L])),by simp [upd],zf (U xv) (U HD) (by decide) rfl⟩
  | 1,Z =>
   obtain rfl:=ya Z
   have g:f 0 = .iface 112 (.agg #[H s,H ty,H li,H O,yj pr,yk L]):=hD 0 (ye Q 0 rfl)
   have hm:∀ W:World,Sem.run Tryz.prog (method 322 112 (.agg #[H s,H ty,H li,H O,yj pr,yk L]) "loop.example/g00092/impl.told") W = .ok (113,.agg #[H s,H ty,H li,H O,yj pr,yk L]) W:=fun W=>by kernel_rfl
   clear Q hD xk
   rw [if_pos (by rfl)];unfold Oper.wp;go_simp
   refine (toldNew_any ⟨1,s,ty,li,O,ii,pr,L⟩ V).mono ?_
   rintro e w4 ⟨rfl,xC⟩
   exact ⟨upd f 1 (cmV ⟨1,s,ty,li,O,0,pr,L⟩),by simp [upd,g]; rfl,bh (U xv) (U HD) xC (by decide) (fun j v h=>h) rfl⟩
  | 2,Z =>
   obtain rfl:=ya Z
   clear Q hD xk
   rw [if_pos (by rfl)];unfold Oper.wp;go_simp
   exact ⟨upd f 2 (.agg (yw 1 s ty li O ii pr L).toArray),by simp [upd],zf (U xv) (U HD) (by decide) rfl⟩
  | 3,Z =>
   obtain rfl:=ya Z
   have g1:f 1 = cmV ⟨1,s,ty,li,O,0,pr,L⟩:=hD 1 (ye Q 1 rfl)
   have g2:f 2 = .agg (yw 1 s ty li O ii pr L).toArray:=hD 2 (ye Q 2 rfl)
   clear Q hD xk
   rw [if_pos (by rfl)];unfold Oper.wp;go_simp
   refine (dY ⟨1,s,ty,li,O,0,pr,L⟩ ⟨1,s,ty,li,O,ii,pr,L⟩ V).mono ?_
   rw [U HSM]
   rintro e w4 ⟨rfl,xC⟩
   exact ⟨upd f 3 (.bool sm),by simp [upd,g1,g2],bh (U xv) (U HD) xC (by decide) (fun j v h=>h) rfl⟩
  | 4,Z =>
   obtain rfl:=ya Z
   have g:f 3 = .bool sm:=hD 3 (ye Q 3 rfl)
   clear Q hD xk
   rw [if_pos (by rfl)];unfold Oper.wp;go_simp
   exact ⟨upd f 4 (.bool (!sm)),by simp [upd,g],zf (U xv) (U HD) (by decide) rfl⟩
  | n + 5,Z=>simp at Z
theorem refusal_2 (next:Int) (vb:Value) (l:List Od) (s ty li O ii:Int) (pr:Nat) (L:ByteArray) (w:World) (hr:RdR Od.vs 6 w vb l) (hs:SlOk vb) (hg:GoodL l) (h0:0 ≤ next) (G:next ≤ 1000000) (ht:L.size ≤ maxLen) :
  Calls Tryz.prog 63 #[.agg #[H next,vb],.agg (yw 2 s ty li O ii pr L).toArray] w fun e w'=>e = ym (H (if aP ⟨2,0,0,0,0,ii,0,⟨#[]⟩⟩ ⟨2,s,ty,li,O,ii,pr,L⟩ = true then idR l ii else 2))∧yn w w':=by
 have HR:=Y hr
 have HG:=Y hg
 have vP:=Y hs
 have uI:Hid (0 ≤ next∧next ≤ 1000000):=⟨h0,G⟩
 have qI:=Y ht
 obtain ⟨a,A,rfl,xE,hc⟩:=hr
 clear hc hg hs h0 G ht xE
 generalize hsm:aP ⟨2,0,0,0,0,ii,0,⟨#[]⟩⟩ ⟨2,s,ty,li,O,ii,pr,L⟩ = sm
 have HSM:=Y hsm
 clear hsm
 have xA:=zh w (eF #[H next,.slice a l.length A] 28)
 have ua:((w.alloc (eF #[H next,.slice a l.length A] 28)).alloc (eF (yw 2 s ty li O ii pr L).toArray 43)).heap.size = w.heap.size + 1 + 1:=by rw [zh,xA]
 have r1:=zi w [H next,.slice a l.length A] 28
 have r2:=zi (w.alloc (eF #[H next,.slice a l.length A] 28)) (yw 2 s ty li O ii pr L) 43
 rw [xA] at r2
 have qw:Below (w.heap.size + 1) (w.alloc (eF #[H next,.slice a l.length A] 28)) ((w.alloc (eF #[H next,.slice a l.length A] 28)).alloc (eF (yw 2 s ty li O ii pr L).toArray 43)):=(Below.refl _ _).alloc (by rw [xA]; omega) _
 have xD:Hid (yn w ((w.alloc (eF #[H next,.slice a l.length A] 28)).alloc (eF (yw 2 s ty li O ii pr L).toArray 43))):=(eD _ _).alloc (by rw [xA]; omega) _
 have HX:Hid (_∧_):=⟨zb r1 qw (by omega),r2⟩
 have uw:Hid (w.heap.size < ((w.alloc (eF #[H next,.slice a l.length A] 28)).alloc (eF (yw 2 s ty li O ii pr L).toArray 43)).heap.size∧w.heap.size + 1 < ((w.alloc (eF #[H next,.slice a l.length A] 28)).alloc (eF (yw 2 s ty li O ii pr L).toArray 43)).heap.size):=⟨by omega,by omega⟩
 clear xA ua r1 r2 qw
 go_enter Tryz.func63,Tryz.ntmps63
 refine eH fun hj xu=>?_
 go_wp2_with fail
 refine U xu _ _ ?_
 clear xu
 generalize ((w.alloc (eF #[H next,.slice a l.length A] 28)).alloc (eF (yw 2 s ty li O ii pr L).toArray 43)) = X2 at xD HX uw ⊢
 have HX:Hid (X2.rangeAt w.heap.size 0 [H next,.slice a l.length A]∧X2.rangeAt (w.heap.size + 1) 0 (yw 2 s ty li O ii pr L)):=U HX
 obtain ⟨o0,o1,o2,o3,o4,o5,o6,o7⟩:=yD (U HX).2
 go_wp2_with fail
 refine (cG ⟨2,s,ty,li,O,ii,pr,L⟩ X2).mono ?_
 have jp:cmdI ⟨2,s,ty,li,O,ii,pr,L⟩ = .iface 115 (.agg #[H ii]):=by simp [cmdI]
 rw [jp]
 clear jp
 rintro e w4 ⟨rfl,xC⟩
 have uo:=Y (D (U xD) xC)
 have xS:Hid (w4.rangeAt w.heap.size 0 [H next,.slice a l.length A]∧w4.rangeAt (w.heap.size + 1) 0 (yw 2 s ty li O ii pr L)∧w.heap.size < w4.heap.size∧w.heap.size + 1 < w4.heap.size):=⟨zb (U HX).1 xC (U uw).1,zb (U HX).2 xC (U uw).2,yJ (U uw).1 xC.size,yJ (U uw).2 xC.size⟩
 clear xC o0 o1 o2 o3 o4 o5 o6 o7
 go_wp2_with fail
 refine zj (RG w4 (fun f=>{ tmps:=#[.agg #[H next,.slice a l.length A],.agg (yw 2 s ty li O ii pr L).toArray,yp w 0,I (w.heap.size + 1) 0,H 0,.iface 115 (.agg #[H ii]),M,M,M,.agg (yw 2 s ty li O ii pr L).toArray,.iface 115 (.agg #[H ii]),.iface 115 (.agg #[H ii]),.bool false,f 0,f 1,f 2,f 3,f 4,M,M,M,M,M,M,M,M,M,M,M,M,M,M,M,M,M,M,M,M],defers:=[] }) 99 (DK (.iface 115 (.agg #[H ii])) (cmV ⟨2,0,0,0,0,ii,0,⟨#[]⟩⟩) (.agg (yw 2 s ty li O ii pr L).toArray) sm)) (by kernel_rfl) ?_ ?_ ?_
 ·exact ⟨fun _=>M,rfl,⟨rfl,rfl,rfl,Nat.le_refl _,fun _ _=>rfl⟩,fun j K=>by rw [yI] at K; split at K <;> simp at K⟩
 ·rintro x xm V ⟨f,rfl,xk,hD⟩ hx xP
  have xp:=zR xP hx (by kernel_rfl)
  have e4:f 4 = .bool (!sm):=hD 4 (xp 4 (by simp))
  have xv:=Y (D (U uo) xk)
  have z0:=zb (U xS).1 xk (U xS).2.2.1 0 _ rfl
  have z1:=zb (U xS).1 xk (U xS).2.2.1 1 _ rfl
  rw [Nat.zero_add] at z0 z1
  have ta1:∀ W:World,Sem.run Tryz.prog (Instr.typeAssert (.iface 115 (.agg #[H ii])) 109 112 true) W = .ok (.tuple #[.agg #[H 0,H 0,H 0,H 0,yj 0,yk ⟨#[]⟩],.bool false]) W:=fun W=>by kernel_rfl
  have ta2:∀ W:World,Sem.run Tryz.prog (Instr.typeAssert (.iface 115 (.agg #[H ii])) 109 115 true) W = .ok (.tuple #[.agg #[H ii],.bool true]) W:=fun W=>by kernel_rfl
  simp only [e4]
  generalize f 0 = e0,f 1 = e1,f 2 = e2,f 3 = e3
  clear hD xp e4 xP hx xk f x
  cases sm
  ·go_wp2_with fail
   go_ret
   exact ⟨rfl,U xv⟩
  ·have xJ:w.heap.size < V.heap.size:=yK V (yq w 0) z0
   have y0:World.cell? (V.alloc (eF #[H ii] 115)) (yq w 0) = some (H next):=(yV _ _ _ xJ).trans z0
   have y1:World.cell? (V.alloc (eF #[H ii] 115)) (yq w 1) = some (.slice a l.length A):=(yV _ _ _ xJ).trans z1
   have qO:Hid (yn w (V.alloc (eF #[H ii] 115))):=(U xv).alloc (U xv).size _
   clear z0 z1 xJ
   go_wp2_with fail
   refine (idRefusal_any next _ l ii _ (zn (U HR) (U qO) qt)).mono ?_
   rintro e w7 ⟨rfl,qx⟩
   have kc:=Y (D (U qO) qx)
   clear qx
   go_wp2_with fail
   go_ret
   exact ⟨rfl,U kc⟩
 ·rintro x xm V i op ⟨f,rfl,xk,hD⟩ xo hx Z xy Q
  clear xo
  have xv:=Y xk
  have HD:=Y hD
  have u0:=zb (U xS).2.1 xk (U xS).2.2.2 0 _ rfl
  have u1:=zb (U xS).2.1 xk (U xS).2.2.2 1 _ rfl
  have u2:=zb (U xS).2.1 xk (U xS).2.2.2 2 _ rfl
  have u3:=zb (U xS).2.1 xk (U xS).2.2.2 3 _ rfl
  have u4:=zb (U xS).2.1 xk (U xS).2.2.2 4 _ rfl
  have u5:=zb (U xS).2.1 xk (U xS).2.2.2 5 _ rfl
  have u6:=zb (U xS).2.1 xk (U xS).2.2.2 6 _ rfl
  have u7:=zb (U xS).2.1 xk (U xS).2.2.2 7 _ rfl
  rw [Nat.zero_add] at u0 u1 u2 u3 u4 u5 u6 u7
  match i,Z with
  | 0,Z =>
   obtain rfl:=ya Z
   clear Q hD xk
   rw [if_pos (by rfl)];unfold Oper.wp;go_simp
   exact ⟨upd f 0 (.iface 115 (.agg #[H ii])),by simp [upd],zf (U xv) (U HD) (by decide) rfl⟩
  | 1,Z =>
   obtain rfl:=ya Z
   have g:f 0 = .iface 115 (.agg #[H ii]):=hD 0 (ye Q 0 rfl)
   have hm:∀ W:World,Sem.run Tryz.prog (method 322 115 (.agg #[H ii]) "loop.example/g00092/impl.told") W = .ok (185,.agg #[H ii]) W:=fun W=>by kernel_rfl
   clear Q hD xk
   rw [if_pos (by rfl)];unfold Oper.wp;go_simp
   refine (toldCancel_any ii V).mono ?_
   rintro e w4 ⟨rfl,xC⟩
   exact ⟨upd f 1 (cmV ⟨2,0,0,0,0,ii,0,⟨#[]⟩⟩),by simp [upd,g]; rfl,bh (U xv) (U HD) xC (by decide) (fun j v h=>h) rfl⟩
  | 2,Z =>
   obtain rfl:=ya Z
   clear Q hD xk
   rw [if_pos (by rfl)];unfold Oper.wp;go_simp
   exact ⟨upd f 2 (.agg (yw 2 s ty li O ii pr L).toArray),by simp [upd],zf (U xv) (U HD) (by decide) rfl⟩
  | 3,Z =>
   obtain rfl:=ya Z
   have g1:f 1 = cmV ⟨2,0,0,0,0,ii,0,⟨#[]⟩⟩:=hD 1 (ye Q 1 rfl)
   have g2:f 2 = .agg (yw 2 s ty li O ii pr L).toArray:=hD 2 (ye Q 2 rfl)
   clear Q hD xk
   rw [if_pos (by rfl)];unfold Oper.wp;go_simp
   refine (dY ⟨2,0,0,0,0,ii,0,⟨#[]⟩⟩ ⟨2,s,ty,li,O,ii,pr,L⟩ V).mono ?_
   rw [U HSM]
   rintro e w4 ⟨rfl,xC⟩
   exact ⟨upd f 3 (.bool sm),by simp [upd,g1,g2],bh (U xv) (U HD) xC (by decide) (fun j v h=>h) rfl⟩
  | 4,Z =>
   obtain rfl:=ya Z
   have g:f 3 = .bool sm:=hD 3 (ye Q 3 rfl)
   clear Q hD xk
   rw [if_pos (by rfl)];unfold Oper.wp;go_simp
   exact ⟨upd f 4 (.bool (!sm)),by simp [upd,g],zf (U xv) (U HD) (by decide) rfl⟩
  | n + 5,Z=>simp at Z
theorem refusal_3 (next:Int) (vb:Value) (l:List Od) (s ty li O ii:Int) (pr:Nat) (L:ByteArray) (w:World) (hr:RdR Od.vs 6 w vb l) (hs:SlOk vb) (hg:GoodL l) (h0:0 ≤ next) (G:next ≤ 1000000) (ht:L.size ≤ maxLen) :
  Calls Tryz.prog 63 #[.agg #[H next,vb],.agg (yw 3 s ty li O ii pr L).toArray] w fun e w'=>e = ym (H (if aP ⟨3,0,0,0,O,ii,0,⟨#[]⟩⟩ ⟨3,s,ty,li,O,ii,pr,L⟩ = true then redR l ii O else 2))∧yn w w':=by
 have HR:=Y hr
 have HG:=Y hg
 have vP:=Y hs
 have uI:Hid (0 ≤ next∧next ≤ 1000000):=⟨h0,G⟩
 have qI:=Y ht
 obtain ⟨a,A,rfl,xE,hc⟩:=hr
 clear hc hg hs h0 G ht xE
 generalize hsm:aP ⟨3,0,0,0,O,ii,0,⟨#[]⟩⟩ ⟨3,s,ty,li,O,ii,pr,L⟩ = sm
 have HSM:=Y hsm
 clear hsm
 have xA:=zh w (eF #[H next,.slice a l.length A] 28)
 have ua:((w.alloc (eF #[H next,.slice a l.length A] 28)).alloc (eF (yw 3 s ty li O ii pr L).toArray 43)).heap.size = w.heap.size + 1 + 1:=by rw [zh,xA]
 have r1:=zi w [H next,.slice a l.length A] 28
 have r2:=zi (w.alloc (eF #[H next,.slice a l.length A] 28)) (yw 3 s ty li O ii pr L) 43
 rw [xA] at r2
 have qw:Below (w.heap.size + 1) (w.alloc (eF #[H next,.slice a l.length A] 28)) ((w.alloc (eF #[H next,.slice a l.length A] 28)).alloc (eF (yw 3 s ty li O ii pr L).toArray 43)):=(Below.refl _ _).alloc (by rw [xA]; omega) _
 have xD:Hid (yn w ((w.alloc (eF #[H next,.slice a l.length A] 28)).alloc (eF (yw 3 s ty li O ii pr L).toArray 43))):=(eD _ _).alloc (by rw [xA]; omega) _
 have HX:Hid (_∧_):=⟨zb r1 qw (by omega),r2⟩
 have uw:Hid (w.heap.size < ((w.alloc (eF #[H next,.slice a l.length A] 28)).alloc (eF (yw 3 s ty li O ii pr L).toArray 43)).heap.size∧w.heap.size + 1 < ((w.alloc (eF #[H next,.slice a l.length A] 28)).alloc (eF (yw 3 s ty li O ii pr L).toArray 43)).heap.size):=⟨by omega,by omega⟩
 clear xA ua r1 r2 qw
 go_enter Tryz.func63,Tryz.ntmps63
 refine eH fun hj xu=>?_
 go_wp2_with fail
 refine U xu _ _ ?_
 clear xu
 generalize ((w.alloc (eF #[H next,.slice a l.length A] 28)).alloc (eF (yw 3 s ty li O ii pr L).toArray 43)) = X2 at xD HX uw ⊢
 have HX:Hid (X2.rangeAt w.heap.size 0 [H next,.slice a l.length A]∧X2.rangeAt (w.heap.size + 1) 0 (yw 3 s ty li O ii pr L)):=U HX
 obtain ⟨o0,o1,o2,o3,o4,o5,o6,o7⟩:=yD (U HX).2
 go_wp2_with fail
 refine (cG ⟨3,s,ty,li,O,ii,pr,L⟩ X2).mono ?_
 have jp:cmdI ⟨3,s,ty,li,O,ii,pr,L⟩ = .iface 118 (.agg #[H ii,H O]):=by simp [cmdI]
 rw [jp]
 clear jp
 rintro e w4 ⟨rfl,xC⟩
 have uo:=Y (D (U xD) xC)
 have xS:Hid (w4.rangeAt w.heap.size 0 [H next,.slice a l.length A]∧w4.rangeAt (w.heap.size + 1) 0 (yw 3 s ty li O ii pr L)∧w.heap.size < w4.heap.size∧w.heap.size + 1 < w4.heap.size):=⟨zb (U HX).1 xC (U uw).1,zb (U HX).2 xC (U uw).2,yJ (U uw).1 xC.size,yJ (U uw).2 xC.size⟩
 clear xC o0 o1 o2 o3 o4 o5 o6 o7
 go_wp2_with fail
 refine zj (RG w4 (fun f=>{ tmps:=#[.agg #[H next,.slice a l.length A],.agg (yw 3 s ty li O ii pr L).toArray,yp w 0,I (w.heap.size + 1) 0,H 0,.iface 118 (.agg #[H ii,H O]),M,M,M,.agg (yw 3 s ty li O ii pr L).toArray,.iface 118 (.agg #[H ii,H O]),.iface 118 (.agg #[H ii,H O]),.bool false,f 0,f 1,f 2,f 3,f 4,M,M,M,M,M,M,M,M,M,M,M,M,M,M,M,M,M,M,M,M],defers:=[] }) 99 (DK (.iface 118 (.agg #[H ii,H O])) (cmV ⟨3,0,0,0,O,ii,0,⟨#[]⟩⟩) (.agg (yw 3 s ty li O ii pr L).toArray) sm)) (by kernel_rfl) ?_ ?_ ?_
 ·exact ⟨fun _=>M,rfl,⟨rfl,rfl,rfl,Nat.le_refl _,fun _ _=>rfl⟩,fun j K=>by rw [yI] at K; split at K <;> simp at K⟩
 ·rintro x xm V ⟨f,rfl,xk,hD⟩ hx xP
  have xp:=zR xP hx (by kernel_rfl)
  have e4:f 4 = .bool (!sm):=hD 4 (xp 4 (by simp))
  have xv:=Y (D (U uo) xk)
  have z0:=zb (U xS).1 xk (U xS).2.2.1 0 _ rfl
  have z1:=zb (U xS).1 xk (U xS).2.2.1 1 _ rfl
  rw [Nat.zero_add] at z0 z1
  have ta1:∀ W:World,Sem.run Tryz.prog (Instr.typeAssert (.iface 118 (.agg #[H ii,H O])) 109 112 true) W = .ok (.tuple #[.agg #[H 0,H 0,H 0,H 0,yj 0,yk ⟨#[]⟩],.bool false]) W:=fun W=>by kernel_rfl
  have ta2:∀ W:World,Sem.run Tryz.prog (Instr.typeAssert (.iface 118 (.agg #[H ii,H O])) 109 115 true) W = .ok (.tuple #[.agg #[H 0],.bool false]) W:=fun W=>by kernel_rfl
  have ta3:∀ W:World,Sem.run Tryz.prog (Instr.typeAssert (.iface 118 (.agg #[H ii,H O])) 109 118 true) W = .ok (.tuple #[.agg #[H ii,H O],.bool true]) W:=fun W=>by kernel_rfl
  simp only [e4]
  generalize f 0 = e0,f 1 = e1,f 2 = e2,f 3 = e3
  clear hD xp e4 xP hx xk f x
  cases sm
  ·go_wp2_with fail
   go_ret
   exact ⟨rfl,U xv⟩
  ·have xJ:w.heap.size < V.heap.size:=yK V (yq w 0) z0
   have y0:World.cell? (V.alloc (eF #[H ii,H O] 118)) (yq w 0) = some (H next):=(yV _ _ _ xJ).trans z0
   have y1:World.cell? (V.alloc (eF #[H ii,H O] 118)) (yq w 1) = some (.slice a l.length A):=(yV _ _ _ xJ).trans z1
   have qO:Hid (yn w (V.alloc (eF #[H ii,H O] 118))):=(U xv).alloc (U xv).size _
   clear z0 z1 xJ
   go_wp2_with fail
   refine (reduceRefusal_any next _ l ii O _ (zn (U HR) (U qO) qt)).mono ?_
   rintro e w7 ⟨rfl,qx⟩
   have kc:=Y (D (U qO) qx)
   clear qx
   go_wp2_with fail
   go_ret
   exact ⟨rfl,U kc⟩
 ·rintro x xm V i op ⟨f,rfl,xk,hD⟩ xo hx Z xy Q
  clear xo
  have xv:=Y xk
  have HD:=Y hD
  have u0:=zb (U xS).2.1 xk (U xS).2.2.2 0 _ rfl
  have u1:=zb (U xS).2.1 xk (U xS).2.2.2 1 _ rfl
  have u2:=zb (U xS).2.1 xk (U xS).2.2.2 2 _ rfl
  have u3:=zb (U xS).2.1 xk (U xS).2.2.2 3 _ rfl
  have u4:=zb (U xS).2.1 xk (U xS).2.2.2 4 _ rfl
  have u5:=zb (U xS).2.1 xk (U xS).2.2.2 5 _ rfl
  have u6:=zb (U xS).2.1 xk (U xS).2.2.2 6 _ rfl
  have u7:=zb (U xS).2.1 xk (U xS).2.2.2 7 _ rfl
  rw [Nat.zero_add] at u0 u1 u2 u3 u4 u5 u6 u7
  match i,Z with
  | 0,Z =>
   obtain rfl:=ya Z
   clear Q hD xk
   rw [if_pos (by rfl)];unfold Oper.wp;go_simp
   exact ⟨upd f 0 (.iface 118 (.agg #[H ii,H O])),by simp [upd],zf (U xv) (U HD) (by decide) rfl⟩
  | 1,Z =>
   obtain rfl:=ya Z
   have g:f 0 = .iface 118 (.agg #[H ii,H O]):=hD 0 (ye Q 0 rfl)
   have hm:∀ W:World,Sem.run Tryz.prog (method 322 118 (.agg #[H ii,H O]) "loop.example/g00092/impl.told") W = .ok (186,.agg #[H ii,H O]) W:=fun W=>by kernel_rfl
   clear Q hD xk
   rw [if_pos (by rfl)];unfold Oper.wp;go_simp
   refine (toldReduce_any ii O V).mono ?_
   rintro e w4 ⟨rfl,xC⟩
   exact ⟨upd f 1 (cmV ⟨3,0,0,0,O,ii,0,⟨#[]⟩⟩),by simp [upd,g]; rfl,bh (U xv) (U HD) xC (by decide) (fun j v h=>h) rfl⟩
  | 2,Z =>
   obtain rfl:=ya Z
   clear Q hD xk
   rw [if_pos (by rfl)];unfold Oper.wp;go_simp
   exact ⟨upd f 2 (.agg (yw 3 s ty li O ii pr L).toArray),by simp [upd],zf (U xv) (U HD) (by decide) rfl⟩
  | 3,Z =>
   obtain rfl:=ya Z
   have g1:f 1 = cmV ⟨3,0,0,0,O,ii,0,⟨#[]⟩⟩:=hD 1 (ye Q 1 rfl)
   have g2:f 2 = .agg (yw 3 s ty li O ii pr L).toArray:=hD 2 (ye Q 2 rfl)
   clear Q hD xk
   rw [if_pos (by rfl)];unfold Oper.wp;go_simp
   refine (dY ⟨3,0,0,0,O,ii,0,⟨#[]⟩⟩ ⟨3,s,ty,li,O,ii,pr,L⟩ V).mono ?_
   rw [U HSM]
   rintro e w4 ⟨rfl,xC⟩
   exact ⟨upd f 3 (.bool sm),by simp [upd,g1,g2],bh (U xv) (U HD) xC (by decide) (fun j v h=>h) rfl⟩
  | 4,Z =>
   obtain rfl:=ya Z
   have g:f 3 = .bool sm:=hD 3 (ye Q 3 rfl)
   clear Q hD xk
   rw [if_pos (by rfl)];unfold Oper.wp;go_simp
   exact ⟨upd f 4 (.bool (!sm)),by simp [upd,g],zf (U xv) (U HD) (by decide) rfl⟩
  | n + 5,Z=>simp at Z
theorem refusal_4 (next:Int) (vb:Value) (l:List Od) (s ty li O ii:Int) (pr:Nat) (L:ByteArray) (w:World) (hr:RdR Od.vs 6 w vb l) (hs:SlOk vb) (hg:GoodL l) (h0:0 ≤ next) (G:next ≤ 1000000) (ht:L.size ≤ maxLen) :
  Calls Tryz.prog 63 #[.agg #[H next,vb],.agg (yw 4 s ty li O ii pr L).toArray] w fun e w'=>e = ym (H (if aP ⟨4,0,0,0,0,0,0,⟨#[]⟩⟩ ⟨4,s,ty,li,O,ii,pr,L⟩ = true then 0 else 2))∧yn w w':=by
 have HR:=Y hr
 have HG:=Y hg
 have vP:=Y hs
 have uI:Hid (0 ≤ next∧next ≤ 1000000):=⟨h0,G⟩
 have qI:=Y ht
 obtain ⟨a,A,rfl,xE,hc⟩:=hr
 clear hc hg hs h0 G ht xE
 generalize hsm:aP ⟨4,0,0,0,0,0,0,⟨#[]⟩⟩ ⟨4,s,ty,li,O,ii,pr,L⟩ = sm
 have HSM:=Y hsm
 clear hsm
 have xA:=zh w (eF #[H next,.slice a l.length A] 28)
 have ua:((w.alloc (eF #[H next,.slice a l.length A] 28)).alloc (eF (yw 4 s ty li O ii pr L).toArray 43)).heap.size = w.heap.size + 1 + 1:=by rw [zh,xA]
 have r1:=zi w [H next,.slice a l.length A] 28
 have r2:=zi (w.alloc (eF #[H next,.slice a l.length A] 28)) (yw 4 s ty li O ii pr L) 43
 rw [xA] at r2
 have qw:Below (w.heap.size + 1) (w.alloc (eF #[H next,.slice a l.length A] 28)) ((w.alloc (eF #[H next,.slice a l.length A] 28)).alloc (eF (yw 4 s ty li O ii pr L).toArray 43)):=(Below.refl _ _).alloc (by rw [xA]; omega) _
 have xD:Hid (yn w ((w.alloc (eF #[H next,.slice a l.length A] 28)).alloc (eF (yw 4 s ty li O ii pr L).toArray 43))):=(eD _ _).alloc (by rw [xA]; omega) _
 have HX:Hid (_∧_):=⟨zb r1 qw (by omega),r2⟩
 have uw:Hid (w.heap.size < ((w.alloc (eF #[H next,.slice a l.length A] 28)).alloc (eF (yw 4 s ty li O ii pr L).toArray 43)).heap.size∧w.heap.size + 1 < ((w.alloc (eF #[H next,.slice a l.length A] 28)).alloc (eF (yw 4 s ty li O ii pr L).toArray 43)).heap.size):=⟨by omega,by omega⟩
 clear xA ua r1 r2 qw
 go_enter Tryz.func63,Tryz.ntmps63
 refine eH fun hj xu=>?_
 go_wp2_with fail
 refine U xu _ _ ?_
 clear xu
 generalize ((w.alloc (eF #[H next,.slice a l.length A] 28)).alloc (eF (yw 4 s ty li O ii pr L).toArray 43)) = X2 at xD HX uw ⊢
 have HX:Hid (X2.rangeAt w.heap.size 0 [H next,.slice a l.length A]∧X2.rangeAt (w.heap.size + 1) 0 (yw 4 s ty li O ii pr L)):=U HX
 obtain ⟨o0,o1,o2,o3,o4,o5,o6,o7⟩:=yD (U HX).2
 go_wp2_with fail
 refine (cG ⟨4,s,ty,li,O,ii,pr,L⟩ X2).mono ?_
 have jp:cmdI ⟨4,s,ty,li,O,ii,pr,L⟩ = .iface 121 (.agg #[]):=by simp [cmdI]
 rw [jp]
 clear jp
 rintro e w4 ⟨rfl,xC⟩
 have uo:=Y (D (U xD) xC)
 have xS:Hid (w4.rangeAt w.heap.size 0 [H next,.slice a l.length A]∧w4.rangeAt (w.heap.size + 1) 0 (yw 4 s ty li O ii pr L)∧w.heap.size < w4.heap.size∧w.heap.size + 1 < w4.heap.size):=⟨zb (U HX).1 xC (U uw).1,zb (U HX).2 xC (U uw).2,yJ (U uw).1 xC.size,yJ (U uw).2 xC.size⟩
 clear xC o0 o1 o2 o3 o4 o5 o6 o7
 go_wp2_with fail
 refine zj (RG w4 (fun f=>{ tmps:=#[.agg #[H next,.slice a l.length A],.agg (yw 4 s ty li O ii pr L).toArray,yp w 0,I (w.heap.size + 1) 0,H 0,.iface 121 (.agg #[]),M,M,M,.agg (yw 4 s ty li O ii pr L).toArray,.iface 121 (.agg #[]),.iface 121 (.agg #[]),.bool false,f 0,f 1,f 2,f 3,f 4,M,M,M,M,M,M,M,M,M,M,M,M,M,M,M,M,M,M,M,M],defers:=[] }) 99 (DK (.iface 121 (.agg #[])) (cmV ⟨4,0,0,0,0,0,0,⟨#[]⟩⟩) (.agg (yw 4 s ty li O ii pr L).toArray) sm)) (by kernel_rfl) ?_ ?_ ?_
 ·exact ⟨fun _=>M,rfl,⟨rfl,rfl,rfl,Nat.le_refl _,fun _ _=>rfl⟩,fun j K=>by rw [yI] at K; split at K <;> simp at K⟩
 ·rintro x xm V ⟨f,rfl,xk,hD⟩ hx xP
  have xp:=zR xP hx (by kernel_rfl)
  have e4:f 4 = .bool (!sm):=hD 4 (xp 4 (by simp))
  have xv:=Y (D (U uo) xk)
  have z0:=zb (U xS).1 xk (U xS).2.2.1 0 _ rfl
  have z1:=zb (U xS).1 xk (U xS).2.2.1 1 _ rfl
  rw [Nat.zero_add] at z0 z1
  have ta1:∀ W:World,Sem.run Tryz.prog (Instr.typeAssert (.iface 121 (.agg #[])) 109 112 true) W = .ok (.tuple #[.agg #[H 0,H 0,H 0,H 0,yj 0,yk ⟨#[]⟩],.bool false]) W:=fun W=>by kernel_rfl
  have ta2:∀ W:World,Sem.run Tryz.prog (Instr.typeAssert (.iface 121 (.agg #[])) 109 115 true) W = .ok (.tuple #[.agg #[H 0],.bool false]) W:=fun W=>by kernel_rfl
  have ta3:∀ W:World,Sem.run Tryz.prog (Instr.typeAssert (.iface 121 (.agg #[])) 109 118 true) W = .ok (.tuple #[.agg #[H 0,H 0],.bool false]) W:=fun W=>by kernel_rfl
  simp only [e4]
  generalize f 0 = e0,f 1 = e1,f 2 = e2,f 3 = e3
  clear hD xp e4 xP hx xk f x
  cases sm
  ·go_wp2_with fail
   go_ret
   exact ⟨rfl,U xv⟩
  ·go_wp2_with fail
   go_ret
   exact ⟨rfl,U xv⟩
 ·rintro x xm V i op ⟨f,rfl,xk,hD⟩ xo hx Z xy Q
  clear xo
  have xv:=Y xk
  have HD:=Y hD
  have u0:=zb (U xS).2.1 xk (U xS).2.2.2 0 _ rfl
  have u1:=zb (U xS).2.1 xk (U xS).2.2.2 1 _ rfl
  have u2:=zb (U xS).2.1 xk (U xS).2.2.2 2 _ rfl
  have u3:=zb (U xS).2.1 xk (U xS).2.2.2 3 _ rfl
  have u4:=zb (U xS).2.1 xk (U xS).2.2.2 4 _ rfl
  have u5:=zb (U xS).2.1 xk (U xS).2.2.2 5 _ rfl
  have u6:=zb (U xS).2.1 xk (U xS).2.2.2 6 _ rfl
  have u7:=zb (U xS).2.1 xk (U xS).2.2.2 7 _ rfl
  rw [Nat.zero_add] at u0 u1 u2 u3 u4 u5 u6 u7
  match i,Z with
  | 0,Z =>
   obtain rfl:=ya Z
   clear Q hD xk
   rw [if_pos (by rfl)];unfold Oper.wp;go_simp
   exact ⟨upd f 0 (.iface 121 (.agg #[])),by simp [upd],zf (U xv) (U HD) (by decide) rfl⟩
  | 1,Z =>
   obtain rfl:=ya Z
   have g:f 0 = .iface 121 (.agg #[]):=hD 0 (ye Q 0 rfl)
   have hm:∀ W:World,Sem.run Tryz.prog (method 322 121 (.agg #[]) "loop.example/g00092/impl.told") W = .ok (187,.agg #[]) W:=fun W=>by kernel_rfl
   clear Q hD xk
   rw [if_pos (by rfl)];unfold Oper.wp;go_simp
   refine (toldDay_any V).mono ?_
   rintro e w4 ⟨rfl,xC⟩
   exact ⟨upd f 1 (cmV ⟨4,0,0,0,0,0,0,⟨#[]⟩⟩),by simp [upd,g]; rfl,bh (U xv) (U HD) xC (by decide) (fun j v h=>h) rfl⟩
  | 2,Z =>
   obtain rfl:=ya Z
   clear Q hD xk
   rw [if_pos (by rfl)];unfold Oper.wp;go_simp
   exact ⟨upd f 2 (.agg (yw 4 s ty li O ii pr L).toArray),by simp [upd],zf (U xv) (U HD) (by decide) rfl⟩
  | 3,Z =>
   obtain rfl:=ya Z
   have g1:f 1 = cmV ⟨4,0,0,0,0,0,0,⟨#[]⟩⟩:=hD 1 (ye Q 1 rfl)
   have g2:f 2 = .agg (yw 4 s ty li O ii pr L).toArray:=hD 2 (ye Q 2 rfl)
   clear Q hD xk
   rw [if_pos (by rfl)];unfold Oper.wp;go_simp
   refine (dY ⟨4,0,0,0,0,0,0,⟨#[]⟩⟩ ⟨4,s,ty,li,O,ii,pr,L⟩ V).mono ?_
   rw [U HSM]
   rintro e w4 ⟨rfl,xC⟩
   exact ⟨upd f 3 (.bool sm),by simp [upd,g1,g2],bh (U xv) (U HD) xC (by decide) (fun j v h=>h) rfl⟩
  | 4,Z =>
   obtain rfl:=ya Z
   have g:f 3 = .bool sm:=hD 3 (ye Q 3 rfl)
   clear Q hD xk
   rw [if_pos (by rfl)];unfold Oper.wp;go_simp
   exact ⟨upd f 4 (.bool (!sm)),by simp [upd,g],zf (U xv) (U HD) (by decide) rfl⟩
  | n + 5,Z=>simp at Z
def refR (next:Int) (l:List Od) (c:Cm):Int :=
 if c.k = 1 then (if aP ⟨1,c.s,c.t,c.l,c.q,0,c.p,c.g⟩ c = true then newR next l c else 2)
 else if c.k = 2 then (if aP ⟨2,0,0,0,0,c.i,0,⟨#[]⟩⟩ c = true then idR l c.i else 2)
 else if c.k = 3 then (if aP ⟨3,0,0,0,c.q,c.i,0,⟨#[]⟩⟩ c = true then redR l c.i c.q else 2)
 else if c.k = 4 then (if aP ⟨4,0,0,0,0,0,0,⟨#[]⟩⟩ c = true then 0 else 2)
 else 1
theorem refusal_any (next:Int) (vb:Value) (l:List Od) (c:Cm) (w:World) (hr:RdR Od.vs 6 w vb l) (hs:SlOk vb) (hg:GoodL l) (h0:0 ≤ next) (G:next ≤ 1000000) (ht:c.g.size ≤ maxLen) :
  Calls Tryz.prog 63 #[.agg #[H next,vb],cmV c] w fun e w'=>e = ym (H (refR next l c))∧yn w w':=by
 obtain ⟨kk,s,ty,li,O,ii,pr,L⟩:=c
 unfold cmV
 simp only at ht ⊢
 by_cases e1:kk = 1
 ·subst e1; exact refusal_1 next vb l s ty li O ii pr L w hr hs hg h0 G ht
 by_cases e2:kk = 2
 ·subst e2; exact refusal_2 next vb l s ty li O ii pr L w hr hs hg h0 G ht
 by_cases e3:kk = 3
 ·subst e3; exact refusal_3 next vb l s ty li O ii pr L w hr hs hg h0 G ht
 by_cases e4:kk = 4
 ·subst e4; exact refusal_4 next vb l s ty li O ii pr L w hr hs hg h0 G ht
 have vJ:Hid (refR next l ⟨kk,s,ty,li,O,ii,pr,L⟩ = 1):=by show _ = _; simp [refR,e1,e2,e3,e4]
 have jp:cmdI ⟨kk,s,ty,li,O,ii,pr,L⟩ = .nilIface:=by simp [cmdI,e1,e2,e3,e4]
 obtain ⟨a,A,rfl,xE,hc⟩:=hr
 clear hc hg hs h0 G ht xE e1 e2 e3 e4
 have xA:=zh w (eF #[H next,.slice a l.length A] 28)
 have ua:((w.alloc (eF #[H next,.slice a l.length A] 28)).alloc (eF (yw kk s ty li O ii pr L).toArray 43)).heap.size = w.heap.size + 1 + 1:=by rw [zh,xA]
 have r1:=zi w [H next,.slice a l.length A] 28
 have r2:=zi (w.alloc (eF #[H next,.slice a l.length A] 28)) (yw kk s ty li O ii pr L) 43
 rw [xA] at r2
 have qw:Below (w.heap.size + 1) (w.alloc (eF #[H next,.slice a l.length A] 28)) ((w.alloc (eF #[H next,.slice a l.length A] 28)).alloc (eF (yw kk s ty li O ii pr L).toArray 43)):=(Below.refl _ _).alloc (by rw [xA]; omega) _
 have xD:Hid (yn w ((w.alloc (eF #[H next,.slice a l.length A] 28)).alloc (eF (yw kk s ty li O ii pr L).toArray 43))):=(eD _ _).alloc (by rw [xA]; omega) _
 have HX:Hid (_∧_):=⟨zb r1 qw (by omega),r2⟩
 have uw:Hid (w.heap.size < ((w.alloc (eF #[H next,.slice a l.length A] 28)).alloc (eF (yw kk s ty li O ii pr L).toArray 43)).heap.size∧w.heap.size + 1 < ((w.alloc (eF #[H next,.slice a l.length A] 28)).alloc (eF (yw kk s ty li O ii pr L).toArray 43)).heap.size):=⟨by omega,by omega⟩
 clear xA ua r1 r2 qw
 go_enter Tryz.func63,Tryz.ntmps63
 refine eH fun hj xu=>?_
 go_wp2_with fail
 refine U xu _ _ ?_
 clear xu
 generalize ((w.alloc (eF #[H next,.slice a l.length A] 28)).alloc (eF (yw kk s ty li O ii pr L).toArray 43)) = X2 at xD HX uw ⊢
 have HX:Hid (X2.rangeAt w.heap.size 0 [H next,.slice a l.length A]∧X2.rangeAt (w.heap.size + 1) 0 (yw kk s ty li O ii pr L)) :=U HX
 have k0:X2.cell? (yq w 0) = some (H next):=(U HX).1 0 _ rfl
 have k1:X2.cell? (yq w 1) = some (.slice a l.length A):=(U HX).1 1 _ rfl
 obtain ⟨o0,o1,o2,o3,o4,o5,o6,o7⟩:=yD (U HX).2
 go_wp2_with fail
 refine (cG ⟨kk,s,ty,li,O,ii,pr,L⟩ X2).mono ?_
 rw [jp]
 clear jp
 rintro e w4 ⟨rfl,xC⟩
 have uo:=Y (D (U xD) xC)
 clear xC
 go_wp2_with fail
 go_ret
 exact ⟨zr (U vJ).symm,U uo⟩
end Go.Proofs.YtbakanofkghmiaaGreat
