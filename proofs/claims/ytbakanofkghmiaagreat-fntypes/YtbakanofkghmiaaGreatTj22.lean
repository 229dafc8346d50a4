/-
  The reason why a command is refused, by the program: proved by walking the function, kind by kind.
-/
import Derived.Test.YtbakanofkghmiaaGreatTj21
set_option linter.unusedVariables false
set_option maxHeartbeats 6400000
set_option maxRecDepth 100000
namespace Go.Proofs.YtbakanofkghmiaaGreat
open Go.RowKit
def DK (iv tv cv:Value) (sm:Bool) (p:Prop) (V:World):Nat→Value→Prop
 | 0,v=>v = iv
 | 1,v=>v = tv
 | 2,v=>v = cv
 | 3,v=>v = .bool sm
 | 4,v=>v = .bool (!sm)
 | _,_=>True
theorem refusal_1 (next:Int) (vb:Value) (l:List Od) (s ty li O ii:Int) (pr:Nat) (K:ByteArray) (w:World) (hr:RdR Od.vs 6 w vb l) (hs:SlOk vb) (hg:GoodL l) (h0:0 ≤ next) (Q:next ≤ 1000000) (ht:K.size ≤ maxLen) :
  Calls Tryz.prog 63 #[.agg #[H next,vb],.agg (yv 1 s ty li O ii pr K).toArray] w fun e w'=>e = yl (H (if pR ⟨1,s,ty,li,O,0,pr,K⟩ ⟨1,s,ty,li,O,ii,pr,K⟩ = true then newR next l ⟨1,s,ty,li,O,ii,pr,K⟩ else 2))∧ym w w':=by
 have HR:=Y hr
 have HG:=Y hg
 have vH:=Y hs
 have uB:Hid (0 ≤ next∧next ≤ 1000000):=⟨h0,Q⟩
 have qF:=Y ht
 obtain ⟨a,E,rfl,xB,hc⟩:=hr
 clear hc hg hs h0 Q ht xB
 generalize hsm:pR ⟨1,s,ty,li,O,0,pr,K⟩ ⟨1,s,ty,li,O,ii,pr,K⟩ = sm
 have HSM:=Y hsm
 clear hsm
 have xy:=zf w (D #[H next,.slice a l.length E] 28)
 have xY:((w.alloc (D #[H next,.slice a l.length E] 28)).alloc (D (yv 1 s ty li O ii pr K).toArray 43)).heap.size = w.heap.size + 1 + 1:=by rw [zf,xy]
 have r1:=zg w [H next,.slice a l.length E] 28
 have r2:=zg (w.alloc (D #[H next,.slice a l.length E] 28)) (yv 1 s ty li O ii pr K) 43
 rw [xy] at r2
 have qg:Below (w.heap.size + 1) (w.alloc (D #[H next,.slice a l.length E] 28)) ((w.alloc (D #[H next,.slice a l.length E] 28)).alloc (D (yv 1 s ty li O ii pr K).toArray 43)):=(Below.refl _ _).alloc (by rw [xy]; omega) _
 have xC:Hid (ym w ((w.alloc (D #[H next,.slice a l.length E] 28)).alloc (D (yv 1 s ty li O ii pr K).toArray 43))):=(dm _ _).alloc (by rw [xy]; omega) _
 have HX:Hid (_∧_):=⟨zb r1 qg (by omega),r2⟩
 have ur:Hid (w.heap.size < ((w.alloc (D #[H next,.slice a l.length E] 28)).alloc (D (yv 1 s ty li O ii pr K).toArray 43)).heap.size∧w.heap.size + 1 < ((w.alloc (D #[H next,.slice a l.length E] 28)).alloc (D (yv 1 s ty li O ii pr K).toArray 43)).heap.size):=⟨by omega,by omega⟩
 clear xy xY r1 r2 qg
 go_enter Tryz.func63,Tryz.ntmps63
 refine ds fun tg xq=>?_
 go_wp2_with fail
 refine U xq _ _ ?_
 clear xq
 generalize ((w.alloc (D #[H next,.slice a l.length E] 28)).alloc (D (yv 1 s ty li O ii pr K).toArray 43)) = X2 at xC HX ur ⊢
 have HX:Hid (X2.rangeAt w.heap.size 0 [H next,.slice a l.length E]∧X2.rangeAt (w.heap.size + 1) 0 (yv 1 s ty li O ii pr K)):=U HX
 obtain ⟨o0,o1,o2,o3,o4,o5,o6,o7⟩:=yB (U HX).2
 go_wp2_with fail
 refine (aZ ⟨1,s,ty,li,O,ii,pr,K⟩ X2).mono ?_
 have jc:cmdI ⟨1,s,ty,li,O,ii,pr,K⟩ = .iface 112 (.agg #[H s,H ty,H li,H O,yi pr,yj K]):=by simp [cmdI,noV]
 rw [jc]
 clear jc
 rintro e w4 ⟨rfl,xz⟩
 have uk:=Y (dq (U xC) xz)
 have xP:Hid (w4.rangeAt w.heap.size 0 [H next,.slice a l.length E]∧w4.rangeAt (w.heap.size + 1) 0 (yv 1 s ty li O ii pr K)∧w.heap.size < w4.heap.size∧w.heap.size + 1 < w4.heap.size):=⟨zb (U HX).1 xz (U ur).1,zb (U HX).2 xz (U ur).2,yH (U ur).1 xz.size,yH (U ur).2 xz.size⟩
 clear xz o0 o1 o2 o3 o4 o5 o6 o7
 go_wp2_with fail
 refine zh (RG w4 (fun f=>{ tmps:=#[.agg #[H next,.slice a l.length E],.agg (yv 1 s ty li O ii pr K).toArray,yn w 0,I (w.heap.size + 1) 0,H 0,.iface 112 (.agg #[H s,H ty,H li,H O,yi pr,yj K]),M,M,M,.agg (yv 1 s ty li O ii pr K).toArray,.iface 112 (.agg #[H s,H ty,H li,H O,yi pr,yj K]),.iface 112 (.agg #[H s,H ty,H li,H O,yi pr,yj K]),.bool false,f 0,f 1,f 2,f 3,f 4,M,M,M,M,M,M,M,M,M,M,M,M,M,M,M,M,M,M,M,M],defers:=[] }) 99 (DK (.iface 112 (.agg #[H s,H ty,H li,H O,yi pr,yj K])) (cmV ⟨1,s,ty,li,O,0,pr,K⟩) (.agg (yv 1 s ty li O ii pr K).toArray) sm)) (by kernel_rfl) ?_ ?_ ?_
 ·exact ⟨fun _=>M,rfl,⟨rfl,rfl,rfl,Nat.le_refl _,fun _ _=>rfl⟩,fun j R=>by rw [yG] at R; split at R <;> simp at R⟩
 ·rintro x hR V ⟨f,rfl,xh,X⟩ hx xM
  have xn:=zO xM hx (by kernel_rfl)
  have e4:f 4 = .bool (!sm):=X 4 (xn 4 (by simp))
  have xr:=Y (dq (U uk) xh)
  have z0:=zb (U xP).1 xh (U xP).2.2.1 0 _ rfl
  have z1:=zb (U xP).1 xh (U xP).2.2.1 1 _ rfl
  rw [Nat.zero_add] at z0 z1
  have ta1:∀ W:World,Sem.run Tryz.prog (Instr.typeAssert (.iface 112 (.agg #[H s,H ty,H li,H O,yi pr,yj K])) 109 112 true) W = .ok (.tuple #[.agg #[H s,H ty,H li,H O,yi pr,yj K],.bool true]) W:=fun W=>by kernel_rfl
  simp only [e4]
  generalize f 0 = e0,f 1 = e1,f 2 = e2,f 3 = e3
  clear X xn e4 xM hx xh f x
  cases sm
  ·go_wp2_with fail
   go_ret
   exact ⟨rfl,U xr⟩
  ·have xH:w.heap.size < V.heap.size:=yI V (yp w 0) z0
   have y0:World.cell? (V.alloc (D #[H s,H ty,H li,H O,yi pr,yj K] 112)) (yp w 0) = some (H next):=(yT _ _ _ xH).trans z0
   have y1:World.cell? (V.alloc (D #[H s,H ty,H li,H O,yi pr,yj K] 112)) (yp w 1) = some (.slice a l.length E):=(yT _ _ _ xH).trans z1
   have qB:Hid (ym w (V.alloc (D #[H s,H ty,H li,H O,yi pr,yj K] 112))):=(U xr).alloc (U xr).size _
   clear z0 z1 xH
   have hsf:=sfl
   go_wp2_with fail
   refine (newRefusal_any next _ l ⟨1,s,ty,li,O,ii,pr,K⟩ _ (zl (U HR) (U qB) qt) (U vH) (U HG) (U uB).1 (U uB).2 (U qF)).mono ?_
   rintro e w7 ⟨rfl,jb⟩
   have kw:=Y (dq (U qB) jb)
   clear jb
   go_wp2_with fail
   go_ret
   exact ⟨rfl,U kw⟩
 ·rintro x hR V i op ⟨f,rfl,xh,X⟩ L hx Z xu G
  clear L
  have xr:=Y xh
  have HD:=Y X
  have u0:=zb (U xP).2.1 xh (U xP).2.2.2 0 _ rfl
  have u1:=zb (U xP).2.1 xh (U xP).2.2.2 1 _ rfl
  have u2:=zb (U xP).2.1 xh (U xP).2.2.2 2 _ rfl
  have u3:=zb (U xP).2.1 xh (U xP).2.2.2 3 _ rfl
  have u4:=zb (U xP).2.1 xh (U xP).2.2.2 4 _ rfl
  have u5:=zb (U xP).2.1 xh (U xP).2.2.2 5 _ rfl
  have u6:=zb (U xP).2.1 xh (U xP).2.2.2 6 _ rfl
  have u7:=zb (U xP).2.1 xh (U xP).2.2.2 7 _ rfl
  rw [Nat.zero_add] at u0 u1 u2 u3 u4 u5 u6 u7
  match i,Z with
  | 0,Z =>
   obtain rfl:=ya Z
   clear G X xh
   rw [if_pos (by rfl)];unfold Oper.wp;go_simp
   exact ⟨upd f 0 (.iface 112 (.agg #[H s,H ty,H li,H O,yi pr,yj K])),by simp [upd],zd (U xr) (U HD) (by decide) rfl⟩
  | 1,Z =>
   obtain rfl:=ya Z
   have g:f 0 = .iface 112 (.agg #[H s,H ty,H li,H O,yi pr,yj K]):=X 0 (yd G 0 rfl)
   have hm:∀ W:World,Sem.run Tryz.prog (method 322 112 (.agg #[H s,H ty,H li,H O,yi pr,yj K]) "loop.example/g00092/impl.told") W = .ok (113,.agg #[H s,H ty,H li,H O,yi pr,yj K]) W:=fun W=>by kernel_rfl
   clear G X xh
   rw [if_pos (by rfl)];unfold Oper.wp;go_simp
   refine (toldNew_any ⟨1,s,ty,li,O,ii,pr,K⟩ V).mono ?_
   rintro e w4 ⟨rfl,xz⟩
   exact ⟨upd f 1 (cmV ⟨1,s,ty,li,O,0,pr,K⟩),by simp [upd,g]; rfl,ai (U xr) (U HD) xz (by decide) (fun j v h=>h) rfl⟩
  | 2,Z =>
   obtain rfl:=ya Z
   clear G X xh
   rw [if_pos (by rfl)];unfold Oper.wp;go_simp
   exact ⟨upd f 2 (.agg (yv 1 s ty li O ii pr K).toArray),by simp [upd],zd (U xr) (U HD) (by decide) rfl⟩
  | 3,Z =>
   obtain rfl:=ya Z
   have g1:f 1 = cmV ⟨1,s,ty,li,O,0,pr,K⟩:=X 1 (yd G 1 rfl)
   have g2:f 2 = .agg (yv 1 s ty li O ii pr K).toArray:=X 2 (yd G 2 rfl)
   clear G X xh
   rw [if_pos (by rfl)];unfold Oper.wp;go_simp
   refine (cT ⟨1,s,ty,li,O,0,pr,K⟩ ⟨1,s,ty,li,O,ii,pr,K⟩ V).mono ?_
   rw [U HSM]
   rintro e w4 ⟨rfl,xz⟩
   exact ⟨upd f 3 (.bool sm),by simp [upd,g1,g2],ai (U xr) (U HD) xz (by decide) (fun j v h=>h) rfl⟩
  | 4,Z =>
   obtain rfl:=ya Z
   have g:f 3 = .bool sm:=X 3 (yd G 3 rfl)
   clear G X xh
   rw [if_pos (by rfl)];unfold Oper.wp;go_simp
   exact ⟨upd f 4 (.bool (!sm)),by simp [upd,g],zd (U xr) (U HD) (by decide) rfl⟩
  | n + 5,Z=>simp at Z
theorem refusal_2 (next:Int) (vb:Value) (l:List Od) (s ty li O ii:Int) (pr:Nat) (K:ByteArray) (w:World) (hr:RdR Od.vs 6 w vb l) (hs:SlOk vb) (hg:GoodL l) (h0:0 ≤ next) (Q:next ≤ 1000000) (ht:K.size ≤ maxLen) :
  Calls Tryz.prog 63 #[.agg #[H next,vb],.agg (yv 2 s ty li O ii pr K).toArray] w fun e w'=>e = yl (H (if pR ⟨2,0,0,0,0,ii,0,⟨#[]⟩⟩ ⟨2,s,ty,li,O,ii,pr,K⟩ = true then idR l ii else 2))∧ym w w':=by
 have HR:=Y hr
 have HG:=Y hg
 have vH:=Y hs
 have uB:Hid (0 ≤ next∧next ≤ 1000000):=⟨h0,Q⟩
 have qF:=Y ht
 obtain ⟨a,E,rfl,xB,hc⟩:=hr
 clear hc hg hs h0 Q ht xB
 generalize hsm:pR ⟨2,0,0,0,0,ii,0,⟨#[]⟩⟩ ⟨2,s,ty,li,O,ii,pr,K⟩ = sm
 have HSM:=Y hsm
 clear hsm
 have xy:=zf w (D #[H next,.slice a l.length E] 28)
 have xY:((w.alloc (D #[H next,.slice a l.length E] 28)).alloc (D (yv 2 s ty li O ii pr K).toArray 43)).heap.size = w.heap.size + 1 + 1:=by rw [zf,xy]
 have r1:=zg w [H next,.slice a l.length E] 28
 have r2:=zg (w.alloc (D #[H next,.slice a l.length E] 28)) (yv 2 s ty li O ii pr K) 43
 rw [xy] at r2
 have qg:Below (w.heap.size + 1) (w.alloc (D #[H next,.slice a l.length E] 28)) ((w.alloc (D #[H next,.slice a l.length E] 28)).alloc (D (yv 2 s ty li O ii pr K).toArray 43)):=(Below.refl _ _).alloc (by rw [xy]; omega) _
 have xC:Hid (ym w ((w.alloc (D #[H next,.slice a l.length E] 28)).alloc (D (yv 2 s ty li O ii pr K).toArray 43))):=(dm _ _).alloc (by rw [xy]; omega) _
 have HX:Hid (_∧_):=⟨zb r1 qg (by omega),r2⟩
 have ur:Hid (w.heap.size < ((w.alloc (D #[H next,.slice a l.length E] 28)).alloc (D (yv 2 s ty li O ii pr K).toArray 43)).heap.size∧w.heap.size + 1 < ((w.alloc (D #[H next,.slice a l.length E] 28)).alloc (D (yv 2 s ty li O ii pr K).toArray 43)).heap.size):=⟨by omega,by omega⟩
 clear xy xY r1 r2 qg
 go_enter Tryz.func63,Tryz.ntmps63
 refine ds fun tg xq=>?_
 go_wp2_with fail
 refine U xq _ _ ?_
 clear xq
 generalize ((w.alloc (D #[H next,.slice a l.length E] 28)).alloc (D (yv 2 s ty li O ii pr K).toArray 43)) = X2 at xC HX ur ⊢
 have HX:Hid (X2.rangeAt w.heap.size 0 [H next,.slice a l.length E]∧X2.rangeAt (w.heap.size + 1) 0 (yv 2 s ty li O ii pr K)):=U HX
 obtain ⟨o0,o1,o2,o3,o4,o5,o6,o7⟩:=yB (U HX).2
 go_wp2_with fail
 refine (aZ ⟨2,s,ty,li,O,ii,pr,K⟩ X2).mono ?_
 have jc:cmdI ⟨2,s,ty,li,O,ii,pr,K⟩ = .iface 115 (.agg #[H ii]):=by simp [cmdI]
 rw [jc]
 clear jc
 rintro e w4 ⟨rfl,xz⟩
 have uk:=Y (dq (U xC) xz)
 have xP:Hid (w4.rangeAt w.heap.size 0 [H next,.slice a l.length E]∧w4.rangeAt (w.heap.size + 1) 0 (yv 2 s ty li O ii pr K)∧w.heap.size < w4.heap.size∧w.heap.size + 1 < w4.heap.size):=⟨zb (U HX).1 xz (U ur).1,zb (U HX).2 xz (U ur).2,yH (U ur).1 xz.size,yH (U ur).2 xz.size⟩
 clear xz o0 o1 o2 o3 o4 o5 o6 o7
 go_wp2_with fail
 refine zh (RG w4 (fun f=>{ tmps:=#[.agg #[H next,.slice a l.length E],.agg (yv 2 s ty li O ii pr K).toArray,yn w 0,I (w.heap.size + 1) 0,H 0,.iface 115 (.agg #[H ii]),M,M,M,.agg (yv 2 s ty li O ii pr K).toArray,.iface 115 (.agg #[H ii]),.iface 115 (.agg #[H ii]),.bool false,f 0,f 1,f 2,f 3,f 4,M,M,M,M,M,M,M,M,M,M,M,M,M,M,M,M,M,M,M,M],defers:=[] }) 99 (DK (.iface 115 (.agg #[H ii])) (cmV ⟨2,0,0,0,0,ii,0,⟨#[]⟩⟩) (.agg (yv 2 s ty li O ii pr K).toArray) sm)) (by kernel_rfl) ?_ ?_ ?_
 ·exact ⟨fun _=>M,rfl,⟨rfl,rfl,rfl,Nat.le_refl _,fun _ _=>rfl⟩,fun j R=>by rw [yG] at R; split at R <;> simp at R⟩
 ·rintro x hR V ⟨f,rfl,xh,X⟩ hx xM
  have xn:=zO xM hx (by kernel_rfl)
  have e4:f 4 = .bool (!sm):=X 4 (xn 4 (by simp))
  have xr:=Y (dq (U uk) xh)
  have z0:=zb (U xP).1 xh (U xP).2.2.1 0 _ rfl
  have z1:=zb (U xP).1 xh (U xP).2.2.1 1 _ rfl
  rw [Nat.zero_add] at z0 z1
  have ta1:∀ W:World,Sem.run Tryz.prog (Instr.typeAssert (.iface 115 (.agg #[H ii])) 109 112 true) W = .ok (.tuple #[.agg #[H 0,H 0,H 0,H 0,yi 0,yj ⟨#[]⟩],.bool false]) W:=fun W=>by kernel_rfl
  have ta2:∀ W:World,Sem.run Tryz.prog (Instr.typeAssert (.iface 115 (.agg #[H ii])) 109 115 true) W = .ok (.tuple #[.agg #[H ii],.bool true]) W:=fun W=>by kernel_rfl
  simp only [e4]
  generalize f 0 = e0,f 1 = e1,f 2 = e2,f 3 = e3
  clear X xn e4 xM hx xh f x
  cases sm
  ·go_wp2_with fail
   go_ret
   exact ⟨rfl,U xr⟩
  ·have xH:w.heap.size < V.heap.size:=yI V (yp w 0) z0
   have y0:World.cell? (V.alloc (D #[H ii] 115)) (yp w 0) = some (H next):=(yT _ _ _ xH).trans z0
   have y1:World.cell? (V.alloc (D #[H ii] 115)) (yp w 1) = some (.slice a l.length E):=(yT _ _ _ xH).trans z1
   have qB:Hid (ym w (V.alloc (D #[H ii] 115))):=(U xr).alloc (U xr).size _
   clear z0 z1 xH
   go_wp2_with fail
   refine (idRefusal_any next _ l ii _ (zl (U HR) (U qB) qt)).mono ?_
   rintro e w7 ⟨rfl,jb⟩
   have kw:=Y (dq (U qB) jb)
   clear jb
   go_wp2_with fail
   go_ret
   exact ⟨rfl,U kw⟩
 ·rintro x hR V i op ⟨f,rfl,xh,X⟩ L hx Z xu G
  clear L
  have xr:=Y xh
  have HD:=Y X
  have u0:=zb (U xP).2.1 xh (U xP).2.2.2 0 _ rfl
  have u1:=zb (U xP).2.1 xh (U xP).2.2.2 1 _ rfl
  have u2:=zb (U xP).2.1 xh (U xP).2.2.2 2 _ rfl
  have u3:=zb (U xP).2.1 xh (U xP).2.2.2 3 _ rfl
  have u4:=zb (U xP).2.1 xh (U xP).2.2.2 4 _ rfl
  have u5:=zb (U xP).2.1 xh (U xP).2.2.2 5 _ rfl
  have u6:=zb (U xP).2.1 xh (U xP).2.2.2 6 _ rfl
  have u7:=zb (U xP).2.1 xh (U xP).2.2.2 7 _ rfl
  rw [Nat.zero_add] at u0 u1 u2 u3 u4 u5 u6 u7
  match i,Z with
  | 0,Z =>
   obtain rfl:=ya Z
   clear G X xh
   rw [if_pos (by rfl)];unfold Oper.wp;go_simp
   exact ⟨upd f 0 (.iface 115 (.agg #[H ii])),by simp [upd],zd (U xr) (U HD) (by decide) rfl⟩
  | 1,Z =>
   obtain rfl:=ya Z
   have g:f 0 = .iface 115 (.agg #[H ii]):=X 0 (yd G 0 rfl)
   have hm:∀ W:World,Sem.run Tryz.prog (method 322 115 (.agg #[H ii]) "loop.example/g00092/impl.told") W = .ok (185,.agg #[H ii]) W:=fun W=>by kernel_rfl
   clear G X xh
   rw [if_pos (by rfl)];unfold Oper.wp;go_simp
   refine (toldCancel_any ii V).mono ?_
   rintro e w4 ⟨rfl,xz⟩
   exact ⟨upd f 1 (cmV ⟨2,0,0,0,0,ii,0,⟨#[]⟩⟩),by simp [upd,g]; rfl,ai (U xr) (U HD) xz (by decide) (fun j v h=>h) rfl⟩
  | 2,Z =>
   obtain rfl:=ya Z
   clear G X xh
   rw [if_pos (by rfl)];unfold Oper.wp;go_simp
   exact ⟨upd f 2 (.agg (yv 2 s ty li O ii pr K).toArray),by simp [upd],zd (U xr) (U HD) (by decide) rfl⟩
  | 3,Z =>
   obtain rfl:=ya Z
   have g1:f 1 = cmV ⟨2,0,0,0,0,ii,0,⟨#[]⟩⟩:=X 1 (yd G 1 rfl)
   have g2:f 2 = .agg (yv 2 s ty li O ii pr K).toArray:=X 2 (yd G 2 rfl)
   clear G X xh
   rw [if_pos (by rfl)];unfold Oper.wp;go_simp
   refine (cT ⟨2,0,0,0,0,ii,0,⟨#[]⟩⟩ ⟨2,s,ty,li,O,ii,pr,K⟩ V).mono ?_
   rw [U HSM]
   rintro e w4 ⟨rfl,xz⟩
   exact ⟨upd f 3 (.bool sm),by simp [upd,g1,g2],ai (U xr) (U HD) xz (by decide) (fun j v h=>h) rfl⟩
  | 4,Z =>
   obtain rfl:=ya Z
   have g:f 3 = .bool sm:=X 3 (yd G 3 rfl)
   clear G X xh
   rw [if_pos (by rfl)];unfold Oper.wp;go_simp
   exact ⟨upd f 4 (.bool (!sm)),by simp [upd,g],zd (U xr) (U HD) (by decide) rfl⟩
  | n + 5,Z=>simp at Z
theorem refusal_3 (next:Int) (vb:Value) (l:List Od) (s ty li O ii:Int) (pr:Nat) (K:ByteArray) (w:World) (hr:RdR Od.vs 6 w vb l) (hs:SlOk vb) (hg:GoodL l) (h0:0 ≤ next) (Q:next ≤ 1000000) (ht:K.size ≤ maxLen) :
  Calls Tryz.prog 63 #[.agg #[H next,vb],.agg (yv 3 s ty li O ii pr K).toArray] w fun e w'=>e = yl (H (if pR ⟨3,0,0,0,O,ii,0,⟨#[]⟩⟩ ⟨3,s,ty,li,O,ii,pr,K⟩ = true then redR l ii O else 2))∧ym w w':=by
 have HR:=Y hr
 have HG:=Y hg
 have vH:=Y hs
 have uB:Hid (0 ≤ next∧next ≤ 1000000):=⟨h0,Q⟩
 have qF:=Y ht
 obtain ⟨a,E,rfl,xB,hc⟩:=hr
 clear hc hg hs h0 Q ht xB
 generalize hsm:pR ⟨3,0,0,0,O,ii,0,⟨#[]⟩⟩ ⟨3,s,ty,li,O,ii,pr,K⟩ = sm
 have HSM:=Y hsm
 clear hsm
 have xy:=zf w (D #[H next,.slice a l.length E] 28)
 have xY:((w.alloc (D #[H next,.slice a l.length E] 28)).alloc (D (yv 3 s ty li O ii pr K).toArray 43)).heap.size = w.heap.size + 1 + 1:=by rw [zf,xy]
 have r1:=zg w [H next,.slice a l.length E] 28
 have r2:=zg (w.alloc (D #[H next,.slice a l.length E] 28)) (yv 3 s ty li O ii pr K) 43
 rw [xy] at r2
 have qg:Below (w.heap.size + 1) (w.alloc (D #[H next,.slice a l.length E] 28)) ((w.alloc (D #[H next,.slice a l.length E] 28)).alloc (D (yv 3 s ty li O ii pr K).toArray 43)):=(Below.refl _ _).alloc (by rw [xy]; omega) _
 have xC:Hid (ym w ((w.alloc (D #[H next,.slice a l.length E] 28)).alloc (D (yv 3 s ty li O ii pr K).toArray 43))):=(dm _ _).alloc (by rw [xy]; omega) _
 have HX:Hid (_∧_):=⟨zb r1 qg (by omega),r2⟩
 have ur:Hid (w.heap.size < ((w.alloc (D #[H next,.slice a l.length E] 28)).alloc (D (yv 3 s ty li O ii pr K).toArray 43)).heap.size∧w.heap.size + 1 < ((w.alloc (D #[H next,.slice a l.length E] 28)).alloc (D (yv 3 s ty li O ii pr K).toArray 43)).heap.size):=⟨by omega,by omega⟩
 clear xy xY r1 r2 qg
 go_enter Tryz.func63,Tryz.ntmps63
 refine ds fun tg xq=>?_
 go_wp2_with fail
 refine U xq _ _ ?_
 clear xq
 generalize ((w.alloc (D #[H next,.slice a l.length E] 28)).alloc (D (yv 3 s ty li O ii pr K).toArray 43)) = X2 at xC HX ur ⊢
 have HX:Hid (X2.rangeAt w.heap.size 0 [H next,.slice a l.length E]∧X2.rangeAt (w.heap.size + 1) 0 (yv 3 s ty li O ii pr K)):=U HX
 obtain ⟨o0,o1,o2,o3,o4,o5,o6,o7⟩:=yB (U HX).2
 go_wp2_with fail
 refine (aZ ⟨3,s,ty,li,O,ii,pr,K⟩ X2).mono ?_
 have jc:cmdI ⟨3,s,ty,li,O,ii,pr,K⟩ = .iface 118 (.agg #[H ii,H O]):=by simp [cmdI]
 rw [jc]
 clear jc
 rintro e w4 ⟨rfl,xz⟩
 have uk:=Y (dq (U xC) xz)
 have xP:Hid (w4.rangeAt w.heap.size 0 [H next,.slice a l.length E]∧w4.rangeAt (w.heap.size + 1) 0 (yv 3 s ty li O ii pr K)∧w.heap.size < w4.heap.size∧w.heap.size + 1 < w4.heap.size):=⟨zb (U HX).1 xz (U ur).1,zb (U HX).2 xz (U ur).2,yH (U ur).1 xz.size,yH (U ur).2 xz.size⟩
 clear xz o0 o1 o2 o3 o4 o5 o6 o7
 go_wp2_with fail
 refine zh (RG w4 (fun f=>{ tmps:=#[.agg #[H next,.slice a l.length E],.agg (yv 3 s ty li O ii pr K).toArray,yn w 0,I (w.heap.size + 1) 0,H 0,.iface 118 (.agg #[H ii,H O]),M,M,M,.agg (yv 3 s ty li O ii pr K).toArray,.iface 118 (.agg #[H ii,H O]),.iface 118 (.agg #[H ii,H O]),.bool false,f 0,f 1,f 2,f 3,f 4,M,M,M,M,M,M,M,M,M,M,M,M,M,M,M,M,M,M,M,M],defers:=[] }) 99 (DK (.iface 118 (.agg #[H ii,H O])) (cmV ⟨3,0,0,0,O,ii,0,⟨#[]⟩⟩) (.agg (yv 3 s ty li O ii pr K).toArray) sm)) (by kernel_rfl) ?_ ?_ ?_
 ·exact ⟨fun _=>M,rfl,⟨rfl,rfl,rfl,Nat.le_refl _,fun _ _=>rfl⟩,fun j R=>by rw [yG] at R; split at R <;> simp at R⟩
 ·rintro x hR V ⟨f,rfl,xh,X⟩ hx xM
  have xn:=zO xM hx (by kernel_rfl)
  have e4:f 4 = .bool (!sm):=X 4 (xn 4 (by simp))
  have xr:=Y (dq (U uk) xh)
  have z0:=zb (U xP).1 xh (U xP).2.2.1 0 _ rfl
  have z1:=zb (U xP).1 xh (U xP).2.2.1 1 _ rfl
  rw [Nat.zero_add] at z0 z1
  have ta1:∀ W:World,Sem.run Tryz.prog (Instr.typeAssert (.iface 118 (.agg #[H ii,H O])) 109 112 true) W = .ok (.tuple #[.agg #[H 0,H 0,H 0,H 0,yi 0,yj ⟨#[]⟩],.bool false]) W:=fun W=>by kernel_rfl
  have ta2:∀ W:World,Sem.run Tryz.prog (Instr.typeAssert (.iface 118 (.agg #[H ii,H O])) 109 115 true) W = .ok (.tuple #[.agg #[H 0],.bool false]) W:=fun W=>by kernel_rfl
  have ta3:∀ W:World,Sem.run Tryz.prog (Instr.typeAssert (.iface 118 (.agg #[H ii,H O])) 109 118 true) W = .ok (.tuple #[.agg #[H ii,H O],.bool true]) W:=fun W=>by kernel_rfl
  simp only [e4]
  generalize f 0 = e0,f 1 = e1,f 2 = e2,f 3 = e3
  clear X xn e4 xM hx xh f x
  cases sm
  ·go_wp2_with fail
   go_ret
   exact ⟨rfl,U xr⟩
  ·have xH:w.heap.size < V.heap.size:=yI V (yp w 0) z0
   have y0:World.cell? (V.alloc (D #[H ii,H O] 118)) (yp w 0) = some (H next):=(yT _ _ _ xH).trans z0
   have y1:World.cell? (V.alloc (D #[H ii,H O] 118)) (yp w 1) = some (.slice a l.length E):=(yT _ _ _ xH).trans z1
   have qB:Hid (ym w (V.alloc (D #[H ii,H O] 118))):=(U xr).alloc (U xr).size _
   clear z0 z1 xH
   go_wp2_with fail
   refine (reduceRefusal_any next _ l ii O _ (zl (U HR) (U qB) qt)).mono ?_
   rintro e w7 ⟨rfl,jb⟩
   have kw:=Y (dq (U qB) jb)
   clear jb
   go_wp2_with fail
   go_ret
   exact ⟨rfl,U kw⟩
 ·rintro x hR V i op ⟨f,rfl,xh,X⟩ L hx Z xu G
  clear L
  have xr:=Y xh
  have HD:=Y X
  have u0:=zb (U xP).2.1 xh (U xP).2.2.2 0 _ rfl
  have u1:=zb (U xP).2.1 xh (U xP).2.2.2 1 _ rfl
  have u2:=zb (U xP).2.1 xh (U xP).2.2.2 2 _ rfl
  have u3:=zb (U xP).2.1 xh (U xP).2.2.2 3 _ rfl
  have u4:=zb (U xP).2.1 xh (U xP).2.2.2 4 _ rfl
  have u5:=zb (U xP).2.1 xh (U xP).2.2.2 5 _ rfl
  have u6:=zb (U xP).2.1 xh (U xP).2.2.2 6 _ rfl
  have u7:=zb (U xP).2.1 xh (U xP).2.2.2 7 _ rfl
  rw [Nat.zero_add] at u0 u1 u2 u3 u4 u5 u6 u7
  match i,Z with
  | 0,Z =>
   obtain rfl:=ya Z
   clear G X xh
   rw [if_pos (by rfl)];unfold Oper.wp;go_simp
   exact ⟨upd f 0 (.iface 118 (.agg #[H ii,H O])),by simp [upd],zd (U xr) (U HD) (by decide) rfl⟩
  | 1,Z =>
   obtain rfl:=ya Z
   have g:f 0 = .iface 118 (.agg #[H ii,H O]):=X 0 (yd G 0 rfl)
   have hm:∀ W:World,Sem.run Tryz.prog (method 322 118 (.agg #[H ii,H O]) "loop.example/g00092/impl.told") W = .ok (186,.agg #[H ii,H O]) W:=fun W=>by kernel_rfl
   clear G X xh
   rw [if_pos (by rfl)];unfold Oper.wp;go_simp
   refine (toldReduce_any ii O V).mono ?_
   rintro e w4 ⟨rfl,xz⟩
   exact ⟨upd f 1 (cmV ⟨3,0,0,0,O,ii,0,⟨#[]⟩⟩),by simp [upd,g]; rfl,ai (U xr) (U HD) xz (by decide) (fun j v h=>h) rfl⟩
  | 2,Z =>
   obtain rfl:=ya Z
   clear G X xh
   rw [if_pos (by rfl)];unfold Oper.wp;go_simp
   exact ⟨upd f 2 (.agg (yv 3 s ty li O ii pr K).toArray),by simp [upd],zd (U xr) (U HD) (by decide) rfl⟩
  | 3,Z =>
   obtain rfl:=ya Z
   have g1:f 1 = cmV ⟨3,0,0,0,O,ii,0,⟨#[]⟩⟩:=X 1 (yd G 1 rfl)
   have g2:f 2 = .agg (yv 3 s ty li O ii pr K).toArray:=X 2 (yd G 2 rfl)
   clear G X xh
   rw [if_pos (by rfl)];unfold Oper.wp;go_simp
   refine (cT ⟨3,0,0,0,O,ii,0,⟨#[]⟩⟩ ⟨3,s,ty,li,O,ii,pr,K⟩ V).mono ?_
   rw [U HSM]
   rintro e w4 ⟨rfl,xz⟩
   exact ⟨upd f 3 (.bool sm),by simp [upd,g1,g2],ai (U xr) (U HD) xz (by decide) (fun j v h=>h) rfl⟩
  | 4,Z =>
   obtain rfl:=ya Z
   have g:f 3 = .bool sm:=X 3 (yd G 3 rfl)
   clear G X xh
   rw [if_pos (by rfl)];unfold Oper.wp;go_simp
   exact ⟨upd f 4 (.bool (!sm)),by simp [upd,g],zd (U xr) (U HD) (by decide) rfl⟩
  | n + 5,Z=>simp at Z
theorem refusal_4 (next:Int) (vb:Value) (l:List Od) (s ty li O ii:Int) (pr:Nat) (K:ByteArray) (w:World) (hr:RdR Od.vs 6 w vb l) (hs:SlOk vb) (hg:GoodL l) (h0:0 ≤ next) (Q:next ≤ 1000000) (ht:K.size ≤ maxLen) :
  Calls Tryz.prog 63 #[.agg #[H next,vb],.agg (yv 4 s ty li O ii pr K).toArray] w fun e w'=>e = yl (H (if pR ⟨4,0,0,0,0,0,0,⟨#[]⟩⟩ ⟨4,s,ty,li,O,ii,pr,K⟩ = true then 0 else 2))∧ym w w':=by
 have HR:=Y hr
 have HG:=Y hg
 have vH:=Y hs
 have uB:Hid (0 ≤ next∧next ≤ 1000000):=⟨h0,Q⟩
 have qF:=Y ht
 obtain ⟨a,E,rfl,xB,hc⟩:=hr
 clear hc hg hs h0 Q ht xB
 generalize hsm:pR ⟨4,0,0,0,0,0,0,⟨#[]⟩⟩ ⟨4,s,ty,li,O,ii,pr,K⟩ = sm
 have HSM:=Y hsm
 clear hsm
 have xy:=zf w (D #[H next,.slice a l.length E] 28)
 have xY:((w.alloc (D #[H next,.slice a l.length E] 28)).alloc (D (yv 4 s ty li O ii pr K).toArray 43)).heap.size = w.heap.size + 1 + 1:=by rw [zf,xy]
 have r1:=zg w [H next,.slice a l.length E] 28
 have r2:=zg (w.alloc (D #[H next,.slice a l.length E] 28)) (yv 4 s ty li O ii pr K) 43
 rw [xy] at r2
 have qg:Below (w.heap.size + 1) (w.alloc (D #[H next,.slice a l.length E] 28)) ((w.alloc (D #[H next,.slice a l.length E] 28)).alloc (D (yv 4 s ty li O ii pr K).toArray 43)):=(Below.refl _ _).alloc (by rw [xy]; omega) _
 have xC:Hid (ym w ((w.alloc (D #[H next,.slice a l.length E] 28)).alloc (D (yv 4 s ty li O ii pr K).toArray 43))):=(dm _ _).alloc (by rw [xy]; omega) _
 have HX:Hid (_∧_):=⟨zb r1 qg (by omega),r2⟩
 have ur:Hid (w.heap.size < ((w.alloc (D #[H next,.slice a l.length E] 28)).alloc (D (yv 4 s ty li O ii pr K).toArray 43)).heap.size∧w.heap.size + 1 < ((w.alloc (D #[H next,.slice a l.length E] 28)).alloc (D (yv 4 s ty li O ii pr K).toArray 43)).heap.size):=⟨by omega,by omega⟩
 clear xy xY r1 r2 qg
 go_enter Tryz.func63,Tryz.ntmps63
 refine ds fun tg xq=>?_
 go_wp2_with fail
 refine U xq _ _ ?_
 clear xq
 generalize ((w.alloc (D #[H next,.slice a l.length E] 28)).alloc (D (yv 4 s ty li O ii pr K).toArray 43)) = X2 at xC HX ur ⊢
 have HX:Hid (X2.rangeAt w.heap.size 0 [H next,.slice a l.length E]∧X2.rangeAt (w.heap.size + 1) 0 (yv 4 s ty li O ii pr K)):=U HX
 obtain ⟨o0,o1,o2,o3,o4,o5,o6,o7⟩:=yB (U HX).2
 go_wp2_with fail
 refine (aZ ⟨4,s,ty,li,O,ii,pr,K⟩ X2).mono ?_
 have jc:cmdI ⟨4,s,ty,li,O,ii,pr,K⟩ = .iface 121 (.agg #[]):=by simp [cmdI]
 rw [jc]
 clear jc
 rintro e w4 ⟨rfl,xz⟩
 have uk:=Y (dq (U xC) xz)
 have xP:Hid (w4.rangeAt w.heap.size 0 [H next,.slice a l.length E]∧w4.rangeAt (w.heap.size + 1) 0 (yv 4 s ty li O ii pr K)∧w.heap.size < w4.heap.size∧w.heap.size + 1 < w4.heap.size):=⟨zb (U HX).1 xz (U ur).1,zb (U HX).2 xz (U ur).2,yH (U ur).1 xz.size,yH (U ur).2 xz.size⟩
 clear xz o0 o1 o2 o3 o4 o5 o6 o7
 go_wp2_with fail
 refine zh (RG w4 (fun f=>{ tmps:=#[.agg #[H next,.slice a l.length E],.agg (yv 4 s ty li O ii pr K).toArray,yn w 0,I (w.heap.size + 1) 0,H 0,.iface 121 (.agg #[]),M,M,M,.agg (yv 4 s ty li O ii pr K).toArray,.iface 121 (.agg #[]),.iface 121 (.agg #[]),.bool false,f 0,f 1,f 2,f 3,f 4,M,M,M,M,M,M,M,M,M,M,M,M,M,M,M,M,M,M,M,M],defers:=[] }) 99 (DK (.iface 121 (.agg #[])) (cmV ⟨4,0,0,0,0,0,0,⟨#[]⟩⟩) (.agg (yv 4 s ty li O ii pr K).toArray) sm)) (by kernel_rfl) ?_ ?_ ?_
 ·exact ⟨fun _=>M,rfl,⟨rfl,rfl,rfl,Nat.le_refl _,fun _ _=>rfl⟩,fun j R=>by rw [yG] at R; split at R <;> simp at R⟩
 ·rintro x hR V ⟨f,rfl,xh,X⟩ hx xM
  have xn:=zO xM hx (by kernel_rfl)
  have e4:f 4 = .bool (!sm):=X 4 (xn 4 (by simp))
  have xr:=Y (dq (U uk) xh)
  have z0:=zb (U xP).1 xh (U xP).2.2.1 0 _ rfl
  have z1:=zb (U xP).1 xh (U xP).2.2.1 1 _ rfl
  rw [Nat.zero_add] at z0 z1
  have ta1:∀ W:World,Sem.run Tryz.prog (Instr.typeAssert (.iface 121 (.agg #[])) 109 112 true) W = .ok (.tuple #[.agg #[H 0,H 0,H 0,H 0,yi 0,yj ⟨#[]⟩],.bool false]) W:=fun W=>by kernel_rfl
  have ta2:∀ W:World,Sem.run Tryz.prog (Instr.typeAssert (.iface 121 (.agg #[])) 109 115 true) W = .ok (.tuple #[.agg #[H 0],.bool false]) W:=fun W=>by kernel_rfl
  have ta3:∀ W:World,Sem.run Tryz.prog (Instr.typeAssert (.iface 121 (.agg #[])) 109 118 true) W = .ok (.tuple #[.agg #[H 0,H 0],.bool false]) W:=fun W=>by kernel_rfl
  simp only [e4]
  generalize f 0 = e0,f 1 = e1,f 2 = e2,f 3 = e3
  clear X xn e4 xM hx xh f x
  cases sm
  ·go_wp2_with fail
   go_ret
   exact ⟨rfl,U xr⟩
  ·go_wp2_with fail
   go_ret
   exact ⟨rfl,U xr⟩
 ·rintro x hR V i op ⟨f,rfl,xh,X⟩ L hx Z xu G
  clear L
  have xr:=Y xh
  have HD:=Y X
  have u0:=zb (U xP).2.1 xh (U xP).2.2.2 0 _ rfl
  have u1:=zb (U xP).2.1 xh (U xP).2.2.2 1 _ rfl
  have u2:=zb (U xP).2.1 xh (U xP).2.2.2 2 _ rfl
  have u3:=zb (U xP).2.1 xh (U xP).2.2.2 3 _ rfl
  have u4:=zb (U xP).2.1 xh (U xP).2.2.2 4 _ rfl
  have u5:=zb (U xP).2.1 xh (U xP).2.2.2 5 _ rfl
  have u6:=zb (U xP).2.1 xh (U xP).2.2.2 6 _ rfl
  have u7:=zb (U xP).2.1 xh (U xP).2.2.2 7 _ rfl
  rw [Nat.zero_add] at u0 u1 u2 u3 u4 u5 u6 u7
  match i,Z with
  | 0,Z =>
   obtain rfl:=ya Z
   clear G X xh
   rw [if_pos (by rfl)];unfold Oper.wp;go_simp
   exact ⟨upd f 0 (.iface 121 (.agg #[])),by simp [upd],zd (U xr) (U HD) (by decide) rfl⟩
  | 1,Z =>
   obtain rfl:=ya Z
   have g:f 0 = .iface 121 (.agg #[]):=X 0 (yd G 0 rfl)
   have hm:∀ W:World,Sem.run Tryz.prog (method 322 121 (.agg #[]) "loop.example/g00092/impl.told") W = .ok (187,.agg #[]) W:=fun W=>by kernel_rfl
   clear G X xh
   rw [if_pos (by rfl)];unfold Oper.wp;go_simp
   refine (toldDay_any V).mono ?_
   rintro e w4 ⟨rfl,xz⟩
   exact ⟨upd f 1 (cmV ⟨4,0,0,0,0,0,0,⟨#[]⟩⟩),by simp [upd,g]; rfl,ai (U xr) (U HD) xz (by decide) (fun j v h=>h) rfl⟩
  | 2,Z =>
   obtain rfl:=ya Z
   clear G X xh
   rw [if_pos (by rfl)];unfold Oper.wp;go_simp
   exact ⟨upd f 2 (.agg (yv 4 s ty li O ii pr K).toArray),by simp [upd],zd (U xr) (U HD) (by decide) rfl⟩
  | 3,Z =>
   obtain rfl:=ya Z
   have g1:f 1 = cmV ⟨4,0,0,0,0,0,0,⟨#[]⟩⟩:=X 1 (yd G 1 rfl)
   have g2:f 2 = .agg (yv 4 s ty li O ii pr K).toArray:=X 2 (yd G 2 rfl)
   clear G X xh
   rw [if_pos (by rfl)];unfold Oper.wp;go_simp
   refine (cT ⟨4,0,0,0,0,0,0,⟨#[]⟩⟩ ⟨4,s,ty,li,O,ii,pr,K⟩ V).mono ?_
   rw [U HSM]
   rintro e w4 ⟨rfl,xz⟩
   exact ⟨upd f 3 (.bool sm),by simp [upd,g1,g2],ai (U xr) (U HD) xz (by decide) (fun j v h=>h) rfl⟩
  | 4,Z =>
   obtain rfl:=ya Z
   have g:f 3 = .bool sm:=X 3 (yd G 3 rfl)
   clear G X xh
   rw [if_pos (by rfl)];unfold Oper.wp;go_simp
   exact ⟨upd f 4 (.bool (!sm)),by simp [upd,g],zd (U xr) (U HD) (by decide) rfl⟩
  | n + 5,Z=>simp at Z
end Go.Proofs.YtbakanofkghmiaaGreat
