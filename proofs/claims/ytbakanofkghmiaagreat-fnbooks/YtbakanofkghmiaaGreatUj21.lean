/-
  The reason why a command is refused, by the program: proved by walking the function, kind by kind.
-/
import Derived.Test.YtbakanofkghmiaaGreatUj20
set_option linter.unusedVariables false
set_option maxHeartbeats 6400000
set_option maxRecDepth 100000
namespace Go.Proofs.YtbakanofkghmiaaGreat
open Go.RowKit
def DK (iv tv cv:Value) (sm:Bool) (p:Prop) (V:World):Nat→Value→Prop
 | 0,v=>v = iv
 | 1,v=>v = tv
 | 2,v=>v = cv
 | 3,v=>v = .bool sm
 | 4,v=>v = .bool (!sm)
 | _,_=>True
theorem refusal_1 (next:Int) (vb:Value) (l:List Od) (s ty li F ii:Int) (pr:Nat) (L:ByteArray) (w:World) (hr:RdR Od.vs 6 w vb l) (hs:SlOk vb) (hg:GoodL l) (h0:0 ≤ next) (G:next ≤ 1000000) (ht:L.size ≤ maxLen) :
  Calls Tryz.prog 63 #[.agg #[H next,vb],.agg (yv 1 s ty li F ii pr L).toArray] w fun e w'=>e = yl (H (if aD ⟨1,s,ty,li,F,0,pr,L⟩ ⟨1,s,ty,li,F,ii,pr,L⟩ = true then newR next l ⟨1,s,ty,li,F,ii,pr,L⟩ else 2))∧ym w w':=by
 have HR:=Y hr
 have HG:=Y hg
 have vC:=Y hs
 have uG:Hid (0 ≤ next∧next ≤ 1000000):=⟨h0,G⟩
 have qw:=Y ht
 obtain ⟨a,A,rfl,xC,hc⟩:=hr
 clear hc hg hs h0 G ht xC
 generalize hsm:aD ⟨1,s,ty,li,F,0,pr,L⟩ ⟨1,s,ty,li,F,ii,pr,L⟩ = sm
 have HSM:=Y hsm
 clear hsm
 have xz:=zf w (N #[H next,.slice a l.length A] 28)
 have xZ:((w.alloc (N #[H next,.slice a l.length A] 28)).alloc (N (yv 1 s ty li F ii pr L).toArray 43)).heap.size = w.heap.size + 1 + 1:=by rw [zf,xz]
 have r1:=zg w [H next,.slice a l.length A] 28
 have r2:=zg (w.alloc (N #[H next,.slice a l.length A] 28)) (yv 1 s ty li F ii pr L) 43
 rw [xz] at r2
 have qp:Below (w.heap.size + 1) (w.alloc (N #[H next,.slice a l.length A] 28)) ((w.alloc (N #[H next,.slice a l.length A] 28)).alloc (N (yv 1 s ty li F ii pr L).toArray 43)):=(Below.refl _ _).alloc (by rw [xz]; omega) _
 have xD:Hid (ym w ((w.alloc (N #[H next,.slice a l.length A] 28)).alloc (N (yv 1 s ty li F ii pr L).toArray 43))):=(eB _ _).alloc (by rw [xz]; omega) _
 have HX:Hid (_∧_):=⟨zb r1 qp (by omega),r2⟩
 have ut:Hid (w.heap.size < ((w.alloc (N #[H next,.slice a l.length A] 28)).alloc (N (yv 1 s ty li F ii pr L).toArray 43)).heap.size∧w.heap.size + 1 < ((w.alloc (N #[H next,.slice a l.length A] 28)).alloc (N (yv 1 s ty li F ii pr L).toArray 43)).heap.size):=⟨by omega,by omega⟩
 clear xz xZ r1 r2 qp
 go_enter Tryz.func63,Tryz.ntmps63
 refine eF fun hj xq=>?_
 go_wp2_with fail
 refine U xq _ _ ?_
 clear xq
 generalize ((w.alloc (N #[H next,.slice a l.length A] 28)).alloc (N (yv 1 s ty li F ii pr L).toArray 43)) = X2 at xD HX ut ⊢
 have HX:Hid (X2.rangeAt w.heap.size 0 [H next,.slice a l.length A]∧X2.rangeAt (w.heap.size + 1) 0 (yv 1 s ty li F ii pr L)):=U HX
 obtain ⟨o0,o1,o2,o3,o4,o5,o6,o7⟩:=yB (U HX).2
 go_wp2_with fail
 refine (bY ⟨1,s,ty,li,F,ii,pr,L⟩ X2).mono ?_
 have jm:cmdI ⟨1,s,ty,li,F,ii,pr,L⟩ = .iface 112 (.agg #[H s,H ty,H li,H F,yi pr,yj L]):=by simp [cmdI,noV]
 rw [jm]
 clear jm
 rintro e w4 ⟨rfl,xy⟩
 have xY:=Y (eE (U xD) xy)
 have xR:Hid (w4.rangeAt w.heap.size 0 [H next,.slice a l.length A]∧w4.rangeAt (w.heap.size + 1) 0 (yv 1 s ty li F ii pr L)∧w.heap.size < w4.heap.size∧w.heap.size + 1 < w4.heap.size):=⟨zb (U HX).1 xy (U ut).1,zb (U HX).2 xy (U ut).2,yH (U ut).1 xy.size,yH (U ut).2 xy.size⟩
 clear xy o0 o1 o2 o3 o4 o5 o6 o7
 go_wp2_with fail
 refine zi (RG w4 (fun f=>{ tmps:=#[.agg #[H next,.slice a l.length A],.agg (yv 1 s ty li F ii pr L).toArray,yn w 0,I (w.heap.size + 1) 0,H 0,.iface 112 (.agg #[H s,H ty,H li,H F,yi pr,yj L]),M,M,M,.agg (yv 1 s ty li F ii pr L).toArray,.iface 112 (.agg #[H s,H ty,H li,H F,yi pr,yj L]),.iface 112 (.agg #[H s,H ty,H li,H F,yi pr,yj L]),.bool false,f 0,f 1,f 2,f 3,f 4,M,M,M,M,M,M,M,M,M,M,M,M,M,M,M,M,M,M,M,M],defers:=[] }) 99 (DK (.iface 112 (.agg #[H s,H ty,H li,H F,yi pr,yj L])) (cmV ⟨1,s,ty,li,F,0,pr,L⟩) (.agg (yv 1 s ty li F ii pr L).toArray) sm)) (by kernel_rfl) ?_ ?_ ?_
 ·exact ⟨fun _=>M,rfl,⟨rfl,rfl,rfl,Nat.le_refl _,fun _ _=>rfl⟩,fun j K=>by rw [yG] at K; split at K <;> simp at K⟩
 ·rintro x xj V ⟨f,rfl,xh,hD⟩ hx xL
  have xn:=zO xL hx (by kernel_rfl)
  have e4:f 4 = .bool (!sm):=hD 4 (xn 4 (by simp))
  have xr:=Y (eE (U xY) xh)
  have z0:=zb (U xR).1 xh (U xR).2.2.1 0 _ rfl
  have z1:=zb (U xR).1 xh (U xR).2.2.1 1 _ rfl
  rw [Nat.zero_add] at z0 z1
  have ta1:∀ W:World,Sem.run Tryz.prog (Instr.typeAssert (.iface 112 (.agg #[H s,H ty,H li,H F,yi pr,yj L])) 109 112 true) W = .ok (.tuple #[.agg #[H s,H ty,H li,H F,yi pr,yj L],.bool true]) W:=fun W=>by kernel_rfl
  simp only [e4]
  generalize f 0 = e0,f 1 = e1,f 2 = e2,f 3 = e3
  clear hD xn e4 xL hx xh f x
  cases sm
  ·go_wp2_with fail
   go_ret
   exact ⟨rfl,U xr⟩
  ·have xI:w.heap.size < V.heap.size:=yI V (yp w 0) z0
   have y0:World.cell? (V.alloc (N #[H s,H ty,H li,H F,yi pr,yj L] 112)) (yp w 0) = some (H next):=(yT _ _ _ xI).trans z0
   have y1:World.cell? (V.alloc (N #[H s,H ty,H li,H F,yi pr,yj L] 112)) (yp w 1) = some (.slice a l.length A):=(yT _ _ _ xI).trans z1
   have qd:Hid (ym w (V.alloc (N #[H s,H ty,H li,H F,yi pr,yj L] 112))):=(U xr).alloc (U xr).size _
   clear z0 z1 xI
   have hsf:=sfl
   go_wp2_with fail
   refine (newRefusal_any next _ l ⟨1,s,ty,li,F,ii,pr,L⟩ _ (zh (U HR) (U qd) hb) (U vC) (U HG) (U uG).1 (U uG).2 (U qw)).mono ?_
   rintro e w7 ⟨rfl,qj⟩
   have jJ:=Y (eE (U qd) qj)
   clear qj
   go_wp2_with fail
   go_ret
   exact ⟨rfl,U jJ⟩
 ·rintro x xj V i op ⟨f,rfl,xh,hD⟩ X hx Z xu Q
  clear X
  have xr:=Y xh
  have HD:=Y hD
  have u0:=zb (U xR).2.1 xh (U xR).2.2.2 0 _ rfl
  have u1:=zb (U xR).2.1 xh (U xR).2.2.2 1 _ rfl
  have u2:=zb (U xR).2.1 xh (U xR).2.2.2 2 _ rfl
  have u3:=zb (U xR).2.1 xh (U xR).2.2.2 3 _ rfl
  have u4:=zb (U xR).2.1 xh (U xR).2.2.2 4 _ rfl
  have u5:=zb (U xR).2.1 xh (U xR).2.2.2 5 _ rfl
  have u6:=zb (U xR).2.1 xh (U xR).2.2.2 6 _ rfl
  have u7:=zb (U xR).2.1 xh (U xR).2.2.2 7 _ rfl
  rw [Nat.zero_add] at u0 u1 u2 u3 u4 u5 u6 u7
  match i,Z with
  | 0,Z =>
   obtain rfl:=ya Z
   clear Q hD xh
   rw [if_pos (by rfl)];unfold Oper.wp;go_simp
   exact ⟨upd f 0 (.iface 112 (.agg #[H s,H ty,H li,H F,yi pr,yj L])),by simp [upd],zd (U xr) (U HD) (by decide) rfl⟩
  | 1,Z =>
   obtain rfl:=ya Z
   have g:f 0 = .iface 112 (.agg #[H s,H ty,H li,H F,yi pr,yj L]):=hD 0 (yd Q 0 rfl)
   have hm:∀ W:World,Sem.run Tryz.prog (method 322 112 (.agg #[H s,H ty,H li,H F,yi pr,yj L]) "loop.example/g00092/impl.told") W = .ok (113,.agg #[H s,H ty,H li,H F,yi pr,yj L]) W:=fun W=>by kernel_rfl
   clear Q hD xh
   rw [if_pos (by rfl)];unfold Oper.wp;go_simp
   refine (toldNew_any ⟨1,s,ty,li,F,ii,pr,L⟩ V).mono ?_
   rintro e w4 ⟨rfl,xy⟩
   exact ⟨upd f 1 (cmV ⟨1,s,ty,li,F,0,pr,L⟩),by simp [upd,g]; rfl,aT (U xr) (U HD) xy (by decide) (fun j v h=>h) rfl⟩
  | 2,Z =>
   obtain rfl:=ya Z
   clear Q hD xh
   rw [if_pos (by rfl)];unfold Oper.wp;go_simp
   exact ⟨upd f 2 (.agg (yv 1 s ty li F ii pr L).toArray),by simp [upd],zd (U xr) (U HD) (by decide) rfl⟩
  | 3,Z =>
   obtain rfl:=ya Z
   have g1:f 1 = cmV ⟨1,s,ty,li,F,0,pr,L⟩:=hD 1 (yd Q 1 rfl)
   have g2:f 2 = .agg (yv 1 s ty li F ii pr L).toArray:=hD 2 (yd Q 2 rfl)
   clear Q hD xh
   rw [if_pos (by rfl)];unfold Oper.wp;go_simp
   refine (dT ⟨1,s,ty,li,F,0,pr,L⟩ ⟨1,s,ty,li,F,ii,pr,L⟩ V).mono ?_
   rw [U HSM]
   rintro e w4 ⟨rfl,xy⟩
   exact ⟨upd f 3 (.bool sm),by simp [upd,g1,g2],aT (U xr) (U HD) xy (by decide) (fun j v h=>h) rfl⟩
  | 4,Z =>
   obtain rfl:=ya Z
   have g:f 3 = .bool sm:=hD 3 (yd Q 3 rfl)
   clear Q hD xh
   rw [if_pos (by rfl)];unfold Oper.wp;go_simp
   exact ⟨upd f 4 (.bool (!sm)),by simp [upd,g],zd (U xr) (U HD) (by decide) rfl⟩
  | n + 5,Z=>simp at Z
theorem refusal_2 (next:Int) (vb:Value) (l:List Od) (s ty li F ii:Int) (pr:Nat) (L:ByteArray) (w:World) (hr:RdR Od.vs 6 w vb l) (hs:SlOk vb) (hg:GoodL l) (h0:0 ≤ next) (G:next ≤ 1000000) (ht:L.size ≤ maxLen) :
  Calls Tryz.prog 63 #[.agg #[H next,vb],.agg (yv 2 s ty li F ii pr L).toArray] w fun e w'=>e = yl (H (if aD ⟨2,0,0,0,0,ii,0,⟨#[]⟩⟩ ⟨2,s,ty,li,F,ii,pr,L⟩ = true then idR l ii else 2))∧ym w w':=by
 have HR:=Y hr
 have HG:=Y hg
 have vC:=Y hs
 have uG:Hid (0 ≤ next∧next ≤ 1000000):=⟨h0,G⟩
 have qw:=Y ht
 obtain ⟨a,A,rfl,xC,hc⟩:=hr
 clear hc hg hs h0 G ht xC
 generalize hsm:aD ⟨2,0,0,0,0,ii,0,⟨#[]⟩⟩ ⟨2,s,ty,li,F,ii,pr,L⟩ = sm
 have HSM:=Y hsm
 clear hsm
 have xz:=zf w (N #[H next,.slice a l.length A] 28)
 have xZ:((w.alloc (N #[H next,.slice a l.length A] 28)).alloc (N (yv 2 s ty li F ii pr L).toArray 43)).heap.size = w.heap.size + 1 + 1:=by rw [zf,xz]
 have r1:=zg w [H next,.slice a l.length A] 28
 have r2:=zg (w.alloc (N #[H next,.slice a l.length A] 28)) (yv 2 s ty li F ii pr L) 43
 rw [xz] at r2
 have qp:Below (w.heap.size + 1) (w.alloc (N #[H next,.slice a l.length A] 28)) ((w.alloc (N #[H next,.slice a l.length A] 28)).alloc (N (yv 2 s ty li F ii pr L).toArray 43)):=(Below.refl _ _).alloc (by rw [xz]; omega) _
 have xD:Hid (ym w ((w.alloc (N #[H next,.slice a l.length A] 28)).alloc (N (yv 2 s ty li F ii pr L).toArray 43))):=(eB _ _).alloc (by rw [xz]; omega) _
 have HX:Hid (_∧_):=⟨zb r1 qp (by omega),r2⟩
 have ut:Hid (w.heap.size < ((w.alloc (N #[H next,.slice a l.length A] 28)).alloc (N (yv 2 s ty li F ii pr L).toArray 43)).heap.size∧w.heap.size + 1 < ((w.alloc (N #[H next,.slice a l.length A] 28)).alloc (N (yv 2 s ty li F ii pr L).toArray 43)).heap.size):=⟨by omega,by omega⟩
 clear xz xZ r1 r2 qp
 go_enter Tryz.func63,Tryz.ntmps63
 refine eF fun hj xq=>?_
 go_wp2_with fail
 refine U xq _ _ ?_
 clear xq
 generalize ((w.alloc (N #[H next,.slice a l.length A] 28)).alloc (N (yv 2 s ty li F ii pr L).toArray 43)) = X2 at xD HX ut ⊢
 have HX:Hid (X2.rangeAt w.heap.size 0 [H next,.slice a l.length A]∧X2.rangeAt (w.heap.size + 1) 0 (yv 2 s ty li F ii pr L)):=U HX
 obtain ⟨o0,o1,o2,o3,o4,o5,o6,o7⟩:=yB (U HX).2
 go_wp2_with fail
 refine (bY ⟨2,s,ty,li,F,ii,pr,L⟩ X2).mono ?_
 have jm:cmdI ⟨2,s,ty,li,F,ii,pr,L⟩ = .iface 115 (.agg #[H ii]):=by simp [cmdI]
 rw [jm]
 clear jm
 rintro e w4 ⟨rfl,xy⟩
 have xY:=Y (eE (U xD) xy)
 have xR:Hid (w4.rangeAt w.heap.size 0 [H next,.slice a l.length A]∧w4.rangeAt (w.heap.size + 1) 0 (yv 2 s ty li F ii pr L)∧w.heap.size < w4.heap.size∧w.heap.size + 1 < w4.heap.size):=⟨zb (U HX).1 xy (U ut).1,zb (U HX).2 xy (U ut).2,yH (U ut).1 xy.size,yH (U ut).2 xy.size⟩
 clear xy o0 o1 o2 o3 o4 o5 o6 o7
 go_wp2_with fail
 refine zi (RG w4 (fun f=>{ tmps:=#[.agg #[H next,.slice a l.length A],.agg (yv 2 s ty li F ii pr L).toArray,yn w 0,I (w.heap.size + 1) 0,H 0,.iface 115 (.agg #[H ii]),M,M,M,.agg (yv 2 s ty li F ii pr L).toArray,.iface 115 (.agg #[H ii]),.iface 115 (.agg #[H ii]),.bool false,f 0,f 1,f 2,f 3,f 4,M,M,M,M,M,M,M,M,M,M,M,M,M,M,M,M,M,M,M,M],defers:=[] }) 99 (DK (.iface 115 (.agg #[H ii])) (cmV ⟨2,0,0,0,0,ii,0,⟨#[]⟩⟩) (.agg (yv 2 s ty li F ii pr L).toArray) sm)) (by kernel_rfl) ?_ ?_ ?_
 ·exact ⟨fun _=>M,rfl,⟨rfl,rfl,rfl,Nat.le_refl _,fun _ _=>rfl⟩,fun j K=>by rw [yG] at K; split at K <;> simp at K⟩
 ·rintro x xj V ⟨f,rfl,xh,hD⟩ hx xL
  have xn:=zO xL hx (by kernel_rfl)
  have e4:f 4 = .bool (!sm):=hD 4 (xn 4 (by simp))
  have xr:=Y (eE (U xY) xh)
  have z0:=zb (U xR).1 xh (U xR).2.2.1 0 _ rfl
  have z1:=zb (U xR).1 xh (U xR).2.2.1 1 _ rfl
  rw [Nat.zero_add] at z0 z1
  have ta1:∀ W:World,Sem.run Tryz.prog (Instr.typeAssert (.iface 115 (.agg #[H ii])) 109 112 true) W = .ok (.tuple #[.agg #[H 0,H 0,H 0,H 0,yi 0,yj ⟨#[]⟩],.bool false]) W:=fun W=>by kernel_rfl
  have ta2:∀ W:World,Sem.run Tryz.prog (Instr.typeAssert (.iface 115 (.agg #[H ii])) 109 115 true) W = .ok (.tuple #[.agg #[H ii],.bool true]) W:=fun W=>by kernel_rfl
  simp only [e4]
  generalize f 0 = e0,f 1 = e1,f 2 = e2,f 3 = e3
  clear hD xn e4 xL hx xh f x
  cases sm
  ·go_wp2_with fail
   go_ret
   exact ⟨rfl,U xr⟩
  ·have xI:w.heap.size < V.heap.size:=yI V (yp w 0) z0
   have y0:World.cell? (V.alloc (N #[H ii] 115)) (yp w 0) = some (H next):=(yT _ _ _ xI).trans z0
   have y1:World.cell? (V.alloc (N #[H ii] 115)) (yp w 1) = some (.slice a l.length A):=(yT _ _ _ xI).trans z1
   have qd:Hid (ym w (V.alloc (N #[H ii] 115))):=(U xr).alloc (U xr).size _
   clear z0 z1 xI
   go_wp2_with fail
   refine (idRefusal_any next _ l ii _ (zh (U HR) (U qd) hb)).mono ?_
   rintro e w7 ⟨rfl,qj⟩
   have jJ:=Y (eE (U qd) qj)
   clear qj
   go_wp2_with fail
   go_ret
   exact ⟨rfl,U jJ⟩
 ·rintro x xj V i op ⟨f,rfl,xh,hD⟩ X hx Z xu Q
  clear X
  have xr:=Y xh
  have HD:=Y hD
  have u0:=zb (U xR).2.1 xh (U xR).2.2.2 0 _ rfl
  have u1:=zb (U xR).2.1 xh (U xR).2.2.2 1 _ rfl
  have u2:=zb (U xR).2.1 xh (U xR).2.2.2 2 _ rfl
  have u3:=zb (U xR).2.1 xh (U xR).2.2.2 3 _ rfl
  have u4:=zb (U xR).2.1 xh (U xR).2.2.2 4 _ rfl
  have u5:=zb (U xR).2.1 xh (U xR).2.2.2 5 _ rfl
  have u6:=zb (U xR).2.1 xh (U xR).2.2.2 6 _ rfl
  have u7:=zb (U xR).2.1 xh (U xR).2.2.2 7 _ rfl
  rw [Nat.zero_add] at u0 u1 u2 u3 u4 u5 u6 u7
  match i,Z with
  | 0,Z =>
   obtain rfl:=ya Z
   clear Q hD xh
   rw [if_pos (by rfl)];unfold Oper.wp;go_simp
   exact ⟨upd f 0 (.iface 115 (.agg #[H ii])),by simp [upd],zd (U xr) (U HD) (by decide) rfl⟩
  | 1,Z =>
   obtain rfl:=ya Z
   have g:f 0 = .iface 115 (.agg #[H ii]):=hD 0 (yd Q 0 rfl)
   have hm:∀ W:World,Sem.run Tryz.prog (method 322 115 (.agg #[H ii]) "loop.example/g00092/impl.told") W = .ok (185,.agg #[H ii]) W:=fun W=>by kernel_rfl
   clear Q hD xh
   rw [if_pos (by rfl)];unfold Oper.wp;go_simp
   refine (toldCancel_any ii V).mono ?_
   rintro e w4 ⟨rfl,xy⟩
   exact ⟨upd f 1 (cmV ⟨2,0,0,0,0,ii,0,⟨#[]⟩⟩),by simp [upd,g]; rfl,aT (U xr) (U HD) xy (by decide) (fun j v h=>h) rfl⟩
  | 2,Z =>
   obtain rfl:=ya Z
   clear Q hD xh
   rw [if_pos (by rfl)];unfold Oper.wp;go_simp
   exact ⟨upd f 2 (.agg (yv 2 s ty li F ii pr L).toArray),by simp [upd],zd (U xr) (U HD) (by decide) rfl⟩
  | 3,Z =>
   obtain rfl:=ya Z
   have g1:f 1 = cmV ⟨2,0,0,0,0,ii,0,⟨#[]⟩⟩:=hD 1 (yd Q 1 rfl)
   have g2:f 2 = .agg (yv 2 s ty li F ii pr L).toArray:=hD 2 (yd Q 2 rfl)
   clear Q hD xh
   rw [if_pos (by rfl)];unfold Oper.wp;go_simp
   refine (dT ⟨2,0,0,0,0,ii,0,⟨#[]⟩⟩ ⟨2,s,ty,li,F,ii,pr,L⟩ V).mono ?_
   rw [U HSM]
   rintro e w4 ⟨rfl,xy⟩
   exact ⟨upd f 3 (.bool sm),by simp [upd,g1,g2],aT (U xr) (U HD) xy (by decide) (fun j v h=>h) rfl⟩
  | 4,Z =>
   obtain rfl:=ya Z
   have g:f 3 = .bool sm:=hD 3 (yd Q 3 rfl)
   clear Q hD xh
   rw [if_pos (by rfl)];unfold Oper.wp;go_simp
   exact ⟨upd f 4 (.bool (!sm)),by simp [upd,g],zd (U xr) (U HD) (by decide) rfl⟩
  | n + 5,Z=>simp at Z
theorem refusal_3 (next:Int) (vb:Value) (l:List Od) (s ty li F ii:Int) (pr:Nat) (L:ByteArray) (w:World) (hr:RdR Od.vs 6 w vb l) (hs:SlOk vb) (hg:GoodL l) (h0:0 ≤ next) (G:next ≤ 1000000) (ht:L.size ≤ maxLen) :
  Calls Tryz.prog 63 #[.agg #[H next,vb],.agg (yv 3 s ty li F ii pr L).toArray] w fun e w'=>e = yl (H (if aD ⟨3,0,0,0,F,ii,0,⟨#[]⟩⟩ ⟨3,s,ty,li,F,ii,pr,L⟩ = true then redR l ii F else 2))∧ym w w':=by
 have HR:=Y hr
 have HG:=Y hg
 have vC:=Y hs
 have uG:Hid (0 ≤ next∧next ≤ 1000000):=⟨h0,G⟩
 have qw:=Y ht
 obtain ⟨a,A,rfl,xC,hc⟩:=hr
 clear hc hg hs h0 G ht xC
 generalize hsm:aD ⟨3,0,0,0,F,ii,0,⟨#[]⟩⟩ ⟨3,s,ty,li,F,ii,pr,L⟩ = sm
 have HSM:=Y hsm
 clear hsm
 have xz:=zf w (N #[H next,.slice a l.length A] 28)
 have xZ:((w.alloc (N #[H next,.slice a l.length A] 28)).alloc (N (yv 3 s ty li F ii pr L).toArray 43)).heap.size = w.heap.size + 1 + 1:=by rw [zf,xz]
 have r1:=zg w [H next,.slice a l.length A] 28
 have r2:=zg (w.alloc (N #[H next,.slice a l.length A] 28)) (yv 3 s ty li F ii pr L) 43
 rw [xz] at r2
 have qp:Below (w.heap.size + 1) (w.alloc (N #[H next,.slice a l.length A] 28)) ((w.alloc (N #[H next,.slice a l.length A] 28)).alloc (N (yv 3 s ty li F ii pr L).toArray 43)):=(Below.refl _ _).alloc (by rw [xz]; omega) _
 have xD:Hid (ym w ((w.alloc (N #[H next,.slice a l.length A] 28)).alloc (N (yv 3 s ty li F ii pr L).toArray 43))):=(eB _ _).alloc (by rw [xz]; omega) _
 have HX:Hid (_∧_):=⟨zb r1 qp (by omega),r2⟩
 have ut:Hid (w.heap.size < ((w.alloc (N #[H next,.slice a l.length A] 28)).alloc (N (yv 3 s ty li F ii pr L).toArray 43)).heap.size∧w.heap.size + 1 < ((w.alloc (N #[H next,.slice a l.length A] 28)).alloc (N (yv 3 s ty li F ii pr L).toArray 43)).heap.size):=⟨by omega,by omega⟩
 clear xz xZ r1 r2 qp
 go_enter Tryz.func63,Tryz.ntmps63
 refine eF fun hj xq=>?_
 go_wp2_with fail
 refine U xq _ _ ?_
 clear xq
 generalize ((w.alloc (N #[H next,.slice a l.length A] 28)).alloc (N (yv 3 s ty li F ii pr L).toArray 43)) = X2 at xD HX ut ⊢
 have HX:Hid (X2.rangeAt w.heap.size 0 [H next,.slice a l.length A]∧X2.rangeAt (w.heap.size + 1) 0 (yv 3 s ty li F ii pr L)):=U HX
 obtain ⟨o0,o1,o2,o3,o4,o5,o6,o7⟩:=yB (U HX).2
 go_wp2_with fail
 refine (bY ⟨3,s,ty,li,F,ii,pr,L⟩ X2).mono ?_
 have jm:cmdI ⟨3,s,ty,li,F,ii,pr,L⟩ = .iface 118 (.agg #[H ii,H F]):=by simp [cmdI]
 rw [jm]
 clear jm
 rintro e w4 ⟨rfl,xy⟩
 have xY:=Y (eE (U xD) xy)
 have xR:Hid (w4.rangeAt w.heap.size 0 [H next,.slice a l.length A]∧w4.rangeAt (w.heap.size + 1) 0 (yv 3 s ty li F ii pr L)∧w.heap.size < w4.heap.size∧w.heap.size + 1 < w4.heap.size):=⟨zb (U HX).1 xy (U ut).1,zb (U HX).2 xy (U ut).2,yH (U ut).1 xy.size,yH (U ut).2 xy.size⟩
 clear xy o0 o1 o2 o3 o4 o5 o6 o7
 go_wp2_with fail
 refine zi (RG w4 (fun f=>{ tmps:=#[.agg #[H next,.slice a l.length A],.agg (yv 3 s ty li F ii pr L).toArray,yn w 0,I (w.heap.size + 1) 0,H 0,.iface 118 (.agg #[H ii,H F]),M,M,M,.agg (yv 3 s ty li F ii pr L).toArray,.iface 118 (.agg #[H ii,H F]),.iface 118 (.agg #[H ii,H F]),.bool false,f 0,f 1,f 2,f 3,f 4,M,M,M,M,M,M,M,M,M,M,M,M,M,M,M,M,M,M,M,M],defers:=[] }) 99 (DK (.iface 118 (.agg #[H ii,H F])) (cmV ⟨3,0,0,0,F,ii,0,⟨#[]⟩⟩) (.agg (yv 3 s ty li F ii pr L).toArray) sm)) (by kernel_rfl) ?_ ?_ ?_
 ·exact ⟨fun _=>M,rfl,⟨rfl,rfl,rfl,Nat.le_refl _,fun _ _=>rfl⟩,fun j K=>by rw [yG] at K; split at K <;> simp at K⟩
 ·rintro x xj V ⟨f,rfl,xh,hD⟩ hx xL
  have xn:=zO xL hx (by kernel_rfl)
  have e4:f 4 = .bool (!sm):=hD 4 (xn 4 (by simp))
  have xr:=Y (eE (U xY) xh)
  have z0:=zb (U xR).1 xh (U xR).2.2.1 0 _ rfl
  have z1:=zb (U xR).1 xh (U xR).2.2.1 1 _ rfl
  rw [Nat.zero_add] at z0 z1
  have ta1:∀ W:World,Sem.run Tryz.prog (Instr.typeAssert (.iface 118 (.agg #[H ii,H F])) 109 112 true) W = .ok (.tuple #[.agg #[H 0,H 0,H 0,H 0,yi 0,yj ⟨#[]⟩],.bool false]) W:=fun W=>by kernel_rfl
  have ta2:∀ W:World,Sem.run Tryz.prog (Instr.typeAssert (.iface 118 (.agg #[H ii,H F])) 109 115 true) W = .ok (.tuple #[.agg #[H 0],.bool false]) W:=fun W=>by kernel_rfl
  have ta3:∀ W:World,Sem.run Tryz.prog (Instr.typeAssert (.iface 118 (.agg #[H ii,H F])) 109 118 true) W = .ok (.tuple #[.agg #[H ii,H F],.bool true]) W:=fun W=>by kernel_rfl
  simp only [e4]
  generalize f 0 = e0,f 1 = e1,f 2 = e2,f 3 = e3
  clear hD xn e4 xL hx xh f x
  cases sm
  ·go_wp2_with fail
   go_ret
   exact ⟨rfl,U xr⟩
  ·have xI:w.heap.size < V.heap.size:=yI V (yp w 0) z0
   have y0:World.cell? (V.alloc (N #[H ii,H F] 118)) (yp w 0) = some (H next):=(yT _ _ _ xI).trans z0
   have y1:World.cell? (V.alloc (N #[H ii,H F] 118)) (yp w 1) = some (.slice a l.length A):=(yT _ _ _ xI).trans z1
   have qd:Hid (ym w (V.alloc (N #[H ii,H F] 118))):=(U xr).alloc (U xr).size _
   clear z0 z1 xI
   go_wp2_with fail
   refine (reduceRefusal_any next _ l ii F _ (zh (U HR) (U qd) hb)).mono ?_
   rintro e w7 ⟨rfl,qj⟩
   have jJ:=Y (eE (U qd) qj)
   clear qj
   go_wp2_with fail
   go_ret
   exact ⟨rfl,U jJ⟩
 ·rintro x xj V i op ⟨f,rfl,xh,hD⟩ X hx Z xu Q
  clear X
  have xr:=Y xh
  have HD:=Y hD
  have u0:=zb (U xR).2.1 xh (U xR).2.2.2 0 _ rfl
  have u1:=zb (U xR).2.1 xh (U xR).2.2.2 1 _ rfl
  have u2:=zb (U xR).2.1 xh (U xR).2.2.2 2 _ rfl
  have u3:=zb (U xR).2.1 xh (U xR).2.2.2 3 _ rfl
  have u4:=zb (U xR).2.1 xh (U xR).2.2.2 4 _ rfl
  have u5:=zb (U xR).2.1 xh (U xR).2.2.2 5 _ rfl
  have u6:=zb (U xR).2.1 xh (U xR).2.2.2 6 _ rfl
  have u7:=zb (U xR).2.1 xh (U xR).2.2.2 7 _ rfl
  rw [Nat.zero_add] at u0 u1 u2 u3 u4 u5 u6 u7
  match i,Z with
  | 0,Z =>
   obtain rfl:=ya Z
   clear Q hD xh
   rw [if_pos (by rfl)];unfold Oper.wp;go_simp
   exact ⟨upd f 0 (.iface 118 (.agg #[H ii,H F])),by simp [upd],zd (U xr) (U HD) (by decide) rfl⟩
  | 1,Z =>
   obtain rfl:=ya Z
   have g:f 0 = .iface 118 (.agg #[H ii,H F]):=hD 0 (yd Q 0 rfl)
   have hm:∀ W:World,Sem.run Tryz.prog (method 322 118 (.agg #[H ii,H F]) "loop.example/g00092/impl.told") W = .ok (186,.agg #[H ii,H F]) W:=fun W=>by kernel_rfl
   clear Q hD xh
   rw [if_pos (by rfl)];unfold Oper.wp;go_simp
   refine (toldReduce_any ii F V).mono ?_
   rintro e w4 ⟨rfl,xy⟩
   exact ⟨upd f 1 (cmV ⟨3,0,0,0,F,ii,0,⟨#[]⟩⟩),by simp [upd,g]; rfl,aT (U xr) (U HD) xy (by decide) (fun j v h=>h) rfl⟩
  | 2,Z =>
   obtain rfl:=ya Z
   clear Q hD xh
   rw [if_pos (by rfl)];unfold Oper.wp;go_simp
   exact ⟨upd f 2 (.agg (yv 3 s ty li F ii pr L).toArray),by simp [upd],zd (U xr) (U HD) (by decide) rfl⟩
  | 3,Z =>
   obtain rfl:=ya Z
   have g1:f 1 = cmV ⟨3,0,0,0,F,ii,0,⟨#[]⟩⟩:=hD 1 (yd Q 1 rfl)
   have g2:f 2 = .agg (yv 3 s ty li F ii pr L).toArray:=hD 2 (yd Q 2 rfl)
   clear Q hD xh
   rw [if_pos (by rfl)];unfold Oper.wp;go_simp
   refine (dT ⟨3,0,0,0,F,ii,0,⟨#[]⟩⟩ ⟨3,s,ty,li,F,ii,pr,L⟩ V).mono ?_
   rw [U HSM]
   rintro e w4 ⟨rfl,xy⟩
   exact ⟨upd f 3 (.bool sm),by simp [upd,g1,g2],aT (U xr) (U HD) xy (by decide) (fun j v h=>h) rfl⟩
  | 4,Z =>
   obtain rfl:=ya Z
   have g:f 3 = .bool sm:=hD 3 (yd Q 3 rfl)
   clear Q hD xh
   rw [if_pos (by rfl)];unfold Oper.wp;go_simp
   exact ⟨upd f 4 (.bool (!sm)),by simp [upd,g],zd (U xr) (U HD) (by decide) rfl⟩
  | n + 5,Z=>simp at Z
theorem refusal_4 (next:Int) (vb:Value) (l:List Od) (s ty li F ii:Int) (pr:Nat) (L:ByteArray) (w:World) (hr:RdR Od.vs 6 w vb l) (hs:SlOk vb) (hg:GoodL l) (h0:0 ≤ next) (G:next ≤ 1000000) (ht:L.size ≤ maxLen) :
  Calls Tryz.prog 63 #[.agg #[H next,vb],.agg (yv 4 s ty li F ii pr L).toArray] w fun e w'=>e = yl (H (if aD ⟨4,0,0,0,0,0,0,⟨#[]⟩⟩ ⟨4,s,ty,li,F,ii,pr,L⟩ = true then 0 else 2))∧ym w w':=by
 have HR:=Y hr
 have HG:=Y hg
 have vC:=Y hs
 have uG:Hid (0 ≤ next∧next ≤ 1000000):=⟨h0,G⟩
 have qw:=Y ht
 obtain ⟨a,A,rfl,xC,hc⟩:=hr
 clear hc hg hs h0 G ht xC
 generalize hsm:aD ⟨4,0,0,0,0,0,0,⟨#[]⟩⟩ ⟨4,s,ty,li,F,ii,pr,L⟩ = sm
 have HSM:=Y hsm
 clear hsm
 have xz:=zf w (N #[H next,.slice a l.length A] 28)
 have xZ:((w.alloc (N #[H next,.slice a l.length A] 28)).alloc (N (yv 4 s ty li F ii pr L).toArray 43)).heap.size = w.heap.size + 1 + 1:=by rw [zf,xz]
 have r1:=zg w [H next,.slice a l.length A] 28
 have r2:=zg (w.alloc (N #[H next,.slice a l.length A] 28)) (yv 4 s ty li F ii pr L) 43
 rw [xz] at r2
 have qp:Below (w.heap.size + 1) (w.alloc (N #[H next,.slice a l.length A] 28)) ((w.alloc (N #[H next,.slice a l.length A] 28)).alloc (N (yv 4 s ty li F ii pr L).toArray 43)):=(Below.refl _ _).alloc (by rw [xz]; omega) _
 have xD:Hid (ym w ((w.alloc (N #[H next,.slice a l.length A] 28)).alloc (N (yv 4 s ty li F ii pr L).toArray 43))):=(eB _ _).alloc (by rw [xz]; omega) _
 have HX:Hid (_∧_):=⟨zb r1 qp (by omega),r2⟩
 have ut:Hid (w.heap.size < ((w.alloc (N #[H next,.slice a l.length A] 28)).alloc (N (yv 4 s ty li F ii pr L).toArray 43)).heap.size∧w.heap.size + 1 < ((w.alloc (N #[H next,.slice a l.length A] 28)).alloc (N (yv 4 s ty li F ii pr L).toArray 43)).heap.size):=⟨by omega,by omega⟩
 clear xz xZ r1 r2 qp
 go_enter Tryz.func63,Tryz.ntmps63
 refine eF fun hj xq=>?_
 go_wp2_with fail
 refine U xq _ _ ?_
 clear xq
 generalize ((w.alloc (N #[H next,.slice a l.length A] 28)).alloc (N (yv 4 s ty li F ii pr L).toArray 43)) = X2 at xD HX ut ⊢
 have HX:Hid (X2.rangeAt w.heap.size 0 [H next,.slice a l.length A]∧X2.rangeAt (w.heap.size + 1) 0 (yv 4 s ty li F ii pr L)):=U HX
 obtain ⟨o0,o1,o2,o3,o4,o5,o6,o7⟩:=yB (U HX).2
 go_wp2_with fail
 refine (bY ⟨4,s,ty,li,F,ii,pr,L⟩ X2).mono ?_
 have jm:cmdI ⟨4,s,ty,li,F,ii,pr,L⟩ = .iface 121 (.agg #[]):=by simp [cmdI]
 rw [jm]
 clear jm
 rintro e w4 ⟨rfl,xy⟩
 have xY:=Y (eE (U xD) xy)
 have xR:Hid (w4.rangeAt w.heap.size 0 [H next,.slice a l.length A]∧w4.rangeAt (w.heap.size + 1) 0 (yv 4 s ty li F ii pr L)∧w.heap.size < w4.heap.size∧w.heap.size + 1 < w4.heap.size):=⟨zb (U HX).1 xy (U ut).1,zb (U HX).2 xy (U ut).2,yH (U ut).1 xy.size,yH (U ut).2 xy.size⟩
 clear xy o0 o1 o2 o3 o4 o5 o6 o7
 go_wp2_with fail
 refine zi (RG w4 (fun f=>{ tmps:=#[.agg #[H next,.slice a l.length A],.agg (yv 4 s ty li F ii pr L).toArray,yn w 0,I (w.heap.size + 1) 0,H 0,.iface 121 (.agg #[]),M,M,M,.agg (yv 4 s ty li F ii pr L).toArray,.iface 121 (.agg #[]),.iface 121 (.agg #[]),.bool false,f 0,f 1,f 2,f 3,f 4,M,M,M,M,M,M,M,M,M,M,M,M,M,M,M,M,M,M,M,M],defers:=[] }) 99 (DK (.iface 121 (.agg #[])) (cmV ⟨4,0,0,0,0,0,0,⟨#[]⟩⟩) (.agg (yv 4 s ty li F ii pr L).toArray) sm)) (by kernel_rfl) ?_ ?_ ?_
 ·exact ⟨fun _=>M,rfl,⟨rfl,rfl,rfl,Nat.le_refl _,fun _ _=>rfl⟩,fun j K=>by rw [yG] at K; split at K <;> simp at K⟩
 ·rintro x xj V ⟨f,rfl,xh,hD⟩ hx xL
  have xn:=zO xL hx (by kernel_rfl)
  have e4:f 4 = .bool (!sm):=hD 4 (xn 4 (by simp))
  have xr:=Y (eE (U xY) xh)
  have z0:=zb (U xR).1 xh (U xR).2.2.1 0 _ rfl
  have z1:=zb (U xR).1 xh (U xR).2.2.1 1 _ rfl
  rw [Nat.zero_add] at z0 z1
  have ta1:∀ W:World,Sem.run Tryz.prog (Instr.typeAssert (.iface 121 (.agg #[])) 109 112 true) W = .ok (.tuple #[.agg #[H 0,H 0,H 0,H 0,yi 0,yj ⟨#[]⟩],.bool false]) W:=fun W=>by kernel_rfl
  have ta2:∀ W:World,Sem.run Tryz.prog (Instr.typeAssert (.iface 121 (.agg #[])) 109 115 true) W = .ok (.tuple #[.agg #[H 0],.bool false]) W:=fun W=>by kernel_rfl
  have ta3:∀ W:World,Sem.run Tryz.prog (Instr.typeAssert (.iface 121 (.agg #[])) 109 118 true) W = .ok (.tuple #[.agg #[H 0,H 0],.bool false]) W:=fun W=>by kernel_rfl
  simp only [e4]
  generalize f 0 = e0,f 1 = e1,f 2 = e2,f 3 = e3
  clear hD xn e4 xL hx xh f x
  cases sm
  ·go_wp2_with fail
   go_ret
   exact ⟨rfl,U xr⟩
  ·go_wp2_with fail
   go_ret
   exact ⟨rfl,U xr⟩
 ·rintro x xj V i op ⟨f,rfl,xh,hD⟩ X hx Z xu Q
  clear X
  have xr:=Y xh
  have HD:=Y hD
  have u0:=zb (U xR).2.1 xh (U xR).2.2.2 0 _ rfl
  have u1:=zb (U xR).2.1 xh (U xR).2.2.2 1 _ rfl
  have u2:=zb (U xR).2.1 xh (U xR).2.2.2 2 _ rfl
  have u3:=zb (U xR).2.1 xh (U xR).2.2.2 3 _ rfl
  have u4:=zb (U xR).2.1 xh (U xR).2.2.2 4 _ rfl
  have u5:=zb (U xR).2.1 xh (U xR).2.2.2 5 _ rfl
  have u6:=zb (U xR).2.1 xh (U xR).2.2.2 6 _ rfl
  have u7:=zb (U xR).2.1 xh (U xR).2.2.2 7 _ rfl
  rw [Nat.zero_add] at u0 u1 u2 u3 u4 u5 u6 u7
  match i,Z with
  | 0,Z =>
   obtain rfl:=ya Z
   clear Q hD xh
   rw [if_pos (by rfl)];unfold Oper.wp;go_simp
   exact ⟨upd f 0 (.iface 121 (.agg #[])),by simp [upd],zd (U xr) (U HD) (by decide) rfl⟩
  | 1,Z =>
   obtain rfl:=ya Z
   have g:f 0 = .iface 121 (.agg #[]):=hD 0 (yd Q 0 rfl)
   have hm:∀ W:World,Sem.run Tryz.prog (method 322 121 (.agg #[]) "loop.example/g00092/impl.told") W = .ok (187,.agg #[]) W:=fun W=>by kernel_rfl
   clear Q hD xh
   rw [if_pos (by rfl)];unfold Oper.wp;go_simp
   refine (toldDay_any V).mono ?_
   rintro e w4 ⟨rfl,xy⟩
   exact ⟨upd f 1 (cmV ⟨4,0,0,0,0,0,0,⟨#[]⟩⟩),by simp [upd,g]; rfl,aT (U xr) (U HD) xy (by decide) (fun j v h=>h) rfl⟩
  | 2,Z =>
   obtain rfl:=ya Z
   clear Q hD xh
   rw [if_pos (by rfl)];unfold Oper.wp;go_simp
   exact ⟨upd f 2 (.agg (yv 4 s ty li F ii pr L).toArray),by simp [upd],zd (U xr) (U HD) (by decide) rfl⟩
  | 3,Z =>
   obtain rfl:=ya Z
   have g1:f 1 = cmV ⟨4,0,0,0,0,0,0,⟨#[]⟩⟩:=hD 1 (yd Q 1 rfl)
   have g2:f 2 = .agg (yv 4 s ty li F ii pr L).toArray:=hD 2 (yd Q 2 rfl)
   clear Q hD xh
   rw [if_pos (by rfl)];unfold Oper.wp;go_simp
   refine (dT ⟨4,0,0,0,0,0,0,⟨#[]⟩⟩ ⟨4,s,ty,li,F,ii,pr,L⟩ V).mono ?_
   rw [U HSM]
   rintro e w4 ⟨rfl,xy⟩
   exact ⟨upd f 3 (.bool sm),by simp [upd,g1,g2],aT (U xr) (U HD) xy (by decide) (fun j v h=>h) rfl⟩
  | 4,Z =>
   obtain rfl:=ya Z
   have g:f 3 = .bool sm:=hD 3 (yd Q 3 rfl)
   clear Q hD xh
   rw [if_pos (by rfl)];unfold Oper.wp;go_simp
   exact ⟨upd f 4 (.bool (!sm)),by simp [upd,g],zd (U xr) (U HD) (by decide) rfl⟩
  | n + 5,Z=>simp at Z
def refR (next:Int) (l:List Od) (c:Cm):Int :=
 if c.k = 1 then (if aD ⟨1,c.s,c.t,c.l,c.q,0,c.p,c.g⟩ c = true then newR next l c else 2)
 else if c.k = 2 then (if aD ⟨2,0,0,0,0,c.i,0,⟨#[]⟩⟩ c = true then idR l c.i else 2)
 else if c.k = 3 then (if aD ⟨3,0,0,0,c.q,c.i,0,⟨#[]⟩⟩ c = true then redR l c.i c.q else 2)
 else if c.k = 4 then (if aD ⟨4,0,0,0,0,0,0,⟨#[]⟩⟩ c = true then 0 else 2)
 else 1
theorem refusal_any (next:Int) (vb:Value) (l:List Od) (c:Cm) (w:World) (hr:RdR Od.vs 6 w vb l) (hs:SlOk vb) (hg:GoodL l) (h0:0 ≤ next) (G:next ≤ 1000000) (ht:c.g.size ≤ maxLen) :
  Calls Tryz.prog 63 #[.agg #[H next,vb],cmV c] w fun e w'=>e = yl (H (refR next l c))∧ym w w':=by
 obtain ⟨kk,s,ty,li,F,ii,pr,L⟩:=c
 unfold cmV
 simp only at ht ⊢
 by_cases e1:kk = 1
 ·subst e1; exact refusal_1 next vb l s ty li F ii pr L w hr hs hg h0 G ht
 by_cases e2:kk = 2
 ·subst e2; exact refusal_2 next vb l s ty li F ii pr L w hr hs hg h0 G ht
 by_cases e3:kk = 3
 ·subst e3; exact refusal_3 next vb l s ty li F ii pr L w hr hs hg h0 G ht
 by_cases e4:kk = 4
 ·subst e4; exact refusal_4 next vb l s ty li F ii pr L w hr hs hg h0 G ht
 have vH:Hid (refR next l ⟨kk,s,ty,li,F,ii,pr,L⟩ = 1):=by show _ = _; simp [refR,e1,e2,e3,e4]
 have jm:cmdI ⟨kk,s,ty,li,F,ii,pr,L⟩ = .nilIface:=by simp [cmdI,e1,e2,e3,e4]
 obtain ⟨a,A,rfl,xC,hc⟩:=hr
 clear hc hg hs h0 G ht xC e1 e2 e3 e4
 have xz:=zf w (N #[H next,.slice a l.length A] 28)
 have xZ:((w.alloc (N #[H next,.slice a l.length A] 28)).alloc (N (yv kk s ty li F ii pr L).toArray 43)).heap.size = w.heap.size + 1 + 1:=by rw [zf,xz]
 have r1:=zg w [H next,.slice a l.length A] 28
 have r2:=zg (w.alloc (N #[H next,.slice a l.length A] 28)) (yv kk s ty li F ii pr L) 43
 rw [xz] at r2
 have qp:Below (w.heap.size + 1) (w.alloc (N #[H next,.slice a l.length A] 28)) ((w.alloc (N #[H next,.slice a l.length A] 28)).alloc (N (yv kk s ty li F ii pr L).toArray 43)):=(Below.refl _ _).alloc (by rw [xz]; omega) _
 have xD:Hid (ym w ((w.alloc (N #[H next,.slice a l.length A] 28)).alloc (N (yv kk s ty li F ii pr L).toArray 43))):=(eB _ _).alloc (by rw [xz]; omega) _
 have HX:Hid (_∧_):=⟨zb r1 qp (by omega),r2⟩
 have ut:Hid (w.heap.size < ((w.alloc (N #[H next,.slice a l.length A] 28)).alloc (N (yv kk s ty li F ii pr L).toArray 43)).heap.size∧w.heap.size + 1 < ((w.alloc (N #[H next,.slice a l.length A] 28)).alloc (N (yv kk s ty li F ii pr L).toArray 43)).heap.size):=⟨by omega,by omega⟩
 clear xz xZ r1 r2 qp
 go_enter Tryz.func63,Tryz.ntmps63
 refine eF fun hj xq=>?_
 go_wp2_with fail
 refine U xq _ _ ?_
 clear xq
 generalize ((w.alloc (N #[H next,.slice a l.length A] 28)).alloc (N (yv kk s ty li F ii pr L).toArray 43)) = X2 at xD HX ut ⊢
 have HX:Hid (X2.rangeAt w.heap.size 0 [H next,.slice a l.length A]∧X2.rangeAt (w.heap.size + 1) 0 (yv kk s ty li F ii pr L)) :=U HX
 have k0:X2.cell? (yp w 0) = some (H next):=(U HX).1 0 _ rfl
 have k1:X2.cell? (yp w 1) = some (.slice a l.length A):=(U HX).1 1 _ rfl
 obtain ⟨o0,o1,o2,o3,o4,o5,o6,o7⟩:=yB (U HX).2
 go_wp2_with fail
 refine (bY ⟨kk,s,ty,li,F,ii,pr,L⟩ X2).mono ?_
 rw [jm]
 clear jm
 rintro e w4 ⟨rfl,xy⟩
 have xY:=Y (eE (U xD) xy)
 clear xy
 go_wp2_with fail
 go_ret
 exact ⟨zv (U vH).symm,U xY⟩
theorem okS_good {next:Int} {l:List Od} (h:okS next l = true):GoodL l∧0 ≤ next∧next ≤ 1000000:=by
 simp only [okS,xc,xd] at h
 obtain ⟨⟨⟨G,D⟩,h4⟩,_⟩:=h
 refine ⟨⟨D,fun o Z=>?_,(ei h4).1⟩,?_,?_⟩
 ·have:=allR_sides h4 o Z
  simp [ordB,betB] at this
  omega
 ·simp [betB] at G; omega
 ·simp [betB] at G; omega
def reaC (next:Int) (l:List Od):Int:=if okS next l = true then 0 else 1
end Go.Proofs.YtbakanofkghmiaaGreat
