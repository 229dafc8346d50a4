/-
  The reason why a command is refused, by the program: proved by walking the function, kind by kind.
-/
import Derived.Test.YtnphbkgfjanmgaaGreatDoorBj17
set_option linter.unusedVariables false
set_option maxHeartbeats 6400000
set_option maxRecDepth 100000
namespace Go.Proofs.YtnphbkgfjanmgaaGreatDoor
open Go.RowKit
def DK (iv tv cv:Value) (sm:Bool) (p:Prop) (xn:World):Nat→Value→Prop
 | 0,v=>v = iv
 | 1,v=>v = tv
 | 2,v=>v = cv
 | 3,v=>v = .bool sm
 | 4,v=>v = .bool (!sm)
 | _,_=>True
theorem refusal_1 (next:Int) (vb:Value) (l:List Od) (s ty li qt ii:Int) (pr:Nat) (tg:ByteArray) (w:World) (hr:RdR Od.vs 6 w vb l) (hs:SlOk vb) (hg:GoodL l) (h0:0 ≤ next) (Q:next ≤ 1000000) (ht:tg.size ≤ maxLen) :
  Calls Tryz.prog 136 #[.agg #[I next,vb],.agg (yx 1 s ty li qt ii pr tg).toArray] w fun e w'=>e = ym (I (if aX ⟨1,s,ty,li,qt,0,pr,tg⟩ ⟨1,s,ty,li,qt,ii,pr,tg⟩ = true then newR next l ⟨1,s,ty,li,qt,ii,pr,tg⟩ else 2))∧yn w w':=by
 have HR:=M hr
 have HG:=M hg
 have km:=M hs
 have vO:Hid (0 ≤ next∧next ≤ 1000000):=⟨h0,Q⟩
 have HTG:=M ht
 obtain ⟨a,cap,rfl,xA,hc⟩:=hr
 clear hc hg hs h0 Q ht xA
 generalize hsm:aX ⟨1,s,ty,li,qt,0,pr,tg⟩ ⟨1,s,ty,li,qt,ii,pr,tg⟩ = sm
 have HSM:=M hsm
 clear hsm
 have xK:=zi w (A #[I next,.slice a l.length cap] 34)
 have ue:((w.alloc (A #[I next,.slice a l.length cap] 34)).alloc (A (yx 1 s ty li qt ii pr tg).toArray 50)).heap.size = w.heap.size + 1 + 1:=by rw [zi,xK]
 have r1:=zn w [I next,.slice a l.length cap] 34
 have r2:=zn (w.alloc (A #[I next,.slice a l.length cap] 34)) (yx 1 s ty li qt ii pr tg) 50
 rw [xK] at r2
 have qz:Below (w.heap.size + 1) (w.alloc (A #[I next,.slice a l.length cap] 34)) ((w.alloc (A #[I next,.slice a l.length cap] 34)).alloc (A (yx 1 s ty li qt ii pr tg).toArray 50)):=(Below.refl _ _).alloc (by rw [xK]; omega) _
 have xu:Hid (yn w ((w.alloc (A #[I next,.slice a l.length cap] 34)).alloc (A (yx 1 s ty li qt ii pr tg).toArray 50))):=(fE _ _).alloc (by rw [xK]; omega) _
 have HX:Hid (_∧_):=⟨zc r1 qz (by omega),r2⟩
 have uu:Hid (w.heap.size < ((w.alloc (A #[I next,.slice a l.length cap] 34)).alloc (A (yx 1 s ty li qt ii pr tg).toArray 50)).heap.size∧w.heap.size + 1 < ((w.alloc (A #[I next,.slice a l.length cap] 34)).alloc (A (yx 1 s ty li qt ii pr tg).toArray 50)).heap.size):=⟨by omega,by omega⟩
 clear xK ue r1 r2 qz
 go_enter Tryz.func136,Tryz.ntmps136
 refine fI fun hR xU=>?_
 go_wp2_with fail
 refine H xU _ _ ?_
 clear xU
 generalize ((w.alloc (A #[I next,.slice a l.length cap] 34)).alloc (A (yx 1 s ty li qt ii pr tg).toArray 50)) = X2 at xu HX uu ⊢
 have HX:Hid (X2.rangeAt w.heap.size 0 [I next,.slice a l.length cap]∧X2.rangeAt (w.heap.size + 1) 0 (yx 1 s ty li qt ii pr tg)):=H HX
 obtain ⟨o0,o1,o2,o3,o4,o5,o6,o7⟩:=yD (H HX).2
 go_wp2_with fail
 refine (eb ⟨1,s,ty,li,qt,ii,pr,tg⟩ X2).mono ?_
 have aH:cmdI ⟨1,s,ty,li,qt,ii,pr,tg⟩ = .iface 85 (.agg #[I s,I ty,I li,I qt,yj pr,yk tg]):=by simp [cmdI,noV]
 rw [aH]
 clear aH
 rintro e w4 ⟨rfl,xw⟩
 have xG:=M (fH (H xu) xw)
 have xE:Hid (w4.rangeAt w.heap.size 0 [I next,.slice a l.length cap]∧w4.rangeAt (w.heap.size + 1) 0 (yx 1 s ty li qt ii pr tg)∧w.heap.size < w4.heap.size∧w.heap.size + 1 < w4.heap.size):=⟨zc (H HX).1 xw (H uu).1,zc (H HX).2 xw (H uu).2,yJ (H uu).1 xw.size,yJ (H uu).2 xw.size⟩
 clear xw o0 o1 o2 o3 o4 o5 o6 o7
 go_wp2_with fail
 refine zk (RG w4 (fun f=>{ tmps:=#[.agg #[I next,.slice a l.length cap],.agg (yx 1 s ty li qt ii pr tg).toArray,yp w 0,J (w.heap.size + 1) 0,I 0,.iface 85 (.agg #[I s,I ty,I li,I qt,yj pr,yk tg]),Z,Z,Z,.agg (yx 1 s ty li qt ii pr tg).toArray,.iface 85 (.agg #[I s,I ty,I li,I qt,yj pr,yk tg]),.iface 85 (.agg #[I s,I ty,I li,I qt,yj pr,yk tg]),.bool false,f 0,f 1,f 2,f 3,f 4,Z,Z,Z,Z,Z,Z,Z,Z,Z,Z,Z,Z,Z,Z,Z,Z,Z,Z,Z,Z],defers:=[] }) 99 (DK (.iface 85 (.agg #[I s,I ty,I li,I qt,yj pr,yk tg])) (cmV ⟨1,s,ty,li,qt,0,pr,tg⟩) (.agg (yx 1 s ty li qt ii pr tg).toArray) sm)) (by kernel_rfl) ?_ ?_ ?_
 ·exact ⟨fun _=>Z,rfl,⟨rfl,rfl,rfl,Nat.le_refl _,fun _ _=>rfl⟩,fun j O=>by rw [yI] at O; split at O <;> simp at O⟩
 ·rintro x fG xn ⟨f,rfl,xk,hD⟩ hx xN
  have xo:=bT xN hx (by kernel_rfl)
  have e4:f 4 = .bool (!sm):=hD 4 (xo 4 (by simp))
  have xy:=M (fH (H xG) xk)
  have z0:=zc (H xE).1 xk (H xE).2.2.1 0 _ rfl
  have z1:=zc (H xE).1 xk (H xE).2.2.1 1 _ rfl
  rw [Nat.zero_add] at z0 z1
  have ta1:∀ W:World,Sem.run Tryz.prog (Instr.typeAssert (.iface 85 (.agg #[I s,I ty,I li,I qt,yj pr,yk tg])) 206 85 true) W = .ok (.tuple #[.agg #[I s,I ty,I li,I qt,yj pr,yk tg],.bool true]) W:=fun W=>by kernel_rfl
  simp only [e4]
  generalize f 0 = e0,f 1 = e1,f 2 = e2,f 3 = e3
  clear hD xo e4 xN hx xk f x
  cases sm
  ·go_wp2_with fail
   go_ret
   exact ⟨rfl,H xy⟩
  ·have xI:w.heap.size < xn.heap.size:=yK xn (yq w 0) z0
   have y0:World.cell? (xn.alloc (A #[I s,I ty,I li,I qt,yj pr,yk tg] 85)) (yq w 0) = some (I next):=(yV _ _ _ xI).trans z0
   have y1:World.cell? (xn.alloc (A #[I s,I ty,I li,I qt,yj pr,yk tg] 85)) (yq w 1) = some (.slice a l.length cap):=(yV _ _ _ xI).trans z1
   have kt:Hid (yn w (xn.alloc (A #[I s,I ty,I li,I qt,yj pr,yk tg] 85))):=(H xy).alloc (H xy).size _
   clear z0 z1 xI
   have hsf:=sfl
   go_wp2_with fail
   refine (newRefusal_any next _ l ⟨1,s,ty,li,qt,ii,pr,tg⟩ _ (zh (H HR) (H kt) ya) (H km) (H HG) (H vO).1 (H vO).2 (H HTG)).mono ?_
   rintro e w7 ⟨rfl,vX⟩
   have qx:=M (fH (H kt) vX)
   clear vX
   go_wp2_with fail
   go_ret
   exact ⟨rfl,H qx⟩
 ·rintro x fG xn i op ⟨f,rfl,xk,hD⟩ V hx N xq D
  clear V
  have xy:=M xk
  have HD:=M hD
  have u0:=zc (H xE).2.1 xk (H xE).2.2.2 0 _ rfl
  have u1:=zc (H xE).2.1 xk (H xE).2.2.2 1 _ rfl
  have u2:=zc (H xE).2.1 xk (H xE).2.2.2 2 _ rfl
  have u3:=zc (H xE).2.1 xk (H xE).2.2.2 3 _ rfl
  have u4:=zc (H xE).2.1 xk (H xE).2.2.2 4 _ rfl
  have u5:=zc (H xE).2.1 xk (H xE).2.2.2 5 _ rfl
  have u6:=zc (H xE).2.1 xk (H xE).2.2.2 6 _ rfl
  have u7:=zc (H xE).2.1 xk (H xE).2.2.2 7 _ rfl
  rw [Nat.zero_add] at u0 u1 u2 u3 u4 u5 u6 u7
  match i,N with
  | 0,N =>
   obtain rfl:=yb N
   clear D hD xk
   rw [if_pos (by rfl)];unfold Oper.wp;go_simp
   exact ⟨upd f 0 (.iface 85 (.agg #[I s,I ty,I li,I qt,yj pr,yk tg])),by simp [upd],zf (H xy) (H HD) (by decide) rfl⟩
  | 1,N =>
   obtain rfl:=yb N
   have g:f 0 = .iface 85 (.agg #[I s,I ty,I li,I qt,yj pr,yk tg]):=hD 0 (ye D 0 rfl)
   have hm:∀ W:World,Sem.run Tryz.prog (method 399 85 (.agg #[I s,I ty,I li,I qt,yj pr,yk tg]) "loop.example/g00092/impl.told") W = .ok (235,.agg #[I s,I ty,I li,I qt,yj pr,yk tg]) W:=fun W=>by kernel_rfl
   clear D hD xk
   rw [if_pos (by rfl)];unfold Oper.wp;go_simp
   refine (toldNew_any ⟨1,s,ty,li,qt,ii,pr,tg⟩ xn).mono ?_
   rintro e w4 ⟨rfl,xw⟩
   exact ⟨upd f 1 (cmV ⟨1,s,ty,li,qt,0,pr,tg⟩),by simp [upd,g]; rfl,bm (H xy) (H HD) xw (by decide) (fun j v h=>h) rfl⟩
  | 2,N =>
   obtain rfl:=yb N
   clear D hD xk
   rw [if_pos (by rfl)];unfold Oper.wp;go_simp
   exact ⟨upd f 2 (.agg (yx 1 s ty li qt ii pr tg).toArray),by simp [upd],zf (H xy) (H HD) (by decide) rfl⟩
  | 3,N =>
   obtain rfl:=yb N
   have g1:f 1 = cmV ⟨1,s,ty,li,qt,0,pr,tg⟩:=hD 1 (ye D 1 rfl)
   have g2:f 2 = .agg (yx 1 s ty li qt ii pr tg).toArray:=hD 2 (ye D 2 rfl)
   clear D hD xk
   rw [if_pos (by rfl)];unfold Oper.wp;go_simp
   refine (eD ⟨1,s,ty,li,qt,0,pr,tg⟩ ⟨1,s,ty,li,qt,ii,pr,tg⟩ xn).mono ?_
   rw [H HSM]
   rintro e w4 ⟨rfl,xw⟩
   exact ⟨upd f 3 (.bool sm),by simp [upd,g1,g2],bm (H xy) (H HD) xw (by decide) (fun j v h=>h) rfl⟩
  | 4,N =>
   obtain rfl:=yb N
   have g:f 3 = .bool sm:=hD 3 (ye D 3 rfl)
   clear D hD xk
   rw [if_pos (by rfl)];unfold Oper.wp;go_simp
   exact ⟨upd f 4 (.bool (!sm)),by simp [upd,g],zf (H xy) (H HD) (by decide) rfl⟩
  | n + 5,N=>simp at N
theorem refusal_2 (next:Int) (vb:Value) (l:List Od) (s ty li qt ii:Int) (pr:Nat) (tg:ByteArray) (w:World) (hr:RdR Od.vs 6 w vb l) (hs:SlOk vb) (hg:GoodL l) (h0:0 ≤ next) (Q:next ≤ 1000000) (ht:tg.size ≤ maxLen) :
  Calls Tryz.prog 136 #[.agg #[I next,vb],.agg (yx 2 s ty li qt ii pr tg).toArray] w fun e w'=>e = ym (I (if aX ⟨2,0,0,0,0,ii,0,⟨#[]⟩⟩ ⟨2,s,ty,li,qt,ii,pr,tg⟩ = true then idR l ii else 2))∧yn w w':=by
 have HR:=M hr
 have HG:=M hg
 have km:=M hs
 have vO:Hid (0 ≤ next∧next ≤ 1000000):=⟨h0,Q⟩
 have HTG:=M ht
 obtain ⟨a,cap,rfl,xA,hc⟩:=hr
 clear hc hg hs h0 Q ht xA
 generalize hsm:aX ⟨2,0,0,0,0,ii,0,⟨#[]⟩⟩ ⟨2,s,ty,li,qt,ii,pr,tg⟩ = sm
 have HSM:=M hsm
 clear hsm
 have xK:=zi w (A #[I next,.slice a l.length cap] 34)
 have ue:((w.alloc (A #[I next,.slice a l.length cap] 34)).alloc (A (yx 2 s ty li qt ii pr tg).toArray 50)).heap.size = w.heap.size + 1 + 1:=by rw [zi,xK]
 have r1:=zn w [I next,.slice a l.length cap] 34
 have r2:=zn (w.alloc (A #[I next,.slice a l.length cap] 34)) (yx 2 s ty li qt ii pr tg) 50
 rw [xK] at r2
 have qz:Below (w.heap.size + 1) (w.alloc (A #[I next,.slice a l.length cap] 34)) ((w.alloc (A #[I next,.slice a l.length cap] 34)).alloc (A (yx 2 s ty li qt ii pr tg).toArray 50)):=(Below.refl _ _).alloc (by rw [xK]; omega) _
 have xu:Hid (yn w ((w.alloc (A #[I next,.slice a l.length cap] 34)).alloc (A (yx 2 s ty li qt ii pr tg).toArray 50))):=(fE _ _).alloc (by rw [xK]; omega) _
 have HX:Hid (_∧_):=⟨zc r1 qz (by omega),r2⟩
 have uu:Hid (w.heap.size < ((w.alloc (A #[I next,.slice a l.length cap] 34)).alloc (A (yx 2 s ty li qt ii pr tg).toArray 50)).heap.size∧w.heap.size + 1 < ((w.alloc (A #[I next,.slice a l.length cap] 34)).alloc (A (yx 2 s ty li qt ii pr tg).toArray 50)).heap.size):=⟨by omega,by omega⟩
 clear xK ue r1 r2 qz
 go_enter Tryz.func136,Tryz.ntmps136
 refine fI fun hR xU=>?_
 go_wp2_with fail
 refine H xU _ _ ?_
 clear xU
 generalize ((w.alloc (A #[I next,.slice a l.length cap] 34)).alloc (A (yx 2 s ty li qt ii pr tg).toArray 50)) = X2 at xu HX uu ⊢
 have HX:Hid (X2.rangeAt w.heap.size 0 [I next,.slice a l.length cap]∧X2.rangeAt (w.heap.size + 1) 0 (yx 2 s ty li qt ii pr tg)):=H HX
 obtain ⟨o0,o1,o2,o3,o4,o5,o6,o7⟩:=yD (H HX).2
 go_wp2_with fail
 refine (eb ⟨2,s,ty,li,qt,ii,pr,tg⟩ X2).mono ?_
 have aH:cmdI ⟨2,s,ty,li,qt,ii,pr,tg⟩ = .iface 211 (.agg #[I ii]):=by simp [cmdI]
 rw [aH]
 clear aH
 rintro e w4 ⟨rfl,xw⟩
 have xG:=M (fH (H xu) xw)
 have xE:Hid (w4.rangeAt w.heap.size 0 [I next,.slice a l.length cap]∧w4.rangeAt (w.heap.size + 1) 0 (yx 2 s ty li qt ii pr tg)∧w.heap.size < w4.heap.size∧w.heap.size + 1 < w4.heap.size):=⟨zc (H HX).1 xw (H uu).1,zc (H HX).2 xw (H uu).2,yJ (H uu).1 xw.size,yJ (H uu).2 xw.size⟩
 clear xw o0 o1 o2 o3 o4 o5 o6 o7
 go_wp2_with fail
 refine zk (RG w4 (fun f=>{ tmps:=#[.agg #[I next,.slice a l.length cap],.agg (yx 2 s ty li qt ii pr tg).toArray,yp w 0,J (w.heap.size + 1) 0,I 0,.iface 211 (.agg #[I ii]),Z,Z,Z,.agg (yx 2 s ty li qt ii pr tg).toArray,.iface 211 (.agg #[I ii]),.iface 211 (.agg #[I ii]),.bool false,f 0,f 1,f 2,f 3,f 4,Z,Z,Z,Z,Z,Z,Z,Z,Z,Z,Z,Z,Z,Z,Z,Z,Z,Z,Z,Z],defers:=[] }) 99 (DK (.iface 211 (.agg #[I ii])) (cmV ⟨2,0,0,0,0,ii,0,⟨#[]⟩⟩) (.agg (yx 2 s ty li qt ii pr tg).toArray) sm)) (by kernel_rfl) ?_ ?_ ?_
 ·exact ⟨fun _=>Z,rfl,⟨rfl,rfl,rfl,Nat.le_refl _,fun _ _=>rfl⟩,fun j O=>by rw [yI] at O; split at O <;> simp at O⟩
 ·rintro x fG xn ⟨f,rfl,xk,hD⟩ hx xN
  have xo:=bT xN hx (by kernel_rfl)
  have e4:f 4 = .bool (!sm):=hD 4 (xo 4 (by simp))
  have xy:=M (fH (H xG) xk)
  have z0:=zc (H xE).1 xk (H xE).2.2.1 0 _ rfl
  have z1:=zc (H xE).1 xk (H xE).2.2.1 1 _ rfl
  rw [Nat.zero_add] at z0 z1
  have ta1:∀ W:World,Sem.run Tryz.prog (Instr.typeAssert (.iface 211 (.agg #[I ii])) 206 85 true) W = .ok (.tuple #[.agg #[I 0,I 0,I 0,I 0,yj 0,yk ⟨#[]⟩],.bool false]) W:=fun W=>by kernel_rfl
  have ta2:∀ W:World,Sem.run Tryz.prog (Instr.typeAssert (.iface 211 (.agg #[I ii])) 206 211 true) W = .ok (.tuple #[.agg #[I ii],.bool true]) W:=fun W=>by kernel_rfl
  simp only [e4]
  generalize f 0 = e0,f 1 = e1,f 2 = e2,f 3 = e3
  clear hD xo e4 xN hx xk f x
  cases sm
  ·go_wp2_with fail
   go_ret
   exact ⟨rfl,H xy⟩
  ·have xI:w.heap.size < xn.heap.size:=yK xn (yq w 0) z0
   have y0:World.cell? (xn.alloc (A #[I ii] 211)) (yq w 0) = some (I next):=(yV _ _ _ xI).trans z0
   have y1:World.cell? (xn.alloc (A #[I ii] 211)) (yq w 1) = some (.slice a l.length cap):=(yV _ _ _ xI).trans z1
   have kt:Hid (yn w (xn.alloc (A #[I ii] 211))):=(H xy).alloc (H xy).size _
   clear z0 z1 xI
   go_wp2_with fail
   refine (idRefusal_any next _ l ii _ (zh (H HR) (H kt) ya)).mono ?_
   rintro e w7 ⟨rfl,vX⟩
   have qx:=M (fH (H kt) vX)
   clear vX
   go_wp2_with fail
   go_ret
   exact ⟨rfl,H qx⟩
 ·rintro x fG xn i op ⟨f,rfl,xk,hD⟩ V hx N xq D
  clear V
  have xy:=M xk
  have HD:=M hD
  have u0:=zc (H xE).2.1 xk (H xE).2.2.2 0 _ rfl
  have u1:=zc (H xE).2.1 xk (H xE).2.2.2 1 _ rfl
  have u2:=zc (H xE).2.1 xk (H xE).2.2.2 2 _ rfl
  have u3:=zc (H xE).2.1 xk (H xE).2.2.2 3 _ rfl
  have u4:=zc (H xE).2.1 xk (H xE).2.2.2 4 _ rfl
  have u5:=zc (H xE).2.1 xk (H xE).2.2.2 5 _ rfl
  have u6:=zc (H xE).2.1 xk (H xE).2.2.2 6 _ rfl
  have u7:=zc (H xE).2.1 xk (H xE).2.2.2 7 _ rfl
  rw [Nat.zero_add] at u0 u1 u2 u3 u4 u5 u6 u7
  match i,N with
  | 0,N =>
   obtain rfl:=yb N
   clear D hD xk
   rw [if_pos (by rfl)];unfold Oper.wp;go_simp
   exact ⟨upd f 0 (.iface 211 (.agg #[I ii])),by simp [upd],zf (H xy) (H HD) (by decide) rfl⟩
  | 1,N =>
   obtain rfl:=yb N
   have g:f 0 = .iface 211 (.agg #[I ii]):=hD 0 (ye D 0 rfl)
   have hm:∀ W:World,Sem.run Tryz.prog (method 399 211 (.agg #[I ii]) "loop.example/g00092/impl.told") W = .ok (238,.agg #[I ii]) W:=fun W=>by kernel_rfl
   clear D hD xk
   rw [if_pos (by rfl)];unfold Oper.wp;go_simp
   refine (toldCancel_any ii xn).mono ?_
   rintro e w4 ⟨rfl,xw⟩
   exact ⟨upd f 1 (cmV ⟨2,0,0,0,0,ii,0,⟨#[]⟩⟩),by simp [upd,g]; rfl,bm (H xy) (H HD) xw (by decide) (fun j v h=>h) rfl⟩
  | 2,N =>
   obtain rfl:=yb N
   clear D hD xk
   rw [if_pos (by rfl)];unfold Oper.wp;go_simp
   exact ⟨upd f 2 (.agg (yx 2 s ty li qt ii pr tg).toArray),by simp [upd],zf (H xy) (H HD) (by decide) rfl⟩
  | 3,N =>
   obtain rfl:=yb N
   have g1:f 1 = cmV ⟨2,0,0,0,0,ii,0,⟨#[]⟩⟩:=hD 1 (ye D 1 rfl)
   have g2:f 2 = .agg (yx 2 s ty li qt ii pr tg).toArray:=hD 2 (ye D 2 rfl)
   clear D hD xk
   rw [if_pos (by rfl)];unfold Oper.wp;go_simp
   refine (eD ⟨2,0,0,0,0,ii,0,⟨#[]⟩⟩ ⟨2,s,ty,li,qt,ii,pr,tg⟩ xn).mono ?_
   rw [H HSM]
   rintro e w4 ⟨rfl,xw⟩
   exact ⟨upd f 3 (.bool sm),by simp [upd,g1,g2],bm (H xy) (H HD) xw (by decide) (fun j v h=>h) rfl⟩
  | 4,N =>
   obtain rfl:=yb N
   have g:f 3 = .bool sm:=hD 3 (ye D 3 rfl)
   clear D hD xk
   rw [if_pos (by rfl)];unfold Oper.wp;go_simp
   exact ⟨upd f 4 (.bool (!sm)),by simp [upd,g],zf (H xy) (H HD) (by decide) rfl⟩
  | n + 5,N=>simp at N
theorem refusal_3 (next:Int) (vb:Value) (l:List Od) (s ty li qt ii:Int) (pr:Nat) (tg:ByteArray) (w:World) (hr:RdR Od.vs 6 w vb l) (hs:SlOk vb) (hg:GoodL l) (h0:0 ≤ next) (Q:next ≤ 1000000) (ht:tg.size ≤ maxLen) :
  Calls Tryz.prog 136 #[.agg #[I next,vb],.agg (yx 3 s ty li qt ii pr tg).toArray] w fun e w'=>e = ym (I (if aX ⟨3,0,0,0,qt,ii,0,⟨#[]⟩⟩ ⟨3,s,ty,li,qt,ii,pr,tg⟩ = true then redR l ii qt else 2))∧yn w w':=by
 have HR:=M hr
 have HG:=M hg
 have km:=M hs
 have vO:Hid (0 ≤ next∧next ≤ 1000000):=⟨h0,Q⟩
 have HTG:=M ht
 obtain ⟨a,cap,rfl,xA,hc⟩:=hr
 clear hc hg hs h0 Q ht xA
 generalize hsm:aX ⟨3,0,0,0,qt,ii,0,⟨#[]⟩⟩ ⟨3,s,ty,li,qt,ii,pr,tg⟩ = sm
 have HSM:=M hsm
 clear hsm
 have xK:=zi w (A #[I next,.slice a l.length cap] 34)
 have ue:((w.alloc (A #[I next,.slice a l.length cap] 34)).alloc (A (yx 3 s ty li qt ii pr tg).toArray 50)).heap.size = w.heap.size + 1 + 1:=by rw [zi,xK]
 have r1:=zn w [I next,.slice a l.length cap] 34
 have r2:=zn (w.alloc (A #[I next,.slice a l.length cap] 34)) (yx 3 s ty li qt ii pr tg) 50
 rw [xK] at r2
 have qz:Below (w.heap.size + 1) (w.alloc (A #[I next,.slice a l.length cap] 34)) ((w.alloc (A #[I next,.slice a l.length cap] 34)).alloc (A (yx 3 s ty li qt ii pr tg).toArray 50)):=(Below.refl _ _).alloc (by rw [xK]; omega) _
 have xu:Hid (yn w ((w.alloc (A #[I next,.slice a l.length cap] 34)).alloc (A (yx 3 s ty li qt ii pr tg).toArray 50))):=(fE _ _).alloc (by rw [xK]; omega) _
 have HX:Hid (_∧_):=⟨zc r1 qz (by omega),r2⟩
 have uu:Hid (w.heap.size < ((w.alloc (A #[I next,.slice a l.length cap] 34)).alloc (A (yx 3 s ty li qt ii pr tg).toArray 50)).heap.size∧w.heap.size + 1 < ((w.alloc (A #[I next,.slice a l.length cap] 34)).alloc (A (yx 3 s ty li qt ii pr tg).toArray 50)).heap.size):=⟨by omega,by omega⟩
 clear xK ue r1 r2 qz
 go_enter Tryz.func136,Tryz.ntmps136
 refine fI fun hR xU=>?_
 go_wp2_with fail
 refine H xU _ _ ?_
 clear xU
 generalize ((w.alloc (A #[I next,.slice a l.length cap] 34)).alloc (A (yx 3 s ty li qt ii pr tg).toArray 50)) = X2 at xu HX uu ⊢
 have HX:Hid (X2.rangeAt w.heap.size 0 [I next,.slice a l.length cap]∧X2.rangeAt (w.heap.size + 1) 0 (yx 3 s ty li qt ii pr tg)):=H HX
 obtain ⟨o0,o1,o2,o3,o4,o5,o6,o7⟩:=yD (H HX).2
 go_wp2_with fail
 refine (eb ⟨3,s,ty,li,qt,ii,pr,tg⟩ X2).mono ?_
 have aH:cmdI ⟨3,s,ty,li,qt,ii,pr,tg⟩ = .iface 213 (.agg #[I ii,I qt]):=by simp [cmdI]
 rw [aH]
 clear aH
 rintro e w4 ⟨rfl,xw⟩
 have xG:=M (fH (H xu) xw)
 have xE:Hid (w4.rangeAt w.heap.size 0 [I next,.slice a l.length cap]∧w4.rangeAt (w.heap.size + 1) 0 (yx 3 s ty li qt ii pr tg)∧w.heap.size < w4.heap.size∧w.heap.size + 1 < w4.heap.size):=⟨zc (H HX).1 xw (H uu).1,zc (H HX).2 xw (H uu).2,yJ (H uu).1 xw.size,yJ (H uu).2 xw.size⟩
 clear xw o0 o1 o2 o3 o4 o5 o6 o7
 go_wp2_with fail
 refine zk (RG w4 (fun f=>{ tmps:=#[.agg #[I next,.slice a l.length cap],.agg (yx 3 s ty li qt ii pr tg).toArray,yp w 0,J (w.heap.size + 1) 0,I 0,.iface 213 (.agg #[I ii,I qt]),Z,Z,Z,.agg (yx 3 s ty li qt ii pr tg).toArray,.iface 213 (.agg #[I ii,I qt]),.iface 213 (.agg #[I ii,I qt]),.bool false,f 0,f 1,f 2,f 3,f 4,Z,Z,Z,Z,Z,Z,Z,Z,Z,Z,Z,Z,Z,Z,Z,Z,Z,Z,Z,Z],defers:=[] }) 99 (DK (.iface 213 (.agg #[I ii,I qt])) (cmV ⟨3,0,0,0,qt,ii,0,⟨#[]⟩⟩) (.agg (yx 3 s ty li qt ii pr tg).toArray) sm)) (by kernel_rfl) ?_ ?_ ?_
 ·exact ⟨fun _=>Z,rfl,⟨rfl,rfl,rfl,Nat.le_refl _,fun _ _=>rfl⟩,fun j O=>by rw [yI] at O; split at O <;> simp at O⟩
 ·rintro x fG xn ⟨f,rfl,xk,hD⟩ hx xN
  have xo:=bT xN hx (by kernel_rfl)
  have e4:f 4 = .bool (!sm):=hD 4 (xo 4 (by simp))
  have xy:=M (fH (H xG) xk)
  have z0:=zc (H xE).1 xk (H xE).2.2.1 0 _ rfl
  have z1:=zc (H xE).1 xk (H xE).2.2.1 1 _ rfl
  rw [Nat.zero_add] at z0 z1
  have ta1:∀ W:World,Sem.run Tryz.prog (Instr.typeAssert (.iface 213 (.agg #[I ii,I qt])) 206 85 true) W = .ok (.tuple #[.agg #[I 0,I 0,I 0,I 0,yj 0,yk ⟨#[]⟩],.bool false]) W:=fun W=>by kernel_rfl
  have ta2:∀ W:World,Sem.run Tryz.prog (Instr.typeAssert (.iface 213 (.agg #[I ii,I qt])) 206 211 true) W = .ok (.tuple #[.agg #[I 0],.bool false]) W:=fun W=>by kernel_rfl
  have ta3:∀ W:World,Sem.run Tryz.prog (Instr.typeAssert (.iface 213 (.agg #[I ii,I qt])) 206 213 true) W = .ok (.tuple #[.agg #[I ii,I qt],.bool true]) W:=fun W=>by kernel_rfl
  simp only [e4]
  generalize f 0 = e0,f 1 = e1,f 2 = e2,f 3 = e3
  clear hD xo e4 xN hx xk f x
  cases sm
  ·go_wp2_with fail
   go_ret
   exact ⟨rfl,H xy⟩
  ·have xI:w.heap.size < xn.heap.size:=yK xn (yq w 0) z0
   have y0:World.cell? (xn.alloc (A #[I ii,I qt] 213)) (yq w 0) = some (I next):=(yV _ _ _ xI).trans z0
   have y1:World.cell? (xn.alloc (A #[I ii,I qt] 213)) (yq w 1) = some (.slice a l.length cap):=(yV _ _ _ xI).trans z1
   have kt:Hid (yn w (xn.alloc (A #[I ii,I qt] 213))):=(H xy).alloc (H xy).size _
   clear z0 z1 xI
   go_wp2_with fail
   refine (reduceRefusal_any next _ l ii qt _ (zh (H HR) (H kt) ya)).mono ?_
   rintro e w7 ⟨rfl,vX⟩
   have qx:=M (fH (H kt) vX)
   clear vX
   go_wp2_with fail
   go_ret
   exact ⟨rfl,H qx⟩
 ·rintro x fG xn i op ⟨f,rfl,xk,hD⟩ V hx N xq D
  clear V
  have xy:=M xk
  have HD:=M hD
  have u0:=zc (H xE).2.1 xk (H xE).2.2.2 0 _ rfl
  have u1:=zc (H xE).2.1 xk (H xE).2.2.2 1 _ rfl
  have u2:=zc (H xE).2.1 xk (H xE).2.2.2 2 _ rfl
  have u3:=zc (H xE).2.1 xk (H xE).2.2.2 3 _ rfl
  have u4:=zc (H xE).2.1 xk (H xE).2.2.2 4 _ rfl
  have u5:=zc (H xE).2.1 xk (H xE).2.2.2 5 _ rfl
  have u6:=zc (H xE).2.1 xk (H xE).2.2.2 6 _ rfl
  have u7:=zc (H xE).2.1 xk (H xE).2.2.2 7 _ rfl
  rw [Nat.zero_add] at u0 u1 u2 u3 u4 u5 u6 u7
  match i,N with
  | 0,N =>
   obtain rfl:=yb N
   clear D hD xk
   rw [if_pos (by rfl)];unfold Oper.wp;go_simp
   exact ⟨upd f 0 (.iface 213 (.agg #[I ii,I qt])),by simp [upd],zf (H xy) (H HD) (by decide) rfl⟩
  | 1,N =>
   obtain rfl:=yb N
   have g:f 0 = .iface 213 (.agg #[I ii,I qt]):=hD 0 (ye D 0 rfl)
   have hm:∀ W:World,Sem.run Tryz.prog (method 399 213 (.agg #[I ii,I qt]) "loop.example/g00092/impl.told") W = .ok (239,.agg #[I ii,I qt]) W:=fun W=>by kernel_rfl
   clear D hD xk
   rw [if_pos (by rfl)];unfold Oper.wp;go_simp
   refine (toldReduce_any ii qt xn).mono ?_
   rintro e w4 ⟨rfl,xw⟩
   exact ⟨upd f 1 (cmV ⟨3,0,0,0,qt,ii,0,⟨#[]⟩⟩),by simp [upd,g]; rfl,bm (H xy) (H HD) xw (by decide) (fun j v h=>h) rfl⟩
  | 2,N =>
   obtain rfl:=yb N
   clear D hD xk
   rw [if_pos (by rfl)];unfold Oper.wp;go_simp
   exact ⟨upd f 2 (.agg (yx 3 s ty li qt ii pr tg).toArray),by simp [upd],zf (H xy) (H HD) (by decide) rfl⟩
  | 3,N =>
   obtain rfl:=yb N
   have g1:f 1 = cmV ⟨3,0,0,0,qt,ii,0,⟨#[]⟩⟩:=hD 1 (ye D 1 rfl)
   have g2:f 2 = .agg (yx 3 s ty li qt ii pr tg).toArray:=hD 2 (ye D 2 rfl)
   clear D hD xk
   rw [if_pos (by rfl)];unfold Oper.wp;go_simp
   refine (eD ⟨3,0,0,0,qt,ii,0,⟨#[]⟩⟩ ⟨3,s,ty,li,qt,ii,pr,tg⟩ xn).mono ?_
   rw [H HSM]
   rintro e w4 ⟨rfl,xw⟩
   exact ⟨upd f 3 (.bool sm),by simp [upd,g1,g2],bm (H xy) (H HD) xw (by decide) (fun j v h=>h) rfl⟩
  | 4,N =>
   obtain rfl:=yb N
   have g:f 3 = .bool sm:=hD 3 (ye D 3 rfl)
   clear D hD xk
   rw [if_pos (by rfl)];unfold Oper.wp;go_simp
   exact ⟨upd f 4 (.bool (!sm)),by simp [upd,g],zf (H xy) (H HD) (by decide) rfl⟩
  | n + 5,N=>simp at N
theorem refusal_4 (next:Int) (vb:Value) (l:List Od) (s ty li qt ii:Int) (pr:Nat) (tg:ByteArray) (w:World) (hr:RdR Od.vs 6 w vb l) (hs:SlOk vb) (hg:GoodL l) (h0:0 ≤ next) (Q:next ≤ 1000000) (ht:tg.size ≤ maxLen) :
  Calls Tryz.prog 136 #[.agg #[I next,vb],.agg (yx 4 s ty li qt ii pr tg).toArray] w fun e w'=>e = ym (I (if aX ⟨4,0,0,0,0,0,0,⟨#[]⟩⟩ ⟨4,s,ty,li,qt,ii,pr,tg⟩ = true then 0 else 2))∧yn w w':=by
 have HR:=M hr
 have HG:=M hg
 have km:=M hs
 have vO:Hid (0 ≤ next∧next ≤ 1000000):=⟨h0,Q⟩
 have HTG:=M ht
 obtain ⟨a,cap,rfl,xA,hc⟩:=hr
 clear hc hg hs h0 Q ht xA
 generalize hsm:aX ⟨4,0,0,0,0,0,0,⟨#[]⟩⟩ ⟨4,s,ty,li,qt,ii,pr,tg⟩ = sm
 have HSM:=M hsm
 clear hsm
 have xK:=zi w (A #[I next,.slice a l.length cap] 34)
 have ue:((w.alloc (A #[I next,.slice a l.length cap] 34)).alloc (A (yx 4 s ty li qt ii pr tg).toArray 50)).heap.size = w.heap.size + 1 + 1:=by rw [zi,xK]
 have r1:=zn w [I next,.slice a l.length cap] 34
 have r2:=zn (w.alloc (A #[I next,.slice a l.length cap] 34)) (yx 4 s ty li qt ii pr tg) 50
 rw [xK] at r2
 have qz:Below (w.heap.size + 1) (w.alloc (A #[I next,.slice a l.length cap] 34)) ((w.alloc (A #[I next,.slice a l.length cap] 34)).alloc (A (yx 4 s ty li qt ii pr tg).toArray 50)):=(Below.refl _ _).alloc (by rw [xK]; omega) _
 have xu:Hid (yn w ((w.alloc (A #[I next,.slice a l.length cap] 34)).alloc (A (yx 4 s ty li qt ii pr tg).toArray 50))):=(fE _ _).alloc (by rw [xK]; omega) _
 have HX:Hid (_∧_):=⟨zc r1 qz (by omega),r2⟩
 have uu:Hid (w.heap.size < ((w.alloc (A #[I next,.slice a l.length cap] 34)).alloc (A (yx 4 s ty li qt ii pr tg).toArray 50)).heap.size∧w.heap.size + 1 < ((w.alloc (A #[I next,.slice a l.length cap] 34)).alloc (A (yx 4 s ty li qt ii pr tg).toArray 50)).heap.size):=⟨by omega,by omega⟩
 clear xK ue r1 r2 qz
 go_enter Tryz.func136,Tryz.ntmps136
 refine fI fun hR xU=>?_
 go_wp2_with fail
 refine H xU _ _ ?_
 clear xU
 generalize ((w.alloc (A #[I next,.slice a l.length cap] 34)).alloc (A (yx 4 s ty li qt ii pr tg).toArray 50)) = X2 at xu HX uu ⊢
 have HX:Hid (X2.rangeAt w.heap.size 0 [I next,.slice a l.length cap]∧X2.rangeAt (w.heap.size + 1) 0 (yx 4 s ty li qt ii pr tg)):=H HX
 obtain ⟨o0,o1,o2,o3,o4,o5,o6,o7⟩:=yD (H HX).2
 go_wp2_with fail
 refine (eb ⟨4,s,ty,li,qt,ii,pr,tg⟩ X2).mono ?_
 have aH:cmdI ⟨4,s,ty,li,qt,ii,pr,tg⟩ = .iface 231 (.agg #[]):=by simp [cmdI]
 rw [aH]
 clear aH
 rintro e w4 ⟨rfl,xw⟩
 have xG:=M (fH (H xu) xw)
 have xE:Hid (w4.rangeAt w.heap.size 0 [I next,.slice a l.length cap]∧w4.rangeAt (w.heap.size + 1) 0 (yx 4 s ty li qt ii pr tg)∧w.heap.size < w4.heap.size∧w.heap.size + 1 < w4.heap.size):=⟨zc (H HX).1 xw (H uu).1,zc (H HX).2 xw (H uu).2,yJ (H uu).1 xw.size,yJ (H uu).2 xw.size⟩
 clear xw o0 o1 o2 o3 o4 o5 o6 o7
 go_wp2_with fail
 refine zk (RG w4 (fun f=>{ tmps:=#[.agg #[I next,.slice a l.length cap],.agg (yx 4 s ty li qt ii pr tg).toArray,yp w 0,J (w.heap.size + 1) 0,I 0,.iface 231 (.agg #[]),Z,Z,Z,.agg (yx 4 s ty li qt ii pr tg).toArray,.iface 231 (.agg #[]),.iface 231 (.agg #[]),.bool false,f 0,f 1,f 2,f 3,f 4,Z,Z,Z,Z,Z,Z,Z,Z,Z,Z,Z,Z,Z,Z,Z,Z,Z,Z,Z,Z],defers:=[] }) 99 (DK (.iface 231 (.agg #[])) (cmV ⟨4,0,0,0,0,0,0,⟨#[]⟩⟩) (.agg (yx 4 s ty li qt ii pr tg).toArray) sm)) (by kernel_rfl) ?_ ?_ ?_
 ·exact ⟨fun _=>Z,rfl,⟨rfl,rfl,rfl,Nat.le_refl _,fun _ _=>rfl⟩,fun j O=>by rw [yI] at O; split at O <;> simp at O⟩
 ·rintro x fG xn ⟨f,rfl,xk,hD⟩ hx xN
  have xo:=bT xN hx (by kernel_rfl)
  have e4:f 4 = .bool (!sm):=hD 4 (xo 4 (by simp))
  have xy:=M (fH (H xG) xk)
  have z0:=zc (H xE).1 xk (H xE).2.2.1 0 _ rfl
  have z1:=zc (H xE).1 xk (H xE).2.2.1 1 _ rfl
  rw [Nat.zero_add] at z0 z1
  have ta1:∀ W:World,Sem.run Tryz.prog (Instr.typeAssert (.iface 231 (.agg #[])) 206 85 true) W = .ok (.tuple #[.agg #[I 0,I 0,I 0,I 0,yj 0,yk ⟨#[]⟩],.bool false]) W:=fun W=>by kernel_rfl
  have ta2:∀ W:World,Sem.run Tryz.prog (Instr.typeAssert (.iface 231 (.agg #[])) 206 211 true) W = .ok (.tuple #[.agg #[I 0],.bool false]) W:=fun W=>by kernel_rfl
  have ta3:∀ W:World,Sem.run Tryz.prog (Instr.typeAssert (.iface 231 (.agg #[])) 206 213 true) W = .ok (.tuple #[.agg #[I 0,I 0],.bool false]) W:=fun W=>by kernel_rfl
  simp only [e4]
  generalize f 0 = e0,f 1 = e1,f 2 = e2,f 3 = e3
  clear hD xo e4 xN hx xk f x
  cases sm
  ·go_wp2_with fail
   go_ret
   exact ⟨rfl,H xy⟩
  ·go_wp2_with fail
   go_ret
   exact ⟨rfl,H xy⟩
 ·rintro x fG xn i op ⟨f,rfl,xk,hD⟩ V hx N xq D
  clear V
  have xy:=M xk
  have HD:=M hD
  have u0:=zc (H xE).2.1 xk (H xE).2.2.2 0 _ rfl
  have u1:=zc (H xE).2.1 xk (H xE).2.2.2 1 _ rfl
  have u2:=zc (H xE).2.1 xk (H xE).2.2.2 2 _ rfl
  have u3:=zc (H xE).2.1 xk (H xE).2.2.2 3 _ rfl
  have u4:=zc (H xE).2.1 xk (H xE).2.2.2 4 _ rfl
  have u5:=zc (H xE).2.1 xk (H xE).2.2.2 5 _ rfl
  have u6:=zc (H xE).2.1 xk (H xE).2.2.2 6 _ rfl
  have u7:=zc (H xE).2.1 xk (H xE).2.2.2 7 _ rfl
  rw [Nat.zero_add] at u0 u1 u2 u3 u4 u5 u6 u7
  match i,N with
  | 0,N =>
   obtain rfl:=yb N
   clear D hD xk
   rw [if_pos (by rfl)];unfold Oper.wp;go_simp
   exact ⟨upd f 0 (.iface 231 (.agg #[])),by simp [upd],zf (H xy) (H HD) (by decide) rfl⟩
  | 1,N =>
   obtain rfl:=yb N
   have g:f 0 = .iface 231 (.agg #[]):=hD 0 (ye D 0 rfl)
   have hm:∀ W:World,Sem.run Tryz.prog (method 399 231 (.agg #[]) "loop.example/g00092/impl.told") W = .ok (241,.agg #[]) W:=fun W=>by kernel_rfl
   clear D hD xk
   rw [if_pos (by rfl)];unfold Oper.wp;go_simp
   refine (toldDay_any xn).mono ?_
   rintro e w4 ⟨rfl,xw⟩
   exact ⟨upd f 1 (cmV ⟨4,0,0,0,0,0,0,⟨#[]⟩⟩),by simp [upd,g]; rfl,bm (H xy) (H HD) xw (by decide) (fun j v h=>h) rfl⟩
  | 2,N =>
   obtain rfl:=yb N
   clear D hD xk
   rw [if_pos (by rfl)];unfold Oper.wp;go_simp
   exact ⟨upd f 2 (.agg (yx 4 s ty li qt ii pr tg).toArray),by simp [upd],zf (H xy) (H HD) (by decide) rfl⟩
  | 3,N =>
   obtain rfl:=yb N
   have g1:f 1 = cmV ⟨4,0,0,0,0,0,0,⟨#[]⟩⟩:=hD 1 (ye D 1 rfl)
   have g2:f 2 = .agg (yx 4 s ty li qt ii pr tg).toArray:=hD 2 (ye D 2 rfl)
   clear D hD xk
   rw [if_pos (by rfl)];unfold Oper.wp;go_simp
   refine (eD ⟨4,0,0,0,0,0,0,⟨#[]⟩⟩ ⟨4,s,ty,li,qt,ii,pr,tg⟩ xn).mono ?_
   rw [H HSM]
   rintro e w4 ⟨rfl,xw⟩
   exact ⟨upd f 3 (.bool sm),by simp [upd,g1,g2],bm (H xy) (H HD) xw (by decide) (fun j v h=>h) rfl⟩
  | 4,N =>
   obtain rfl:=yb N
   have g:f 3 = .bool sm:=hD 3 (ye D 3 rfl)
   clear D hD xk
   rw [if_pos (by rfl)];unfold Oper.wp;go_simp
   exact ⟨upd f 4 (.bool (!sm)),by simp [upd,g],zf (H xy) (H HD) (by decide) rfl⟩
  | n + 5,N=>simp at N
def refR (next:Int) (l:List Od) (c:Cm):Int :=
 if c.k = 1 then (if aX ⟨1,c.s,c.t,c.l,c.q,0,c.p,c.g⟩ c = true then newR next l c else 2)
 else if c.k = 2 then (if aX ⟨2,0,0,0,0,c.i,0,⟨#[]⟩⟩ c = true then idR l c.i else 2)
 else if c.k = 3 then (if aX ⟨3,0,0,0,c.q,c.i,0,⟨#[]⟩⟩ c = true then redR l c.i c.q else 2)
 else if c.k = 4 then (if aX ⟨4,0,0,0,0,0,0,⟨#[]⟩⟩ c = true then 0 else 2)
 else 1
theorem refusal_any (next:Int) (vb:Value) (l:List Od) (c:Cm) (w:World) (hr:RdR Od.vs 6 w vb l) (hs:SlOk vb) (hg:GoodL l) (h0:0 ≤ next) (Q:next ≤ 1000000) (ht:c.g.size ≤ maxLen) :
  Calls Tryz.prog 136 #[.agg #[I next,vb],cmV c] w fun e w'=>e = ym (I (refR next l c))∧yn w w':=by
 obtain ⟨kk,s,ty,li,qt,ii,pr,tg⟩:=c
 unfold cmV
 simp only at ht ⊢
 by_cases e1:kk = 1
 ·subst e1; exact refusal_1 next vb l s ty li qt ii pr tg w hr hs hg h0 Q ht
 by_cases e2:kk = 2
 ·subst e2; exact refusal_2 next vb l s ty li qt ii pr tg w hr hs hg h0 Q ht
 by_cases e3:kk = 3
 ·subst e3; exact refusal_3 next vb l s ty li qt ii pr tg w hr hs hg h0 Q ht
 by_cases e4:kk = 4
 ·subst e4; exact refusal_4 next vb l s ty li qt ii pr tg w hr hs hg h0 Q ht
 have vk:Hid (refR next l ⟨kk,s,ty,li,qt,ii,pr,tg⟩ = 1):=by show _ = _; simp [refR,e1,e2,e3,e4]
 have aH:cmdI ⟨kk,s,ty,li,qt,ii,pr,tg⟩ = .nilIface:=by simp [cmdI,e1,e2,e3,e4]
 obtain ⟨a,cap,rfl,xA,hc⟩:=hr
 clear hc hg hs h0 Q ht xA e1 e2 e3 e4
 have xK:=zi w (A #[I next,.slice a l.length cap] 34)
 have ue:((w.alloc (A #[I next,.slice a l.length cap] 34)).alloc (A (yx kk s ty li qt ii pr tg).toArray 50)).heap.size = w.heap.size + 1 + 1:=by rw [zi,xK]
 have r1:=zn w [I next,.slice a l.length cap] 34
 have r2:=zn (w.alloc (A #[I next,.slice a l.length cap] 34)) (yx kk s ty li qt ii pr tg) 50
 rw [xK] at r2
 have qz:Below (w.heap.size + 1) (w.alloc (A #[I next,.slice a l.length cap] 34)) ((w.alloc (A #[I next,.slice a l.length cap] 34)).alloc (A (yx kk s ty li qt ii pr tg).toArray 50)):=(Below.refl _ _).alloc (by rw [xK]; omega) _
 have xu:Hid (yn w ((w.alloc (A #[I next,.slice a l.length cap] 34)).alloc (A (yx kk s ty li qt ii pr tg).toArray 50))):=(fE _ _).alloc (by rw [xK]; omega) _
 have HX:Hid (_∧_):=⟨zc r1 qz (by omega),r2⟩
 have uu:Hid (w.heap.size < ((w.alloc (A #[I next,.slice a l.length cap] 34)).alloc (A (yx kk s ty li qt ii pr tg).toArray 50)).heap.size∧w.heap.size + 1 < ((w.alloc (A #[I next,.slice a l.length cap] 34)).alloc (A (yx kk s ty li qt ii pr tg).toArray 50)).heap.size):=⟨by omega,by omega⟩
 clear xK ue r1 r2 qz
 go_enter Tryz.func136,Tryz.ntmps136
 refine fI fun hR xU=>?_
 go_wp2_with fail
 refine H xU _ _ ?_
 clear xU
 generalize ((w.alloc (A #[I next,.slice a l.length cap] 34)).alloc (A (yx kk s ty li qt ii pr tg).toArray 50)) = X2 at xu HX uu ⊢
 have HX:Hid (X2.rangeAt w.heap.size 0 [I next,.slice a l.length cap]∧X2.rangeAt (w.heap.size + 1) 0 (yx kk s ty li qt ii pr tg)) :=H HX
 have k0:X2.cell? (yq w 0) = some (I next):=(H HX).1 0 _ rfl
 have k1:X2.cell? (yq w 1) = some (.slice a l.length cap):=(H HX).1 1 _ rfl
 obtain ⟨o0,o1,o2,o3,o4,o5,o6,o7⟩:=yD (H HX).2
 go_wp2_with fail
 refine (eb ⟨kk,s,ty,li,qt,ii,pr,tg⟩ X2).mono ?_
 rw [aH]
 clear aH
 rintro e w4 ⟨rfl,xw⟩
 have xG:=M (fH (H xu) xw)
 clear xw
 go_wp2_with fail
 go_ret
 exact ⟨zy (H vk).symm,H xG⟩
def tkS (x:Nat):Int:=if ((FloatKind.f64.format.order x 0 == some Ordering.gt) && ((FloatKind.f64.format.order x 4687829947429945344 == some Ordering.lt) || (FloatKind.f64.format.order x 4687829947429945344 == some Ordering.eq))) = true then tkN x else 0
theorem tkS_ok {x:Nat} (h:tkOk x = true):tkS x = tk x:=by
 unfold tk tkS
 rw [if_pos h]
 unfold tkOk at h
 rw [xe] at h
 rw [if_pos h.1]
theorem l01Ticks_any (x:Nat) (w:World) :
  Calls Tryz.prog 124 #[yj x] w fun e w'=>e = ym (.tuple #[I (tkS x),.bool (tkOk x)])∧w' = w:=by
 by_cases h0:FloatKind.f64.format.order x 0 = some Ordering.gt
 ·by_cases Q:FloatKind.f64.format.order x 4687829947429945344 = some Ordering.lt ∨ FloatKind.f64.format.order x 4687829947429945344 = some Ordering.eq
  ·obtain ⟨r,n,jI,pW,hn⟩:=price_four h0 Q
   have hn':(n:Int) < 9007199254740992:=by omega
   have eR:tkR x = r:=by unfold tkR; rw [show FloatKind.f64.format.mul x 4616189618054758400 = some r from jI]; rfl
   have eN:tkN x = n:=by unfold tkN; rw [eR,show (FloatKind.f64.decode r).toInt .zero = some (n:Int) from pW]; rfl
   have b0:(FloatKind.f64.format.order x 0 == some Ordering.gt) = true:=by rw [h0]; rfl
   have hm:∀ W,(binOp .mul 42 (yj x) (yj 4616189618054758400)).run Tryz.prog W = .ok (yj r) W:=fun W=>by
    have:FloatKind.f64.format.mul x 4616189618054758400 = some r:=jI
    simp [binOp,Op.floatArith,this]
   have hc:∀ W,(convert 42 3 (yj r)).run Tryz.prog W = .ok (I n) W:=fun W=>by
    have E:(FloatKind.f64.decode r).toInt .zero = some (n:Int):=pW
    have Y:IntKind.i64.min ≤ (n:Int)∧(n:Int) ≤ IntKind.i64.max:=by
     rw [show IntKind.i64.min = -9223372036854775808 by decide,show IntKind.i64.max = 9223372036854775807 by decide]; omega
    simp [convert,run_underlying Tryz.underlying42,run_underlying Tryz.underlying3,Conv.floatToInt,E,Y.1]
    intro h
    omega
   have uO:((FloatKind.f64.format.order x 4687829947429945344 == some Ordering.lt) || (FloatKind.f64.format.order x 4687829947429945344 == some Ordering.eq)) = true:=by
    rcases Q with Q | Q <;> rw [Q] <;> rfl
   have vw:tkOk x = (FloatKind.f64.format.order (floatOfInt .f64 n) r == some Ordering.eq):=by unfold tkOk; rw [eN,eR,b0,uO]; rfl
   have hS:tkS x = n:=by unfold tkS; rw [b0,uO,eN]; rfl
   clear jI pW h0 uO
   cases he:(FloatKind.f64.format.order (floatOfInt .f64 n) r == some Ordering.eq)
   all_goals
    have he2:(FloatKind.f64.format.order (floatOfInt .f64 n) r != some Ordering.eq) = !(FloatKind.f64.format.order (floatOfInt .f64 n) r == some Ordering.eq):=rfl
    rw [he] at he2
    rw [he] at vw
   ·have HT:Hid (tkS x = n∧tkOk x = false):=⟨hS,vw⟩
    clear vw eN eR hS
    rcases Q with Q | Q
    ·have b1:(FloatKind.f64.format.order x 4687829947429945344 == some Ordering.lt) = true:=by rw [Q]; rfl
     have b2:(FloatKind.f64.format.order x 4687829947429945344 == some Ordering.eq) = false:=by rw [Q]; rfl
     clear Q
     go_enter Tryz.func124,Tryz.ntmps124
     go_wp2
     go_ret2
     exact ⟨by rw [(H HT).1,(H HT).2]; rfl,rfl⟩
    ·have b1:(FloatKind.f64.format.order x 4687829947429945344 == some Ordering.lt) = false:=by rw [Q]; rfl
     have b2:(FloatKind.f64.format.order x 4687829947429945344 == some Ordering.eq) = true:=by rw [Q]; rfl
     clear Q
     go_enter Tryz.func124,Tryz.ntmps124
     go_wp2
     go_ret2
     exact ⟨by rw [(H HT).1,(H HT).2]; rfl,rfl⟩
   ·have HT:Hid (tkS x = n∧tkOk x = true):=⟨hS,vw⟩
    clear vw eN eR hS
    rcases Q with Q | Q
    ·have b1:(FloatKind.f64.format.order x 4687829947429945344 == some Ordering.lt) = true:=by rw [Q]; rfl
     have b2:(FloatKind.f64.format.order x 4687829947429945344 == some Ordering.eq) = false:=by rw [Q]; rfl
     clear Q
     go_enter Tryz.func124,Tryz.ntmps124
     go_wp2
     go_ret2
     exact ⟨by rw [(H HT).1,(H HT).2]; rfl,rfl⟩
    ·have b1:(FloatKind.f64.format.order x 4687829947429945344 == some Ordering.lt) = false:=by rw [Q]; rfl
     have b2:(FloatKind.f64.format.order x 4687829947429945344 == some Ordering.eq) = true:=by rw [Q]; rfl
     clear Q
     go_enter Tryz.func124,Tryz.ntmps124
     go_wp2
     go_ret2
     exact ⟨by rw [(H HT).1,(H HT).2]; rfl,rfl⟩
  ·have b0:(FloatKind.f64.format.order x 0 == some Ordering.gt) = true:=by rw [h0]; rfl
   have b1:(FloatKind.f64.format.order x 4687829947429945344 == some Ordering.lt) = false:=by rw [xd]; exact fun h=>Q (.inl h)
   have b2:(FloatKind.f64.format.order x 4687829947429945344 == some Ordering.eq) = false:=by rw [xd]; exact fun h=>Q (.inr h)
   have vw:tkOk x = false:=by unfold tkOk; rw [b0,b1,b2]; rfl
   have HT:Hid (tkS x = 0∧tkOk x = false):=⟨by unfold tkS; rw [b0,b1,b2]; rfl,vw⟩
   clear h0 Q vw
   go_enter Tryz.func124,Tryz.ntmps124
   go_wp2
   go_ret2
   exact ⟨by rw [(H HT).1,(H HT).2]; rfl,rfl⟩
 ·have b0:(FloatKind.f64.format.order x 0 == some Ordering.gt) = false:=by rw [xd]; exact h0
  have vw:tkOk x = false:=by unfold tkOk; rw [b0]; rfl
  have HT:Hid (tkS x = 0∧tkOk x = false):=⟨by unfold tkS; rw [b0]; rfl,vw⟩
  clear h0 vw
  go_enter Tryz.func124,Tryz.ntmps124
  go_wp2
  go_ret2
  exact ⟨by rw [(H HT).1,(H HT).2]; rfl,rfl⟩
end Go.Proofs.YtnphbkgfjanmgaaGreatDoor
