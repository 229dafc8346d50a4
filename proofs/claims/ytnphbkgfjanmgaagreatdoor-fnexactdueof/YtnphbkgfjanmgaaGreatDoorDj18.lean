/-
  The reason why a command is refused, by the program: proved by walking the function, kind by kind.
-/
import Derived.Test.YtnphbkgfjanmgaaGreatDoorDj17
set_option linter.unusedVariables false
set_option maxHeartbeats 6400000
set_option maxRecDepth 100000
namespace Go.Proofs.YtnphbkgfjanmgaaGreatDoor
open Go.RowKit
def DK (iv tv cv:Value) (sm:Bool) (p:Prop) (hj:World):Nat→Value→Prop
 | 0,v=>v = iv
 | 1,v=>v = tv
 | 2,v=>v = cv
 | 3,v=>v = .bool sm
 | 4,v=>v = .bool (!sm)
 | _,_=>True
theorem refusal_1 (next:Int) (vb:Value) (l:List Od) (s ty li qt ii:Int) (pr:Nat) (tg:ByteArray) (w:World) (hr:RdR Od.vs 6 w vb l) (hs:SlOk vb) (hg:GoodL l) (h0:0 ≤ next) (N:next ≤ 1000000) (ht:tg.size ≤ maxLen) :
  Calls Tryz.prog 136 #[.agg #[I next,vb],.agg (yy 1 s ty li qt ii pr tg).toArray] w fun e w'=>e = yn (I (if aT ⟨1,s,ty,li,qt,0,pr,tg⟩ ⟨1,s,ty,li,qt,ii,pr,tg⟩ = true then newR next l ⟨1,s,ty,li,qt,ii,pr,tg⟩ else 2))∧yp w w':=by
 have HR:=H hr
 have HG:=H hg
 have km:=H hs
 have vO:Hid (0 ≤ next∧next ≤ 1000000):=⟨h0,N⟩
 have HTG:=H ht
 obtain ⟨a,cap,rfl,xA,hc⟩:=hr
 clear hc hg hs h0 N ht xA
 generalize hsm:aT ⟨1,s,ty,li,qt,0,pr,tg⟩ ⟨1,s,ty,li,qt,ii,pr,tg⟩ = sm
 have HSM:=H hsm
 clear hsm
 have xK:=zj w (L #[I next,.slice a l.length cap] 34)
 have uf:((w.alloc (L #[I next,.slice a l.length cap] 34)).alloc (L (yy 1 s ty li qt ii pr tg).toArray 50)).heap.size = w.heap.size + 1 + 1:=by rw [zj,xK]
 have r1:=zn w [I next,.slice a l.length cap] 34
 have r2:=zn (w.alloc (L #[I next,.slice a l.length cap] 34)) (yy 1 s ty li qt ii pr tg) 50
 rw [xK] at r2
 have qv:Below (w.heap.size + 1) (w.alloc (L #[I next,.slice a l.length cap] 34)) ((w.alloc (L #[I next,.slice a l.length cap] 34)).alloc (L (yy 1 s ty li qt ii pr tg).toArray 50)):=(Below.refl _ _).alloc (by rw [xK]; omega) _
 have xw:Hid (yp w ((w.alloc (L #[I next,.slice a l.length cap] 34)).alloc (L (yy 1 s ty li qt ii pr tg).toArray 50))):=(fw _ _).alloc (by rw [xK]; omega) _
 have HX:Hid (_∧_):=⟨zc r1 qv (by omega),r2⟩
 have uu:Hid (w.heap.size < ((w.alloc (L #[I next,.slice a l.length cap] 34)).alloc (L (yy 1 s ty li qt ii pr tg).toArray 50)).heap.size∧w.heap.size + 1 < ((w.alloc (L #[I next,.slice a l.length cap] 34)).alloc (L (yy 1 s ty li qt ii pr tg).toArray 50)).heap.size):=⟨by omega,by omega⟩
 clear xK uf r1 r2 qv
 go_enter Tryz.func136,Tryz.ntmps136
 refine fD fun zb xU=>?_
 go_wp2_with fail
 refine U xU _ _ ?_
 clear xU
 generalize ((w.alloc (L #[I next,.slice a l.length cap] 34)).alloc (L (yy 1 s ty li qt ii pr tg).toArray 50)) = X2 at xw HX uu ⊢
 have HX:Hid (X2.rangeAt w.heap.size 0 [I next,.slice a l.length cap]∧X2.rangeAt (w.heap.size + 1) 0 (yy 1 s ty li qt ii pr tg)):=U HX
 obtain ⟨o0,o1,o2,o3,o4,o5,o6,o7⟩:=yE (U HX).2
 go_wp2_with fail
 refine (dV ⟨1,s,ty,li,qt,ii,pr,tg⟩ X2).mono ?_
 have aD:cmdI ⟨1,s,ty,li,qt,ii,pr,tg⟩ = .iface 85 (.agg #[I s,I ty,I li,I qt,yk pr,yl tg]):=by simp [cmdI,noV]
 rw [aD]
 clear aD
 rintro e w4 ⟨rfl,xy⟩
 have xH:=H (fC (U xw) xy)
 have xG:Hid (w4.rangeAt w.heap.size 0 [I next,.slice a l.length cap]∧w4.rangeAt (w.heap.size + 1) 0 (yy 1 s ty li qt ii pr tg)∧w.heap.size < w4.heap.size∧w.heap.size + 1 < w4.heap.size):=⟨zc (U HX).1 xy (U uu).1,zc (U HX).2 xy (U uu).2,yK (U uu).1 xy.size,yK (U uu).2 xy.size⟩
 clear xy o0 o1 o2 o3 o4 o5 o6 o7
 go_wp2_with fail
 refine zm (RG w4 (fun f=>{ tmps:=#[.agg #[I next,.slice a l.length cap],.agg (yy 1 s ty li qt ii pr tg).toArray,yq w 0,J (w.heap.size + 1) 0,I 0,.iface 85 (.agg #[I s,I ty,I li,I qt,yk pr,yl tg]),M,M,M,.agg (yy 1 s ty li qt ii pr tg).toArray,.iface 85 (.agg #[I s,I ty,I li,I qt,yk pr,yl tg]),.iface 85 (.agg #[I s,I ty,I li,I qt,yk pr,yl tg]),.bool false,f 0,f 1,f 2,f 3,f 4,M,M,M,M,M,M,M,M,M,M,M,M,M,M,M,M,M,M,M,M],defers:=[] }) 99 (DK (.iface 85 (.agg #[I s,I ty,I li,I qt,yk pr,yl tg])) (cmV ⟨1,s,ty,li,qt,0,pr,tg⟩) (.agg (yy 1 s ty li qt ii pr tg).toArray) sm)) (by kernel_rfl) ?_ ?_ ?_
 ·exact ⟨fun _=>M,rfl,⟨rfl,rfl,rfl,Nat.le_refl _,fun _ _=>rfl⟩,fun j V=>by rw [yJ] at V; split at V <;> simp at V⟩
 ·rintro x cs hj ⟨f,rfl,xl,hD⟩ hx xO
  have xq:=bT xO hx (by kernel_rfl)
  have e4:f 4 = .bool (!sm):=hD 4 (xq 4 (by simp))
  have xE:=H (fC (U xH) xl)
  have z0:=zc (U xG).1 xl (U xG).2.2.1 0 _ rfl
  have z1:=zc (U xG).1 xl (U xG).2.2.1 1 _ rfl
  rw [Nat.zero_add] at z0 z1
  have ta1:∀ W:World,Sem.run Tryz.prog (Instr.typeAssert (.iface 85 (.agg #[I s,I ty,I li,I qt,yk pr,yl tg])) 206 85 true) W = .ok (.tuple #[.agg #[I s,I ty,I li,I qt,yk pr,yl tg],.bool true]) W:=fun W=>by kernel_rfl
  simp only [e4]
  generalize f 0 = e0,f 1 = e1,f 2 = e2,f 3 = e3
  clear hD xq e4 xO hx xl f x
  cases sm
  ·go_wp2_with fail
   go_ret
   exact ⟨rfl,U xE⟩
  ·have xJ:w.heap.size < hj.heap.size:=yL hj (yr w 0) z0
   have y0:World.cell? (hj.alloc (L #[I s,I ty,I li,I qt,yk pr,yl tg] 85)) (yr w 0) = some (I next):=(yW _ _ _ xJ).trans z0
   have y1:World.cell? (hj.alloc (L #[I s,I ty,I li,I qt,yk pr,yl tg] 85)) (yr w 1) = some (.slice a l.length cap):=(yW _ _ _ xJ).trans z1
   have kq:Hid (yp w (hj.alloc (L #[I s,I ty,I li,I qt,yk pr,yl tg] 85))):=(U xE).alloc (U xE).size _
   clear z0 z1 xJ
   have hsf:=sfl
   go_wp2_with fail
   refine (newRefusal_any next _ l ⟨1,s,ty,li,qt,ii,pr,tg⟩ _ (zh (U HR) (U kq) yb) (U km) (U HG) (U vO).1 (U vO).2 (U HTG)).mono ?_
   rintro e w7 ⟨rfl,qi⟩
   have qV:=H (fC (U kq) qi)
   clear qi
   go_wp2_with fail
   go_ret
   exact ⟨rfl,U qV⟩
 ·rintro x cs hj i op ⟨f,rfl,xl,hD⟩ X hx Z xr D
  clear X
  have xE:=H xl
  have HD:=H hD
  have u0:=zc (U xG).2.1 xl (U xG).2.2.2 0 _ rfl
  have u1:=zc (U xG).2.1 xl (U xG).2.2.2 1 _ rfl
  have u2:=zc (U xG).2.1 xl (U xG).2.2.2 2 _ rfl
  have u3:=zc (U xG).2.1 xl (U xG).2.2.2 3 _ rfl
  have u4:=zc (U xG).2.1 xl (U xG).2.2.2 4 _ rfl
  have u5:=zc (U xG).2.1 xl (U xG).2.2.2 5 _ rfl
  have u6:=zc (U xG).2.1 xl (U xG).2.2.2 6 _ rfl
  have u7:=zc (U xG).2.1 xl (U xG).2.2.2 7 _ rfl
  rw [Nat.zero_add] at u0 u1 u2 u3 u4 u5 u6 u7
  match i,Z with
  | 0,Z =>
   obtain rfl:=yc Z
   clear D hD xl
   rw [if_pos (by rfl)];unfold Oper.wp;go_simp
   exact ⟨upd f 0 (.iface 85 (.agg #[I s,I ty,I li,I qt,yk pr,yl tg])),by simp [upd],zg (U xE) (U HD) (by decide) rfl⟩
  | 1,Z =>
   obtain rfl:=yc Z
   have g:f 0 = .iface 85 (.agg #[I s,I ty,I li,I qt,yk pr,yl tg]):=hD 0 (yf D 0 rfl)
   have hm:∀ W:World,Sem.run Tryz.prog (method 399 85 (.agg #[I s,I ty,I li,I qt,yk pr,yl tg]) "loop.example/g00092/impl.told") W = .ok (235,.agg #[I s,I ty,I li,I qt,yk pr,yl tg]) W:=fun W=>by kernel_rfl
   clear D hD xl
   rw [if_pos (by rfl)];unfold Oper.wp;go_simp
   refine (toldNew_any ⟨1,s,ty,li,qt,ii,pr,tg⟩ hj).mono ?_
   rintro e w4 ⟨rfl,xy⟩
   exact ⟨upd f 1 (cmV ⟨1,s,ty,li,qt,0,pr,tg⟩),by simp [upd,g]; rfl,bc (U xE) (U HD) xy (by decide) (fun j v h=>h) rfl⟩
  | 2,Z =>
   obtain rfl:=yc Z
   clear D hD xl
   rw [if_pos (by rfl)];unfold Oper.wp;go_simp
   exact ⟨upd f 2 (.agg (yy 1 s ty li qt ii pr tg).toArray),by simp [upd],zg (U xE) (U HD) (by decide) rfl⟩
  | 3,Z =>
   obtain rfl:=yc Z
   have g1:f 1 = cmV ⟨1,s,ty,li,qt,0,pr,tg⟩:=hD 1 (yf D 1 rfl)
   have g2:f 2 = .agg (yy 1 s ty li qt ii pr tg).toArray:=hD 2 (yf D 2 rfl)
   clear D hD xl
   rw [if_pos (by rfl)];unfold Oper.wp;go_simp
   refine (ey ⟨1,s,ty,li,qt,0,pr,tg⟩ ⟨1,s,ty,li,qt,ii,pr,tg⟩ hj).mono ?_
   rw [U HSM]
   rintro e w4 ⟨rfl,xy⟩
   exact ⟨upd f 3 (.bool sm),by simp [upd,g1,g2],bc (U xE) (U HD) xy (by decide) (fun j v h=>h) rfl⟩
  | 4,Z =>
   obtain rfl:=yc Z
   have g:f 3 = .bool sm:=hD 3 (yf D 3 rfl)
   clear D hD xl
   rw [if_pos (by rfl)];unfold Oper.wp;go_simp
   exact ⟨upd f 4 (.bool (!sm)),by simp [upd,g],zg (U xE) (U HD) (by decide) rfl⟩
  | n + 5,Z=>simp at Z
theorem refusal_2 (next:Int) (vb:Value) (l:List Od) (s ty li qt ii:Int) (pr:Nat) (tg:ByteArray) (w:World) (hr:RdR Od.vs 6 w vb l) (hs:SlOk vb) (hg:GoodL l) (h0:0 ≤ next) (N:next ≤ 1000000) (ht:tg.size ≤ maxLen) :
  Calls Tryz.prog 136 #[.agg #[I next,vb],.agg (yy 2 s ty li qt ii pr tg).toArray] w fun e w'=>e = yn (I (if aT ⟨2,0,0,0,0,ii,0,⟨#[]⟩⟩ ⟨2,s,ty,li,qt,ii,pr,tg⟩ = true then idR l ii else 2))∧yp w w':=by
 have HR:=H hr
 have HG:=H hg
 have km:=H hs
 have vO:Hid (0 ≤ next∧next ≤ 1000000):=⟨h0,N⟩
 have HTG:=H ht
 obtain ⟨a,cap,rfl,xA,hc⟩:=hr
 clear hc hg hs h0 N ht xA
 generalize hsm:aT ⟨2,0,0,0,0,ii,0,⟨#[]⟩⟩ ⟨2,s,ty,li,qt,ii,pr,tg⟩ = sm
 have HSM:=H hsm
 clear hsm
 have xK:=zj w (L #[I next,.slice a l.length cap] 34)
 have uf:((w.alloc (L #[I next,.slice a l.length cap] 34)).alloc (L (yy 2 s ty li qt ii pr tg).toArray 50)).heap.size = w.heap.size + 1 + 1:=by rw [zj,xK]
 have r1:=zn w [I next,.slice a l.length cap] 34
 have r2:=zn (w.alloc (L #[I next,.slice a l.length cap] 34)) (yy 2 s ty li qt ii pr tg) 50
 rw [xK] at r2
 have qv:Below (w.heap.size + 1) (w.alloc (L #[I next,.slice a l.length cap] 34)) ((w.alloc (L #[I next,.slice a l.length cap] 34)).alloc (L (yy 2 s ty li qt ii pr tg).toArray 50)):=(Below.refl _ _).alloc (by rw [xK]; omega) _
 have xw:Hid (yp w ((w.alloc (L #[I next,.slice a l.length cap] 34)).alloc (L (yy 2 s ty li qt ii pr tg).toArray 50))):=(fw _ _).alloc (by rw [xK]; omega) _
 have HX:Hid (_∧_):=⟨zc r1 qv (by omega),r2⟩
 have uu:Hid (w.heap.size < ((w.alloc (L #[I next,.slice a l.length cap] 34)).alloc (L (yy 2 s ty li qt ii pr tg).toArray 50)).heap.size∧w.heap.size + 1 < ((w.alloc (L #[I next,.slice a l.length cap] 34)).alloc (L (yy 2 s ty li qt ii pr tg).toArray 50)).heap.size):=⟨by omega,by omega⟩
 clear xK uf r1 r2 qv
 go_enter Tryz.func136,Tryz.ntmps136
 refine fD fun zb xU=>?_
 go_wp2_with fail
 refine U xU _ _ ?_
 clear xU
 generalize ((w.alloc (L #[I next,.slice a l.length cap] 34)).alloc (L (yy 2 s ty li qt ii pr tg).toArray 50)) = X2 at xw HX uu ⊢
 have HX:Hid (X2.rangeAt w.heap.size 0 [I next,.slice a l.length cap]∧X2.rangeAt (w.heap.size + 1) 0 (yy 2 s ty li qt ii pr tg)):=U HX
 obtain ⟨o0,o1,o2,o3,o4,o5,o6,o7⟩:=yE (U HX).2
 go_wp2_with fail
 refine (dV ⟨2,s,ty,li,qt,ii,pr,tg⟩ X2).mono ?_
 have aD:cmdI ⟨2,s,ty,li,qt,ii,pr,tg⟩ = .iface 211 (.agg #[I ii]):=by simp [cmdI]
 rw [aD]
 clear aD
 rintro e w4 ⟨rfl,xy⟩
 have xH:=H (fC (U xw) xy)
 have xG:Hid (w4.rangeAt w.heap.size 0 [I next,.slice a l.length cap]∧w4.rangeAt (w.heap.size + 1) 0 (yy 2 s ty li qt ii pr tg)∧w.heap.size < w4.heap.size∧w.heap.size + 1 < w4.heap.size):=⟨zc (U HX).1 xy (U uu).1,zc (U HX).2 xy (U uu).2,yK (U uu).1 xy.size,yK (U uu).2 xy.size⟩
 clear xy o0 o1 o2 o3 o4 o5 o6 o7
 go_wp2_with fail
 refine zm (RG w4 (fun f=>{ tmps:=#[.agg #[I next,.slice a l.length cap],.agg (yy 2 s ty li qt ii pr tg).toArray,yq w 0,J (w.heap.size + 1) 0,I 0,.iface 211 (.agg #[I ii]),M,M,M,.agg (yy 2 s ty li qt ii pr tg).toArray,.iface 211 (.agg #[I ii]),.iface 211 (.agg #[I ii]),.bool false,f 0,f 1,f 2,f 3,f 4,M,M,M,M,M,M,M,M,M,M,M,M,M,M,M,M,M,M,M,M],defers:=[] }) 99 (DK (.iface 211 (.agg #[I ii])) (cmV ⟨2,0,0,0,0,ii,0,⟨#[]⟩⟩) (.agg (yy 2 s ty li qt ii pr tg).toArray) sm)) (by kernel_rfl) ?_ ?_ ?_
 ·exact ⟨fun _=>M,rfl,⟨rfl,rfl,rfl,Nat.le_refl _,fun _ _=>rfl⟩,fun j V=>by rw [yJ] at V; split at V <;> simp at V⟩
 ·rintro x cs hj ⟨f,rfl,xl,hD⟩ hx xO
  have xq:=bT xO hx (by kernel_rfl)
  have e4:f 4 = .bool (!sm):=hD 4 (xq 4 (by simp))
  have xE:=H (fC (U xH) xl)
  have z0:=zc (U xG).1 xl (U xG).2.2.1 0 _ rfl
  have z1:=zc (U xG).1 xl (U xG).2.2.1 1 _ rfl
  rw [Nat.zero_add] at z0 z1
  have ta1:∀ W:World,Sem.run Tryz.prog (Instr.typeAssert (.iface 211 (.agg #[I ii])) 206 85 true) W = .ok (.tuple #[.agg #[I 0,I 0,I 0,I 0,yk 0,yl ⟨#[]⟩],.bool false]) W:=fun W=>by kernel_rfl
  have ta2:∀ W:World,Sem.run Tryz.prog (Instr.typeAssert (.iface 211 (.agg #[I ii])) 206 211 true) W = .ok (.tuple #[.agg #[I ii],.bool true]) W:=fun W=>by kernel_rfl
  simp only [e4]
  generalize f 0 = e0,f 1 = e1,f 2 = e2,f 3 = e3
  clear hD xq e4 xO hx xl f x
  cases sm
  ·go_wp2_with fail
   go_ret
   exact ⟨rfl,U xE⟩
  ·have xJ:w.heap.size < hj.heap.size:=yL hj (yr w 0) z0
   have y0:World.cell? (hj.alloc (L #[I ii] 211)) (yr w 0) = some (I next):=(yW _ _ _ xJ).trans z0
   have y1:World.cell? (hj.alloc (L #[I ii] 211)) (yr w 1) = some (.slice a l.length cap):=(yW _ _ _ xJ).trans z1
   have kq:Hid (yp w (hj.alloc (L #[I ii] 211))):=(U xE).alloc (U xE).size _
   clear z0 z1 xJ
   go_wp2_with fail
   refine (idRefusal_any next _ l ii _ (zh (U HR) (U kq) yb)).mono ?_
   rintro e w7 ⟨rfl,qi⟩
   have qV:=H (fC (U kq) qi)
   clear qi
   go_wp2_with fail
   go_ret
   exact ⟨rfl,U qV⟩
 ·rintro x cs hj i op ⟨f,rfl,xl,hD⟩ X hx Z xr D
  clear X
  have xE:=H xl
  have HD:=H hD
  have u0:=zc (U xG).2.1 xl (U xG).2.2.2 0 _ rfl
  have u1:=zc (U xG).2.1 xl (U xG).2.2.2 1 _ rfl
  have u2:=zc (U xG).2.1 xl (U xG).2.2.2 2 _ rfl
  have u3:=zc (U xG).2.1 xl (U xG).2.2.2 3 _ rfl
  have u4:=zc (U xG).2.1 xl (U xG).2.2.2 4 _ rfl
  have u5:=zc (U xG).2.1 xl (U xG).2.2.2 5 _ rfl
  have u6:=zc (U xG).2.1 xl (U xG).2.2.2 6 _ rfl
  have u7:=zc (U xG).2.1 xl (U xG).2.2.2 7 _ rfl
  rw [Nat.zero_add] at u0 u1 u2 u3 u4 u5 u6 u7
  match i,Z with
  | 0,Z =>
   obtain rfl:=yc Z
   clear D hD xl
   rw [if_pos (by rfl)];unfold Oper.wp;go_simp
   exact ⟨upd f 0 (.iface 211 (.agg #[I ii])),by simp [upd],zg (U xE) (U HD) (by decide) rfl⟩
  | 1,Z =>
   obtain rfl:=yc Z
   have g:f 0 = .iface 211 (.agg #[I ii]):=hD 0 (yf D 0 rfl)
   have hm:∀ W:World,Sem.run Tryz.prog (method 399 211 (.agg #[I ii]) "loop.example/g00092/impl.told") W = .ok (238,.agg #[I ii]) W:=fun W=>by kernel_rfl
   clear D hD xl
   rw [if_pos (by rfl)];unfold Oper.wp;go_simp
   refine (toldCancel_any ii hj).mono ?_
   rintro e w4 ⟨rfl,xy⟩
   exact ⟨upd f 1 (cmV ⟨2,0,0,0,0,ii,0,⟨#[]⟩⟩),by simp [upd,g]; rfl,bc (U xE) (U HD) xy (by decide) (fun j v h=>h) rfl⟩
  | 2,Z =>
   obtain rfl:=yc Z
   clear D hD xl
   rw [if_pos (by rfl)];unfold Oper.wp;go_simp
   exact ⟨upd f 2 (.agg (yy 2 s ty li qt ii pr tg).toArray),by simp [upd],zg (U xE) (U HD) (by decide) rfl⟩
  | 3,Z =>
   obtain rfl:=yc Z
   have g1:f 1 = cmV ⟨2,0,0,0,0,ii,0,⟨#[]⟩⟩:=hD 1 (yf D 1 rfl)
   have g2:f 2 = .agg (yy 2 s ty li qt ii pr tg).toArray:=hD 2 (yf D 2 rfl)
   clear D hD xl
   rw [if_pos (by rfl)];unfold Oper.wp;go_simp
   refine (ey ⟨2,0,0,0,0,ii,0,⟨#[]⟩⟩ ⟨2,s,ty,li,qt,ii,pr,tg⟩ hj).mono ?_
   rw [U HSM]
   rintro e w4 ⟨rfl,xy⟩
   exact ⟨upd f 3 (.bool sm),by simp [upd,g1,g2],bc (U xE) (U HD) xy (by decide) (fun j v h=>h) rfl⟩
  | 4,Z =>
   obtain rfl:=yc Z
   have g:f 3 = .bool sm:=hD 3 (yf D 3 rfl)
   clear D hD xl
   rw [if_pos (by rfl)];unfold Oper.wp;go_simp
   exact ⟨upd f 4 (.bool (!sm)),by simp [upd,g],zg (U xE) (U HD) (by decide) rfl⟩
  | n + 5,Z=>simp at Z
theorem refusal_3 (next:Int) (vb:Value) (l:List Od) (s ty li qt ii:Int) (pr:Nat) (tg:ByteArray) (w:World) (hr:RdR Od.vs 6 w vb l) (hs:SlOk vb) (hg:GoodL l) (h0:0 ≤ next) (N:next ≤ 1000000) (ht:tg.size ≤ maxLen) :
  Calls Tryz.prog 136 #[.agg #[I next,vb],.agg (yy 3 s ty li qt ii pr tg).toArray] w fun e w'=>e = yn (I (if aT ⟨3,0,0,0,qt,ii,0,⟨#[]⟩⟩ ⟨3,s,ty,li,qt,ii,pr,tg⟩ = true then redR l ii qt else 2))∧yp w w':=by
 have HR:=H hr
 have HG:=H hg
 have km:=H hs
 have vO:Hid (0 ≤ next∧next ≤ 1000000):=⟨h0,N⟩
 have HTG:=H ht
 obtain ⟨a,cap,rfl,xA,hc⟩:=hr
 clear hc hg hs h0 N ht xA
 generalize hsm:aT ⟨3,0,0,0,qt,ii,0,⟨#[]⟩⟩ ⟨3,s,ty,li,qt,ii,pr,tg⟩ = sm
 have HSM:=H hsm
 clear hsm
 have xK:=zj w (L #[I next,.slice a l.length cap] 34)
 have uf:((w.alloc (L #[I next,.slice a l.length cap] 34)).alloc (L (yy 3 s ty li qt ii pr tg).toArray 50)).heap.size = w.heap.size + 1 + 1:=by rw [zj,xK]
 have r1:=zn w [I next,.slice a l.length cap] 34
 have r2:=zn (w.alloc (L #[I next,.slice a l.length cap] 34)) (yy 3 s ty li qt ii pr tg) 50
 rw [xK] at r2
 have qv:Below (w.heap.size + 1) (w.alloc (L #[I next,.slice a l.length cap] 34)) ((w.alloc (L #[I next,.slice a l.length cap] 34)).alloc (L (yy 3 s ty li qt ii pr tg).toArray 50)):=(Below.refl _ _).alloc (by rw [xK]; omega) _
 have xw:Hid (yp w ((w.alloc (L #[I next,.slice a l.length cap] 34)).alloc (L (yy 3 s ty li qt ii pr tg).toArray 50))):=(fw _ _).alloc (by rw [xK]; omega) _
 have HX:Hid (_∧_):=⟨zc r1 qv (by omega),r2⟩
 have uu:Hid (w.heap.size < ((w.alloc (L #[I next,.slice a l.length cap] 34)).alloc (L (yy 3 s ty li qt ii pr tg).toArray 50)).heap.size∧w.heap.size + 1 < ((w.alloc (L #[I next,.slice a l.length cap] 34)).alloc (L (yy 3 s ty li qt ii pr tg).toArray 50)).heap.size):=⟨by omega,by omega⟩
 clear xK uf r1 r2 qv
 go_enter Tryz.func136,Tryz.ntmps136
 refine fD fun zb xU=>?_
 go_wp2_with fail
 refine U xU _ _ ?_
 clear xU
 generalize ((w.alloc (L #[I next,.slice a l.length cap] 34)).alloc (L (yy 3 s ty li qt ii pr tg).toArray 50)) = X2 at xw HX uu ⊢
 have HX:Hid (X2.rangeAt w.heap.size 0 [I next,.slice a l.length cap]∧X2.rangeAt (w.heap.size + 1) 0 (yy 3 s ty li qt ii pr tg)):=U HX
 obtain ⟨o0,o1,o2,o3,o4,o5,o6,o7⟩:=yE (U HX).2
 go_wp2_with fail
 refine (dV ⟨3,s,ty,li,qt,ii,pr,tg⟩ X2).mono ?_
 have aD:cmdI ⟨3,s,ty,li,qt,ii,pr,tg⟩ = .iface 213 (.agg #[I ii,I qt]):=by simp [cmdI]
 rw [aD]
 clear aD
 rintro e w4 ⟨rfl,xy⟩
 have xH:=H (fC (U xw) xy)
 have xG:Hid (w4.rangeAt w.heap.size 0 [I next,.slice a l.length cap]∧w4.rangeAt (w.heap.size + 1) 0 (yy 3 s ty li qt ii pr tg)∧w.heap.size < w4.heap.size∧w.heap.size + 1 < w4.heap.size):=⟨zc (U HX).1 xy (U uu).1,zc (U HX).2 xy (U uu).2,yK (U uu).1 xy.size,yK (U uu).2 xy.size⟩
 clear xy o0 o1 o2 o3 o4 o5 o6 o7
 go_wp2_with fail
 refine zm (RG w4 (fun f=>{ tmps:=#[.agg #[I next,.slice a l.length cap],.agg (yy 3 s ty li qt ii pr tg).toArray,yq w 0,J (w.heap.size + 1) 0,I 0,.iface 213 (.agg #[I ii,I qt]),M,M,M,.agg (yy 3 s ty li qt ii pr tg).toArray,.iface 213 (.agg #[I ii,I qt]),.iface 213 (.agg #[I ii,I qt]),.bool false,f 0,f 1,f 2,f 3,f 4,M,M,M,M,M,M,M,M,M,M,M,M,M,M,M,M,M,M,M,M],defers:=[] }) 99 (DK (.iface 213 (.agg #[I ii,I qt])) (cmV ⟨3,0,0,0,qt,ii,0,⟨#[]⟩⟩) (.agg (yy 3 s ty li qt ii pr tg).toArray) sm)) (by kernel_rfl) ?_ ?_ ?_
 ·exact ⟨fun _=>M,rfl,⟨rfl,rfl,rfl,Nat.le_refl _,fun _ _=>rfl⟩,fun j V=>by rw [yJ] at V; split at V <;> simp at V⟩
 ·rintro x cs hj ⟨f,rfl,xl,hD⟩ hx xO
  have xq:=bT xO hx (by kernel_rfl)
  have e4:f 4 = .bool (!sm):=hD 4 (xq 4 (by simp))
  have xE:=H (fC (U xH) xl)
  have z0:=zc (U xG).1 xl (U xG).2.2.1 0 _ rfl
  have z1:=zc (U xG).1 xl (U xG).2.2.1 1 _ rfl
  rw [Nat.zero_add] at z0 z1
  have ta1:∀ W:World,Sem.run Tryz.prog (Instr.typeAssert (.iface 213 (.agg #[I ii,I qt])) 206 85 true) W = .ok (.tuple #[.agg #[I 0,I 0,I 0,I 0,yk 0,yl ⟨#[]⟩],.bool false]) W:=fun W=>by kernel_rfl
  have ta2:∀ W:World,Sem.run Tryz.prog (Instr.typeAssert (.iface 213 (.agg #[I ii,I qt])) 206 211 true) W = .ok (.tuple #[.agg #[I 0],.bool false]) W:=fun W=>by kernel_rfl
  have ta3:∀ W:World,Sem.run Tryz.prog (Instr.typeAssert (.iface 213 (.agg #[I ii,I qt])) 206 213 true) W = .ok (.tuple #[.agg #[I ii,I qt],.bool true]) W:=fun W=>by kernel_rfl
  simp only [e4]
  generalize f 0 = e0,f 1 = e1,f 2 = e2,f 3 = e3
  clear hD xq e4 xO hx xl f x
  cases sm
  ·go_wp2_with fail
   go_ret
   exact ⟨rfl,U xE⟩
  ·have xJ:w.heap.size < hj.heap.size:=yL hj (yr w 0) z0
   have y0:World.cell? (hj.alloc (L #[I ii,I qt] 213)) (yr w 0) = some (I next):=(yW _ _ _ xJ).trans z0
   have y1:World.cell? (hj.alloc (L #[I ii,I qt] 213)) (yr w 1) = some (.slice a l.length cap):=(yW _ _ _ xJ).trans z1
   have kq:Hid (yp w (hj.alloc (L #[I ii,I qt] 213))):=(U xE).alloc (U xE).size _
   clear z0 z1 xJ
   go_wp2_with fail
   refine (reduceRefusal_any next _ l ii qt _ (zh (U HR) (U kq) yb)).mono ?_
   rintro e w7 ⟨rfl,qi⟩
   have qV:=H (fC (U kq) qi)
   clear qi
   go_wp2_with fail
   go_ret
   exact ⟨rfl,U qV⟩
 ·rintro x cs hj i op ⟨f,rfl,xl,hD⟩ X hx Z xr D
  clear X
  have xE:=H xl
  have HD:=H hD
  have u0:=zc (U xG).2.1 xl (U xG).2.2.2 0 _ rfl
  have u1:=zc (U xG).2.1 xl (U xG).2.2.2 1 _ rfl
  have u2:=zc (U xG).2.1 xl (U xG).2.2.2 2 _ rfl
  have u3:=zc (U xG).2.1 xl (U xG).2.2.2 3 _ rfl
  have u4:=zc (U xG).2.1 xl (U xG).2.2.2 4 _ rfl
  have u5:=zc (U xG).2.1 xl (U xG).2.2.2 5 _ rfl
  have u6:=zc (U xG).2.1 xl (U xG).2.2.2 6 _ rfl
  have u7:=zc (U xG).2.1 xl (U xG).2.2.2 7 _ rfl
  rw [Nat.zero_add] at u0 u1 u2 u3 u4 u5 u6 u7
  match i,Z with
  | 0,Z =>
   obtain rfl:=yc Z
   clear D hD xl
   rw [if_pos (by rfl)];unfold Oper.wp;go_simp
   exact ⟨upd f 0 (.iface 213 (.agg #[I ii,I qt])),by simp [upd],zg (U xE) (U HD) (by decide) rfl⟩
  | 1,Z =>
   obtain rfl:=yc Z
   have g:f 0 = .iface 213 (.agg #[I ii,I qt]):=hD 0 (yf D 0 rfl)
   have hm:∀ W:World,Sem.run Tryz.prog (method 399 213 (.agg #[I ii,I qt]) "loop.example/g00092/impl.told") W = .ok (239,.agg #[I ii,I qt]) W:=fun W=>by kernel_rfl
   clear D hD xl
   rw [if_pos (by rfl)];unfold Oper.wp;go_simp
   refine (toldReduce_any ii qt hj).mono ?_
   rintro e w4 ⟨rfl,xy⟩
   exact ⟨upd f 1 (cmV ⟨3,0,0,0,qt,ii,0,⟨#[]⟩⟩),by simp [upd,g]; rfl,bc (U xE) (U HD) xy (by decide) (fun j v h=>h) rfl⟩
  | 2,Z =>
   obtain rfl:=yc Z
   clear D hD xl
   rw [if_pos (by rfl)];unfold Oper.wp;go_simp
   exact ⟨upd f 2 (.agg (yy 3 s ty li qt ii pr tg).toArray),by simp [upd],zg (U xE) (U HD) (by decide) rfl⟩
  | 3,Z =>
   obtain rfl:=yc Z
   have g1:f 1 = cmV ⟨3,0,0,0,qt,ii,0,⟨#[]⟩⟩:=hD 1 (yf D 1 rfl)
   have g2:f 2 = .agg (yy 3 s ty li qt ii pr tg).toArray:=hD 2 (yf D 2 rfl)
   clear D hD xl
   rw [if_pos (by rfl)];unfold Oper.wp;go_simp
   refine (ey ⟨3,0,0,0,qt,ii,0,⟨#[]⟩⟩ ⟨3,s,ty,li,qt,ii,pr,tg⟩ hj).mono ?_
   rw [U HSM]
   rintro e w4 ⟨rfl,xy⟩
   exact ⟨upd f 3 (.bool sm),by simp [upd,g1,g2],bc (U xE) (U HD) xy (by decide) (fun j v h=>h) rfl⟩
  | 4,Z =>
   obtain rfl:=yc Z
   have g:f 3 = .bool sm:=hD 3 (yf D 3 rfl)
   clear D hD xl
   rw [if_pos (by rfl)];unfold Oper.wp;go_simp
   exact ⟨upd f 4 (.bool (!sm)),by simp [upd,g],zg (U xE) (U HD) (by decide) rfl⟩
  | n + 5,Z=>simp at Z
theorem refusal_4 (next:Int) (vb:Value) (l:List Od) (s ty li qt ii:Int) (pr:Nat) (tg:ByteArray) (w:World) (hr:RdR Od.vs 6 w vb l) (hs:SlOk vb) (hg:GoodL l) (h0:0 ≤ next) (N:next ≤ 1000000) (ht:tg.size ≤ maxLen) :
  Calls Tryz.prog 136 #[.agg #[I next,vb],.agg (yy 4 s ty li qt ii pr tg).toArray] w fun e w'=>e = yn (I (if aT ⟨4,0,0,0,0,0,0,⟨#[]⟩⟩ ⟨4,s,ty,li,qt,ii,pr,tg⟩ = true then 0 else 2))∧yp w w':=by
 have HR:=H hr
 have HG:=H hg
 have km:=H hs
 have vO:Hid (0 ≤ next∧next ≤ 1000000):=⟨h0,N⟩
 have HTG:=H ht
 obtain ⟨a,cap,rfl,xA,hc⟩:=hr
 clear hc hg hs h0 N ht xA
 generalize hsm:aT ⟨4,0,0,0,0,0,0,⟨#[]⟩⟩ ⟨4,s,ty,li,qt,ii,pr,tg⟩ = sm
 have HSM:=H hsm
 clear hsm
 have xK:=zj w (L #[I next,.slice a l.length cap] 34)
 have uf:((w.alloc (L #[I next,.slice a l.length cap] 34)).alloc (L (yy 4 s ty li qt ii pr tg).toArray 50)).heap.size = w.heap.size + 1 + 1:=by rw [zj,xK]
 have r1:=zn w [I next,.slice a l.length cap] 34
 have r2:=zn (w.alloc (L #[I next,.slice a l.length cap] 34)) (yy 4 s ty li qt ii pr tg) 50
 rw [xK] at r2
 have qv:Below (w.heap.size + 1) (w.alloc (L #[I next,.slice a l.length cap] 34)) ((w.alloc (L #[I next,.slice a l.length cap] 34)).alloc (L (yy 4 s ty li qt ii pr tg).toArray 50)):=(Below.refl _ _).alloc (by rw [xK]; omega) _
 have xw:Hid (yp w ((w.alloc (L #[I next,.slice a l.length cap] 34)).alloc (L (yy 4 s ty li qt ii pr tg).toArray 50))):=(fw _ _).alloc (by rw [xK]; omega) _
 have HX:Hid (_∧_):=⟨zc r1 qv (by omega),r2⟩
 have uu:Hid (w.heap.size < ((w.alloc (L #[I next,.slice a l.length cap] 34)).alloc (L (yy 4 s ty li qt ii pr tg).toArray 50)).heap.size∧w.heap.size + 1 < ((w.alloc (L #[I next,.slice a l.length cap] 34)).alloc (L (yy 4 s ty li qt ii pr tg).toArray 50)).heap.size):=⟨by omega,by omega⟩
 clear xK uf r1 r2 qv
 go_enter Tryz.func136,Tryz.ntmps136
 refine fD fun zb xU=>?_
 go_wp2_with fail
 refine U xU _ _ ?_
 clear xU
 generalize ((w.alloc (L #[I next,.slice a l.length cap] 34)).alloc (L (yy 4 s ty li qt ii pr tg).toArray 50)) = X2 at xw HX uu ⊢
 have HX:Hid (X2.rangeAt w.heap.size 0 [I next,.slice a l.length cap]∧X2.rangeAt (w.heap.size + 1) 0 (yy 4 s ty li qt ii pr tg)):=U HX
 obtain ⟨o0,o1,o2,o3,o4,o5,o6,o7⟩:=yE (U HX).2
 go_wp2_with fail
 refine (dV ⟨4,s,ty,li,qt,ii,pr,tg⟩ X2).mono ?_
 have aD:cmdI ⟨4,s,ty,li,qt,ii,pr,tg⟩ = .iface 231 (.agg #[]):=by simp [cmdI]
 rw [aD]
 clear aD
 rintro e w4 ⟨rfl,xy⟩
 have xH:=H (fC (U xw) xy)
 have xG:Hid (w4.rangeAt w.heap.size 0 [I next,.slice a l.length cap]∧w4.rangeAt (w.heap.size + 1) 0 (yy 4 s ty li qt ii pr tg)∧w.heap.size < w4.heap.size∧w.heap.size + 1 < w4.heap.size):=⟨zc (U HX).1 xy (U uu).1,zc (U HX).2 xy (U uu).2,yK (U uu).1 xy.size,yK (U uu).2 xy.size⟩
 clear xy o0 o1 o2 o3 o4 o5 o6 o7
 go_wp2_with fail
 refine zm (RG w4 (fun f=>{ tmps:=#[.agg #[I next,.slice a l.length cap],.agg (yy 4 s ty li qt ii pr tg).toArray,yq w 0,J (w.heap.size + 1) 0,I 0,.iface 231 (.agg #[]),M,M,M,.agg (yy 4 s ty li qt ii pr tg).toArray,.iface 231 (.agg #[]),.iface 231 (.agg #[]),.bool false,f 0,f 1,f 2,f 3,f 4,M,M,M,M,M,M,M,M,M,M,M,M,M,M,M,M,M,M,M,M],defers:=[] }) 99 (DK (.iface 231 (.agg #[])) (cmV ⟨4,0,0,0,0,0,0,⟨#[]⟩⟩) (.agg (yy 4 s ty li qt ii pr tg).toArray) sm)) (by kernel_rfl) ?_ ?_ ?_
 ·exact ⟨fun _=>M,rfl,⟨rfl,rfl,rfl,Nat.le_refl _,fun _ _=>rfl⟩,fun j V=>by rw [yJ] at V; split at V <;> simp at V⟩
 ·rintro x cs hj ⟨f,rfl,xl,hD⟩ hx xO
  have xq:=bT xO hx (by kernel_rfl)
  have e4:f 4 = .bool (!sm):=hD 4 (xq 4 (by simp))
  have xE:=H (fC (U xH) xl)
  have z0:=zc (U xG).1 xl (U xG).2.2.1 0 _ rfl
  have z1:=zc (U xG).1 xl (U xG).2.2.1 1 _ rfl
  rw [Nat.zero_add] at z0 z1
  have ta1:∀ W:World,Sem.run Tryz.prog (Instr.typeAssert (.iface 231 (.agg #[])) 206 85 true) W = .ok (.tuple #[.agg #[I 0,I 0,I 0,I 0,yk 0,yl ⟨#[]⟩],.bool false]) W:=fun W=>by kernel_rfl
  have ta2:∀ W:World,Sem.run Tryz.prog (Instr.typeAssert (.iface 231 (.agg #[])) 206 211 true) W = .ok (.tuple #[.agg #[I 0],.bool false]) W:=fun W=>by kernel_rfl
  have ta3:∀ W:World,Sem.run Tryz.prog (Instr.typeAssert (.iface 231 (.agg #[])) 206 213 true) W = .ok (.tuple #[.agg #[I 0,I 0],.bool false]) W:=fun W=>by kernel_rfl
  simp only [e4]
  generalize f 0 = e0,f 1 = e1,f 2 = e2,f 3 = e3
  clear hD xq e4 xO hx xl f x
  cases sm
  ·go_wp2_with fail
   go_ret
   exact ⟨rfl,U xE⟩
  ·go_wp2_with fail
   go_ret
   exact ⟨rfl,U xE⟩
 ·rintro x cs hj i op ⟨f,rfl,xl,hD⟩ X hx Z xr D
  clear X
  have xE:=H xl
  have HD:=H hD
  have u0:=zc (U xG).2.1 xl (U xG).2.2.2 0 _ rfl
  have u1:=zc (U xG).2.1 xl (U xG).2.2.2 1 _ rfl
  have u2:=zc (U xG).2.1 xl (U xG).2.2.2 2 _ rfl
  have u3:=zc (U xG).2.1 xl (U xG).2.2.2 3 _ rfl
  have u4:=zc (U xG).2.1 xl (U xG).2.2.2 4 _ rfl
  have u5:=zc (U xG).2.1 xl (U xG).2.2.2 5 _ rfl
  have u6:=zc (U xG).2.1 xl (U xG).2.2.2 6 _ rfl
  have u7:=zc (U xG).2.1 xl (U xG).2.2.2 7 _ rfl
  rw [Nat.zero_add] at u0 u1 u2 u3 u4 u5 u6 u7
  match i,Z with
  | 0,Z =>
   obtain rfl:=yc Z
   clear D hD xl
   rw [if_pos (by rfl)];unfold Oper.wp;go_simp
   exact ⟨upd f 0 (.iface 231 (.agg #[])),by simp [upd],zg (U xE) (U HD) (by decide) rfl⟩
  | 1,Z =>
   obtain rfl:=yc Z
   have g:f 0 = .iface 231 (.agg #[]):=hD 0 (yf D 0 rfl)
   have hm:∀ W:World,Sem.run Tryz.prog (method 399 231 (.agg #[]) "loop.example/g00092/impl.told") W = .ok (241,.agg #[]) W:=fun W=>by kernel_rfl
   clear D hD xl
   rw [if_pos (by rfl)];unfold Oper.wp;go_simp
   refine (toldDay_any hj).mono ?_
   rintro e w4 ⟨rfl,xy⟩
   exact ⟨upd f 1 (cmV ⟨4,0,0,0,0,0,0,⟨#[]⟩⟩),by simp [upd,g]; rfl,bc (U xE) (U HD) xy (by decide) (fun j v h=>h) rfl⟩
  | 2,Z =>
   obtain rfl:=yc Z
   clear D hD xl
   rw [if_pos (by rfl)];unfold Oper.wp;go_simp
   exact ⟨upd f 2 (.agg (yy 4 s ty li qt ii pr tg).toArray),by simp [upd],zg (U xE) (U HD) (by decide) rfl⟩
  | 3,Z =>
   obtain rfl:=yc Z
   have g1:f 1 = cmV ⟨4,0,0,0,0,0,0,⟨#[]⟩⟩:=hD 1 (yf D 1 rfl)
   have g2:f 2 = .agg (yy 4 s ty li qt ii pr tg).toArray:=hD 2 (yf D 2 rfl)
   clear D hD xl
   rw [if_pos (by rfl)];unfold Oper.wp;go_simp
   refine (ey ⟨4,0,0,0,0,0,0,⟨#[]⟩⟩ ⟨4,s,ty,li,qt,ii,pr,tg⟩ hj).mono ?_
   rw [U HSM]
   rintro e w4 ⟨rfl,xy⟩
   exact ⟨upd f 3 (.bool sm),by simp [upd,g1,g2],bc (U xE) (U HD) xy (by decide) (fun j v h=>h) rfl⟩
  | 4,Z =>
   obtain rfl:=yc Z
   have g:f 3 = .bool sm:=hD 3 (yf D 3 rfl)
   clear D hD xl
   rw [if_pos (by rfl)];unfold Oper.wp;go_simp
   exact ⟨upd f 4 (.bool (!sm)),by simp [upd,g],zg (U xE) (U HD) (by decide) rfl⟩
  | n + 5,Z=>simp at Z
def refR (next:Int) (l:List Od) (c:Cm):Int :=
 if c.k = 1 then (if aT ⟨1,c.s,c.t,c.l,c.q,0,c.p,c.g⟩ c = true then newR next l c else 2)
 else if c.k = 2 then (if aT ⟨2,0,0,0,0,c.i,0,⟨#[]⟩⟩ c = true then idR l c.i else 2)
 else if c.k = 3 then (if aT ⟨3,0,0,0,c.q,c.i,0,⟨#[]⟩⟩ c = true then redR l c.i c.q else 2)
 else if c.k = 4 then (if aT ⟨4,0,0,0,0,0,0,⟨#[]⟩⟩ c = true then 0 else 2)
 else 1
theorem refusal_any (next:Int) (vb:Value) (l:List Od) (c:Cm) (w:World) (hr:RdR Od.vs 6 w vb l) (hs:SlOk vb) (hg:GoodL l) (h0:0 ≤ next) (N:next ≤ 1000000) (ht:c.g.size ≤ maxLen) :
  Calls Tryz.prog 136 #[.agg #[I next,vb],cmV c] w fun e w'=>e = yn (I (refR next l c))∧yp w w':=by
 obtain ⟨kk,s,ty,li,qt,ii,pr,tg⟩:=c
 unfold cmV
 simp only at ht ⊢
 by_cases e1:kk = 1
 ·subst e1; exact refusal_1 next vb l s ty li qt ii pr tg w hr hs hg h0 N ht
 by_cases e2:kk = 2
 ·subst e2; exact refusal_2 next vb l s ty li qt ii pr tg w hr hs hg h0 N ht
 by_cases e3:kk = 3
 ·subst e3; exact refusal_3 next vb l s ty li qt ii pr tg w hr hs hg h0 N ht
 by_cases e4:kk = 4
 ·subst e4; exact refusal_4 next vb l s ty li qt ii pr tg w hr hs hg h0 N ht
 have vn:Hid (refR next l ⟨kk,s,ty,li,qt,ii,pr,tg⟩ = 1):=by show _ = _; simp [refR,e1,e2,e3,e4]
 have aD:cmdI ⟨kk,s,ty,li,qt,ii,pr,tg⟩ = .nilIface:=by simp [cmdI,e1,e2,e3,e4]
 obtain ⟨a,cap,rfl,xA,hc⟩:=hr
 clear hc hg hs h0 N ht xA e1 e2 e3 e4
 have xK:=zj w (L #[I next,.slice a l.length cap] 34)
 have uf:((w.alloc (L #[I next,.slice a l.length cap] 34)).alloc (L (yy kk s ty li qt ii pr tg).toArray 50)).heap.size = w.heap.size + 1 + 1:=by rw [zj,xK]
 have r1:=zn w [I next,.slice a l.length cap] 34
 have r2:=zn (w.alloc (L #[I next,.slice a l.length cap] 34)) (yy kk s ty li qt ii pr tg) 50
 rw [xK] at r2
 have qv:Below (w.heap.size + 1) (w.alloc (L #[I next,.slice a l.length cap] 34)) ((w.alloc (L #[I next,.slice a l.length cap] 34)).alloc (L (yy kk s ty li qt ii pr tg).toArray 50)):=(Below.refl _ _).alloc (by rw [xK]; omega) _
 have xw:Hid (yp w ((w.alloc (L #[I next,.slice a l.length cap] 34)).alloc (L (yy kk s ty li qt ii pr tg).toArray 50))):=(fw _ _).alloc (by rw [xK]; omega) _
 have HX:Hid (_∧_):=⟨zc r1 qv (by omega),r2⟩
 have uu:Hid (w.heap.size < ((w.alloc (L #[I next,.slice a l.length cap] 34)).alloc (L (yy kk s ty li qt ii pr tg).toArray 50)).heap.size∧w.heap.size + 1 < ((w.alloc (L #[I next,.slice a l.length cap] 34)).alloc (L (yy kk s ty li qt ii pr tg).toArray 50)).heap.size):=⟨by omega,by omega⟩
 clear xK uf r1 r2 qv
 go_enter Tryz.func136,Tryz.ntmps136
 refine fD fun zb xU=>?_
 go_wp2_with fail
 refine U xU _ _ ?_
 clear xU
 generalize ((w.alloc (L #[I next,.slice a l.length cap] 34)).alloc (L (yy kk s ty li qt ii pr tg).toArray 50)) = X2 at xw HX uu ⊢
 have HX:Hid (X2.rangeAt w.heap.size 0 [I next,.slice a l.length cap]∧X2.rangeAt (w.heap.size + 1) 0 (yy kk s ty li qt ii pr tg)) :=U HX
 have k0:X2.cell? (yr w 0) = some (I next):=(U HX).1 0 _ rfl
 have k1:X2.cell? (yr w 1) = some (.slice a l.length cap):=(U HX).1 1 _ rfl
 obtain ⟨o0,o1,o2,o3,o4,o5,o6,o7⟩:=yE (U HX).2
 go_wp2_with fail
 refine (dV ⟨kk,s,ty,li,qt,ii,pr,tg⟩ X2).mono ?_
 rw [aD]
 clear aD
 rintro e w4 ⟨rfl,xy⟩
 have xH:=H (fC (U xw) xy)
 clear xy
 go_wp2_with fail
 go_ret
 exact ⟨zA (U vn).symm,U xH⟩
def tkS (x:Nat):Int:=if ((FloatKind.f64.format.order x 0 == some Ordering.gt) && ((FloatKind.f64.format.order x 4687829947429945344 == some Ordering.lt) || (FloatKind.f64.format.order x 4687829947429945344 == some Ordering.eq))) = true then tkN x else 0
theorem tkS_ok {x:Nat} (h:tkOk x = true):tkS x = tk x:=by
 unfold tk tkS
 rw [if_pos h]
 unfold tkOk at h
 rw [xf] at h
 rw [if_pos h.1]
theorem l01Ticks_any (x:Nat) (w:World) :
  Calls Tryz.prog 124 #[yk x] w fun e w'=>e = yn (.tuple #[I (tkS x),.bool (tkOk x)])∧w' = w:=by
 by_cases h0:FloatKind.f64.format.order x 0 = some Ordering.gt
 ·by_cases N:FloatKind.f64.format.order x 4687829947429945344 = some Ordering.lt ∨ FloatKind.f64.format.order x 4687829947429945344 = some Ordering.eq
  ·obtain ⟨r,n,jI,pT,hn⟩:=price_four h0 N
   have hn':(n:Int) < 9007199254740992:=by omega
   have eR:tkR x = r:=by unfold tkR; rw [show FloatKind.f64.format.mul x 4616189618054758400 = some r from jI]; rfl
   have eN:tkN x = n:=by unfold tkN; rw [eR,show (FloatKind.f64.decode r).toInt .zero = some (n:Int) from pT]; rfl
   have b0:(FloatKind.f64.format.order x 0 == some Ordering.gt) = true:=by rw [h0]; rfl
   have hm:∀ W,(binOp .mul 42 (yk x) (yk 4616189618054758400)).run Tryz.prog W = .ok (yk r) W:=fun W=>by
    have:FloatKind.f64.format.mul x 4616189618054758400 = some r:=jI
    simp [binOp,Op.floatArith,this]
   have hc:∀ W,(convert 42 3 (yk r)).run Tryz.prog W = .ok (I n) W:=fun W=>by
    have Y:(FloatKind.f64.decode r).toInt .zero = some (n:Int):=pT
    have E:IntKind.i64.min ≤ (n:Int)∧(n:Int) ≤ IntKind.i64.max:=by
     rw [show IntKind.i64.min = -9223372036854775808 by decide,show IntKind.i64.max = 9223372036854775807 by decide]; omega
    simp [convert,run_underlying Tryz.underlying42,run_underlying Tryz.underlying3,Conv.floatToInt,Y,E.1]
    intro h
    omega
   have uK:((FloatKind.f64.format.order x 4687829947429945344 == some Ordering.lt) || (FloatKind.f64.format.order x 4687829947429945344 == some Ordering.eq)) = true:=by
    rcases N with N | N <;> rw [N] <;> rfl
   have vu:tkOk x = (FloatKind.f64.format.order (floatOfInt .f64 n) r == some Ordering.eq):=by unfold tkOk; rw [eN,eR,b0,uK]; rfl
   have hS:tkS x = n:=by unfold tkS; rw [b0,uK,eN]; rfl
   clear jI pT h0 uK
   cases he:(FloatKind.f64.format.order (floatOfInt .f64 n) r == some Ordering.eq)
   all_goals
    have he2:(FloatKind.f64.format.order (floatOfInt .f64 n) r != some Ordering.eq) = !(FloatKind.f64.format.order (floatOfInt .f64 n) r == some Ordering.eq):=rfl
    rw [he] at he2
    rw [he] at vu
   ·have HT:Hid (tkS x = n∧tkOk x = false):=⟨hS,vu⟩
    clear vu eN eR hS
    rcases N with N | N
    ·have b1:(FloatKind.f64.format.order x 4687829947429945344 == some Ordering.lt) = true:=by rw [N]; rfl
     have b2:(FloatKind.f64.format.order x 4687829947429945344 == some Ordering.eq) = false:=by rw [N]; rfl
     clear N
     go_enter Tryz.func124,Tryz.ntmps124
     go_wp2
     go_ret2
     exact ⟨by rw [(U HT).1,(U HT).2]; rfl,rfl⟩
    ·have b1:(FloatKind.f64.format.order x 4687829947429945344 == some Ordering.lt) = false:=by rw [N]; rfl
     have b2:(FloatKind.f64.format.order x 4687829947429945344 == some Ordering.eq) = true:=by rw [N]; rfl
     clear N
     go_enter Tryz.func124,Tryz.ntmps124
     go_wp2
     go_ret2
     exact ⟨by rw [(U HT).1,(U HT).2]; rfl,rfl⟩
   ·have HT:Hid (tkS x = n∧tkOk x = true):=⟨hS,vu⟩
    clear vu eN eR hS
    rcases N with N | N
    ·have b1:(FloatKind.f64.format.order x 4687829947429945344 == some Ordering.lt) = true:=by rw [N]; rfl
     have b2:(FloatKind.f64.format.order x 4687829947429945344 == some Ordering.eq) = false:=by rw [N]; rfl
     clear N
     go_enter Tryz.func124,Tryz.ntmps124
     go_wp2
     go_ret2
     exact ⟨by rw [(U HT).1,(U HT).2]; rfl,rfl⟩
    ·have b1:(FloatKind.f64.format.order x 4687829947429945344 == some Ordering.lt) = false:=by rw [N]; rfl
     have b2:(FloatKind.f64.format.order x 4687829947429945344 == some Ordering.eq) = true:=by rw [N]; rfl
     clear N
     go_enter Tryz.func124,Tryz.ntmps124
     go_wp2
     go_ret2
     exact ⟨by rw [(U HT).1,(U HT).2]; rfl,rfl⟩
  ·have b0:(FloatKind.f64.format.order x 0 == some Ordering.gt) = true:=by rw [h0]; rfl
   have b1:(FloatKind.f64.format.order x 4687829947429945344 == some Ordering.lt) = false:=by rw [xe]; exact fun h=>N (.inl h)
   have b2:(FloatKind.f64.format.order x 4687829947429945344 == some Ordering.eq) = false:=by rw [xe]; exact fun h=>N (.inr h)
   have vu:tkOk x = false:=by unfold tkOk; rw [b0,b1,b2]; rfl
   have HT:Hid (tkS x = 0∧tkOk x = false):=⟨by unfold tkS; rw [b0,b1,b2]; rfl,vu⟩
   clear h0 N vu
   go_enter Tryz.func124,Tryz.ntmps124
   go_wp2
   go_ret2
   exact ⟨by rw [(U HT).1,(U HT).2]; rfl,rfl⟩
 ·have b0:(FloatKind.f64.format.order x 0 == some Ordering.gt) = false:=by rw [xe]; exact h0
  have vu:tkOk x = false:=by unfold tkOk; rw [b0]; rfl
  have HT:Hid (tkS x = 0∧tkOk x = false):=⟨by unfold tkS; rw [b0]; rfl,vu⟩
  clear h0 vu
  go_enter Tryz.func124,Tryz.ntmps124
  go_wp2
  go_ret2
  exact ⟨by rw [(U HT).1,(U HT).2]; rfl,rfl⟩
end Go.Proofs.YtnphbkgfjanmgaaGreatDoor
