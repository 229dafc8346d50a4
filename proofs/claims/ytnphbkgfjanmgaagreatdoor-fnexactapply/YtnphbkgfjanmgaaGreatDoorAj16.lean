/-
  The reason of a reduction, by the program: proved by walking the function.
-/
import Derived.Test.YtnphbkgfjanmgaaGreatDoorAj15
set_option linter.unusedVariables false
set_option maxHeartbeats 6400000
set_option maxRecDepth 100000
namespace Go.Proofs.YtnphbkgfjanmgaaGreatDoor
open Go.RowKit
def DZ (b2 b3 b off cap k:Nat) (next id qty:Int) (l:List Od) (o:Od) (p:Prop) (cl:World):Nat→Value→Prop
 | 0,v=>v = J b3 1
 | 1,v=>v = I qty
 | 2,v=>v = J b2 1
 | 3,v=>v = .slice (some (D b off)) l.length cap
 | 4,v=>v = .agg #[I next,.slice (some (D b off)) l.length cap]
 | 5,v=>v = J b3 0
 | 6,v=>v = I id
 | 7,v=>v = I k
 | 8,v=>v = J b (off + k * 6)
 | 9,v=>v = J b (off + k * 6 + 3)
 | 10,v=>v = I o.left
 | 11,v=>v = .bool (decide (o.left ≤ qty))
 | _,_=>True
theorem reduceRefusal_any (next:Int) (vb:Value) (l:List Od) (id qty:Int) (w:World) (hr:RdR Od.vs 6 w vb l) :
  Calls Tryz.prog 179 #[.agg #[I next,vb],.agg #[I id,I qty]] w fun e w'=>e = yn (I (redR l id qty))∧yp w w':=by
 have HR:=H hr
 obtain ⟨a,cap,rfl,xz,hc⟩:=hr
 have jB:=H hc
 clear hc
 have xL:=zj w (A #[I next,.slice a l.length cap] 34)
 have ug:((w.alloc (A #[I next,.slice a l.length cap] 34)).alloc (A #[I id,I qty] 213)).heap.size = w.heap.size + 1 + 1:=by rw [zj,xL]
 have r1:=zo w [I next,.slice a l.length cap] 34
 have r2:=zo (w.alloc (A #[I next,.slice a l.length cap] 34)) [I id,I qty] 213
 rw [xL] at r2
 have qC:Below (w.heap.size + 1) (w.alloc (A #[I next,.slice a l.length cap] 34)) ((w.alloc (A #[I next,.slice a l.length cap] 34)).alloc (A #[I id,I qty] 213)):=(Below.refl _ _).alloc (by rw [xL]; omega) _
 have xw:Hid (yp w ((w.alloc (A #[I next,.slice a l.length cap] 34)).alloc (A #[I id,I qty] 213))):=(gp _ _).alloc (by rw [xL]; omega) _
 have HX:Hid (_∧_):=⟨zc r1 qC (by omega),r2⟩
 have ux:Hid (w.heap.size < ((w.alloc (A #[I next,.slice a l.length cap] 34)).alloc (A #[I id,I qty] 213)).heap.size∧w.heap.size + 1 < ((w.alloc (A #[I next,.slice a l.length cap] 34)).alloc (A #[I id,I qty] 213)).heap.size):=⟨by omega,by omega⟩
 clear xL ug r1 r2 qC
 go_enter Tryz.func179,Tryz.ntmps179
 refine gv fun hR xU=>?_
 go_wp2_with fail
 refine U xU _ _ ?_
 clear xU
 generalize ((w.alloc (A #[I next,.slice a l.length cap] 34)).alloc (A #[I id,I qty] 213)) = X2 at xw HX ux ⊢
 have HX:Hid (X2.rangeAt w.heap.size 0 [I next,.slice a l.length cap]∧X2.rangeAt (w.heap.size + 1) 0 [I id,I qty]):=U HX
 have k0:X2.cell? (yr w 0) = some (I next):=(U HX).1 0 _ rfl
 have k1:X2.cell? (yr w 1) = some (.slice a l.length cap):=(U HX).1 1 _ rfl
 have o0:X2.cell? (D (w.heap.size + 1) 0) = some (I id):=(U HX).2 0 _ rfl
 have o1:X2.cell? (D (w.heap.size + 1) 1) = some (I qty):=(U HX).2 1 _ rfl
 go_wp2_with fail
 refine (isQty_any qty X2).mono ?_
 rintro e w3 ⟨rfl,rfl⟩
 cases hq:betB qty 1 1000000
 ·have HK:Hid (redR l id qty = 7):=by show _ = _; rw [redR,if_neg (by rw [hq]; simp)]
  clear hq
  go_wp2_with fail
  go_ret
  exact ⟨zC (U HK).symm,U xw⟩
 have HQ:=H hq
 clear hq
 go_wp2_with fail
 refine (idRefusal_any next _ l id w3 (zi (U HR) (U xw) yb)).mono ?_
 rcases plc_cases l id with hp | ⟨k,o,hp,hk⟩
 ·have uj:idR l id = 9:=by rw [idR,if_pos (by omega)]
  rw [uj]
  have HK:Hid (redR l id qty = 9):=by show _ = _; rw [redR,if_pos (U HQ),if_pos (by omega)]
  clear hp uj
  rintro e w4 ⟨rfl,xy⟩
  have xH:=H (gu (U xw) xy)
  clear xy
  go_wp2_with fail
  go_ret
  exact ⟨zC (U HK).symm,U xH⟩
 have uj:idR l id = 0:=by rw [idR,if_neg (by omega)]
 rw [uj]
 have jC:=H hp
 have vv:Hid (redR l id qty = if o.left ≤ qty then 10 else 0):=by
  show _ = _
  rw [redR,if_pos (U HQ),if_neg (by omega),hp,Int.toNat_natCast,hk]
 have pt:=(yH.1 hk).1
 obtain ⟨b,off,rfl,kr,F⟩:=U jB (by intro h; rw [h] at pt; simp at pt)
 have oP:=H (F k o hk)
 have hkl':(k:Int) < l.length:=by omega
 have jQ:(0:Int) ≤ k:=by omega
 clear hp uj F hk
 rintro e w4 ⟨rfl,xy⟩
 have xH:=H (gu (U xw) xy)
 have xG:Hid (w4.rangeAt w.heap.size 0 [I next,.slice (some (D b off)) l.length cap]∧w4.rangeAt (w.heap.size + 1) 0 [I id,I qty]∧w.heap.size < w4.heap.size∧w.heap.size + 1 < w4.heap.size):=⟨zc (U HX).1 xy (U ux).1,zc (U HX).2 xy (U ux).2,yK (U ux).1 xy.size,yK (U ux).2 xy.size⟩
 clear xy k0 k1 o0 o1
 go_wp2_with fail
 refine zn (RG w4 (fun f=>{ tmps:=#[.agg #[I next,.slice (some (D b off)) l.length cap],.agg #[I id,I qty],yq w 0,J (w.heap.size + 1) 0,I 0,I 0,J (w.heap.size + 1) 1,I qty,.bool true,.bool false,.agg #[I next,.slice (some (D b off)) l.length cap],J (w.heap.size + 1) 0,I id,I 0,I 0,.bool false,M,f 0,f 1,f 2,f 3,f 4,f 5,f 6,f 7,f 8,f 9,f 10,f 11],defers:=[] }) 99 (DZ w.heap.size (w.heap.size + 1) b off cap k next id qty l o)) (by kernel_rfl) ?_ ?_ ?_
 ·exact ⟨fun _=>M,rfl,⟨rfl,rfl,rfl,Nat.le_refl _,fun _ _=>rfl⟩,fun j X=>by rw [yJ] at X; split at X <;> simp at X⟩
 ·rintro x gs cl ⟨f,rfl,xl,hD⟩ hx xO
  have xq:=cP xO hx (by kernel_rfl)
  have uA:f 11 = .bool (decide (o.left ≤ qty)):=hD 11 (xq 11 (by simp))
  have xE:=H (gu (U xH) xl)
  simp only [uA]
  clear hD xq uA xO hx xl
  by_cases qi:o.left ≤ qty
  ·have HK:Hid (redR l id qty = 10):=(U vv).trans (if_pos qi)
   go_wp2_with fail
   go_ret
   exact ⟨zC (U HK).symm,U xE⟩
  ·have HK:Hid (redR l id qty = 0):=(U vv).trans (if_neg qi)
   go_wp2_with fail
   go_ret
   exact ⟨zC (U HK).symm,U xE⟩
 ·rintro x gs cl i op ⟨f,rfl,xl,hD⟩ F hx Z xt E
  clear F
  have xE:=H xl
  have HD:=H hD
  have z0:=zc (U xG).1 xl (U xG).2.2.1 0 _ rfl
  have z1:=zc (U xG).1 xl (U xG).2.2.1 1 _ rfl
  have u0:=zc (U xG).2.1 xl (U xG).2.2.2 0 _ rfl
  have u1:=zc (U xG).2.1 xl (U xG).2.2.2 1 _ rfl
  rw [Nat.zero_add] at z0 z1 u0 u1
  have uQ:=H (zi (U HR) (gu (U xH) xl) yb)
  obtain ⟨-,-,-,y3,-⟩:=zB (zc (U oP) (gu (U xH) xl) kr)
  match i,Z with
  | 0,Z =>
   obtain rfl:=yc Z
   clear E hD xl
   rw [if_pos (by rfl)];unfold Oper.wp;go_simp
   exact ⟨upd f 0 (J (w.heap.size + 1) 1),by simp [upd],zg (U xE) (U HD) (by decide) rfl⟩
  | 1,Z =>
   obtain rfl:=yc Z
   have g:f 0 = J (w.heap.size + 1) 1:=hD 0 (yf E 0 rfl)
   clear E hD xl
   rw [if_pos (by rfl)];unfold Oper.wp;go_simp
   exact ⟨upd f 1 (I qty),by simp [upd,g],zg (U xE) (U HD) (by decide) rfl⟩
  | 2,Z =>
   obtain rfl:=yc Z
   clear E hD xl
   rw [if_pos (by rfl)];unfold Oper.wp;go_simp
   exact ⟨upd f 2 (yq w 1),by simp [upd],zg (U xE) (U HD) (by decide) rfl⟩
  | 3,Z =>
   obtain rfl:=yc Z
   have g:f 2 = yq w 1:=hD 2 (yf E 2 rfl)
   clear E hD xl
   rw [if_pos (by rfl)];unfold Oper.wp;go_simp
   exact ⟨upd f 3 (.slice (some (D b off)) l.length cap),by simp [upd,g],zg (U xE) (U HD) (by decide) rfl⟩
  | 4,Z =>
   obtain rfl:=yc Z
   clear E hD xl
   rw [if_pos (by rfl)];unfold Oper.wp;go_simp
   exact ⟨upd f 4 (.agg #[I next,.slice (some (D b off)) l.length cap]),by simp [upd],zg (U xE) (U HD) (by decide) rfl⟩
  | 5,Z =>
   obtain rfl:=yc Z
   clear E hD xl
   rw [if_pos (by rfl)];unfold Oper.wp;go_simp
   exact ⟨upd f 5 (J (w.heap.size + 1) 0),by simp [upd],zg (U xE) (U HD) (by decide) rfl⟩
  | 6,Z =>
   obtain rfl:=yc Z
   have g:f 5 = J (w.heap.size + 1) 0:=hD 5 (yf E 5 rfl)
   clear E hD xl
   rw [if_pos (by rfl)];unfold Oper.wp;go_simp
   exact ⟨upd f 6 (I id),by simp [upd,g],zg (U xE) (U HD) (by decide) rfl⟩
  | 7,Z =>
   obtain rfl:=yc Z
   have g4:f 4 = .agg #[I next,.slice (some (D b off)) l.length cap]:=hD 4 (yf E 4 rfl)
   have g6:f 6 = I id:=hD 6 (yf E 6 rfl)
   clear E hD xl
   rw [if_pos (by rfl)];unfold Oper.wp;go_simp
   refine (eO next _ l id cl (U uQ)).mono ?_
   rw [U jC]
   rintro e w4 ⟨rfl,xy⟩
   exact ⟨upd f 7 (I k),by simp [upd,g4,g6],bM (U xE) (U HD) xy (by decide) (fun j v h=>h) rfl⟩
  | 8,Z =>
   obtain rfl:=yc Z
   have g3:f 3 = .slice (some (D b off)) l.length cap:=hD 3 (yf E 3 rfl)
   have g7:f 7 = I k:=hD 7 (yf E 7 rfl)
   clear E hD xl
   rw [if_pos (by rfl)];unfold Oper.wp;go_simp
   exact ⟨upd f 8 (J b (off + k * 6)),by simp [upd,g3,g7],zg (U xE) (U HD) (by decide) rfl⟩
  | 9,Z =>
   obtain rfl:=yc Z
   have g:f 8 = J b (off + k * 6):=hD 8 (yf E 8 rfl)
   clear E hD xl
   rw [if_pos (by rfl)];unfold Oper.wp;go_simp
   exact ⟨upd f 9 (J b (off + k * 6 + 3)),by simp [upd,g],zg (U xE) (U HD) (by decide) rfl⟩
  | 10,Z =>
   obtain rfl:=yc Z
   have g:f 9 = J b (off + k * 6 + 3):=hD 9 (yf E 9 rfl)
   clear E hD xl
   rw [if_pos (by rfl)];unfold Oper.wp;go_simp
   exact ⟨upd f 10 (I o.left),by simp [upd,g],zg (U xE) (U HD) (by decide) rfl⟩
  | 11,Z =>
   obtain rfl:=yc Z
   have g1:f 1 = I qty:=hD 1 (yf E 1 rfl)
   have g:f 10 = I o.left:=hD 10 (yf E 10 rfl)
   clear E hD xl
   rw [if_pos (by rfl)];unfold Oper.wp;go_simp
   exact ⟨upd f 11 (.bool (decide (o.left ≤ qty))),by simp [upd,g,g1],zg (U xE) (U HD) (by decide) rfl⟩
  | n + 12,Z=>simp at Z
def DK (iv tv cv:Value) (sm:Bool) (p:Prop) (cl:World):Nat→Value→Prop
 | 0,v=>v = iv
 | 1,v=>v = tv
 | 2,v=>v = cv
 | 3,v=>v = .bool sm
 | 4,v=>v = .bool (!sm)
 | _,_=>True
theorem refusal_1 (next:Int) (vb:Value) (l:List Od) (s ty li qt ii:Int) (pr:Nat) (tg:ByteArray) (w:World) (hr:RdR Od.vs 6 w vb l) (hs:SlOk vb) (hg:GoodL l) (h0:0 ≤ next) (N:next ≤ 1000000) (ht:tg.size ≤ maxLen) :
  Calls Tryz.prog 136 #[.agg #[I next,vb],.agg (yy 1 s ty li qt ii pr tg).toArray] w fun e w'=>e = yn (I (if bD ⟨1,s,ty,li,qt,0,pr,tg⟩ ⟨1,s,ty,li,qt,ii,pr,tg⟩ = true then newR next l ⟨1,s,ty,li,qt,ii,pr,tg⟩ else 2))∧yp w w':=by
 have HR:=H hr
 have HG:=H hg
 have kE:=H hs
 have vT:Hid (0 ≤ next∧next ≤ 1000000):=⟨h0,N⟩
 have HTG:=H ht
 obtain ⟨a,cap,rfl,xz,hc⟩:=hr
 clear hc hg hs h0 N ht xz
 generalize hsm:bD ⟨1,s,ty,li,qt,0,pr,tg⟩ ⟨1,s,ty,li,qt,ii,pr,tg⟩ = sm
 have HSM:=H hsm
 clear hsm
 have xL:=zj w (A #[I next,.slice a l.length cap] 34)
 have ug:((w.alloc (A #[I next,.slice a l.length cap] 34)).alloc (A (yy 1 s ty li qt ii pr tg).toArray 50)).heap.size = w.heap.size + 1 + 1:=by rw [zj,xL]
 have r1:=zo w [I next,.slice a l.length cap] 34
 have r2:=zo (w.alloc (A #[I next,.slice a l.length cap] 34)) (yy 1 s ty li qt ii pr tg) 50
 rw [xL] at r2
 have qC:Below (w.heap.size + 1) (w.alloc (A #[I next,.slice a l.length cap] 34)) ((w.alloc (A #[I next,.slice a l.length cap] 34)).alloc (A (yy 1 s ty li qt ii pr tg).toArray 50)):=(Below.refl _ _).alloc (by rw [xL]; omega) _
 have xw:Hid (yp w ((w.alloc (A #[I next,.slice a l.length cap] 34)).alloc (A (yy 1 s ty li qt ii pr tg).toArray 50))):=(gp _ _).alloc (by rw [xL]; omega) _
 have HX:Hid (_∧_):=⟨zc r1 qC (by omega),r2⟩
 have ux:Hid (w.heap.size < ((w.alloc (A #[I next,.slice a l.length cap] 34)).alloc (A (yy 1 s ty li qt ii pr tg).toArray 50)).heap.size∧w.heap.size + 1 < ((w.alloc (A #[I next,.slice a l.length cap] 34)).alloc (A (yy 1 s ty li qt ii pr tg).toArray 50)).heap.size):=⟨by omega,by omega⟩
 clear xL ug r1 r2 qC
 go_enter Tryz.func136,Tryz.ntmps136
 refine gv fun hR xU=>?_
 go_wp2_with fail
 refine U xU _ _ ?_
 clear xU
 generalize ((w.alloc (A #[I next,.slice a l.length cap] 34)).alloc (A (yy 1 s ty li qt ii pr tg).toArray 50)) = X2 at xw HX ux ⊢
 have HX:Hid (X2.rangeAt w.heap.size 0 [I next,.slice a l.length cap]∧X2.rangeAt (w.heap.size + 1) 0 (yy 1 s ty li qt ii pr tg)):=U HX
 obtain ⟨o0,o1,o2,o3,o4,o5,o6,o7⟩:=yE (U HX).2
 go_wp2_with fail
 refine (eJ ⟨1,s,ty,li,qt,ii,pr,tg⟩ X2).mono ?_
 have aZ:cmdI ⟨1,s,ty,li,qt,ii,pr,tg⟩ = .iface 85 (.agg #[I s,I ty,I li,I qt,yk pr,yl tg]):=by simp [cmdI,noV]
 rw [aZ]
 clear aZ
 rintro e w4 ⟨rfl,xy⟩
 have xH:=H (gu (U xw) xy)
 have xG:Hid (w4.rangeAt w.heap.size 0 [I next,.slice a l.length cap]∧w4.rangeAt (w.heap.size + 1) 0 (yy 1 s ty li qt ii pr tg)∧w.heap.size < w4.heap.size∧w.heap.size + 1 < w4.heap.size):=⟨zc (U HX).1 xy (U ux).1,zc (U HX).2 xy (U ux).2,yK (U ux).1 xy.size,yK (U ux).2 xy.size⟩
 clear xy o0 o1 o2 o3 o4 o5 o6 o7
 go_wp2_with fail
 refine zn (RG w4 (fun f=>{ tmps:=#[.agg #[I next,.slice a l.length cap],.agg (yy 1 s ty li qt ii pr tg).toArray,yq w 0,J (w.heap.size + 1) 0,I 0,.iface 85 (.agg #[I s,I ty,I li,I qt,yk pr,yl tg]),M,M,M,.agg (yy 1 s ty li qt ii pr tg).toArray,.iface 85 (.agg #[I s,I ty,I li,I qt,yk pr,yl tg]),.iface 85 (.agg #[I s,I ty,I li,I qt,yk pr,yl tg]),.bool false,f 0,f 1,f 2,f 3,f 4,M,M,M,M,M,M,M,M,M,M,M,M,M,M,M,M,M,M,M,M],defers:=[] }) 99 (DK (.iface 85 (.agg #[I s,I ty,I li,I qt,yk pr,yl tg])) (cmV ⟨1,s,ty,li,qt,0,pr,tg⟩) (.agg (yy 1 s ty li qt ii pr tg).toArray) sm)) (by kernel_rfl) ?_ ?_ ?_
 ·exact ⟨fun _=>M,rfl,⟨rfl,rfl,rfl,Nat.le_refl _,fun _ _=>rfl⟩,fun j X=>by rw [yJ] at X; split at X <;> simp at X⟩
 ·rintro x gs cl ⟨f,rfl,xl,hD⟩ hx xO
  have xq:=cP xO hx (by kernel_rfl)
  have e4:f 4 = .bool (!sm):=hD 4 (xq 4 (by simp))
  have xE:=H (gu (U xH) xl)
  have z0:=zc (U xG).1 xl (U xG).2.2.1 0 _ rfl
  have z1:=zc (U xG).1 xl (U xG).2.2.1 1 _ rfl
  rw [Nat.zero_add] at z0 z1
  have ta1:∀ W:World,Sem.run Tryz.prog (Instr.typeAssert (.iface 85 (.agg #[I s,I ty,I li,I qt,yk pr,yl tg])) 206 85 true) W = .ok (.tuple #[.agg #[I s,I ty,I li,I qt,yk pr,yl tg],.bool true]) W:=fun W=>by kernel_rfl
  simp only [e4]
  generalize f 0 = e0,f 1 = e1,f 2 = e2,f 3 = e3
  clear hD xq e4 xO hx xl f x
  cases sm
  ·go_wp2_with fail
   go_ret
   exact ⟨rfl,U xE⟩
  ·have xI:w.heap.size < cl.heap.size:=yL cl (yr w 0) z0
   have y0:World.cell? (cl.alloc (A #[I s,I ty,I li,I qt,yk pr,yl tg] 85)) (yr w 0) = some (I next):=(yW _ _ _ xI).trans z0
   have y1:World.cell? (cl.alloc (A #[I s,I ty,I li,I qt,yk pr,yl tg] 85)) (yr w 1) = some (.slice a l.length cap):=(yW _ _ _ xI).trans z1
   have kJ:Hid (yp w (cl.alloc (A #[I s,I ty,I li,I qt,yk pr,yl tg] 85))):=(U xE).alloc (U xE).size _
   clear z0 z1 xI
   have hsf:=sfl
   go_wp2_with fail
   refine (newRefusal_any next _ l ⟨1,s,ty,li,qt,ii,pr,tg⟩ _ (zi (U HR) (U kJ) yb) (U kE) (U HG) (U vT).1 (U vT).2 (U HTG)).mono ?_
   rintro e w7 ⟨rfl,qu⟩
   have jg:=H (gu (U kJ) qu)
   clear qu
   go_wp2_with fail
   go_ret
   exact ⟨rfl,U jg⟩
 ·rintro x gs cl i op ⟨f,rfl,xl,hD⟩ F hx Z xt E
  clear F
  have xE:=H xl
  have HD:=H hD
  have u0:=zc (U xG).2.1 xl (U xG).2.2.2 0 _ rfl
  have u1:=zc (U xG).2.1 xl (U xG).2.2.2 1 _ rfl
  have u2:=zc (U xG).2.1 xl (U xG).2.2.2 2 _ rfl
  have u3:=zc (U xG).2.1 xl (U xG).2.2.2 3 _ rfl
  have u4:=zc (U xG).2.1 xl (U xG).2.2.2 4 _ rfl
  have u5:=zc (U xG).2.1 xl (U xG).2.2.2 5 _ rfl
  have u6:=zc (U xG).2.1 xl (U xG).2.2.2 6 _ rfl
  have u7:=zc (U xG).2.1 xl (U xG).2.2.2 7 _ rfl
  rw [Nat.zero_add] at u0 u1 u2 u3 u4 u5 u6 u7
  match i,Z with
  | 0,Z =>
   obtain rfl:=yc Z
   clear E hD xl
   rw [if_pos (by rfl)];unfold Oper.wp;go_simp
   exact ⟨upd f 0 (.iface 85 (.agg #[I s,I ty,I li,I qt,yk pr,yl tg])),by simp [upd],zg (U xE) (U HD) (by decide) rfl⟩
  | 1,Z =>
   obtain rfl:=yc Z
   have g:f 0 = .iface 85 (.agg #[I s,I ty,I li,I qt,yk pr,yl tg]):=hD 0 (yf E 0 rfl)
   have hm:∀ W:World,Sem.run Tryz.prog (method 399 85 (.agg #[I s,I ty,I li,I qt,yk pr,yl tg]) "loop.example/g00092/impl.told") W = .ok (235,.agg #[I s,I ty,I li,I qt,yk pr,yl tg]) W:=fun W=>by kernel_rfl
   clear E hD xl
   rw [if_pos (by rfl)];unfold Oper.wp;go_simp
   refine (toldNew_any ⟨1,s,ty,li,qt,ii,pr,tg⟩ cl).mono ?_
   rintro e w4 ⟨rfl,xy⟩
   exact ⟨upd f 1 (cmV ⟨1,s,ty,li,qt,0,pr,tg⟩),by simp [upd,g]; rfl,bM (U xE) (U HD) xy (by decide) (fun j v h=>h) rfl⟩
  | 2,Z =>
   obtain rfl:=yc Z
   clear E hD xl
   rw [if_pos (by rfl)];unfold Oper.wp;go_simp
   exact ⟨upd f 2 (.agg (yy 1 s ty li qt ii pr tg).toArray),by simp [upd],zg (U xE) (U HD) (by decide) rfl⟩
  | 3,Z =>
   obtain rfl:=yc Z
   have g1:f 1 = cmV ⟨1,s,ty,li,qt,0,pr,tg⟩:=hD 1 (yf E 1 rfl)
   have g2:f 2 = .agg (yy 1 s ty li qt ii pr tg).toArray:=hD 2 (yf E 2 rfl)
   clear E hD xl
   rw [if_pos (by rfl)];unfold Oper.wp;go_simp
   refine (fy ⟨1,s,ty,li,qt,0,pr,tg⟩ ⟨1,s,ty,li,qt,ii,pr,tg⟩ cl).mono ?_
   rw [U HSM]
   rintro e w4 ⟨rfl,xy⟩
   exact ⟨upd f 3 (.bool sm),by simp [upd,g1,g2],bM (U xE) (U HD) xy (by decide) (fun j v h=>h) rfl⟩
  | 4,Z =>
   obtain rfl:=yc Z
   have g:f 3 = .bool sm:=hD 3 (yf E 3 rfl)
   clear E hD xl
   rw [if_pos (by rfl)];unfold Oper.wp;go_simp
   exact ⟨upd f 4 (.bool (!sm)),by simp [upd,g],zg (U xE) (U HD) (by decide) rfl⟩
  | n + 5,Z=>simp at Z
theorem refusal_2 (next:Int) (vb:Value) (l:List Od) (s ty li qt ii:Int) (pr:Nat) (tg:ByteArray) (w:World) (hr:RdR Od.vs 6 w vb l) (hs:SlOk vb) (hg:GoodL l) (h0:0 ≤ next) (N:next ≤ 1000000) (ht:tg.size ≤ maxLen) :
  Calls Tryz.prog 136 #[.agg #[I next,vb],.agg (yy 2 s ty li qt ii pr tg).toArray] w fun e w'=>e = yn (I (if bD ⟨2,0,0,0,0,ii,0,⟨#[]⟩⟩ ⟨2,s,ty,li,qt,ii,pr,tg⟩ = true then idR l ii else 2))∧yp w w':=by
 have HR:=H hr
 have HG:=H hg
 have kE:=H hs
 have vT:Hid (0 ≤ next∧next ≤ 1000000):=⟨h0,N⟩
 have HTG:=H ht
 obtain ⟨a,cap,rfl,xz,hc⟩:=hr
 clear hc hg hs h0 N ht xz
 generalize hsm:bD ⟨2,0,0,0,0,ii,0,⟨#[]⟩⟩ ⟨2,s,ty,li,qt,ii,pr,tg⟩ = sm
 have HSM:=H hsm
 clear hsm
 have xL:=zj w (A #[I next,.slice a l.length cap] 34)
 have ug:((w.alloc (A #[I next,.slice a l.length cap] 34)).alloc (A (yy 2 s ty li qt ii pr tg).toArray 50)).heap.size = w.heap.size + 1 + 1:=by rw [zj,xL]
 have r1:=zo w [I next,.slice a l.length cap] 34
 have r2:=zo (w.alloc (A #[I next,.slice a l.length cap] 34)) (yy 2 s ty li qt ii pr tg) 50
 rw [xL] at r2
 have qC:Below (w.heap.size + 1) (w.alloc (A #[I next,.slice a l.length cap] 34)) ((w.alloc (A #[I next,.slice a l.length cap] 34)).alloc (A (yy 2 s ty li qt ii pr tg).toArray 50)):=(Below.refl _ _).alloc (by rw [xL]; omega) _
 have xw:Hid (yp w ((w.alloc (A #[I next,.slice a l.length cap] 34)).alloc (A (yy 2 s ty li qt ii pr tg).toArray 50))):=(gp _ _).alloc (by rw [xL]; omega) _
 have HX:Hid (_∧_):=⟨zc r1 qC (by omega),r2⟩
 have ux:Hid (w.heap.size < ((w.alloc (A #[I next,.slice a l.length cap] 34)).alloc (A (yy 2 s ty li qt ii pr tg).toArray 50)).heap.size∧w.heap.size + 1 < ((w.alloc (A #[I next,.slice a l.length cap] 34)).alloc (A (yy 2 s ty li qt ii pr tg).toArray 50)).heap.size):=⟨by omega,by omega⟩
 clear xL ug r1 r2 qC
 go_enter Tryz.func136,Tryz.ntmps136
 refine gv fun hR xU=>?_
 go_wp2_with fail
 refine U xU _ _ ?_
 clear xU
 generalize ((w.alloc (A #[I next,.slice a l.length cap] 34)).alloc (A (yy 2 s ty li qt ii pr tg).toArray 50)) = X2 at xw HX ux ⊢
 have HX:Hid (X2.rangeAt w.heap.size 0 [I next,.slice a l.length cap]∧X2.rangeAt (w.heap.size + 1) 0 (yy 2 s ty li qt ii pr tg)):=U HX
 obtain ⟨o0,o1,o2,o3,o4,o5,o6,o7⟩:=yE (U HX).2
 go_wp2_with fail
 refine (eJ ⟨2,s,ty,li,qt,ii,pr,tg⟩ X2).mono ?_
 have aZ:cmdI ⟨2,s,ty,li,qt,ii,pr,tg⟩ = .iface 211 (.agg #[I ii]):=by simp [cmdI]
 rw [aZ]
 clear aZ
 rintro e w4 ⟨rfl,xy⟩
 have xH:=H (gu (U xw) xy)
 have xG:Hid (w4.rangeAt w.heap.size 0 [I next,.slice a l.length cap]∧w4.rangeAt (w.heap.size + 1) 0 (yy 2 s ty li qt ii pr tg)∧w.heap.size < w4.heap.size∧w.heap.size + 1 < w4.heap.size):=⟨zc (U HX).1 xy (U ux).1,zc (U HX).2 xy (U ux).2,yK (U ux).1 xy.size,yK (U ux).2 xy.size⟩
 clear xy o0 o1 o2 o3 o4 o5 o6 o7
 go_wp2_with fail
 refine zn (RG w4 (fun f=>{ tmps:=#[.agg #[I next,.slice a l.length cap],.agg (yy 2 s ty li qt ii pr tg).toArray,yq w 0,J (w.heap.size + 1) 0,I 0,.iface 211 (.agg #[I ii]),M,M,M,.agg (yy 2 s ty li qt ii pr tg).toArray,.iface 211 (.agg #[I ii]),.iface 211 (.agg #[I ii]),.bool false,f 0,f 1,f 2,f 3,f 4,M,M,M,M,M,M,M,M,M,M,M,M,M,M,M,M,M,M,M,M],defers:=[] }) 99 (DK (.iface 211 (.agg #[I ii])) (cmV ⟨2,0,0,0,0,ii,0,⟨#[]⟩⟩) (.agg (yy 2 s ty li qt ii pr tg).toArray) sm)) (by kernel_rfl) ?_ ?_ ?_
 ·exact ⟨fun _=>M,rfl,⟨rfl,rfl,rfl,Nat.le_refl _,fun _ _=>rfl⟩,fun j X=>by rw [yJ] at X; split at X <;> simp at X⟩
 ·rintro x gs cl ⟨f,rfl,xl,hD⟩ hx xO
  have xq:=cP xO hx (by kernel_rfl)
  have e4:f 4 = .bool (!sm):=hD 4 (xq 4 (by simp))
  have xE:=H (gu (U xH) xl)
  have z0:=zc (U xG).1 xl (U xG).2.2.1 0 _ rfl
  have z1:=zc (U xG).1 xl (U xG).2.2.1 1 _ rfl
  rw [Nat.zero_add] at z0 z1
  have ta1:∀ W:World,Sem.run Tryz.prog (Instr.typeAssert (.iface 211 (.agg #[I ii])) 206 85 true) W = .ok (.tuple #[.agg #[I 0,I 0,I 0,I 0,yk 0,yl ⟨#[]⟩],.bool false]) W:=fun W=>by kernel_rfl
  have ta2:∀ W:World,Sem.run Tryz.prog (Instr.typeAssert (.iface 211 (.agg #[I ii])) 206 211 true) W = .ok (.tuple #[.agg #[I ii],.bool true]) W:=fun W=>by kernel_rfl
  simp only [e4]
  generalize f 0 = e0,f 1 = e1,f 2 = e2,f 3 = e3
  clear hD xq e4 xO hx xl f x
  cases sm
  ·go_wp2_with fail
   go_ret
   exact ⟨rfl,U xE⟩
  ·have xI:w.heap.size < cl.heap.size:=yL cl (yr w 0) z0
   have y0:World.cell? (cl.alloc (A #[I ii] 211)) (yr w 0) = some (I next):=(yW _ _ _ xI).trans z0
   have y1:World.cell? (cl.alloc (A #[I ii] 211)) (yr w 1) = some (.slice a l.length cap):=(yW _ _ _ xI).trans z1
   have kJ:Hid (yp w (cl.alloc (A #[I ii] 211))):=(U xE).alloc (U xE).size _
   clear z0 z1 xI
   go_wp2_with fail
   refine (idRefusal_any next _ l ii _ (zi (U HR) (U kJ) yb)).mono ?_
   rintro e w7 ⟨rfl,qu⟩
   have jg:=H (gu (U kJ) qu)
   clear qu
   go_wp2_with fail
   go_ret
   exact ⟨rfl,U jg⟩
 ·rintro x gs cl i op ⟨f,rfl,xl,hD⟩ F hx Z xt E
  clear F
  have xE:=H xl
  have HD:=H hD
  have u0:=zc (U xG).2.1 xl (U xG).2.2.2 0 _ rfl
  have u1:=zc (U xG).2.1 xl (U xG).2.2.2 1 _ rfl
  have u2:=zc (U xG).2.1 xl (U xG).2.2.2 2 _ rfl
  have u3:=zc (U xG).2.1 xl (U xG).2.2.2 3 _ rfl
  have u4:=zc (U xG).2.1 xl (U xG).2.2.2 4 _ rfl
  have u5:=zc (U xG).2.1 xl (U xG).2.2.2 5 _ rfl
  have u6:=zc (U xG).2.1 xl (U xG).2.2.2 6 _ rfl
  have u7:=zc (U xG).2.1 xl (U xG).2.2.2 7 _ rfl
  rw [Nat.zero_add] at u0 u1 u2 u3 u4 u5 u6 u7
  match i,Z with
  | 0,Z =>
   obtain rfl:=yc Z
   clear E hD xl
   rw [if_pos (by rfl)];unfold Oper.wp;go_simp
   exact ⟨upd f 0 (.iface 211 (.agg #[I ii])),by simp [upd],zg (U xE) (U HD) (by decide) rfl⟩
  | 1,Z =>
   obtain rfl:=yc Z
   have g:f 0 = .iface 211 (.agg #[I ii]):=hD 0 (yf E 0 rfl)
   have hm:∀ W:World,Sem.run Tryz.prog (method 399 211 (.agg #[I ii]) "loop.example/g00092/impl.told") W = .ok (238,.agg #[I ii]) W:=fun W=>by kernel_rfl
   clear E hD xl
   rw [if_pos (by rfl)];unfold Oper.wp;go_simp
   refine (toldCancel_any ii cl).mono ?_
   rintro e w4 ⟨rfl,xy⟩
   exact ⟨upd f 1 (cmV ⟨2,0,0,0,0,ii,0,⟨#[]⟩⟩),by simp [upd,g]; rfl,bM (U xE) (U HD) xy (by decide) (fun j v h=>h) rfl⟩
  | 2,Z =>
   obtain rfl:=yc Z
   clear E hD xl
   rw [if_pos (by rfl)];unfold Oper.wp;go_simp
   exact ⟨upd f 2 (.agg (yy 2 s ty li qt ii pr tg).toArray),by simp [upd],zg (U xE) (U HD) (by decide) rfl⟩
  | 3,Z =>
   obtain rfl:=yc Z
   have g1:f 1 = cmV ⟨2,0,0,0,0,ii,0,⟨#[]⟩⟩:=hD 1 (yf E 1 rfl)
   have g2:f 2 = .agg (yy 2 s ty li qt ii pr tg).toArray:=hD 2 (yf E 2 rfl)
   clear E hD xl
   rw [if_pos (by rfl)];unfold Oper.wp;go_simp
   refine (fy ⟨2,0,0,0,0,ii,0,⟨#[]⟩⟩ ⟨2,s,ty,li,qt,ii,pr,tg⟩ cl).mono ?_
   rw [U HSM]
   rintro e w4 ⟨rfl,xy⟩
   exact ⟨upd f 3 (.bool sm),by simp [upd,g1,g2],bM (U xE) (U HD) xy (by decide) (fun j v h=>h) rfl⟩
  | 4,Z =>
   obtain rfl:=yc Z
   have g:f 3 = .bool sm:=hD 3 (yf E 3 rfl)
   clear E hD xl
   rw [if_pos (by rfl)];unfold Oper.wp;go_simp
   exact ⟨upd f 4 (.bool (!sm)),by simp [upd,g],zg (U xE) (U HD) (by decide) rfl⟩
  | n + 5,Z=>simp at Z
theorem refusal_3 (next:Int) (vb:Value) (l:List Od) (s ty li qt ii:Int) (pr:Nat) (tg:ByteArray) (w:World) (hr:RdR Od.vs 6 w vb l) (hs:SlOk vb) (hg:GoodL l) (h0:0 ≤ next) (N:next ≤ 1000000) (ht:tg.size ≤ maxLen) :
  Calls Tryz.prog 136 #[.agg #[I next,vb],.agg (yy 3 s ty li qt ii pr tg).toArray] w fun e w'=>e = yn (I (if bD ⟨3,0,0,0,qt,ii,0,⟨#[]⟩⟩ ⟨3,s,ty,li,qt,ii,pr,tg⟩ = true then redR l ii qt else 2))∧yp w w':=by
 have HR:=H hr
 have HG:=H hg
 have kE:=H hs
 have vT:Hid (0 ≤ next∧next ≤ 1000000):=⟨h0,N⟩
 have HTG:=H ht
 obtain ⟨a,cap,rfl,xz,hc⟩:=hr
 clear hc hg hs h0 N ht xz
 generalize hsm:bD ⟨3,0,0,0,qt,ii,0,⟨#[]⟩⟩ ⟨3,s,ty,li,qt,ii,pr,tg⟩ = sm
 have HSM:=H hsm
 clear hsm
 have xL:=zj w (A #[I next,.slice a l.length cap] 34)
 have ug:((w.alloc (A #[I next,.slice a l.length cap] 34)).alloc (A (yy 3 s ty li qt ii pr tg).toArray 50)).heap.size = w.heap.size + 1 + 1:=by rw [zj,xL]
 have r1:=zo w [I next,.slice a l.length cap] 34
 have r2:=zo (w.alloc (A #[I next,.slice a l.length cap] 34)) (yy 3 s ty li qt ii pr tg) 50
 rw [xL] at r2
 have qC:Below (w.heap.size + 1) (w.alloc (A #[I next,.slice a l.length cap] 34)) ((w.alloc (A #[I next,.slice a l.length cap] 34)).alloc (A (yy 3 s ty li qt ii pr tg).toArray 50)):=(Below.refl _ _).alloc (by rw [xL]; omega) _
 have xw:Hid (yp w ((w.alloc (A #[I next,.slice a l.length cap] 34)).alloc (A (yy 3 s ty li qt ii pr tg).toArray 50))):=(gp _ _).alloc (by rw [xL]; omega) _
 have HX:Hid (_∧_):=⟨zc r1 qC (by omega),r2⟩
 have ux:Hid (w.heap.size < ((w.alloc (A #[I next,.slice a l.length cap] 34)).alloc (A (yy 3 s ty li qt ii pr tg).toArray 50)).heap.size∧w.heap.size + 1 < ((w.alloc (A #[I next,.slice a l.length cap] 34)).alloc (A (yy 3 s ty li qt ii pr tg).toArray 50)).heap.size):=⟨by omega,by omega⟩
 clear xL ug r1 r2 qC
 go_enter Tryz.func136,Tryz.ntmps136
 refine gv fun hR xU=>?_
 go_wp2_with fail
 refine U xU _ _ ?_
 clear xU
 generalize ((w.alloc (A #[I next,.slice a l.length cap] 34)).alloc (A (yy 3 s ty li qt ii pr tg).toArray 50)) = X2 at xw HX ux ⊢
 have HX:Hid (X2.rangeAt w.heap.size 0 [I next,.slice a l.length cap]∧X2.rangeAt (w.heap.size + 1) 0 (yy 3 s ty li qt ii pr tg)):=U HX
 obtain ⟨o0,o1,o2,o3,o4,o5,o6,o7⟩:=yE (U HX).2
 go_wp2_with fail
 refine (eJ ⟨3,s,ty,li,qt,ii,pr,tg⟩ X2).mono ?_
 have aZ:cmdI ⟨3,s,ty,li,qt,ii,pr,tg⟩ = .iface 213 (.agg #[I ii,I qt]):=by simp [cmdI]
 rw [aZ]
 clear aZ
 rintro e w4 ⟨rfl,xy⟩
 have xH:=H (gu (U xw) xy)
 have xG:Hid (w4.rangeAt w.heap.size 0 [I next,.slice a l.length cap]∧w4.rangeAt (w.heap.size + 1) 0 (yy 3 s ty li qt ii pr tg)∧w.heap.size < w4.heap.size∧w.heap.size + 1 < w4.heap.size):=⟨zc (U HX).1 xy (U ux).1,zc (U HX).2 xy (U ux).2,yK (U ux).1 xy.size,yK (U ux).2 xy.size⟩
 clear xy o0 o1 o2 o3 o4 o5 o6 o7
 go_wp2_with fail
 refine zn (RG w4 (fun f=>{ tmps:=#[.agg #[I next,.slice a l.length cap],.agg (yy 3 s ty li qt ii pr tg).toArray,yq w 0,J (w.heap.size + 1) 0,I 0,.iface 213 (.agg #[I ii,I qt]),M,M,M,.agg (yy 3 s ty li qt ii pr tg).toArray,.iface 213 (.agg #[I ii,I qt]),.iface 213 (.agg #[I ii,I qt]),.bool false,f 0,f 1,f 2,f 3,f 4,M,M,M,M,M,M,M,M,M,M,M,M,M,M,M,M,M,M,M,M],defers:=[] }) 99 (DK (.iface 213 (.agg #[I ii,I qt])) (cmV ⟨3,0,0,0,qt,ii,0,⟨#[]⟩⟩) (.agg (yy 3 s ty li qt ii pr tg).toArray) sm)) (by kernel_rfl) ?_ ?_ ?_
 ·exact ⟨fun _=>M,rfl,⟨rfl,rfl,rfl,Nat.le_refl _,fun _ _=>rfl⟩,fun j X=>by rw [yJ] at X; split at X <;> simp at X⟩
 ·rintro x gs cl ⟨f,rfl,xl,hD⟩ hx xO
  have xq:=cP xO hx (by kernel_rfl)
  have e4:f 4 = .bool (!sm):=hD 4 (xq 4 (by simp))
  have xE:=H (gu (U xH) xl)
  have z0:=zc (U xG).1 xl (U xG).2.2.1 0 _ rfl
  have z1:=zc (U xG).1 xl (U xG).2.2.1 1 _ rfl
  rw [Nat.zero_add] at z0 z1
  have ta1:∀ W:World,Sem.run Tryz.prog (Instr.typeAssert (.iface 213 (.agg #[I ii,I qt])) 206 85 true) W = .ok (.tuple #[.agg #[I 0,I 0,I 0,I 0,yk 0,yl ⟨#[]⟩],.bool false]) W:=fun W=>by kernel_rfl
  have ta2:∀ W:World,Sem.run Tryz.prog (Instr.typeAssert (.iface 213 (.agg #[I ii,I qt])) 206 211 true) W = .ok (.tuple #[.agg #[I 0],.bool false]) W:=fun W=>by kernel_rfl
  have ta3:∀ W:World,Sem.run Tryz.prog (Instr.typeAssert (.iface 213 (.agg #[I ii,I qt])) 206 213 true) W = .ok (.tuple #[.agg #[I ii,I qt],.bool true]) W:=fun W=>by kernel_rfl
  simp only [e4]
  generalize f 0 = e0,f 1 = e1,f 2 = e2,f 3 = e3
  clear hD xq e4 xO hx xl f x
  cases sm
  ·go_wp2_with fail
   go_ret
   exact ⟨rfl,U xE⟩
  ·have xI:w.heap.size < cl.heap.size:=yL cl (yr w 0) z0
   have y0:World.cell? (cl.alloc (A #[I ii,I qt] 213)) (yr w 0) = some (I next):=(yW _ _ _ xI).trans z0
   have y1:World.cell? (cl.alloc (A #[I ii,I qt] 213)) (yr w 1) = some (.slice a l.length cap):=(yW _ _ _ xI).trans z1
   have kJ:Hid (yp w (cl.alloc (A #[I ii,I qt] 213))):=(U xE).alloc (U xE).size _
   clear z0 z1 xI
   go_wp2_with fail
   refine (reduceRefusal_any next _ l ii qt _ (zi (U HR) (U kJ) yb)).mono ?_
   rintro e w7 ⟨rfl,qu⟩
   have jg:=H (gu (U kJ) qu)
   clear qu
   go_wp2_with fail
   go_ret
   exact ⟨rfl,U jg⟩
 ·rintro x gs cl i op ⟨f,rfl,xl,hD⟩ F hx Z xt E
  clear F
  have xE:=H xl
  have HD:=H hD
  have u0:=zc (U xG).2.1 xl (U xG).2.2.2 0 _ rfl
  have u1:=zc (U xG).2.1 xl (U xG).2.2.2 1 _ rfl
  have u2:=zc (U xG).2.1 xl (U xG).2.2.2 2 _ rfl
  have u3:=zc (U xG).2.1 xl (U xG).2.2.2 3 _ rfl
  have u4:=zc (U xG).2.1 xl (U xG).2.2.2 4 _ rfl
  have u5:=zc (U xG).2.1 xl (U xG).2.2.2 5 _ rfl
  have u6:=zc (U xG).2.1 xl (U xG).2.2.2 6 _ rfl
  have u7:=zc (U xG).2.1 xl (U xG).2.2.2 7 _ rfl
  rw [Nat.zero_add] at u0 u1 u2 u3 u4 u5 u6 u7
  match i,Z with
  | 0,Z =>
   obtain rfl:=yc Z
   clear E hD xl
   rw [if_pos (by rfl)];unfold Oper.wp;go_simp
   exact ⟨upd f 0 (.iface 213 (.agg #[I ii,I qt])),by simp [upd],zg (U xE) (U HD) (by decide) rfl⟩
  | 1,Z =>
   obtain rfl:=yc Z
   have g:f 0 = .iface 213 (.agg #[I ii,I qt]):=hD 0 (yf E 0 rfl)
   have hm:∀ W:World,Sem.run Tryz.prog (method 399 213 (.agg #[I ii,I qt]) "loop.example/g00092/impl.told") W = .ok (239,.agg #[I ii,I qt]) W:=fun W=>by kernel_rfl
   clear E hD xl
   rw [if_pos (by rfl)];unfold Oper.wp;go_simp
   refine (toldReduce_any ii qt cl).mono ?_
   rintro e w4 ⟨rfl,xy⟩
   exact ⟨upd f 1 (cmV ⟨3,0,0,0,qt,ii,0,⟨#[]⟩⟩),by simp [upd,g]; rfl,bM (U xE) (U HD) xy (by decide) (fun j v h=>h) rfl⟩
  | 2,Z =>
   obtain rfl:=yc Z
   clear E hD xl
   rw [if_pos (by rfl)];unfold Oper.wp;go_simp
   exact ⟨upd f 2 (.agg (yy 3 s ty li qt ii pr tg).toArray),by simp [upd],zg (U xE) (U HD) (by decide) rfl⟩
  | 3,Z =>
   obtain rfl:=yc Z
   have g1:f 1 = cmV ⟨3,0,0,0,qt,ii,0,⟨#[]⟩⟩:=hD 1 (yf E 1 rfl)
   have g2:f 2 = .agg (yy 3 s ty li qt ii pr tg).toArray:=hD 2 (yf E 2 rfl)
   clear E hD xl
   rw [if_pos (by rfl)];unfold Oper.wp;go_simp
   refine (fy ⟨3,0,0,0,qt,ii,0,⟨#[]⟩⟩ ⟨3,s,ty,li,qt,ii,pr,tg⟩ cl).mono ?_
   rw [U HSM]
   rintro e w4 ⟨rfl,xy⟩
   exact ⟨upd f 3 (.bool sm),by simp [upd,g1,g2],bM (U xE) (U HD) xy (by decide) (fun j v h=>h) rfl⟩
  | 4,Z =>
   obtain rfl:=yc Z
   have g:f 3 = .bool sm:=hD 3 (yf E 3 rfl)
   clear E hD xl
   rw [if_pos (by rfl)];unfold Oper.wp;go_simp
   exact ⟨upd f 4 (.bool (!sm)),by simp [upd,g],zg (U xE) (U HD) (by decide) rfl⟩
  | n + 5,Z=>simp at Z
theorem refusal_4 (next:Int) (vb:Value) (l:List Od) (s ty li qt ii:Int) (pr:Nat) (tg:ByteArray) (w:World) (hr:RdR Od.vs 6 w vb l) (hs:SlOk vb) (hg:GoodL l) (h0:0 ≤ next) (N:next ≤ 1000000) (ht:tg.size ≤ maxLen) :
  Calls Tryz.prog 136 #[.agg #[I next,vb],.agg (yy 4 s ty li qt ii pr tg).toArray] w fun e w'=>e = yn (I (if bD ⟨4,0,0,0,0,0,0,⟨#[]⟩⟩ ⟨4,s,ty,li,qt,ii,pr,tg⟩ = true then 0 else 2))∧yp w w':=by
 have HR:=H hr
 have HG:=H hg
 have kE:=H hs
 have vT:Hid (0 ≤ next∧next ≤ 1000000):=⟨h0,N⟩
 have HTG:=H ht
 obtain ⟨a,cap,rfl,xz,hc⟩:=hr
 clear hc hg hs h0 N ht xz
 generalize hsm:bD ⟨4,0,0,0,0,0,0,⟨#[]⟩⟩ ⟨4,s,ty,li,qt,ii,pr,tg⟩ = sm
 have HSM:=H hsm
 clear hsm
 have xL:=zj w (A #[I next,.slice a l.length cap] 34)
 have ug:((w.alloc (A #[I next,.slice a l.length cap] 34)).alloc (A (yy 4 s ty li qt ii pr tg).toArray 50)).heap.size = w.heap.size + 1 + 1:=by rw [zj,xL]
 have r1:=zo w [I next,.slice a l.length cap] 34
 have r2:=zo (w.alloc (A #[I next,.slice a l.length cap] 34)) (yy 4 s ty li qt ii pr tg) 50
 rw [xL] at r2
 have qC:Below (w.heap.size + 1) (w.alloc (A #[I next,.slice a l.length cap] 34)) ((w.alloc (A #[I next,.slice a l.length cap] 34)).alloc (A (yy 4 s ty li qt ii pr tg).toArray 50)):=(Below.refl _ _).alloc (by rw [xL]; omega) _
 have xw:Hid (yp w ((w.alloc (A #[I next,.slice a l.length cap] 34)).alloc (A (yy 4 s ty li qt ii pr tg).toArray 50))):=(gp _ _).alloc (by rw [xL]; omega) _
 have HX:Hid (_∧_):=⟨zc r1 qC (by omega),r2⟩
 have ux:Hid (w.heap.size < ((w.alloc (A #[I next,.slice a l.length cap] 34)).alloc (A (yy 4 s ty li qt ii pr tg).toArray 50)).heap.size∧w.heap.size + 1 < ((w.alloc (A #[I next,.slice a l.length cap] 34)).alloc (A (yy 4 s ty li qt ii pr tg).toArray 50)).heap.size):=⟨by omega,by omega⟩
 clear xL ug r1 r2 qC
 go_enter Tryz.func136,Tryz.ntmps136
 refine gv fun hR xU=>?_
 go_wp2_with fail
 refine U xU _ _ ?_
 clear xU
 generalize ((w.alloc (A #[I next,.slice a l.length cap] 34)).alloc (A (yy 4 s ty li qt ii pr tg).toArray 50)) = X2 at xw HX ux ⊢
 have HX:Hid (X2.rangeAt w.heap.size 0 [I next,.slice a l.length cap]∧X2.rangeAt (w.heap.size + 1) 0 (yy 4 s ty li qt ii pr tg)):=U HX
 obtain ⟨o0,o1,o2,o3,o4,o5,o6,o7⟩:=yE (U HX).2
 go_wp2_with fail
 refine (eJ ⟨4,s,ty,li,qt,ii,pr,tg⟩ X2).mono ?_
 have aZ:cmdI ⟨4,s,ty,li,qt,ii,pr,tg⟩ = .iface 231 (.agg #[]):=by simp [cmdI]
 rw [aZ]
 clear aZ
 rintro e w4 ⟨rfl,xy⟩
 have xH:=H (gu (U xw) xy)
 have xG:Hid (w4.rangeAt w.heap.size 0 [I next,.slice a l.length cap]∧w4.rangeAt (w.heap.size + 1) 0 (yy 4 s ty li qt ii pr tg)∧w.heap.size < w4.heap.size∧w.heap.size + 1 < w4.heap.size):=⟨zc (U HX).1 xy (U ux).1,zc (U HX).2 xy (U ux).2,yK (U ux).1 xy.size,yK (U ux).2 xy.size⟩
 clear xy o0 o1 o2 o3 o4 o5 o6 o7
 go_wp2_with fail
 refine zn (RG w4 (fun f=>{ tmps:=#[.agg #[I next,.slice a l.length cap],.agg (yy 4 s ty li qt ii pr tg).toArray,yq w 0,J (w.heap.size + 1) 0,I 0,.iface 231 (.agg #[]),M,M,M,.agg (yy 4 s ty li qt ii pr tg).toArray,.iface 231 (.agg #[]),.iface 231 (.agg #[]),.bool false,f 0,f 1,f 2,f 3,f 4,M,M,M,M,M,M,M,M,M,M,M,M,M,M,M,M,M,M,M,M],defers:=[] }) 99 (DK (.iface 231 (.agg #[])) (cmV ⟨4,0,0,0,0,0,0,⟨#[]⟩⟩) (.agg (yy 4 s ty li qt ii pr tg).toArray) sm)) (by kernel_rfl) ?_ ?_ ?_
 ·exact ⟨fun _=>M,rfl,⟨rfl,rfl,rfl,Nat.le_refl _,fun _ _=>rfl⟩,fun j X=>by rw [yJ] at X; split at X <;> simp at X⟩
 ·rintro x gs cl ⟨f,rfl,xl,hD⟩ hx xO
  have xq:=cP xO hx (by kernel_rfl)
  have e4:f 4 = .bool (!sm):=hD 4 (xq 4 (by simp))
  have xE:=H (gu (U xH) xl)
  have z0:=zc (U xG).1 xl (U xG).2.2.1 0 _ rfl
  have z1:=zc (U xG).1 xl (U xG).2.2.1 1 _ rfl
  rw [Nat.zero_add] at z0 z1
  have ta1:∀ W:World,Sem.run Tryz.prog (Instr.typeAssert (.iface 231 (.agg #[])) 206 85 true) W = .ok (.tuple #[.agg #[I 0,I 0,I 0,I 0,yk 0,yl ⟨#[]⟩],.bool false]) W:=fun W=>by kernel_rfl
  have ta2:∀ W:World,Sem.run Tryz.prog (Instr.typeAssert (.iface 231 (.agg #[])) 206 211 true) W = .ok (.tuple #[.agg #[I 0],.bool false]) W:=fun W=>by kernel_rfl
  have ta3:∀ W:World,Sem.run Tryz.prog (Instr.typeAssert (.iface 231 (.agg #[])) 206 213 true) W = .ok (.tuple #[.agg #[I 0,I 0],.bool false]) W:=fun W=>by kernel_rfl
  simp only [e4]
  generalize f 0 = e0,f 1 = e1,f 2 = e2,f 3 = e3
  clear hD xq e4 xO hx xl f x
  cases sm
  ·go_wp2_with fail
   go_ret
   exact ⟨rfl,U xE⟩
  ·go_wp2_with fail
   go_ret
   exact ⟨rfl,U xE⟩
 ·rintro x gs cl i op ⟨f,rfl,xl,hD⟩ F hx Z xt E
  clear F
  have xE:=H xl
  have HD:=H hD
  have u0:=zc (U xG).2.1 xl (U xG).2.2.2 0 _ rfl
  have u1:=zc (U xG).2.1 xl (U xG).2.2.2 1 _ rfl
  have u2:=zc (U xG).2.1 xl (U xG).2.2.2 2 _ rfl
  have u3:=zc (U xG).2.1 xl (U xG).2.2.2 3 _ rfl
  have u4:=zc (U xG).2.1 xl (U xG).2.2.2 4 _ rfl
  have u5:=zc (U xG).2.1 xl (U xG).2.2.2 5 _ rfl
  have u6:=zc (U xG).2.1 xl (U xG).2.2.2 6 _ rfl
  have u7:=zc (U xG).2.1 xl (U xG).2.2.2 7 _ rfl
  rw [Nat.zero_add] at u0 u1 u2 u3 u4 u5 u6 u7
  match i,Z with
  | 0,Z =>
   obtain rfl:=yc Z
   clear E hD xl
   rw [if_pos (by rfl)];unfold Oper.wp;go_simp
   exact ⟨upd f 0 (.iface 231 (.agg #[])),by simp [upd],zg (U xE) (U HD) (by decide) rfl⟩
  | 1,Z =>
   obtain rfl:=yc Z
   have g:f 0 = .iface 231 (.agg #[]):=hD 0 (yf E 0 rfl)
   have hm:∀ W:World,Sem.run Tryz.prog (method 399 231 (.agg #[]) "loop.example/g00092/impl.told") W = .ok (241,.agg #[]) W:=fun W=>by kernel_rfl
   clear E hD xl
   rw [if_pos (by rfl)];unfold Oper.wp;go_simp
   refine (toldDay_any cl).mono ?_
   rintro e w4 ⟨rfl,xy⟩
   exact ⟨upd f 1 (cmV ⟨4,0,0,0,0,0,0,⟨#[]⟩⟩),by simp [upd,g]; rfl,bM (U xE) (U HD) xy (by decide) (fun j v h=>h) rfl⟩
  | 2,Z =>
   obtain rfl:=yc Z
   clear E hD xl
   rw [if_pos (by rfl)];unfold Oper.wp;go_simp
   exact ⟨upd f 2 (.agg (yy 4 s ty li qt ii pr tg).toArray),by simp [upd],zg (U xE) (U HD) (by decide) rfl⟩
  | 3,Z =>
   obtain rfl:=yc Z
   have g1:f 1 = cmV ⟨4,0,0,0,0,0,0,⟨#[]⟩⟩:=hD 1 (yf E 1 rfl)
   have g2:f 2 = .agg (yy 4 s ty li qt ii pr tg).toArray:=hD 2 (yf E 2 rfl)
   clear E hD xl
   rw [if_pos (by rfl)];unfold Oper.wp;go_simp
   refine (fy ⟨4,0,0,0,0,0,0,⟨#[]⟩⟩ ⟨4,s,ty,li,qt,ii,pr,tg⟩ cl).mono ?_
   rw [U HSM]
   rintro e w4 ⟨rfl,xy⟩
   exact ⟨upd f 3 (.bool sm),by simp [upd,g1,g2],bM (U xE) (U HD) xy (by decide) (fun j v h=>h) rfl⟩
  | 4,Z =>
   obtain rfl:=yc Z
   have g:f 3 = .bool sm:=hD 3 (yf E 3 rfl)
   clear E hD xl
   rw [if_pos (by rfl)];unfold Oper.wp;go_simp
   exact ⟨upd f 4 (.bool (!sm)),by simp [upd,g],zg (U xE) (U HD) (by decide) rfl⟩
  | n + 5,Z=>simp at Z
end Go.Proofs.YtnphbkgfjanmgaaGreatDoor
