/-
  The reason of a reduction, by the program: proved by walking the function.
-/
import Derived.Test.YthhkapcbocgcoaaGreatDoorGj17
set_option linter.unusedVariables false
set_option maxHeartbeats 6400000
set_option maxRecDepth 100000
namespace Go.Proofs.YthhkapcbocgcoaaGreatDoor
open Go.RowKit
def DZ (b2 b3 b off cap k:Nat) (next id qty:Int) (l:List Od) (o:Od) (p:Prop) (V:World):Nat→Value→Prop
 | 0,v=>v = I b3 1
 | 1,v=>v = H qty
 | 2,v=>v = I b2 1
 | 3,v=>v = .slice (some (J b off)) l.length cap
 | 4,v=>v = .agg #[H next,.slice (some (J b off)) l.length cap]
 | 5,v=>v = I b3 0
 | 6,v=>v = H id
 | 7,v=>v = H k
 | 8,v=>v = I b (off + k * 6)
 | 9,v=>v = I b (off + k * 6 + 3)
 | 10,v=>v = H o.left
 | 11,v=>v = .bool (decide (o.left ≤ qty))
 | _,_=>True
theorem reduceRefusal_any (next:Int) (vb:Value) (l:List Od) (id qty:Int) (w:World) (hr:RdR Od.vs 6 w vb l) :
  Calls Tryz.prog 188 #[.agg #[H next,vb],.agg #[H id,H qty]] w fun e w'=>e = ym (H (redR l id qty))∧yn w w':=by
 have HR:=M hr
 obtain ⟨a,cap,rfl,xD,hc⟩:=hr
 have kH:=M hc
 clear hc
 have xF:=zi w (O #[H next,.slice a l.length cap] 27)
 have ug:((w.alloc (O #[H next,.slice a l.length cap] 27)).alloc (O #[H id,H qty] 216)).heap.size = w.heap.size + 1 + 1:=by rw [zi,xF]
 have r1:=zm w [H next,.slice a l.length cap] 27
 have r2:=zm (w.alloc (O #[H next,.slice a l.length cap] 27)) [H id,H qty] 216
 rw [xF] at r2
 have qi:Below (w.heap.size + 1) (w.alloc (O #[H next,.slice a l.length cap] 27)) ((w.alloc (O #[H next,.slice a l.length cap] 27)).alloc (O #[H id,H qty] 216)):=(Below.refl _ _).alloc (by rw [xF]; omega) _
 have xt:Hid (yn w ((w.alloc (O #[H next,.slice a l.length cap] 27)).alloc (O #[H id,H qty] 216))):=(gZ _ _).alloc (by rw [xF]; omega) _
 have HX:Hid (_∧_):=⟨zc r1 qi (by omega),r2⟩
 have ul:Hid (w.heap.size < ((w.alloc (O #[H next,.slice a l.length cap] 27)).alloc (O #[H id,H qty] 216)).heap.size∧w.heap.size + 1 < ((w.alloc (O #[H next,.slice a l.length cap] 27)).alloc (O #[H id,H qty] 216)).heap.size):=⟨by omega,by omega⟩
 clear xF ug r1 r2 qi
 go_enter Tryz.func188,Tryz.ntmps188
 refine ic fun xh xK=>?_
 go_wp2_with fail
 refine U xK _ _ ?_
 clear xK
 generalize ((w.alloc (O #[H next,.slice a l.length cap] 27)).alloc (O #[H id,H qty] 216)) = X2 at xt HX ul ⊢
 have HX:Hid (X2.rangeAt w.heap.size 0 [H next,.slice a l.length cap]∧X2.rangeAt (w.heap.size + 1) 0 [H id,H qty]):=U HX
 have k0:X2.cell? (yq w 0) = some (H next):=(U HX).1 0 _ rfl
 have k1:X2.cell? (yq w 1) = some (.slice a l.length cap):=(U HX).1 1 _ rfl
 have o0:X2.cell? (J (w.heap.size + 1) 0) = some (H id):=(U HX).2 0 _ rfl
 have o1:X2.cell? (J (w.heap.size + 1) 1) = some (H qty):=(U HX).2 1 _ rfl
 go_wp2_with fail
 refine (isQty_any qty X2).mono ?_
 rintro e w3 ⟨rfl,rfl⟩
 cases hq:betB qty 1 1000000
 ·have HK:Hid (redR l id qty = 7):=by show _ = _; rw [redR,if_neg (by rw [hq]; simp)]
  clear hq
  go_wp2_with fail
  go_ret
  exact ⟨zw (U HK).symm,U xt⟩
 have HQ:=M hq
 clear hq
 go_wp2_with fail
 refine (idRefusal_any next _ l id w3 (zh (U HR) (U xt) hU)).mono ?_
 rcases gh l id with hp | ⟨k,o,hp,E⟩
 ·have uN:idR l id = 9:=by rw [idR,if_pos (by omega)]
  rw [uN]
  have HK:Hid (redR l id qty = 9):=by show _ = _; rw [redR,if_pos (U HQ),if_pos (by omega)]
  clear hp uN
  rintro e w4 ⟨rfl,xy⟩
  have xO:=M (ia (U xt) xy)
  clear xy
  go_wp2_with fail
  go_ret
  exact ⟨zw (U HK).symm,U xO⟩
 have uN:idR l id = 0:=by rw [idR,if_neg (by omega)]
 rw [uN]
 have bA:=M hp
 have qK:Hid (redR l id qty = if o.left ≤ qty then 10 else 0):=by
  show _ = _
  rw [redR,if_pos (U HQ),if_neg (by omega),hp,Int.toNat_natCast,E]
 have pP:=(yH.1 E).1
 obtain ⟨b,off,rfl,oD,xo⟩:=U kH (by intro h; rw [h] at pP; simp at pP)
 have HCE:=M (xo k o E)
 have hkl':(k:Int) < l.length:=by omega
 have oG:(0:Int) ≤ k:=by omega
 clear hp uN xo E
 rintro e w4 ⟨rfl,xy⟩
 have xO:=M (ia (U xt) xy)
 have xE:Hid (w4.rangeAt w.heap.size 0 [H next,.slice (some (J b off)) l.length cap]∧w4.rangeAt (w.heap.size + 1) 0 [H id,H qty]∧w.heap.size < w4.heap.size∧w.heap.size + 1 < w4.heap.size):=⟨zc (U HX).1 xy (U ul).1,zc (U HX).2 xy (U ul).2,yK (U ul).1 xy.size,yK (U ul).2 xy.size⟩
 clear xy k0 k1 o0 o1
 go_wp2_with fail
 refine zn (RG w4 (fun f=>{ tmps:=#[.agg #[H next,.slice (some (J b off)) l.length cap],.agg #[H id,H qty],yp w 0,I (w.heap.size + 1) 0,H 0,H 0,I (w.heap.size + 1) 1,H qty,.bool true,.bool false,.agg #[H next,.slice (some (J b off)) l.length cap],I (w.heap.size + 1) 0,H id,H 0,H 0,.bool false,Z,f 0,f 1,f 2,f 3,f 4,f 5,f 6,f 7,f 8,f 9,f 10,f 11],defers:=[] }) 99 (DZ w.heap.size (w.heap.size + 1) b off cap k next id qty l o)) (by kernel_rfl) ?_ ?_ ?_
 ·exact ⟨fun _=>Z,rfl,⟨rfl,rfl,rfl,Nat.le_refl _,fun _ _=>rfl⟩,fun j hj=>by rw [yJ] at hj; split at hj <;> simp at hj⟩
 ·rintro x hb V ⟨f,rfl,xi,hD⟩ hx xN
  have xp:=zY xN hx (by kernel_rfl)
  have vz:f 11 = .bool (decide (o.left ≤ qty)):=hD 11 (xp 11 (by simp))
  have xw:=M (ia (U xO) xi)
  simp only [vz]
  clear hD xp vz xN hx xi
  by_cases qx:o.left ≤ qty
  ·have HK:Hid (redR l id qty = 10):=(U qK).trans (if_pos qx)
   go_wp2_with fail
   go_ret
   exact ⟨zw (U HK).symm,U xw⟩
  ·have HK:Hid (redR l id qty = 0):=(U qK).trans (if_neg qx)
   go_wp2_with fail
   go_ret
   exact ⟨zw (U HK).symm,U xw⟩
 ·rintro x hb V i op ⟨f,rfl,xi,hD⟩ xo hx Y xu K
  clear xo
  have xw:=M xi
  have HD:=M hD
  have z0:=zc (U xE).1 xi (U xE).2.2.1 0 _ rfl
  have z1:=zc (U xE).1 xi (U xE).2.2.1 1 _ rfl
  have u0:=zc (U xE).2.1 xi (U xE).2.2.2 0 _ rfl
  have u1:=zc (U xE).2.1 xi (U xE).2.2.2 1 _ rfl
  rw [Nat.zero_add] at z0 z1 u0 u1
  have qh:=M (zh (U HR) (ia (U xO) xi) hU)
  obtain ⟨-,-,-,y3,-⟩:=zC (zc (U HCE) (ia (U xO) xi) oD)
  match i,Y with
  | 0,Y =>
   obtain rfl:=ya Y
   clear K hD xi
   rw [if_pos (by rfl)];unfold Oper.wp;go_simp
   exact ⟨upd f 0 (I (w.heap.size + 1) 1),by simp [upd],zf (U xw) (U HD) (by decide) rfl⟩
  | 1,Y =>
   obtain rfl:=ya Y
   have g:f 0 = I (w.heap.size + 1) 1:=hD 0 (ye K 0 rfl)
   clear K hD xi
   rw [if_pos (by rfl)];unfold Oper.wp;go_simp
   exact ⟨upd f 1 (H qty),by simp [upd,g],zf (U xw) (U HD) (by decide) rfl⟩
  | 2,Y =>
   obtain rfl:=ya Y
   clear K hD xi
   rw [if_pos (by rfl)];unfold Oper.wp;go_simp
   exact ⟨upd f 2 (yp w 1),by simp [upd],zf (U xw) (U HD) (by decide) rfl⟩
  | 3,Y =>
   obtain rfl:=ya Y
   have g:f 2 = yp w 1:=hD 2 (ye K 2 rfl)
   clear K hD xi
   rw [if_pos (by rfl)];unfold Oper.wp;go_simp
   exact ⟨upd f 3 (.slice (some (J b off)) l.length cap),by simp [upd,g],zf (U xw) (U HD) (by decide) rfl⟩
  | 4,Y =>
   obtain rfl:=ya Y
   clear K hD xi
   rw [if_pos (by rfl)];unfold Oper.wp;go_simp
   exact ⟨upd f 4 (.agg #[H next,.slice (some (J b off)) l.length cap]),by simp [upd],zf (U xw) (U HD) (by decide) rfl⟩
  | 5,Y =>
   obtain rfl:=ya Y
   clear K hD xi
   rw [if_pos (by rfl)];unfold Oper.wp;go_simp
   exact ⟨upd f 5 (I (w.heap.size + 1) 0),by simp [upd],zf (U xw) (U HD) (by decide) rfl⟩
  | 6,Y =>
   obtain rfl:=ya Y
   have g:f 5 = I (w.heap.size + 1) 0:=hD 5 (ye K 5 rfl)
   clear K hD xi
   rw [if_pos (by rfl)];unfold Oper.wp;go_simp
   exact ⟨upd f 6 (H id),by simp [upd,g],zf (U xw) (U HD) (by decide) rfl⟩
  | 7,Y =>
   obtain rfl:=ya Y
   have g4:f 4 = .agg #[H next,.slice (some (J b off)) l.length cap]:=hD 4 (ye K 4 rfl)
   have g6:f 6 = H id:=hD 6 (ye K 6 rfl)
   clear K hD xi
   rw [if_pos (by rfl)];unfold Oper.wp;go_simp
   refine (fR next _ l id V (U qh)).mono ?_
   rw [U bA]
   rintro e w4 ⟨rfl,xy⟩
   exact ⟨upd f 7 (H k),by simp [upd,g4,g6],cC (U xw) (U HD) xy (by decide) (fun j v h=>h) rfl⟩
  | 8,Y =>
   obtain rfl:=ya Y
   have g3:f 3 = .slice (some (J b off)) l.length cap:=hD 3 (ye K 3 rfl)
   have g7:f 7 = H k:=hD 7 (ye K 7 rfl)
   clear K hD xi
   rw [if_pos (by rfl)];unfold Oper.wp;go_simp
   exact ⟨upd f 8 (I b (off + k * 6)),by simp [upd,g3,g7],zf (U xw) (U HD) (by decide) rfl⟩
  | 9,Y =>
   obtain rfl:=ya Y
   have g:f 8 = I b (off + k * 6):=hD 8 (ye K 8 rfl)
   clear K hD xi
   rw [if_pos (by rfl)];unfold Oper.wp;go_simp
   exact ⟨upd f 9 (I b (off + k * 6 + 3)),by simp [upd,g],zf (U xw) (U HD) (by decide) rfl⟩
  | 10,Y =>
   obtain rfl:=ya Y
   have g:f 9 = I b (off + k * 6 + 3):=hD 9 (ye K 9 rfl)
   clear K hD xi
   rw [if_pos (by rfl)];unfold Oper.wp;go_simp
   exact ⟨upd f 10 (H o.left),by simp [upd,g],zf (U xw) (U HD) (by decide) rfl⟩
  | 11,Y =>
   obtain rfl:=ya Y
   have g1:f 1 = H qty:=hD 1 (ye K 1 rfl)
   have g:f 10 = H o.left:=hD 10 (ye K 10 rfl)
   clear K hD xi
   rw [if_pos (by rfl)];unfold Oper.wp;go_simp
   exact ⟨upd f 11 (.bool (decide (o.left ≤ qty))),by simp [upd,g,g1],zf (U xw) (U HD) (by decide) rfl⟩
  | n + 12,Y=>simp at Y
def DK (iv tv cv:Value) (sm:Bool) (p:Prop) (V:World):Nat→Value→Prop
 | 0,v=>v = iv
 | 1,v=>v = tv
 | 2,v=>v = cv
 | 3,v=>v = .bool sm
 | 4,v=>v = .bool (!sm)
 | _,_=>True
theorem refusal_1 (next:Int) (vb:Value) (l:List Od) (s ty li qt ii:Int) (pr:Nat) (tg:ByteArray) (w:World) (hr:RdR Od.vs 6 w vb l) (hs:SlOk vb) (hg:GoodL l) (h0:0 ≤ next) (Q:next ≤ 1000000) (ht:tg.size ≤ maxLen) :
  Calls Tryz.prog 152 #[.agg #[H next,vb],.agg (yx 1 s ty li qt ii pr tg).toArray] w fun e w'=>e = ym (H (if bS ⟨1,s,ty,li,qt,0,pr,tg⟩ ⟨1,s,ty,li,qt,ii,pr,tg⟩ = true then newR next l ⟨1,s,ty,li,qt,ii,pr,tg⟩ else 2))∧yn w w':=by
 have HR:=M hr
 have HG:=M hg
 have qn:=M hs
 have uO:Hid (0 ≤ next∧next ≤ 1000000):=⟨h0,Q⟩
 have ky:=M ht
 obtain ⟨a,cap,rfl,xD,hc⟩:=hr
 clear hc hg hs h0 Q ht xD
 generalize hsm:bS ⟨1,s,ty,li,qt,0,pr,tg⟩ ⟨1,s,ty,li,qt,ii,pr,tg⟩ = sm
 have HSM:=M hsm
 clear hsm
 have xF:=zi w (O #[H next,.slice a l.length cap] 27)
 have ug:((w.alloc (O #[H next,.slice a l.length cap] 27)).alloc (O (yx 1 s ty li qt ii pr tg).toArray 33)).heap.size = w.heap.size + 1 + 1:=by rw [zi,xF]
 have r1:=zm w [H next,.slice a l.length cap] 27
 have r2:=zm (w.alloc (O #[H next,.slice a l.length cap] 27)) (yx 1 s ty li qt ii pr tg) 33
 rw [xF] at r2
 have qi:Below (w.heap.size + 1) (w.alloc (O #[H next,.slice a l.length cap] 27)) ((w.alloc (O #[H next,.slice a l.length cap] 27)).alloc (O (yx 1 s ty li qt ii pr tg).toArray 33)):=(Below.refl _ _).alloc (by rw [xF]; omega) _
 have xt:Hid (yn w ((w.alloc (O #[H next,.slice a l.length cap] 27)).alloc (O (yx 1 s ty li qt ii pr tg).toArray 33))):=(gZ _ _).alloc (by rw [xF]; omega) _
 have HX:Hid (_∧_):=⟨zc r1 qi (by omega),r2⟩
 have ul:Hid (w.heap.size < ((w.alloc (O #[H next,.slice a l.length cap] 27)).alloc (O (yx 1 s ty li qt ii pr tg).toArray 33)).heap.size∧w.heap.size + 1 < ((w.alloc (O #[H next,.slice a l.length cap] 27)).alloc (O (yx 1 s ty li qt ii pr tg).toArray 33)).heap.size):=⟨by omega,by omega⟩
 clear xF ug r1 r2 qi
 go_enter Tryz.func152,Tryz.ntmps152
 refine ic fun xh xK=>?_
 go_wp2_with fail
 refine U xK _ _ ?_
 clear xK
 generalize ((w.alloc (O #[H next,.slice a l.length cap] 27)).alloc (O (yx 1 s ty li qt ii pr tg).toArray 33)) = X2 at xt HX ul ⊢
 have HX:Hid (X2.rangeAt w.heap.size 0 [H next,.slice a l.length cap]∧X2.rangeAt (w.heap.size + 1) 0 (yx 1 s ty li qt ii pr tg)):=U HX
 obtain ⟨o0,o1,o2,o3,o4,o5,o6,o7⟩:=yE (U HX).2
 go_wp2_with fail
 refine (fM ⟨1,s,ty,li,qt,ii,pr,tg⟩ X2).mono ?_
 have bH:cmdI ⟨1,s,ty,li,qt,ii,pr,tg⟩ = .iface 63 (.agg #[H s,H ty,H li,H qt,yj pr,yk tg]):=by simp [cmdI,noV]
 rw [bH]
 clear bH
 rintro e w4 ⟨rfl,xy⟩
 have xO:=M (ia (U xt) xy)
 have xE:Hid (w4.rangeAt w.heap.size 0 [H next,.slice a l.length cap]∧w4.rangeAt (w.heap.size + 1) 0 (yx 1 s ty li qt ii pr tg)∧w.heap.size < w4.heap.size∧w.heap.size + 1 < w4.heap.size):=⟨zc (U HX).1 xy (U ul).1,zc (U HX).2 xy (U ul).2,yK (U ul).1 xy.size,yK (U ul).2 xy.size⟩
 clear xy o0 o1 o2 o3 o4 o5 o6 o7
 go_wp2_with fail
 refine zn (RG w4 (fun f=>{ tmps:=#[.agg #[H next,.slice a l.length cap],.agg (yx 1 s ty li qt ii pr tg).toArray,yp w 0,I (w.heap.size + 1) 0,H 0,.iface 63 (.agg #[H s,H ty,H li,H qt,yj pr,yk tg]),Z,Z,Z,.agg (yx 1 s ty li qt ii pr tg).toArray,.iface 63 (.agg #[H s,H ty,H li,H qt,yj pr,yk tg]),.iface 63 (.agg #[H s,H ty,H li,H qt,yj pr,yk tg]),.bool false,f 0,f 1,f 2,f 3,f 4,Z,Z,Z,Z,Z,Z,Z,Z,Z,Z,Z,Z,Z,Z,Z,Z,Z,Z,Z,Z],defers:=[] }) 99 (DK (.iface 63 (.agg #[H s,H ty,H li,H qt,yj pr,yk tg])) (cmV ⟨1,s,ty,li,qt,0,pr,tg⟩) (.agg (yx 1 s ty li qt ii pr tg).toArray) sm)) (by kernel_rfl) ?_ ?_ ?_
 ·exact ⟨fun _=>Z,rfl,⟨rfl,rfl,rfl,Nat.le_refl _,fun _ _=>rfl⟩,fun j hj=>by rw [yJ] at hj; split at hj <;> simp at hj⟩
 ·rintro x hb V ⟨f,rfl,xi,hD⟩ hx xN
  have xp:=zY xN hx (by kernel_rfl)
  have e4:f 4 = .bool (!sm):=hD 4 (xp 4 (by simp))
  have xw:=M (ia (U xO) xi)
  have z0:=zc (U xE).1 xi (U xE).2.2.1 0 _ rfl
  have z1:=zc (U xE).1 xi (U xE).2.2.1 1 _ rfl
  rw [Nat.zero_add] at z0 z1
  have ta1:∀ W:World,Sem.run Tryz.prog (Instr.typeAssert (.iface 63 (.agg #[H s,H ty,H li,H qt,yj pr,yk tg])) 209 63 true) W = .ok (.tuple #[.agg #[H s,H ty,H li,H qt,yj pr,yk tg],.bool true]) W:=fun W=>by kernel_rfl
  simp only [e4]
  generalize f 0 = e0,f 1 = e1,f 2 = e2,f 3 = e3
  clear hD xp e4 xN hx xi f x
  cases sm
  ·go_wp2_with fail
   go_ret
   exact ⟨rfl,U xw⟩
  ·have xM:w.heap.size < V.heap.size:=yL V (yq w 0) z0
   have y0:World.cell? (V.alloc (O #[H s,H ty,H li,H qt,yj pr,yk tg] 63)) (yq w 0) = some (H next):=(yW _ _ _ xM).trans z0
   have y1:World.cell? (V.alloc (O #[H s,H ty,H li,H qt,yj pr,yk tg] 63)) (yq w 1) = some (.slice a l.length cap):=(yW _ _ _ xM).trans z1
   have vG:Hid (yn w (V.alloc (O #[H s,H ty,H li,H qt,yj pr,yk tg] 63))):=(U xw).alloc (U xw).size _
   clear z0 z1 xM
   have hsf:=sfl
   go_wp2_with fail
   refine (newRefusal_any next _ l ⟨1,s,ty,li,qt,ii,pr,tg⟩ _ (zh (U HR) (U vG) hU) (U qn) (U HG) (U uO).1 (U uO).2 (U ky)).mono ?_
   rintro e w7 ⟨rfl,vQ⟩
   have jn:=M (ia (U vG) vQ)
   clear vQ
   go_wp2_with fail
   go_ret
   exact ⟨rfl,U jn⟩
 ·rintro x hb V i op ⟨f,rfl,xi,hD⟩ xo hx Y xu K
  clear xo
  have xw:=M xi
  have HD:=M hD
  have u0:=zc (U xE).2.1 xi (U xE).2.2.2 0 _ rfl
  have u1:=zc (U xE).2.1 xi (U xE).2.2.2 1 _ rfl
  have u2:=zc (U xE).2.1 xi (U xE).2.2.2 2 _ rfl
  have u3:=zc (U xE).2.1 xi (U xE).2.2.2 3 _ rfl
  have u4:=zc (U xE).2.1 xi (U xE).2.2.2 4 _ rfl
  have u5:=zc (U xE).2.1 xi (U xE).2.2.2 5 _ rfl
  have u6:=zc (U xE).2.1 xi (U xE).2.2.2 6 _ rfl
  have u7:=zc (U xE).2.1 xi (U xE).2.2.2 7 _ rfl
  rw [Nat.zero_add] at u0 u1 u2 u3 u4 u5 u6 u7
  match i,Y with
  | 0,Y =>
   obtain rfl:=ya Y
   clear K hD xi
   rw [if_pos (by rfl)];unfold Oper.wp;go_simp
   exact ⟨upd f 0 (.iface 63 (.agg #[H s,H ty,H li,H qt,yj pr,yk tg])),by simp [upd],zf (U xw) (U HD) (by decide) rfl⟩
  | 1,Y =>
   obtain rfl:=ya Y
   have g:f 0 = .iface 63 (.agg #[H s,H ty,H li,H qt,yj pr,yk tg]):=hD 0 (ye K 0 rfl)
   have hm:∀ W:World,Sem.run Tryz.prog (method 390 63 (.agg #[H s,H ty,H li,H qt,yj pr,yk tg]) "loop.example/g00092/impl.told") W = .ok (231,.agg #[H s,H ty,H li,H qt,yj pr,yk tg]) W:=fun W=>by kernel_rfl
   clear K hD xi
   rw [if_pos (by rfl)];unfold Oper.wp;go_simp
   refine (toldNew_any ⟨1,s,ty,li,qt,ii,pr,tg⟩ V).mono ?_
   rintro e w4 ⟨rfl,xy⟩
   exact ⟨upd f 1 (cmV ⟨1,s,ty,li,qt,0,pr,tg⟩),by simp [upd,g]; rfl,cC (U xw) (U HD) xy (by decide) (fun j v h=>h) rfl⟩
  | 2,Y =>
   obtain rfl:=ya Y
   clear K hD xi
   rw [if_pos (by rfl)];unfold Oper.wp;go_simp
   exact ⟨upd f 2 (.agg (yx 1 s ty li qt ii pr tg).toArray),by simp [upd],zf (U xw) (U HD) (by decide) rfl⟩
  | 3,Y =>
   obtain rfl:=ya Y
   have g1:f 1 = cmV ⟨1,s,ty,li,qt,0,pr,tg⟩:=hD 1 (ye K 1 rfl)
   have g2:f 2 = .agg (yx 1 s ty li qt ii pr tg).toArray:=hD 2 (ye K 2 rfl)
   clear K hD xi
   rw [if_pos (by rfl)];unfold Oper.wp;go_simp
   refine (gu ⟨1,s,ty,li,qt,0,pr,tg⟩ ⟨1,s,ty,li,qt,ii,pr,tg⟩ V).mono ?_
   rw [U HSM]
   rintro e w4 ⟨rfl,xy⟩
   exact ⟨upd f 3 (.bool sm),by simp [upd,g1,g2],cC (U xw) (U HD) xy (by decide) (fun j v h=>h) rfl⟩
  | 4,Y =>
   obtain rfl:=ya Y
   have g:f 3 = .bool sm:=hD 3 (ye K 3 rfl)
   clear K hD xi
   rw [if_pos (by rfl)];unfold Oper.wp;go_simp
   exact ⟨upd f 4 (.bool (!sm)),by simp [upd,g],zf (U xw) (U HD) (by decide) rfl⟩
  | n + 5,Y=>simp at Y
theorem refusal_2 (next:Int) (vb:Value) (l:List Od) (s ty li qt ii:Int) (pr:Nat) (tg:ByteArray) (w:World) (hr:RdR Od.vs 6 w vb l) (hs:SlOk vb) (hg:GoodL l) (h0:0 ≤ next) (Q:next ≤ 1000000) (ht:tg.size ≤ maxLen) :
  Calls Tryz.prog 152 #[.agg #[H next,vb],.agg (yx 2 s ty li qt ii pr tg).toArray] w fun e w'=>e = ym (H (if bS ⟨2,0,0,0,0,ii,0,⟨#[]⟩⟩ ⟨2,s,ty,li,qt,ii,pr,tg⟩ = true then idR l ii else 2))∧yn w w':=by
 have HR:=M hr
 have HG:=M hg
 have qn:=M hs
 have uO:Hid (0 ≤ next∧next ≤ 1000000):=⟨h0,Q⟩
 have ky:=M ht
 obtain ⟨a,cap,rfl,xD,hc⟩:=hr
 clear hc hg hs h0 Q ht xD
 generalize hsm:bS ⟨2,0,0,0,0,ii,0,⟨#[]⟩⟩ ⟨2,s,ty,li,qt,ii,pr,tg⟩ = sm
 have HSM:=M hsm
 clear hsm
 have xF:=zi w (O #[H next,.slice a l.length cap] 27)
 have ug:((w.alloc (O #[H next,.slice a l.length cap] 27)).alloc (O (yx 2 s ty li qt ii pr tg).toArray 33)).heap.size = w.heap.size + 1 + 1:=by rw [zi,xF]
 have r1:=zm w [H next,.slice a l.length cap] 27
 have r2:=zm (w.alloc (O #[H next,.slice a l.length cap] 27)) (yx 2 s ty li qt ii pr tg) 33
 rw [xF] at r2
 have qi:Below (w.heap.size + 1) (w.alloc (O #[H next,.slice a l.length cap] 27)) ((w.alloc (O #[H next,.slice a l.length cap] 27)).alloc (O (yx 2 s ty li qt ii pr tg).toArray 33)):=(Below.refl _ _).alloc (by rw [xF]; omega) _
 have xt:Hid (yn w ((w.alloc (O #[H next,.slice a l.length cap] 27)).alloc (O (yx 2 s ty li qt ii pr tg).toArray 33))):=(gZ _ _).alloc (by rw [xF]; omega) _
 have HX:Hid (_∧_):=⟨zc r1 qi (by omega),r2⟩
 have ul:Hid (w.heap.size < ((w.alloc (O #[H next,.slice a l.length cap] 27)).alloc (O (yx 2 s ty li qt ii pr tg).toArray 33)).heap.size∧w.heap.size + 1 < ((w.alloc (O #[H next,.slice a l.length cap] 27)).alloc (O (yx 2 s ty li qt ii pr tg).toArray 33)).heap.size):=⟨by omega,by omega⟩
 clear xF ug r1 r2 qi
 go_enter Tryz.func152,Tryz.ntmps152
 refine ic fun xh xK=>?_
 go_wp2_with fail
 refine U xK _ _ ?_
 clear xK
 generalize ((w.alloc (O #[H next,.slice a l.length cap] 27)).alloc (O (yx 2 s ty li qt ii pr tg).toArray 33)) = X2 at xt HX ul ⊢
 have HX:Hid (X2.rangeAt w.heap.size 0 [H next,.slice a l.length cap]∧X2.rangeAt (w.heap.size + 1) 0 (yx 2 s ty li qt ii pr tg)):=U HX
 obtain ⟨o0,o1,o2,o3,o4,o5,o6,o7⟩:=yE (U HX).2
 go_wp2_with fail
 refine (fM ⟨2,s,ty,li,qt,ii,pr,tg⟩ X2).mono ?_
 have bH:cmdI ⟨2,s,ty,li,qt,ii,pr,tg⟩ = .iface 214 (.agg #[H ii]):=by simp [cmdI]
 rw [bH]
 clear bH
 rintro e w4 ⟨rfl,xy⟩
 have xO:=M (ia (U xt) xy)
 have xE:Hid (w4.rangeAt w.heap.size 0 [H next,.slice a l.length cap]∧w4.rangeAt (w.heap.size + 1) 0 (yx 2 s ty li qt ii pr tg)∧w.heap.size < w4.heap.size∧w.heap.size + 1 < w4.heap.size):=⟨zc (U HX).1 xy (U ul).1,zc (U HX).2 xy (U ul).2,yK (U ul).1 xy.size,yK (U ul).2 xy.size⟩
 clear xy o0 o1 o2 o3 o4 o5 o6 o7
 go_wp2_with fail
 refine zn (RG w4 (fun f=>{ tmps:=#[.agg #[H next,.slice a l.length cap],.agg (yx 2 s ty li qt ii pr tg).toArray,yp w 0,I (w.heap.size + 1) 0,H 0,.iface 214 (.agg #[H ii]),Z,Z,Z,.agg (yx 2 s ty li qt ii pr tg).toArray,.iface 214 (.agg #[H ii]),.iface 214 (.agg #[H ii]),.bool false,f 0,f 1,f 2,f 3,f 4,Z,Z,Z,Z,Z,Z,Z,Z,Z,Z,Z,Z,Z,Z,Z,Z,Z,Z,Z,Z],defers:=[] }) 99 (DK (.iface 214 (.agg #[H ii])) (cmV ⟨2,0,0,0,0,ii,0,⟨#[]⟩⟩) (.agg (yx 2 s ty li qt ii pr tg).toArray) sm)) (by kernel_rfl) ?_ ?_ ?_
 ·exact ⟨fun _=>Z,rfl,⟨rfl,rfl,rfl,Nat.le_refl _,fun _ _=>rfl⟩,fun j hj=>by rw [yJ] at hj; split at hj <;> simp at hj⟩
 ·rintro x hb V ⟨f,rfl,xi,hD⟩ hx xN
  have xp:=zY xN hx (by kernel_rfl)
  have e4:f 4 = .bool (!sm):=hD 4 (xp 4 (by simp))
  have xw:=M (ia (U xO) xi)
  have z0:=zc (U xE).1 xi (U xE).2.2.1 0 _ rfl
  have z1:=zc (U xE).1 xi (U xE).2.2.1 1 _ rfl
  rw [Nat.zero_add] at z0 z1
  have ta1:∀ W:World,Sem.run Tryz.prog (Instr.typeAssert (.iface 214 (.agg #[H ii])) 209 63 true) W = .ok (.tuple #[.agg #[H 0,H 0,H 0,H 0,yj 0,yk ⟨#[]⟩],.bool false]) W:=fun W=>by kernel_rfl
  have ta2:∀ W:World,Sem.run Tryz.prog (Instr.typeAssert (.iface 214 (.agg #[H ii])) 209 214 true) W = .ok (.tuple #[.agg #[H ii],.bool true]) W:=fun W=>by kernel_rfl
  simp only [e4]
  generalize f 0 = e0,f 1 = e1,f 2 = e2,f 3 = e3
  clear hD xp e4 xN hx xi f x
  cases sm
  ·go_wp2_with fail
   go_ret
   exact ⟨rfl,U xw⟩
  ·have xM:w.heap.size < V.heap.size:=yL V (yq w 0) z0
   have y0:World.cell? (V.alloc (O #[H ii] 214)) (yq w 0) = some (H next):=(yW _ _ _ xM).trans z0
   have y1:World.cell? (V.alloc (O #[H ii] 214)) (yq w 1) = some (.slice a l.length cap):=(yW _ _ _ xM).trans z1
   have vG:Hid (yn w (V.alloc (O #[H ii] 214))):=(U xw).alloc (U xw).size _
   clear z0 z1 xM
   go_wp2_with fail
   refine (idRefusal_any next _ l ii _ (zh (U HR) (U vG) hU)).mono ?_
   rintro e w7 ⟨rfl,vQ⟩
   have jn:=M (ia (U vG) vQ)
   clear vQ
   go_wp2_with fail
   go_ret
   exact ⟨rfl,U jn⟩
 ·rintro x hb V i op ⟨f,rfl,xi,hD⟩ xo hx Y xu K
  clear xo
  have xw:=M xi
  have HD:=M hD
  have u0:=zc (U xE).2.1 xi (U xE).2.2.2 0 _ rfl
  have u1:=zc (U xE).2.1 xi (U xE).2.2.2 1 _ rfl
  have u2:=zc (U xE).2.1 xi (U xE).2.2.2 2 _ rfl
  have u3:=zc (U xE).2.1 xi (U xE).2.2.2 3 _ rfl
  have u4:=zc (U xE).2.1 xi (U xE).2.2.2 4 _ rfl
  have u5:=zc (U xE).2.1 xi (U xE).2.2.2 5 _ rfl
  have u6:=zc (U xE).2.1 xi (U xE).2.2.2 6 _ rfl
  have u7:=zc (U xE).2.1 xi (U xE).2.2.2 7 _ rfl
  rw [Nat.zero_add] at u0 u1 u2 u3 u4 u5 u6 u7
  match i,Y with
  | 0,Y =>
   obtain rfl:=ya Y
   clear K hD xi
   rw [if_pos (by rfl)];unfold Oper.wp;go_simp
   exact ⟨upd f 0 (.iface 214 (.agg #[H ii])),by simp [upd],zf (U xw) (U HD) (by decide) rfl⟩
  | 1,Y =>
   obtain rfl:=ya Y
   have g:f 0 = .iface 214 (.agg #[H ii]):=hD 0 (ye K 0 rfl)
   have hm:∀ W:World,Sem.run Tryz.prog (method 390 214 (.agg #[H ii]) "loop.example/g00092/impl.told") W = .ok (235,.agg #[H ii]) W:=fun W=>by kernel_rfl
   clear K hD xi
   rw [if_pos (by rfl)];unfold Oper.wp;go_simp
   refine (toldCancel_any ii V).mono ?_
   rintro e w4 ⟨rfl,xy⟩
   exact ⟨upd f 1 (cmV ⟨2,0,0,0,0,ii,0,⟨#[]⟩⟩),by simp [upd,g]; rfl,cC (U xw) (U HD) xy (by decide) (fun j v h=>h) rfl⟩
  | 2,Y =>
   obtain rfl:=ya Y
   clear K hD xi
   rw [if_pos (by rfl)];unfold Oper.wp;go_simp
   exact ⟨upd f 2 (.agg (yx 2 s ty li qt ii pr tg).toArray),by simp [upd],zf (U xw) (U HD) (by decide) rfl⟩
  | 3,Y =>
   obtain rfl:=ya Y
   have g1:f 1 = cmV ⟨2,0,0,0,0,ii,0,⟨#[]⟩⟩:=hD 1 (ye K 1 rfl)
   have g2:f 2 = .agg (yx 2 s ty li qt ii pr tg).toArray:=hD 2 (ye K 2 rfl)
   clear K hD xi
   rw [if_pos (by rfl)];unfold Oper.wp;go_simp
   refine (gu ⟨2,0,0,0,0,ii,0,⟨#[]⟩⟩ ⟨2,s,ty,li,qt,ii,pr,tg⟩ V).mono ?_
   rw [U HSM]
   rintro e w4 ⟨rfl,xy⟩
   exact ⟨upd f 3 (.bool sm),by simp [upd,g1,g2],cC (U xw) (U HD) xy (by decide) (fun j v h=>h) rfl⟩
  | 4,Y =>
   obtain rfl:=ya Y
   have g:f 3 = .bool sm:=hD 3 (ye K 3 rfl)
   clear K hD xi
   rw [if_pos (by rfl)];unfold Oper.wp;go_simp
   exact ⟨upd f 4 (.bool (!sm)),by simp [upd,g],zf (U xw) (U HD) (by decide) rfl⟩
  | n + 5,Y=>simp at Y
theorem refusal_3 (next:Int) (vb:Value) (l:List Od) (s ty li qt ii:Int) (pr:Nat) (tg:ByteArray) (w:World) (hr:RdR Od.vs 6 w vb l) (hs:SlOk vb) (hg:GoodL l) (h0:0 ≤ next) (Q:next ≤ 1000000) (ht:tg.size ≤ maxLen) :
  Calls Tryz.prog 152 #[.agg #[H next,vb],.agg (yx 3 s ty li qt ii pr tg).toArray] w fun e w'=>e = ym (H (if bS ⟨3,0,0,0,qt,ii,0,⟨#[]⟩⟩ ⟨3,s,ty,li,qt,ii,pr,tg⟩ = true then redR l ii qt else 2))∧yn w w':=by
 have HR:=M hr
 have HG:=M hg
 have qn:=M hs
 have uO:Hid (0 ≤ next∧next ≤ 1000000):=⟨h0,Q⟩
 have ky:=M ht
 obtain ⟨a,cap,rfl,xD,hc⟩:=hr
 clear hc hg hs h0 Q ht xD
 generalize hsm:bS ⟨3,0,0,0,qt,ii,0,⟨#[]⟩⟩ ⟨3,s,ty,li,qt,ii,pr,tg⟩ = sm
 have HSM:=M hsm
 clear hsm
 have xF:=zi w (O #[H next,.slice a l.length cap] 27)
 have ug:((w.alloc (O #[H next,.slice a l.length cap] 27)).alloc (O (yx 3 s ty li qt ii pr tg).toArray 33)).heap.size = w.heap.size + 1 + 1:=by rw [zi,xF]
 have r1:=zm w [H next,.slice a l.length cap] 27
 have r2:=zm (w.alloc (O #[H next,.slice a l.length cap] 27)) (yx 3 s ty li qt ii pr tg) 33
 rw [xF] at r2
 have qi:Below (w.heap.size + 1) (w.alloc (O #[H next,.slice a l.length cap] 27)) ((w.alloc (O #[H next,.slice a l.length cap] 27)).alloc (O (yx 3 s ty li qt ii pr tg).toArray 33)):=(Below.refl _ _).alloc (by rw [xF]; omega) _
 have xt:Hid (yn w ((w.alloc (O #[H next,.slice a l.length cap] 27)).alloc (O (yx 3 s ty li qt ii pr tg).toArray 33))):=(gZ _ _).alloc (by rw [xF]; omega) _
 have HX:Hid (_∧_):=⟨zc r1 qi (by omega),r2⟩
 have ul:Hid (w.heap.size < ((w.alloc (O #[H next,.slice a l.length cap] 27)).alloc (O (yx 3 s ty li qt ii pr tg).toArray 33)).heap.size∧w.heap.size + 1 < ((w.alloc (O #[H next,.slice a l.length cap] 27)).alloc (O (yx 3 s ty li qt ii pr tg).toArray 33)).heap.size):=⟨by omega,by omega⟩
 clear xF ug r1 r2 qi
 go_enter Tryz.func152,Tryz.ntmps152
 refine ic fun xh xK=>?_
 go_wp2_with fail
 refine U xK _ _ ?_
 clear xK
 generalize ((w.alloc (O #[H next,.slice a l.length cap] 27)).alloc (O (yx 3 s ty li qt ii pr tg).toArray 33)) = X2 at xt HX ul ⊢
 have HX:Hid (X2.rangeAt w.heap.size 0 [H next,.slice a l.length cap]∧X2.rangeAt (w.heap.size + 1) 0 (yx 3 s ty li qt ii pr tg)):=U HX
 obtain ⟨o0,o1,o2,o3,o4,o5,o6,o7⟩:=yE (U HX).2
 go_wp2_with fail
 refine (fM ⟨3,s,ty,li,qt,ii,pr,tg⟩ X2).mono ?_
 have bH:cmdI ⟨3,s,ty,li,qt,ii,pr,tg⟩ = .iface 216 (.agg #[H ii,H qt]):=by simp [cmdI]
 rw [bH]
 clear bH
 rintro e w4 ⟨rfl,xy⟩
 have xO:=M (ia (U xt) xy)
 have xE:Hid (w4.rangeAt w.heap.size 0 [H next,.slice a l.length cap]∧w4.rangeAt (w.heap.size + 1) 0 (yx 3 s ty li qt ii pr tg)∧w.heap.size < w4.heap.size∧w.heap.size + 1 < w4.heap.size):=⟨zc (U HX).1 xy (U ul).1,zc (U HX).2 xy (U ul).2,yK (U ul).1 xy.size,yK (U ul).2 xy.size⟩
 clear xy o0 o1 o2 o3 o4 o5 o6 o7
 go_wp2_with fail
 refine zn (RG w4 (fun f=>{ tmps:=#[.agg #[H next,.slice a l.length cap],.agg (yx 3 s ty li qt ii pr tg).toArray,yp w 0,I (w.heap.size + 1) 0,H 0,.iface 216 (.agg #[H ii,H qt]),Z,Z,Z,.agg (yx 3 s ty li qt ii pr tg).toArray,.iface 216 (.agg #[H ii,H qt]),.iface 216 (.agg #[H ii,H qt]),.bool false,f 0,f 1,f 2,f 3,f 4,Z,Z,Z,Z,Z,Z,Z,Z,Z,Z,Z,Z,Z,Z,Z,Z,Z,Z,Z,Z],defers:=[] }) 99 (DK (.iface 216 (.agg #[H ii,H qt])) (cmV ⟨3,0,0,0,qt,ii,0,⟨#[]⟩⟩) (.agg (yx 3 s ty li qt ii pr tg).toArray) sm)) (by kernel_rfl) ?_ ?_ ?_
 ·exact ⟨fun _=>Z,rfl,⟨rfl,rfl,rfl,Nat.le_refl _,fun _ _=>rfl⟩,fun j hj=>by rw [yJ] at hj; split at hj <;> simp at hj⟩
 ·rintro x hb V ⟨f,rfl,xi,hD⟩ hx xN
  have xp:=zY xN hx (by kernel_rfl)
  have e4:f 4 = .bool (!sm):=hD 4 (xp 4 (by simp))
  have xw:=M (ia (U xO) xi)
  have z0:=zc (U xE).1 xi (U xE).2.2.1 0 _ rfl
  have z1:=zc (U xE).1 xi (U xE).2.2.1 1 _ rfl
  rw [Nat.zero_add] at z0 z1
  have ta1:∀ W:World,Sem.run Tryz.prog (Instr.typeAssert (.iface 216 (.agg #[H ii,H qt])) 209 63 true) W = .ok (.tuple #[.agg #[H 0,H 0,H 0,H 0,yj 0,yk ⟨#[]⟩],.bool false]) W:=fun W=>by kernel_rfl
  have ta2:∀ W:World,Sem.run Tryz.prog (Instr.typeAssert (.iface 216 (.agg #[H ii,H qt])) 209 214 true) W = .ok (.tuple #[.agg #[H 0],.bool false]) W:=fun W=>by kernel_rfl
  have ta3:∀ W:World,Sem.run Tryz.prog (Instr.typeAssert (.iface 216 (.agg #[H ii,H qt])) 209 216 true) W = .ok (.tuple #[.agg #[H ii,H qt],.bool true]) W:=fun W=>by kernel_rfl
  simp only [e4]
  generalize f 0 = e0,f 1 = e1,f 2 = e2,f 3 = e3
  clear hD xp e4 xN hx xi f x
  cases sm
  ·go_wp2_with fail
   go_ret
   exact ⟨rfl,U xw⟩
  ·have xM:w.heap.size < V.heap.size:=yL V (yq w 0) z0
   have y0:World.cell? (V.alloc (O #[H ii,H qt] 216)) (yq w 0) = some (H next):=(yW _ _ _ xM).trans z0
   have y1:World.cell? (V.alloc (O #[H ii,H qt] 216)) (yq w 1) = some (.slice a l.length cap):=(yW _ _ _ xM).trans z1
   have vG:Hid (yn w (V.alloc (O #[H ii,H qt] 216))):=(U xw).alloc (U xw).size _
   clear z0 z1 xM
   go_wp2_with fail
   refine (reduceRefusal_any next _ l ii qt _ (zh (U HR) (U vG) hU)).mono ?_
   rintro e w7 ⟨rfl,vQ⟩
   have jn:=M (ia (U vG) vQ)
   clear vQ
   go_wp2_with fail
   go_ret
   exact ⟨rfl,U jn⟩
 ·rintro x hb V i op ⟨f,rfl,xi,hD⟩ xo hx Y xu K
  clear xo
  have xw:=M xi
  have HD:=M hD
  have u0:=zc (U xE).2.1 xi (U xE).2.2.2 0 _ rfl
  have u1:=zc (U xE).2.1 xi (U xE).2.2.2 1 _ rfl
  have u2:=zc (U xE).2.1 xi (U xE).2.2.2 2 _ rfl
  have u3:=zc (U xE).2.1 xi (U xE).2.2.2 3 _ rfl
  have u4:=zc (U xE).2.1 xi (U xE).2.2.2 4 _ rfl
  have u5:=zc (U xE).2.1 xi (U xE).2.2.2 5 _ rfl
  have u6:=zc (U xE).2.1 xi (U xE).2.2.2 6 _ rfl
  have u7:=zc (U xE).2.1 xi (U xE).2.2.2 7 _ rfl
  rw [Nat.zero_add] at u0 u1 u2 u3 u4 u5 u6 u7
  match i,Y with
  | 0,Y =>
   obtain rfl:=ya Y
   clear K hD xi
   rw [if_pos (by rfl)];unfold Oper.wp;go_simp
   exact ⟨upd f 0 (.iface 216 (.agg #[H ii,H qt])),by simp [upd],zf (U xw) (U HD) (by decide) rfl⟩
  | 1,Y =>
   obtain rfl:=ya Y
   have g:f 0 = .iface 216 (.agg #[H ii,H qt]):=hD 0 (ye K 0 rfl)
   have hm:∀ W:World,Sem.run Tryz.prog (method 390 216 (.agg #[H ii,H qt]) "loop.example/g00092/impl.told") W = .ok (236,.agg #[H ii,H qt]) W:=fun W=>by kernel_rfl
   clear K hD xi
   rw [if_pos (by rfl)];unfold Oper.wp;go_simp
   refine (toldReduce_any ii qt V).mono ?_
   rintro e w4 ⟨rfl,xy⟩
   exact ⟨upd f 1 (cmV ⟨3,0,0,0,qt,ii,0,⟨#[]⟩⟩),by simp [upd,g]; rfl,cC (U xw) (U HD) xy (by decide) (fun j v h=>h) rfl⟩
  | 2,Y =>
   obtain rfl:=ya Y
   clear K hD xi
   rw [if_pos (by rfl)];unfold Oper.wp;go_simp
   exact ⟨upd f 2 (.agg (yx 3 s ty li qt ii pr tg).toArray),by simp [upd],zf (U xw) (U HD) (by decide) rfl⟩
  | 3,Y =>
   obtain rfl:=ya Y
   have g1:f 1 = cmV ⟨3,0,0,0,qt,ii,0,⟨#[]⟩⟩:=hD 1 (ye K 1 rfl)
   have g2:f 2 = .agg (yx 3 s ty li qt ii pr tg).toArray:=hD 2 (ye K 2 rfl)
   clear K hD xi
   rw [if_pos (by rfl)];unfold Oper.wp;go_simp
   refine (gu ⟨3,0,0,0,qt,ii,0,⟨#[]⟩⟩ ⟨3,s,ty,li,qt,ii,pr,tg⟩ V).mono ?_
   rw [U HSM]
   rintro e w4 ⟨rfl,xy⟩
   exact ⟨upd f 3 (.bool sm),by simp [upd,g1,g2],cC (U xw) (U HD) xy (by decide) (fun j v h=>h) rfl⟩
  | 4,Y =>
   obtain rfl:=ya Y
   have g:f 3 = .bool sm:=hD 3 (ye K 3 rfl)
   clear K hD xi
   rw [if_pos (by rfl)];unfold Oper.wp;go_simp
   exact ⟨upd f 4 (.bool (!sm)),by simp [upd,g],zf (U xw) (U HD) (by decide) rfl⟩
  | n + 5,Y=>simp at Y
theorem refusal_4 (next:Int) (vb:Value) (l:List Od) (s ty li qt ii:Int) (pr:Nat) (tg:ByteArray) (w:World) (hr:RdR Od.vs 6 w vb l) (hs:SlOk vb) (hg:GoodL l) (h0:0 ≤ next) (Q:next ≤ 1000000) (ht:tg.size ≤ maxLen) :
  Calls Tryz.prog 152 #[.agg #[H next,vb],.agg (yx 4 s ty li qt ii pr tg).toArray] w fun e w'=>e = ym (H (if bS ⟨4,0,0,0,0,0,0,⟨#[]⟩⟩ ⟨4,s,ty,li,qt,ii,pr,tg⟩ = true then 0 else 2))∧yn w w':=by
 have HR:=M hr
 have HG:=M hg
 have qn:=M hs
 have uO:Hid (0 ≤ next∧next ≤ 1000000):=⟨h0,Q⟩
 have ky:=M ht
 obtain ⟨a,cap,rfl,xD,hc⟩:=hr
 clear hc hg hs h0 Q ht xD
 generalize hsm:bS ⟨4,0,0,0,0,0,0,⟨#[]⟩⟩ ⟨4,s,ty,li,qt,ii,pr,tg⟩ = sm
 have HSM:=M hsm
 clear hsm
 have xF:=zi w (O #[H next,.slice a l.length cap] 27)
 have ug:((w.alloc (O #[H next,.slice a l.length cap] 27)).alloc (O (yx 4 s ty li qt ii pr tg).toArray 33)).heap.size = w.heap.size + 1 + 1:=by rw [zi,xF]
 have r1:=zm w [H next,.slice a l.length cap] 27
 have r2:=zm (w.alloc (O #[H next,.slice a l.length cap] 27)) (yx 4 s ty li qt ii pr tg) 33
 rw [xF] at r2
 have qi:Below (w.heap.size + 1) (w.alloc (O #[H next,.slice a l.length cap] 27)) ((w.alloc (O #[H next,.slice a l.length cap] 27)).alloc (O (yx 4 s ty li qt ii pr tg).toArray 33)):=(Below.refl _ _).alloc (by rw [xF]; omega) _
 have xt:Hid (yn w ((w.alloc (O #[H next,.slice a l.length cap] 27)).alloc (O (yx 4 s ty li qt ii pr tg).toArray 33))):=(gZ _ _).alloc (by rw [xF]; omega) _
 have HX:Hid (_∧_):=⟨zc r1 qi (by omega),r2⟩
 have ul:Hid (w.heap.size < ((w.alloc (O #[H next,.slice a l.length cap] 27)).alloc (O (yx 4 s ty li qt ii pr tg).toArray 33)).heap.size∧w.heap.size + 1 < ((w.alloc (O #[H next,.slice a l.length cap] 27)).alloc (O (yx 4 s ty li qt ii pr tg).toArray 33)).heap.size):=⟨by omega,by omega⟩
 clear xF ug r1 r2 qi
 go_enter Tryz.func152,Tryz.ntmps152
 refine ic fun xh xK=>?_
 go_wp2_with fail
 refine U xK _ _ ?_
 clear xK
 generalize ((w.alloc (O #[H next,.slice a l.length cap] 27)).alloc (O (yx 4 s ty li qt ii pr tg).toArray 33)) = X2 at xt HX ul ⊢
 have HX:Hid (X2.rangeAt w.heap.size 0 [H next,.slice a l.length cap]∧X2.rangeAt (w.heap.size + 1) 0 (yx 4 s ty li qt ii pr tg)):=U HX
 obtain ⟨o0,o1,o2,o3,o4,o5,o6,o7⟩:=yE (U HX).2
 go_wp2_with fail
 refine (fM ⟨4,s,ty,li,qt,ii,pr,tg⟩ X2).mono ?_
 have bH:cmdI ⟨4,s,ty,li,qt,ii,pr,tg⟩ = .iface 241 (.agg #[]):=by simp [cmdI]
 rw [bH]
 clear bH
 rintro e w4 ⟨rfl,xy⟩
 have xO:=M (ia (U xt) xy)
 have xE:Hid (w4.rangeAt w.heap.size 0 [H next,.slice a l.length cap]∧w4.rangeAt (w.heap.size + 1) 0 (yx 4 s ty li qt ii pr tg)∧w.heap.size < w4.heap.size∧w.heap.size + 1 < w4.heap.size):=⟨zc (U HX).1 xy (U ul).1,zc (U HX).2 xy (U ul).2,yK (U ul).1 xy.size,yK (U ul).2 xy.size⟩
 clear xy o0 o1 o2 o3 o4 o5 o6 o7
 go_wp2_with fail
 refine zn (RG w4 (fun f=>{ tmps:=#[.agg #[H next,.slice a l.length cap],.agg (yx 4 s ty li qt ii pr tg).toArray,yp w 0,I (w.heap.size + 1) 0,H 0,.iface 241 (.agg #[]),Z,Z,Z,.agg (yx 4 s ty li qt ii pr tg).toArray,.iface 241 (.agg #[]),.iface 241 (.agg #[]),.bool false,f 0,f 1,f 2,f 3,f 4,Z,Z,Z,Z,Z,Z,Z,Z,Z,Z,Z,Z,Z,Z,Z,Z,Z,Z,Z,Z],defers:=[] }) 99 (DK (.iface 241 (.agg #[])) (cmV ⟨4,0,0,0,0,0,0,⟨#[]⟩⟩) (.agg (yx 4 s ty li qt ii pr tg).toArray) sm)) (by kernel_rfl) ?_ ?_ ?_
 ·exact ⟨fun _=>Z,rfl,⟨rfl,rfl,rfl,Nat.le_refl _,fun _ _=>rfl⟩,fun j hj=>by rw [yJ] at hj; split at hj <;> simp at hj⟩
 ·rintro x hb V ⟨f,rfl,xi,hD⟩ hx xN
  have xp:=zY xN hx (by kernel_rfl)
  have e4:f 4 = .bool (!sm):=hD 4 (xp 4 (by simp))
  have xw:=M (ia (U xO) xi)
  have z0:=zc (U xE).1 xi (U xE).2.2.1 0 _ rfl
  have z1:=zc (U xE).1 xi (U xE).2.2.1 1 _ rfl
  rw [Nat.zero_add] at z0 z1
  have ta1:∀ W:World,Sem.run Tryz.prog (Instr.typeAssert (.iface 241 (.agg #[])) 209 63 true) W = .ok (.tuple #[.agg #[H 0,H 0,H 0,H 0,yj 0,yk ⟨#[]⟩],.bool false]) W:=fun W=>by kernel_rfl
  have ta2:∀ W:World,Sem.run Tryz.prog (Instr.typeAssert (.iface 241 (.agg #[])) 209 214 true) W = .ok (.tuple #[.agg #[H 0],.bool false]) W:=fun W=>by kernel_rfl
  have ta3:∀ W:World,Sem.run Tryz.prog (Instr.typeAssert (.iface 241 (.agg #[])) 209 216 true) W = .ok (.tuple #[.agg #[H 0,H 0],.bool false]) W:=fun W=>by kernel_rfl
  simp only [e4]
  generalize f 0 = e0,f 1 = e1,f 2 = e2,f 3 = e3
  clear hD xp e4 xN hx xi f x
  cases sm
  ·go_wp2_with fail
   go_ret
   exact ⟨rfl,U xw⟩
  ·go_wp2_with fail
   go_ret
   exact ⟨rfl,U xw⟩
 ·rintro x hb V i op ⟨f,rfl,xi,hD⟩ xo hx Y xu K
  clear xo
  have xw:=M xi
  have HD:=M hD
  have u0:=zc (U xE).2.1 xi (U xE).2.2.2 0 _ rfl
  have u1:=zc (U xE).2.1 xi (U xE).2.2.2 1 _ rfl
  have u2:=zc (U xE).2.1 xi (U xE).2.2.2 2 _ rfl
  have u3:=zc (U xE).2.1 xi (U xE).2.2.2 3 _ rfl
  have u4:=zc (U xE).2.1 xi (U xE).2.2.2 4 _ rfl
  have u5:=zc (U xE).2.1 xi (U xE).2.2.2 5 _ rfl
  have u6:=zc (U xE).2.1 xi (U xE).2.2.2 6 _ rfl
  have u7:=zc (U xE).2.1 xi (U xE).2.2.2 7 _ rfl
  rw [Nat.zero_add] at u0 u1 u2 u3 u4 u5 u6 u7
  match i,Y with
  | 0,Y =>
   obtain rfl:=ya Y
   clear K hD xi
   rw [if_pos (by rfl)];unfold Oper.wp;go_simp
   exact ⟨upd f 0 (.iface 241 (.agg #[])),by simp [upd],zf (U xw) (U HD) (by decide) rfl⟩
  | 1,Y =>
   obtain rfl:=ya Y
   have g:f 0 = .iface 241 (.agg #[]):=hD 0 (ye K 0 rfl)
   have hm:∀ W:World,Sem.run Tryz.prog (method 390 241 (.agg #[]) "loop.example/g00092/impl.told") W = .ok (240,.agg #[]) W:=fun W=>by kernel_rfl
   clear K hD xi
   rw [if_pos (by rfl)];unfold Oper.wp;go_simp
   refine (toldDay_any V).mono ?_
   rintro e w4 ⟨rfl,xy⟩
   exact ⟨upd f 1 (cmV ⟨4,0,0,0,0,0,0,⟨#[]⟩⟩),by simp [upd,g]; rfl,cC (U xw) (U HD) xy (by decide) (fun j v h=>h) rfl⟩
  | 2,Y =>
   obtain rfl:=ya Y
   clear K hD xi
   rw [if_pos (by rfl)];unfold Oper.wp;go_simp
   exact ⟨upd f 2 (.agg (yx 4 s ty li qt ii pr tg).toArray),by simp [upd],zf (U xw) (U HD) (by decide) rfl⟩
  | 3,Y =>
   obtain rfl:=ya Y
   have g1:f 1 = cmV ⟨4,0,0,0,0,0,0,⟨#[]⟩⟩:=hD 1 (ye K 1 rfl)
   have g2:f 2 = .agg (yx 4 s ty li qt ii pr tg).toArray:=hD 2 (ye K 2 rfl)
   clear K hD xi
   rw [if_pos (by rfl)];unfold Oper.wp;go_simp
   refine (gu ⟨4,0,0,0,0,0,0,⟨#[]⟩⟩ ⟨4,s,ty,li,qt,ii,pr,tg⟩ V).mono ?_
   rw [U HSM]
   rintro e w4 ⟨rfl,xy⟩
   exact ⟨upd f 3 (.bool sm),by simp [upd,g1,g2],cC (U xw) (U HD) xy (by decide) (fun j v h=>h) rfl⟩
  | 4,Y =>
   obtain rfl:=ya Y
   have g:f 3 = .bool sm:=hD 3 (ye K 3 rfl)
   clear K hD xi
   rw [if_pos (by rfl)];unfold Oper.wp;go_simp
   exact ⟨upd f 4 (.bool (!sm)),by simp [upd,g],zf (U xw) (U HD) (by decide) rfl⟩
  | n + 5,Y=>simp at Y
end Go.Proofs.YthhkapcbocgcoaaGreatDoor
