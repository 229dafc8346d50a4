/-
  The reason of a reduction, by the program: proved by walking the function.
-/
import Derived.Test.YtnphbkgfjanmgaaGreatDoorDj16
set_option linter.unusedVariables false
set_option maxHeartbeats 6400000
set_option maxRecDepth 100000
namespace Go.Proofs.YtnphbkgfjanmgaaGreatDoor
open Go.RowKit
def DZ (b2 b3 b off cap k:Nat) (next id qty:Int) (l:List Od) (o:Od) (p:Prop) (hj:World):Nat→Value→Prop
 | 0,v=>v = J b3 1
 | 1,v=>v = I qty
 | 2,v=>v = J b2 1
 | 3,v=>v = .slice (some (Q b off)) l.length cap
 | 4,v=>v = .agg #[I next,.slice (some (Q b off)) l.length cap]
 | 5,v=>v = J b3 0
 | 6,v=>v = I id
 | 7,v=>v = I k
 | 8,v=>v = J b (off + k * 6)
 | 9,v=>v = J b (off + k * 6 + 3)
 | 10,v=>v = I o.left
 | 11,v=>v = .bool (decide (o.left ≤ qty))
 | _,_=>True
theorem reduceRefusal_any (next:Int) (vb:Value) (l:List Od) (id qty:Int) (w:World) (hr:RdR Od.vs 6 w vb l) :
  Calls Tryz.prog 179 #[.agg #[I next,vb],.agg #[I id,I qty]] w fun e w'=>e = yn (I (redR l id qty))∧yp w w':=by
 have HR:=H hr
 obtain ⟨a,cap,rfl,xA,hc⟩:=hr
 have jq:=H hc
 clear hc
 have xK:=zj w (L #[I next,.slice a l.length cap] 34)
 have uf:((w.alloc (L #[I next,.slice a l.length cap] 34)).alloc (L #[I id,I qty] 213)).heap.size = w.heap.size + 1 + 1:=by rw [zj,xK]
 have r1:=zn w [I next,.slice a l.length cap] 34
 have r2:=zn (w.alloc (L #[I next,.slice a l.length cap] 34)) [I id,I qty] 213
 rw [xK] at r2
 have qv:Below (w.heap.size + 1) (w.alloc (L #[I next,.slice a l.length cap] 34)) ((w.alloc (L #[I next,.slice a l.length cap] 34)).alloc (L #[I id,I qty] 213)):=(Below.refl _ _).alloc (by rw [xK]; omega) _
 have xw:Hid (yp w ((w.alloc (L #[I next,.slice a l.length cap] 34)).alloc (L #[I id,I qty] 213))):=(fw _ _).alloc (by rw [xK]; omega) _
 have HX:Hid (_∧_):=⟨zc r1 qv (by omega),r2⟩
 have uu:Hid (w.heap.size < ((w.alloc (L #[I next,.slice a l.length cap] 34)).alloc (L #[I id,I qty] 213)).heap.size∧w.heap.size + 1 < ((w.alloc (L #[I next,.slice a l.length cap] 34)).alloc (L #[I id,I qty] 213)).heap.size):=⟨by omega,by omega⟩
 clear xK uf r1 r2 qv
 go_enter Tryz.func179,Tryz.ntmps179
 refine fD fun zb xU=>?_
 go_wp2_with fail
 refine U xU _ _ ?_
 clear xU
 generalize ((w.alloc (L #[I next,.slice a l.length cap] 34)).alloc (L #[I id,I qty] 213)) = X2 at xw HX uu ⊢
 have HX:Hid (X2.rangeAt w.heap.size 0 [I next,.slice a l.length cap]∧X2.rangeAt (w.heap.size + 1) 0 [I id,I qty]):=U HX
 have k0:X2.cell? (yr w 0) = some (I next):=(U HX).1 0 _ rfl
 have k1:X2.cell? (yr w 1) = some (.slice a l.length cap):=(U HX).1 1 _ rfl
 have o0:X2.cell? (Q (w.heap.size + 1) 0) = some (I id):=(U HX).2 0 _ rfl
 have o1:X2.cell? (Q (w.heap.size + 1) 1) = some (I qty):=(U HX).2 1 _ rfl
 go_wp2_with fail
 refine (isQty_any qty X2).mono ?_
 rintro e w3 ⟨rfl,rfl⟩
 cases hq:betB qty 1 1000000
 ·have HK:Hid (redR l id qty = 7):=by show _ = _; rw [redR,if_neg (by rw [hq]; simp)]
  clear hq
  go_wp2_with fail
  go_ret
  exact ⟨zA (U HK).symm,U xw⟩
 have HQ:=H hq
 clear hq
 go_wp2_with fail
 refine (idRefusal_any next _ l id w3 (zh (U HR) (U xw) yb)).mono ?_
 rcases plc_cases l id with hp | ⟨k,o,hp,hk⟩
 ·have ui:idR l id = 9:=by rw [idR,if_pos (by omega)]
  rw [ui]
  have HK:Hid (redR l id qty = 9):=by show _ = _; rw [redR,if_pos (U HQ),if_pos (by omega)]
  clear hp ui
  rintro e w4 ⟨rfl,xy⟩
  have xH:=H (fC (U xw) xy)
  clear xy
  go_wp2_with fail
  go_ret
  exact ⟨zA (U HK).symm,U xH⟩
 have ui:idR l id = 0:=by rw [idR,if_neg (by omega)]
 rw [ui]
 have jr:=H hp
 have vn:Hid (redR l id qty = if o.left ≤ qty then 10 else 0):=by
  show _ = _
  rw [redR,if_pos (U HQ),if_neg (by omega),hp,Int.toNat_natCast,hk]
 have oW:=(yH.1 hk).1
 obtain ⟨b,off,rfl,kz,X⟩:=U jq (by intro h; rw [h] at oW; simp at oW)
 have oz:=H (X k o hk)
 have hkl':(k:Int) < l.length:=by omega
 have pw:(0:Int) ≤ k:=by omega
 clear hp ui X hk
 rintro e w4 ⟨rfl,xy⟩
 have xH:=H (fC (U xw) xy)
 have xG:Hid (w4.rangeAt w.heap.size 0 [I next,.slice (some (Q b off)) l.length cap]∧w4.rangeAt (w.heap.size + 1) 0 [I id,I qty]∧w.heap.size < w4.heap.size∧w.heap.size + 1 < w4.heap.size):=⟨zc (U HX).1 xy (U uu).1,zc (U HX).2 xy (U uu).2,yK (U uu).1 xy.size,yK (U uu).2 xy.size⟩
 clear xy k0 k1 o0 o1
 go_wp2_with fail
 refine zm (RG w4 (fun f=>{ tmps:=#[.agg #[I next,.slice (some (Q b off)) l.length cap],.agg #[I id,I qty],yq w 0,J (w.heap.size + 1) 0,I 0,I 0,J (w.heap.size + 1) 1,I qty,.bool true,.bool false,.agg #[I next,.slice (some (Q b off)) l.length cap],J (w.heap.size + 1) 0,I id,I 0,I 0,.bool false,M,f 0,f 1,f 2,f 3,f 4,f 5,f 6,f 7,f 8,f 9,f 10,f 11],defers:=[] }) 99 (DZ w.heap.size (w.heap.size + 1) b off cap k next id qty l o)) (by kernel_rfl) ?_ ?_ ?_
 ·exact ⟨fun _=>M,rfl,⟨rfl,rfl,rfl,Nat.le_refl _,fun _ _=>rfl⟩,fun j V=>by rw [yJ] at V; split at V <;> simp at V⟩
 ·rintro x cs hj ⟨f,rfl,xl,hD⟩ hx xO
  have xq:=bT xO hx (by kernel_rfl)
  have uy:f 11 = .bool (decide (o.left ≤ qty)):=hD 11 (xq 11 (by simp))
  have xE:=H (fC (U xH) xl)
  simp only [uy]
  clear hD xq uy xO hx xl
  by_cases qj:o.left ≤ qty
  ·have HK:Hid (redR l id qty = 10):=(U vn).trans (if_pos qj)
   go_wp2_with fail
   go_ret
   exact ⟨zA (U HK).symm,U xE⟩
  ·have HK:Hid (redR l id qty = 0):=(U vn).trans (if_neg qj)
   go_wp2_with fail
   go_ret
   exact ⟨zA (U HK).symm,U xE⟩
 ·rintro x cs hj i op ⟨f,rfl,xl,hD⟩ X hx Z xr D
  clear X
  have xE:=H xl
  have HD:=H hD
  have z0:=zc (U xG).1 xl (U xG).2.2.1 0 _ rfl
  have z1:=zc (U xG).1 xl (U xG).2.2.1 1 _ rfl
  have u0:=zc (U xG).2.1 xl (U xG).2.2.2 0 _ rfl
  have u1:=zc (U xG).2.1 xl (U xG).2.2.2 1 _ rfl
  rw [Nat.zero_add] at z0 z1 u0 u1
  have uN:=H (zh (U HR) (fC (U xH) xl) yb)
  obtain ⟨-,-,-,y3,-⟩:=zB (zc (U oz) (fC (U xH) xl) kz)
  match i,Z with
  | 0,Z =>
   obtain rfl:=yc Z
   clear D hD xl
   rw [if_pos (by rfl)];unfold Oper.wp;go_simp
   exact ⟨upd f 0 (J (w.heap.size + 1) 1),by simp [upd],zg (U xE) (U HD) (by decide) rfl⟩
  | 1,Z =>
   obtain rfl:=yc Z
   have g:f 0 = J (w.heap.size + 1) 1:=hD 0 (yf D 0 rfl)
   clear D hD xl
   rw [if_pos (by rfl)];unfold Oper.wp;go_simp
   exact ⟨upd f 1 (I qty),by simp [upd,g],zg (U xE) (U HD) (by decide) rfl⟩
  | 2,Z =>
   obtain rfl:=yc Z
   clear D hD xl
   rw [if_pos (by rfl)];unfold Oper.wp;go_simp
   exact ⟨upd f 2 (yq w 1),by simp [upd],zg (U xE) (U HD) (by decide) rfl⟩
  | 3,Z =>
   obtain rfl:=yc Z
   have g:f 2 = yq w 1:=hD 2 (yf D 2 rfl)
   clear D hD xl
   rw [if_pos (by rfl)];unfold Oper.wp;go_simp
   exact ⟨upd f 3 (.slice (some (Q b off)) l.length cap),by simp [upd,g],zg (U xE) (U HD) (by decide) rfl⟩
  | 4,Z =>
   obtain rfl:=yc Z
   clear D hD xl
   rw [if_pos (by rfl)];unfold Oper.wp;go_simp
   exact ⟨upd f 4 (.agg #[I next,.slice (some (Q b off)) l.length cap]),by simp [upd],zg (U xE) (U HD) (by decide) rfl⟩
  | 5,Z =>
   obtain rfl:=yc Z
   clear D hD xl
   rw [if_pos (by rfl)];unfold Oper.wp;go_simp
   exact ⟨upd f 5 (J (w.heap.size + 1) 0),by simp [upd],zg (U xE) (U HD) (by decide) rfl⟩
  | 6,Z =>
   obtain rfl:=yc Z
   have g:f 5 = J (w.heap.size + 1) 0:=hD 5 (yf D 5 rfl)
   clear D hD xl
   rw [if_pos (by rfl)];unfold Oper.wp;go_simp
   exact ⟨upd f 6 (I id),by simp [upd,g],zg (U xE) (U HD) (by decide) rfl⟩
  | 7,Z =>
   obtain rfl:=yc Z
   have g4:f 4 = .agg #[I next,.slice (some (Q b off)) l.length cap]:=hD 4 (yf D 4 rfl)
   have g6:f 6 = I id:=hD 6 (yf D 6 rfl)
   clear D hD xl
   rw [if_pos (by rfl)];unfold Oper.wp;go_simp
   refine (dY next _ l id hj (U uN)).mono ?_
   rw [U jr]
   rintro e w4 ⟨rfl,xy⟩
   exact ⟨upd f 7 (I k),by simp [upd,g4,g6],bc (U xE) (U HD) xy (by decide) (fun j v h=>h) rfl⟩
  | 8,Z =>
   obtain rfl:=yc Z
   have g3:f 3 = .slice (some (Q b off)) l.length cap:=hD 3 (yf D 3 rfl)
   have g7:f 7 = I k:=hD 7 (yf D 7 rfl)
   clear D hD xl
   rw [if_pos (by rfl)];unfold Oper.wp;go_simp
   exact ⟨upd f 8 (J b (off + k * 6)),by simp [upd,g3,g7],zg (U xE) (U HD) (by decide) rfl⟩
  | 9,Z =>
   obtain rfl:=yc Z
   have g:f 8 = J b (off + k * 6):=hD 8 (yf D 8 rfl)
   clear D hD xl
   rw [if_pos (by rfl)];unfold Oper.wp;go_simp
   exact ⟨upd f 9 (J b (off + k * 6 + 3)),by simp [upd,g],zg (U xE) (U HD) (by decide) rfl⟩
  | 10,Z =>
   obtain rfl:=yc Z
   have g:f 9 = J b (off + k * 6 + 3):=hD 9 (yf D 9 rfl)
   clear D hD xl
   rw [if_pos (by rfl)];unfold Oper.wp;go_simp
   exact ⟨upd f 10 (I o.left),by simp [upd,g],zg (U xE) (U HD) (by decide) rfl⟩
  | 11,Z =>
   obtain rfl:=yc Z
   have g1:f 1 = I qty:=hD 1 (yf D 1 rfl)
   have g:f 10 = I o.left:=hD 10 (yf D 10 rfl)
   clear D hD xl
   rw [if_pos (by rfl)];unfold Oper.wp;go_simp
   exact ⟨upd f 11 (.bool (decide (o.left ≤ qty))),by simp [upd,g,g1],zg (U xE) (U HD) (by decide) rfl⟩
  | n + 12,Z=>simp at Z
end Go.Proofs.YtnphbkgfjanmgaaGreatDoor
