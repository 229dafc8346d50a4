/-
  The reason of a reduction, by the program: proved by walking the function.
-/
import Derived.Test.YtnphbkgfjanmgaaGreatDoorBj16
set_option linter.unusedVariables false
set_option maxHeartbeats 6400000
set_option maxRecDepth 100000
namespace Go.Proofs.YtnphbkgfjanmgaaGreatDoor
open Go.RowKit
def DZ (b2 b3 b off cap k:Nat) (next id qty:Int) (l:List Od) (o:Od) (p:Prop) (xn:World):Nat→Value→Prop
 | 0,v=>v = J b3 1
 | 1,v=>v = I qty
 | 2,v=>v = J b2 1
 | 3,v=>v = .slice (some (U b off)) l.length cap
 | 4,v=>v = .agg #[I next,.slice (some (U b off)) l.length cap]
 | 5,v=>v = J b3 0
 | 6,v=>v = I id
 | 7,v=>v = I k
 | 8,v=>v = J b (off + k * 6)
 | 9,v=>v = J b (off + k * 6 + 3)
 | 10,v=>v = I o.left
 | 11,v=>v = .bool (decide (o.left ≤ qty))
 | _,_=>True
theorem reduceRefusal_any (next:Int) (vb:Value) (l:List Od) (id qty:Int) (w:World) (hr:RdR Od.vs 6 w vb l) :
  Calls Tryz.prog 179 #[.agg #[I next,vb],.agg #[I id,I qty]] w fun e w'=>e = ym (I (redR l id qty))∧yn w w':=by
 have HR:=M hr
 obtain ⟨a,cap,rfl,xA,hc⟩:=hr
 have js:=M hc
 clear hc
 have xK:=zi w (A #[I next,.slice a l.length cap] 34)
 have ue:((w.alloc (A #[I next,.slice a l.length cap] 34)).alloc (A #[I id,I qty] 213)).heap.size = w.heap.size + 1 + 1:=by rw [zi,xK]
 have r1:=zn w [I next,.slice a l.length cap] 34
 have r2:=zn (w.alloc (A #[I next,.slice a l.length cap] 34)) [I id,I qty] 213
 rw [xK] at r2
 have qz:Below (w.heap.size + 1) (w.alloc (A #[I next,.slice a l.length cap] 34)) ((w.alloc (A #[I next,.slice a l.length cap] 34)).alloc (A #[I id,I qty] 213)):=(Below.refl _ _).alloc (by rw [xK]; omega) _
 have xu:Hid (yn w ((w.alloc (A #[I next,.slice a l.length cap] 34)).alloc (A #[I id,I qty] 213))):=(fE _ _).alloc (by rw [xK]; omega) _
 have HX:Hid (_∧_):=⟨zc r1 qz (by omega),r2⟩
 have uu:Hid (w.heap.size < ((w.alloc (A #[I next,.slice a l.length cap] 34)).alloc (A #[I id,I qty] 213)).heap.size∧w.heap.size + 1 < ((w.alloc (A #[I next,.slice a l.length cap] 34)).alloc (A #[I id,I qty] 213)).heap.size):=⟨by omega,by omega⟩
 clear xK ue r1 r2 qz
 go_enter Tryz.func179,Tryz.ntmps179
 refine fI fun hR xU=>?_
 go_wp2_with fail
 refine H xU _ _ ?_
 clear xU
 generalize ((w.alloc (A #[I next,.slice a l.length cap] 34)).alloc (A #[I id,I qty] 213)) = X2 at xu HX uu ⊢
 have HX:Hid (X2.rangeAt w.heap.size 0 [I next,.slice a l.length cap]∧X2.rangeAt (w.heap.size + 1) 0 [I id,I qty]):=H HX
 have k0:X2.cell? (yq w 0) = some (I next):=(H HX).1 0 _ rfl
 have k1:X2.cell? (yq w 1) = some (.slice a l.length cap):=(H HX).1 1 _ rfl
 have o0:X2.cell? (U (w.heap.size + 1) 0) = some (I id):=(H HX).2 0 _ rfl
 have o1:X2.cell? (U (w.heap.size + 1) 1) = some (I qty):=(H HX).2 1 _ rfl
 go_wp2_with fail
 refine (isQty_any qty X2).mono ?_
 rintro e w3 ⟨rfl,rfl⟩
 cases hq:betB qty 1 1000000
 ·have HK:Hid (redR l id qty = 7):=by show _ = _; rw [redR,if_neg (by rw [hq]; simp)]
  clear hq
  go_wp2_with fail
  go_ret
  exact ⟨zy (H HK).symm,H xu⟩
 have HQ:=M hq
 clear hq
 go_wp2_with fail
 refine (idRefusal_any next _ l id w3 (zh (H HR) (H xu) ya)).mono ?_
 rcases plc_cases l id with hp | ⟨k,o,hp,hk⟩
 ·have uj:idR l id = 9:=by rw [idR,if_pos (by omega)]
  rw [uj]
  have HK:Hid (redR l id qty = 9):=by show _ = _; rw [redR,if_pos (H HQ),if_pos (by omega)]
  clear hp uj
  rintro e w4 ⟨rfl,xw⟩
  have xG:=M (fH (H xu) xw)
  clear xw
  go_wp2_with fail
  go_ret
  exact ⟨zy (H HK).symm,H xG⟩
 have uj:idR l id = 0:=by rw [idR,if_neg (by omega)]
 rw [uj]
 have jt:=M hp
 have vk:Hid (redR l id qty = if o.left ≤ qty then 10 else 0):=by
  show _ = _
  rw [redR,if_pos (H HQ),if_neg (by omega),hp,Int.toNat_natCast,hk]
 have pa:=(yG.1 hk).1
 obtain ⟨b,off,rfl,kC,V⟩:=H js (by intro h; rw [h] at pa; simp at pa)
 have oD:=M (V k o hk)
 have hkl':(k:Int) < l.length:=by omega
 have pA:(0:Int) ≤ k:=by omega
 clear hp uj V hk
 rintro e w4 ⟨rfl,xw⟩
 have xG:=M (fH (H xu) xw)
 have xE:Hid (w4.rangeAt w.heap.size 0 [I next,.slice (some (U b off)) l.length cap]∧w4.rangeAt (w.heap.size + 1) 0 [I id,I qty]∧w.heap.size < w4.heap.size∧w.heap.size + 1 < w4.heap.size):=⟨zc (H HX).1 xw (H uu).1,zc (H HX).2 xw (H uu).2,yJ (H uu).1 xw.size,yJ (H uu).2 xw.size⟩
 clear xw k0 k1 o0 o1
 go_wp2_with fail
 refine zk (RG w4 (fun f=>{ tmps:=#[.agg #[I next,.slice (some (U b off)) l.length cap],.agg #[I id,I qty],yp w 0,J (w.heap.size + 1) 0,I 0,I 0,J (w.heap.size + 1) 1,I qty,.bool true,.bool false,.agg #[I next,.slice (some (U b off)) l.length cap],J (w.heap.size + 1) 0,I id,I 0,I 0,.bool false,Z,f 0,f 1,f 2,f 3,f 4,f 5,f 6,f 7,f 8,f 9,f 10,f 11],defers:=[] }) 99 (DZ w.heap.size (w.heap.size + 1) b off cap k next id qty l o)) (by kernel_rfl) ?_ ?_ ?_
 ·exact ⟨fun _=>Z,rfl,⟨rfl,rfl,rfl,Nat.le_refl _,fun _ _=>rfl⟩,fun j O=>by rw [yI] at O; split at O <;> simp at O⟩
 ·rintro x fG xn ⟨f,rfl,xk,hD⟩ hx xN
  have xo:=bT xN hx (by kernel_rfl)
  have uk:f 11 = .bool (decide (o.left ≤ qty)):=hD 11 (xo 11 (by simp))
  have xy:=M (fH (H xG) xk)
  simp only [uk]
  clear hD xo uk xN hx xk
  by_cases qi:o.left ≤ qty
  ·have HK:Hid (redR l id qty = 10):=(H vk).trans (if_pos qi)
   go_wp2_with fail
   go_ret
   exact ⟨zy (H HK).symm,H xy⟩
  ·have HK:Hid (redR l id qty = 0):=(H vk).trans (if_neg qi)
   go_wp2_with fail
   go_ret
   exact ⟨zy (H HK).symm,H xy⟩
 ·rintro x fG xn i op ⟨f,rfl,xk,hD⟩ V hx N xq D
  clear V
  have xy:=M xk
  have HD:=M hD
  have z0:=zc (H xE).1 xk (H xE).2.2.1 0 _ rfl
  have z1:=zc (H xE).1 xk (H xE).2.2.1 1 _ rfl
  have u0:=zc (H xE).2.1 xk (H xE).2.2.2 0 _ rfl
  have u1:=zc (H xE).2.1 xk (H xE).2.2.2 1 _ rfl
  rw [Nat.zero_add] at z0 z1 u0 u1
  have uR:=M (zh (H HR) (fH (H xG) xk) ya)
  obtain ⟨-,-,-,y3,-⟩:=zA (zc (H oD) (fH (H xG) xk) kC)
  match i,N with
  | 0,N =>
   obtain rfl:=yb N
   clear D hD xk
   rw [if_pos (by rfl)];unfold Oper.wp;go_simp
   exact ⟨upd f 0 (J (w.heap.size + 1) 1),by simp [upd],zf (H xy) (H HD) (by decide) rfl⟩
  | 1,N =>
   obtain rfl:=yb N
   have g:f 0 = J (w.heap.size + 1) 1:=hD 0 (ye D 0 rfl)
   clear D hD xk
   rw [if_pos (by rfl)];unfold Oper.wp;go_simp
   exact ⟨upd f 1 (I qty),by simp [upd,g],zf (H xy) (H HD) (by decide) rfl⟩
  | 2,N =>
   obtain rfl:=yb N
   clear D hD xk
   rw [if_pos (by rfl)];unfold Oper.wp;go_simp
   exact ⟨upd f 2 (yp w 1),by simp [upd],zf (H xy) (H HD) (by decide) rfl⟩
  | 3,N =>
   obtain rfl:=yb N
   have g:f 2 = yp w 1:=hD 2 (ye D 2 rfl)
   clear D hD xk
   rw [if_pos (by rfl)];unfold Oper.wp;go_simp
   exact ⟨upd f 3 (.slice (some (U b off)) l.length cap),by simp [upd,g],zf (H xy) (H HD) (by decide) rfl⟩
  | 4,N =>
   obtain rfl:=yb N
   clear D hD xk
   rw [if_pos (by rfl)];unfold Oper.wp;go_simp
   exact ⟨upd f 4 (.agg #[I next,.slice (some (U b off)) l.length cap]),by simp [upd],zf (H xy) (H HD) (by decide) rfl⟩
  | 5,N =>
   obtain rfl:=yb N
   clear D hD xk
   rw [if_pos (by rfl)];unfold Oper.wp;go_simp
   exact ⟨upd f 5 (J (w.heap.size + 1) 0),by simp [upd],zf (H xy) (H HD) (by decide) rfl⟩
  | 6,N =>
   obtain rfl:=yb N
   have g:f 5 = J (w.heap.size + 1) 0:=hD 5 (ye D 5 rfl)
   clear D hD xk
   rw [if_pos (by rfl)];unfold Oper.wp;go_simp
   exact ⟨upd f 6 (I id),by simp [upd,g],zf (H xy) (H HD) (by decide) rfl⟩
  | 7,N =>
   obtain rfl:=yb N
   have g4:f 4 = .agg #[I next,.slice (some (U b off)) l.length cap]:=hD 4 (ye D 4 rfl)
   have g6:f 6 = I id:=hD 6 (ye D 6 rfl)
   clear D hD xk
   rw [if_pos (by rfl)];unfold Oper.wp;go_simp
   refine (ef next _ l id xn (H uR)).mono ?_
   rw [H jt]
   rintro e w4 ⟨rfl,xw⟩
   exact ⟨upd f 7 (I k),by simp [upd,g4,g6],bm (H xy) (H HD) xw (by decide) (fun j v h=>h) rfl⟩
  | 8,N =>
   obtain rfl:=yb N
   have g3:f 3 = .slice (some (U b off)) l.length cap:=hD 3 (ye D 3 rfl)
   have g7:f 7 = I k:=hD 7 (ye D 7 rfl)
   clear D hD xk
   rw [if_pos (by rfl)];unfold Oper.wp;go_simp
   exact ⟨upd f 8 (J b (off + k * 6)),by simp [upd,g3,g7],zf (H xy) (H HD) (by decide) rfl⟩
  | 9,N =>
   obtain rfl:=yb N
   have g:f 8 = J b (off + k * 6):=hD 8 (ye D 8 rfl)
   clear D hD xk
   rw [if_pos (by rfl)];unfold Oper.wp;go_simp
   exact ⟨upd f 9 (J b (off + k * 6 + 3)),by simp [upd,g],zf (H xy) (H HD) (by decide) rfl⟩
  | 10,N =>
   obtain rfl:=yb N
   have g:f 9 = J b (off + k * 6 + 3):=hD 9 (ye D 9 rfl)
   clear D hD xk
   rw [if_pos (by rfl)];unfold Oper.wp;go_simp
   exact ⟨upd f 10 (I o.left),by simp [upd,g],zf (H xy) (H HD) (by decide) rfl⟩
  | 11,N =>
   obtain rfl:=yb N
   have g1:f 1 = I qty:=hD 1 (ye D 1 rfl)
   have g:f 10 = I o.left:=hD 10 (ye D 10 rfl)
   clear D hD xk
   rw [if_pos (by rfl)];unfold Oper.wp;go_simp
   exact ⟨upd f 11 (.bool (decide (o.left ≤ qty))),by simp [upd,g,g1],zf (H xy) (H HD) (by decide) rfl⟩
  | n + 12,N=>simp at N
end Go.Proofs.YtnphbkgfjanmgaaGreatDoor
