/-
  Whether an order of an Id is there, and by how much it may be reduced, by the program: proved by walking both functions.
-/
import Derived.Test.YtbakanofkghmiaaGreatUj19
set_option linter.unusedVariables false
set_option maxHeartbeats 6400000
set_option maxRecDepth 100000
namespace Go.Proofs.YtbakanofkghmiaaGreat
open Go.RowKit
def idR (l:List Od) (id:Int):Int:=if plc l id < 0 then 9 else 0
def redR (l:List Od) (id qty:Int):Int:=if betB qty 1 1000000 = true then (if plc l id < 0 then 9 else match l[(plc l id).toNat]? with | some o=>if o.left ≤ qty then 10 else 0 | none=>0) else 7
theorem dp (l:List Od) (id:Int):plc l id = -1 ∨ ∃ (k:Nat) (o:Od),plc l id = k∧l[k]? = some o:=by
 rcases plcF_spec id l 0 with ⟨G,_⟩ | ⟨i,o,G,D,_⟩
 ·exact .inl G
 ·exact .inr ⟨i,o,by rw [plc,G]; congr 1; omega,D⟩
theorem idRefusal_any (next:Int) (v:Value) (l:List Od) (id:Int) (w:World) (hr:RdR Od.vs 6 w v l) :
  Calls Tryz.prog 109 #[.agg #[H next,v],H id] w fun e w'=>e = yl (H (idR l id))∧ym w w':=by
 have HR:=Y hr
 obtain ⟨a,A,rfl,xC,hc⟩:=hr
 have uB:Hid (ym w (w.alloc (N #[H next,.slice a l.length A] 28))):=eB _ _
 clear hc
 go_enter Tryz.func109,Tryz.ntmps109
 go_wp2_with fail
 refine (dy next _ l id _ (zh (U HR) (U uB) hb)).mono ?_
 rintro e w3 ⟨rfl,uw⟩
 have xP:=Y (eE (U uB) uw)
 clear uw
 by_cases hp:plc l id < 0
 ·have HK:Hid (idR l id = 9):=if_pos hp
  go_wp2_with fail
  go_ret
  exact ⟨zv (U HK).symm,U xP⟩
 ·have HK:Hid (idR l id = 0):=if_neg hp
  go_wp2_with fail
  go_ret
  exact ⟨zv (U HK).symm,U xP⟩
def DZ (b2 b3 b off A k:Nat) (next id qty:Int) (l:List Od) (o:Od) (p:Prop) (V:World):Nat→Value→Prop
 | 0,v=>v = I b3 1
 | 1,v=>v = H qty
 | 2,v=>v = I b2 1
 | 3,v=>v = .slice (some (J b off)) l.length A
 | 4,v=>v = .agg #[H next,.slice (some (J b off)) l.length A]
 | 5,v=>v = I b3 0
 | 6,v=>v = H id
 | 7,v=>v = H k
 | 8,v=>v = I b (off + k * 6)
 | 9,v=>v = I b (off + k * 6 + 3)
 | 10,v=>v = H o.left
 | 11,v=>v = .bool (decide (o.left ≤ qty))
 | _,_=>True
theorem reduceRefusal_any (next:Int) (vb:Value) (l:List Od) (id qty:Int) (w:World) (hr:RdR Od.vs 6 w vb l) :
  Calls Tryz.prog 110 #[.agg #[H next,vb],.agg #[H id,H qty]] w fun e w'=>e = yl (H (redR l id qty))∧ym w w':=by
 have HR:=Y hr
 obtain ⟨a,A,rfl,xC,hc⟩:=hr
 have HCL:=Y hc
 clear hc
 have xz:=zf w (N #[H next,.slice a l.length A] 28)
 have xZ:((w.alloc (N #[H next,.slice a l.length A] 28)).alloc (N #[H id,H qty] 118)).heap.size = w.heap.size + 1 + 1:=by rw [zf,xz]
 have r1:=zg w [H next,.slice a l.length A] 28
 have r2:=zg (w.alloc (N #[H next,.slice a l.length A] 28)) [H id,H qty] 118
 rw [xz] at r2
 have qp:Below (w.heap.size + 1) (w.alloc (N #[H next,.slice a l.length A] 28)) ((w.alloc (N #[H next,.slice a l.length A] 28)).alloc (N #[H id,H qty] 118)):=(Below.refl _ _).alloc (by rw [xz]; omega) _
 have xD:Hid (ym w ((w.alloc (N #[H next,.slice a l.length A] 28)).alloc (N #[H id,H qty] 118))):=(eB _ _).alloc (by rw [xz]; omega) _
 have HX:Hid (_∧_):=⟨zb r1 qp (by omega),r2⟩
 have ut:Hid (w.heap.size < ((w.alloc (N #[H next,.slice a l.length A] 28)).alloc (N #[H id,H qty] 118)).heap.size∧w.heap.size + 1 < ((w.alloc (N #[H next,.slice a l.length A] 28)).alloc (N #[H id,H qty] 118)).heap.size):=⟨by omega,by omega⟩
 clear xz xZ r1 r2 qp
 go_enter Tryz.func110,Tryz.ntmps110
 refine eF fun hj xq=>?_
 go_wp2_with fail
 refine U xq _ _ ?_
 clear xq
 generalize ((w.alloc (N #[H next,.slice a l.length A] 28)).alloc (N #[H id,H qty] 118)) = X2 at xD HX ut ⊢
 have HX:Hid (X2.rangeAt w.heap.size 0 [H next,.slice a l.length A]∧X2.rangeAt (w.heap.size + 1) 0 [H id,H qty]):=U HX
 have k0:X2.cell? (yp w 0) = some (H next):=(U HX).1 0 _ rfl
 have k1:X2.cell? (yp w 1) = some (.slice a l.length A):=(U HX).1 1 _ rfl
 have o0:X2.cell? (J (w.heap.size + 1) 0) = some (H id):=(U HX).2 0 _ rfl
 have o1:X2.cell? (J (w.heap.size + 1) 1) = some (H qty):=(U HX).2 1 _ rfl
 go_wp2_with fail
 refine (isQty_any qty X2).mono ?_
 rintro e w3 ⟨rfl,rfl⟩
 cases hq:betB qty 1 1000000
 ·have HK:Hid (redR l id qty = 7):=by show _ = _; rw [redR,if_neg (by rw [hq]; simp)]
  clear hq
  go_wp2_with fail
  go_ret
  exact ⟨zv (U HK).symm,U xD⟩
 have HQ:=Y hq
 clear hq
 go_wp2_with fail
 refine (idRefusal_any next _ l id w3 (zh (U HR) (U xD) hb)).mono ?_
 rcases dp l id with hp | ⟨k,o,hp,hk⟩
 ·have qG:idR l id = 9:=by rw [idR,if_pos (by omega)]
  rw [qG]
  have HK:Hid (redR l id qty = 9):=by show _ = _; rw [redR,if_pos (U HQ),if_pos (by omega)]
  clear hp qG
  rintro e w4 ⟨rfl,xy⟩
  have xY:=Y (eE (U xD) xy)
  clear xy
  go_wp2_with fail
  go_ret
  exact ⟨zv (U HK).symm,U xY⟩
 have qG:idR l id = 0:=by rw [idR,if_neg (by omega)]
 rw [qG]
 have HPL:=Y hp
 have vH:Hid (redR l id qty = if o.left ≤ qty then 10 else 0):=by
  show _ = _
  rw [redR,if_pos (U HQ),if_neg (by omega),hp,Int.toNat_natCast,hk]
 have kg:=(yE.1 hk).1
 obtain ⟨b,off,rfl,hbw,X⟩:=U HCL (by intro h; rw [h] at kg; simp at kg)
 have HCE:=Y (X k o hk)
 have hkl':(k:Int) < l.length:=by omega
 have hk0:(0:Int) ≤ k:=by omega
 clear hp qG X hk
 rintro e w4 ⟨rfl,xy⟩
 have xY:=Y (eE (U xD) xy)
 have xR:Hid (w4.rangeAt w.heap.size 0 [H next,.slice (some (J b off)) l.length A]∧w4.rangeAt (w.heap.size + 1) 0 [H id,H qty]∧w.heap.size < w4.heap.size∧w.heap.size + 1 < w4.heap.size):=⟨zb (U HX).1 xy (U ut).1,zb (U HX).2 xy (U ut).2,yH (U ut).1 xy.size,yH (U ut).2 xy.size⟩
 clear xy k0 k1 o0 o1
 go_wp2_with fail
 refine zi (RG w4 (fun f=>{ tmps:=#[.agg #[H next,.slice (some (J b off)) l.length A],.agg #[H id,H qty],yn w 0,I (w.heap.size + 1) 0,H 0,H 0,I (w.heap.size + 1) 1,H qty,.bool true,.bool false,.agg #[H next,.slice (some (J b off)) l.length A],I (w.heap.size + 1) 0,H id,H 0,H 0,.bool false,M,f 0,f 1,f 2,f 3,f 4,f 5,f 6,f 7,f 8,f 9,f 10,f 11],defers:=[] }) 99 (DZ w.heap.size (w.heap.size + 1) b off A k next id qty l o)) (by kernel_rfl) ?_ ?_ ?_
 ·exact ⟨fun _=>M,rfl,⟨rfl,rfl,rfl,Nat.le_refl _,fun _ _=>rfl⟩,fun j K=>by rw [yG] at K; split at K <;> simp at K⟩
 ·rintro x xj V ⟨f,rfl,xh,hD⟩ hx xL
  have xn:=zO xL hx (by kernel_rfl)
  have e11:f 11 = .bool (decide (o.left ≤ qty)):=hD 11 (xn 11 (by simp))
  have xr:=Y (eE (U xY) xh)
  simp only [e11]
  clear hD xn e11 xL hx xh
  by_cases jb:o.left ≤ qty
  ·have HK:Hid (redR l id qty = 10):=(U vH).trans (if_pos jb)
   go_wp2_with fail
   go_ret
   exact ⟨zv (U HK).symm,U xr⟩
  ·have HK:Hid (redR l id qty = 0):=(U vH).trans (if_neg jb)
   go_wp2_with fail
   go_ret
   exact ⟨zv (U HK).symm,U xr⟩
 ·rintro x xj V i op ⟨f,rfl,xh,hD⟩ X hx Z xu Q
  clear X
  have xr:=Y xh
  have HD:=Y hD
  have z0:=zb (U xR).1 xh (U xR).2.2.1 0 _ rfl
  have z1:=zb (U xR).1 xh (U xR).2.2.1 1 _ rfl
  have u0:=zb (U xR).2.1 xh (U xR).2.2.2 0 _ rfl
  have u1:=zb (U xR).2.1 xh (U xR).2.2.2 1 _ rfl
  rw [Nat.zero_add] at z0 z1 u0 u1
  have qM:=Y (zh (U HR) (eE (U xY) xh) hb)
  obtain ⟨-,-,-,y3,-⟩:=zz (zb (U HCE) (eE (U xY) xh) hbw)
  match i,Z with
  | 0,Z =>
   obtain rfl:=ya Z
   clear Q hD xh
   rw [if_pos (by rfl)];unfold Oper.wp;go_simp
   exact ⟨upd f 0 (I (w.heap.size + 1) 1),by simp [upd],zd (U xr) (U HD) (by decide) rfl⟩
  | 1,Z =>
   obtain rfl:=ya Z
   have g:f 0 = I (w.heap.size + 1) 1:=hD 0 (yd Q 0 rfl)
   clear Q hD xh
   rw [if_pos (by rfl)];unfold Oper.wp;go_simp
   exact ⟨upd f 1 (H qty),by simp [upd,g],zd (U xr) (U HD) (by decide) rfl⟩
  | 2,Z =>
   obtain rfl:=ya Z
   clear Q hD xh
   rw [if_pos (by rfl)];unfold Oper.wp;go_simp
   exact ⟨upd f 2 (yn w 1),by simp [upd],zd (U xr) (U HD) (by decide) rfl⟩
  | 3,Z =>
   obtain rfl:=ya Z
   have g:f 2 = yn w 1:=hD 2 (yd Q 2 rfl)
   clear Q hD xh
   rw [if_pos (by rfl)];unfold Oper.wp;go_simp
   exact ⟨upd f 3 (.slice (some (J b off)) l.length A),by simp [upd,g],zd (U xr) (U HD) (by decide) rfl⟩
  | 4,Z =>
   obtain rfl:=ya Z
   clear Q hD xh
   rw [if_pos (by rfl)];unfold Oper.wp;go_simp
   exact ⟨upd f 4 (.agg #[H next,.slice (some (J b off)) l.length A]),by simp [upd],zd (U xr) (U HD) (by decide) rfl⟩
  | 5,Z =>
   obtain rfl:=ya Z
   clear Q hD xh
   rw [if_pos (by rfl)];unfold Oper.wp;go_simp
   exact ⟨upd f 5 (I (w.heap.size + 1) 0),by simp [upd],zd (U xr) (U HD) (by decide) rfl⟩
  | 6,Z =>
   obtain rfl:=ya Z
   have g:f 5 = I (w.heap.size + 1) 0:=hD 5 (yd Q 5 rfl)
   clear Q hD xh
   rw [if_pos (by rfl)];unfold Oper.wp;go_simp
   exact ⟨upd f 6 (H id),by simp [upd,g],zd (U xr) (U HD) (by decide) rfl⟩
  | 7,Z =>
   obtain rfl:=ya Z
   have g4:f 4 = .agg #[H next,.slice (some (J b off)) l.length A]:=hD 4 (yd Q 4 rfl)
   have g6:f 6 = H id:=hD 6 (yd Q 6 rfl)
   clear Q hD xh
   rw [if_pos (by rfl)];unfold Oper.wp;go_simp
   refine (dy next _ l id V (U qM)).mono ?_
   rw [U HPL]
   rintro e w4 ⟨rfl,xy⟩
   exact ⟨upd f 7 (H k),by simp [upd,g4,g6],aT (U xr) (U HD) xy (by decide) (fun j v h=>h) rfl⟩
  | 8,Z =>
   obtain rfl:=ya Z
   have g3:f 3 = .slice (some (J b off)) l.length A:=hD 3 (yd Q 3 rfl)
   have g7:f 7 = H k:=hD 7 (yd Q 7 rfl)
   clear Q hD xh
   rw [if_pos (by rfl)];unfold Oper.wp;go_simp
   exact ⟨upd f 8 (I b (off + k * 6)),by simp [upd,g3,g7],zd (U xr) (U HD) (by decide) rfl⟩
  | 9,Z =>
   obtain rfl:=ya Z
   have g:f 8 = I b (off + k * 6):=hD 8 (yd Q 8 rfl)
   clear Q hD xh
   rw [if_pos (by rfl)];unfold Oper.wp;go_simp
   exact ⟨upd f 9 (I b (off + k * 6 + 3)),by simp [upd,g],zd (U xr) (U HD) (by decide) rfl⟩
  | 10,Z =>
   obtain rfl:=ya Z
   have g:f 9 = I b (off + k * 6 + 3):=hD 9 (yd Q 9 rfl)
   clear Q hD xh
   rw [if_pos (by rfl)];unfold Oper.wp;go_simp
   exact ⟨upd f 10 (H o.left),by simp [upd,g],zd (U xr) (U HD) (by decide) rfl⟩
  | 11,Z =>
   obtain rfl:=ya Z
   have g1:f 1 = H qty:=hD 1 (yd Q 1 rfl)
   have g:f 10 = H o.left:=hD 10 (yd Q 10 rfl)
   clear Q hD xh
   rw [if_pos (by rfl)];unfold Oper.wp;go_simp
   exact ⟨upd f 11 (.bool (decide (o.left ≤ qty))),by simp [upd,g,g1],zd (U xr) (U HD) (by decide) rfl⟩
  | n + 12,Z=>simp at Z
end Go.Proofs.YtbakanofkghmiaaGreat
