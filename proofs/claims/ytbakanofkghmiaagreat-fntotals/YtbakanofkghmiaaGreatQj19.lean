/-
  Whether an order of an Id is there, and by how much it may be reduced, by the program: proved by walking both functions.
-/
import Derived.Test.YtbakanofkghmiaaGreatQj18
set_option linter.unusedVariables false
set_option maxHeartbeats 6400000
set_option maxRecDepth 100000
namespace Go.Proofs.YtbakanofkghmiaaGreat
open Go.RowKit
def idR (l:List Od) (id:Int):Int:=if plc l id < 0 then 9 else 0
def redR (l:List Od) (id qty:Int):Int:=if betB qty 1 1000000 = true then (if plc l id < 0 then 9 else match l[(plc l id).toNat]? with | some o=>if o.left ≤ qty then 10 else 0 | none=>0) else 7
theorem dt (l:List Od) (id:Int):plc l id = -1 ∨ ∃ (k:Nat) (o:Od),plc l id = k∧l[k]? = some o:=by
 rcases plcF_spec id l 0 with ⟨Q,_⟩ | ⟨i,o,Q,N,_⟩
 ·exact .inl Q
 ·exact .inr ⟨i,o,by rw [plc,Q]; congr 1; omega,N⟩
theorem idRefusal_any (next:Int) (v:Value) (l:List Od) (id:Int) (w:World) (hr:RdR Od.vs 6 w v l) :
  Calls Tryz.prog 109 #[.agg #[H next,v],H id] w fun e w'=>e = ym (H (idR l id))∧yn w w':=by
 have HR:=Y hr
 obtain ⟨a,A,rfl,xG,hc⟩:=hr
 have uO:Hid (yn w (w.alloc (E #[H next,.slice a l.length A] 28))):=eE _ _
 clear hc
 go_enter Tryz.func109,Tryz.ntmps109
 go_wp2_with fail
 refine (dJ next _ l id _ (zn (U HR) (U uO) tg)).mono ?_
 rintro e w3 ⟨rfl,um⟩
 have xQ:=Y (eH (U uO) um)
 clear um
 by_cases hp:plc l id < 0
 ·have HK:Hid (idR l id = 9):=if_pos hp
  go_wp2_with fail
  go_ret
  exact ⟨zt (U HK).symm,U xQ⟩
 ·have HK:Hid (idR l id = 0):=if_neg hp
  go_wp2_with fail
  go_ret
  exact ⟨zt (U HK).symm,U xQ⟩
def DZ (b2 b3 b off A k:Nat) (next id qty:Int) (l:List Od) (o:Od) (p:Prop) (V:World):Nat→Value→Prop
 | 0,v=>v = I b3 1
 | 1,v=>v = H qty
 | 2,v=>v = I b2 1
 | 3,v=>v = .slice (some (J b off)) l.length A
 | 4,v=>v = .agg #[H next,.slice (some (J b off)) l.length A]
 | 5,v=>v = I b3 0
 | 6,v=>v = H id
 | 7,v=>v = H k
 | 8,v=>v = I b (off + k * 6)
 | 9,v=>v = I b (off + k * 6 + 3)
 | 10,v=>v = H o.left
 | 11,v=>v = .bool (decide (o.left ≤ qty))
 | _,_=>True
theorem reduceRefusal_any (next:Int) (vb:Value) (l:List Od) (id qty:Int) (w:World) (hr:RdR Od.vs 6 w vb l) :
  Calls Tryz.prog 110 #[.agg #[H next,vb],.agg #[H id,H qty]] w fun e w'=>e = ym (H (redR l id qty))∧yn w w':=by
 have HR:=Y hr
 obtain ⟨a,A,rfl,xG,hc⟩:=hr
 have ko:=Y hc
 clear hc
 have xC:=zh w (E #[H next,.slice a l.length A] 28)
 have ua:((w.alloc (E #[H next,.slice a l.length A] 28)).alloc (E #[H id,H qty] 118)).heap.size = w.heap.size + 1 + 1:=by rw [zh,xC]
 have r1:=zi w [H next,.slice a l.length A] 28
 have r2:=zi (w.alloc (E #[H next,.slice a l.length A] 28)) [H id,H qty] 118
 rw [xC] at r2
 have qe:Below (w.heap.size + 1) (w.alloc (E #[H next,.slice a l.length A] 28)) ((w.alloc (E #[H next,.slice a l.length A] 28)).alloc (E #[H id,H qty] 118)):=(Below.refl _ _).alloc (by rw [xC]; omega) _
 have xE:Hid (yn w ((w.alloc (E #[H next,.slice a l.length A] 28)).alloc (E #[H id,H qty] 118))):=(eE _ _).alloc (by rw [xC]; omega) _
 have HX:Hid (_∧_):=⟨zb r1 qe (by omega),r2⟩
 have uv:Hid (w.heap.size < ((w.alloc (E #[H next,.slice a l.length A] 28)).alloc (E #[H id,H qty] 118)).heap.size∧w.heap.size + 1 < ((w.alloc (E #[H next,.slice a l.length A] 28)).alloc (E #[H id,H qty] 118)).heap.size):=⟨by omega,by omega⟩
 clear xC ua r1 r2 qe
 go_enter Tryz.func110,Tryz.ntmps110
 refine eI fun hR xv=>?_
 go_wp2_with fail
 refine U xv _ _ ?_
 clear xv
 generalize ((w.alloc (E #[H next,.slice a l.length A] 28)).alloc (E #[H id,H qty] 118)) = X2 at xE HX uv ⊢
 have HX:Hid (X2.rangeAt w.heap.size 0 [H next,.slice a l.length A]∧X2.rangeAt (w.heap.size + 1) 0 [H id,H qty]):=U HX
 have k0:X2.cell? (yq w 0) = some (H next):=(U HX).1 0 _ rfl
 have k1:X2.cell? (yq w 1) = some (.slice a l.length A):=(U HX).1 1 _ rfl
 have o0:X2.cell? (J (w.heap.size + 1) 0) = some (H id):=(U HX).2 0 _ rfl
 have o1:X2.cell? (J (w.heap.size + 1) 1) = some (H qty):=(U HX).2 1 _ rfl
 go_wp2_with fail
 refine (isQty_any qty X2).mono ?_
 rintro e w3 ⟨rfl,rfl⟩
 cases hq:betB qty 1 1000000
 ·have HK:Hid (redR l id qty = 7):=by show _ = _; rw [redR,if_neg (by rw [hq]; simp)]
  clear hq
  go_wp2_with fail
  go_ret
  exact ⟨zt (U HK).symm,U xE⟩
 have HQ:=Y hq
 clear hq
 go_wp2_with fail
 refine (idRefusal_any next _ l id w3 (zn (U HR) (U xE) tg)).mono ?_
 rcases dt l id with hp | ⟨k,o,hp,hk⟩
 ·have qq:idR l id = 9:=by rw [idR,if_pos (by omega)]
  rw [qq]
  have HK:Hid (redR l id qty = 9):=by show _ = _; rw [redR,if_pos (U HQ),if_pos (by omega)]
  clear hp qq
  rintro e w4 ⟨rfl,xD⟩
  have ud:=Y (eH (U xE) xD)
  clear xD
  go_wp2_with fail
  go_ret
  exact ⟨zt (U HK).symm,U ud⟩
 have qq:idR l id = 0:=by rw [idR,if_neg (by omega)]
 rw [qq]
 have HPL:=Y hp
 have vJ:Hid (redR l id qty = if o.left ≤ qty then 10 else 0):=by
  show _ = _
  rw [redR,if_pos (U HQ),if_neg (by omega),hp,Int.toNat_natCast,hk]
 have kN:=(yH.1 hk).1
 obtain ⟨b,off,rfl,ou,xp⟩:=U ko (by intro h; rw [h] at kN; simp at kN)
 have HCE:=Y (xp k o hk)
 have hkl':(k:Int) < l.length:=by omega
 have hk0:(0:Int) ≤ k:=by omega
 clear hp qq xp hk
 rintro e w4 ⟨rfl,xD⟩
 have ud:=Y (eH (U xE) xD)
 have xO:Hid (w4.rangeAt w.heap.size 0 [H next,.slice (some (J b off)) l.length A]∧w4.rangeAt (w.heap.size + 1) 0 [H id,H qty]∧w.heap.size < w4.heap.size∧w.heap.size + 1 < w4.heap.size):=⟨zb (U HX).1 xD (U uv).1,zb (U HX).2 xD (U uv).2,yK (U uv).1 xD.size,yK (U uv).2 xD.size⟩
 clear xD k0 k1 o0 o1
 go_wp2_with fail
 refine zj (RG w4 (fun f=>{ tmps:=#[.agg #[H next,.slice (some (J b off)) l.length A],.agg #[H id,H qty],yp w 0,I (w.heap.size + 1) 0,H 0,H 0,I (w.heap.size + 1) 1,H qty,.bool true,.bool false,.agg #[H next,.slice (some (J b off)) l.length A],I (w.heap.size + 1) 0,H id,H 0,H 0,.bool false,M,f 0,f 1,f 2,f 3,f 4,f 5,f 6,f 7,f 8,f 9,f 10,f 11],defers:=[] }) 99 (DZ w.heap.size (w.heap.size + 1) b off A k next id qty l o)) (by kernel_rfl) ?_ ?_ ?_
 ·exact ⟨fun _=>M,rfl,⟨rfl,rfl,rfl,Nat.le_refl _,fun _ _=>rfl⟩,fun j R=>by rw [yJ] at R; split at R <;> simp at R⟩
 ·rintro x xn V ⟨f,rfl,xm,hD⟩ hx xN
  have xq:=zR xN hx (by kernel_rfl)
  have e11:f 11 = .bool (decide (o.left ≤ qty)):=hD 11 (xq 11 (by simp))
  have xw:=Y (eH (U ud) xm)
  simp only [e11]
  clear hD xq e11 xN hx xm
  by_cases jI:o.left ≤ qty
  ·have HK:Hid (redR l id qty = 10):=(U vJ).trans (if_pos jI)
   go_wp2_with fail
   go_ret
   exact ⟨zt (U HK).symm,U xw⟩
  ·have HK:Hid (redR l id qty = 0):=(U vJ).trans (if_neg jI)
   go_wp2_with fail
   go_ret
   exact ⟨zt (U HK).symm,U xw⟩
 ·rintro x xn V i op ⟨f,rfl,xm,hD⟩ xp hx Z xz D
  clear xp
  have xw:=Y xm
  have HD:=Y hD
  have z0:=zb (U xO).1 xm (U xO).2.2.1 0 _ rfl
  have z1:=zb (U xO).1 xm (U xO).2.2.1 1 _ rfl
  have u0:=zb (U xO).2.1 xm (U xO).2.2.2 0 _ rfl
  have u1:=zb (U xO).2.1 xm (U xO).2.2.2 1 _ rfl
  rw [Nat.zero_add] at z0 z1 u0 u1
  have ji:=Y (zn (U HR) (eH (U ud) xm) tg)
  obtain ⟨-,-,-,y3,-⟩:=zF (zb (U HCE) (eH (U ud) xm) ou)
  match i,Z with
  | 0,Z =>
   obtain rfl:=ya Z
   clear D hD xm
   rw [if_pos (by rfl)];unfold Oper.wp;go_simp
   exact ⟨upd f 0 (I (w.heap.size + 1) 1),by simp [upd],zf (U xw) (U HD) (by decide) rfl⟩
  | 1,Z =>
   obtain rfl:=ya Z
   have g:f 0 = I (w.heap.size + 1) 1:=hD 0 (ye D 0 rfl)
   clear D hD xm
   rw [if_pos (by rfl)];unfold Oper.wp;go_simp
   exact ⟨upd f 1 (H qty),by simp [upd,g],zf (U xw) (U HD) (by decide) rfl⟩
  | 2,Z =>
   obtain rfl:=ya Z
   clear D hD xm
   rw [if_pos (by rfl)];unfold Oper.wp;go_simp
   exact ⟨upd f 2 (yp w 1),by simp [upd],zf (U xw) (U HD) (by decide) rfl⟩
  | 3,Z =>
   obtain rfl:=ya Z
   have g:f 2 = yp w 1:=hD 2 (ye D 2 rfl)
   clear D hD xm
   rw [if_pos (by rfl)];unfold Oper.wp;go_simp
   exact ⟨upd f 3 (.slice (some (J b off)) l.length A),by simp [upd,g],zf (U xw) (U HD) (by decide) rfl⟩
  | 4,Z =>
   obtain rfl:=ya Z
   clear D hD xm
   rw [if_pos (by rfl)];unfold Oper.wp;go_simp
   exact ⟨upd f 4 (.agg #[H next,.slice (some (J b off)) l.length A]),by simp [upd],zf (U xw) (U HD) (by decide) rfl⟩
  | 5,Z =>
   obtain rfl:=ya Z
   clear D hD xm
   rw [if_pos (by rfl)];unfold Oper.wp;go_simp
   exact ⟨upd f 5 (I (w.heap.size + 1) 0),by simp [upd],zf (U xw) (U HD) (by decide) rfl⟩
  | 6,Z =>
   obtain rfl:=ya Z
   have g:f 5 = I (w.heap.size + 1) 0:=hD 5 (ye D 5 rfl)
   clear D hD xm
   rw [if_pos (by rfl)];unfold Oper.wp;go_simp
   exact ⟨upd f 6 (H id),by simp [upd,g],zf (U xw) (U HD) (by decide) rfl⟩
  | 7,Z =>
   obtain rfl:=ya Z
   have g4:f 4 = .agg #[H next,.slice (some (J b off)) l.length A]:=hD 4 (ye D 4 rfl)
   have g6:f 6 = H id:=hD 6 (ye D 6 rfl)
   clear D hD xm
   rw [if_pos (by rfl)];unfold Oper.wp;go_simp
   refine (dJ next _ l id V (U ji)).mono ?_
   rw [U HPL]
   rintro e w4 ⟨rfl,xD⟩
   exact ⟨upd f 7 (H k),by simp [upd,g4,g6],bc (U xw) (U HD) xD (by decide) (fun j v h=>h) rfl⟩
  | 8,Z =>
   obtain rfl:=ya Z
   have g3:f 3 = .slice (some (J b off)) l.length A:=hD 3 (ye D 3 rfl)
   have g7:f 7 = H k:=hD 7 (ye D 7 rfl)
   clear D hD xm
   rw [if_pos (by rfl)];unfold Oper.wp;go_simp
   exact ⟨upd f 8 (I b (off + k * 6)),by simp [upd,g3,g7],zf (U xw) (U HD) (by decide) rfl⟩
  | 9,Z =>
   obtain rfl:=ya Z
   have g:f 8 = I b (off + k * 6):=hD 8 (ye D 8 rfl)
   clear D hD xm
   rw [if_pos (by rfl)];unfold Oper.wp;go_simp
   exact ⟨upd f 9 (I b (off + k * 6 + 3)),by simp [upd,g],zf (U xw) (U HD) (by decide) rfl⟩
  | 10,Z =>
   obtain rfl:=ya Z
   have g:f 9 = I b (off + k * 6 + 3):=hD 9 (ye D 9 rfl)
   clear D hD xm
   rw [if_pos (by rfl)];unfold Oper.wp;go_simp
   exact ⟨upd f 10 (H o.left),by simp [upd,g],zf (U xw) (U HD) (by decide) rfl⟩
  | 11,Z =>
   obtain rfl:=ya Z
   have g1:f 1 = H qty:=hD 1 (ye D 1 rfl)
   have g:f 10 = H o.left:=hD 10 (ye D 10 rfl)
   clear D hD xm
   rw [if_pos (by rfl)];unfold Oper.wp;go_simp
   exact ⟨upd f 11 (.bool (decide (o.left ≤ qty))),by simp [upd,g,g1],zf (U xw) (U HD) (by decide) rfl⟩
  | n + 12,Z=>simp at Z
end Go.Proofs.YtbakanofkghmiaaGreat
