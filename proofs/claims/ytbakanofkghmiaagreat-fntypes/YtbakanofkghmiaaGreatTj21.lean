/-
  The reasons of a new order, by the program: proved by walking the function.
-/
import Derived.Test.YtbakanofkghmiaaGreatTj20
set_option linter.unusedVariables false
set_option maxHeartbeats 6400000
set_option maxRecDepth 100000
namespace Go.Proofs.YtbakanofkghmiaaGreat
open Go.RowKit
def lifW (c:Cm):Bool:=!betB c.l 0 1 || (decide (c.l = 1) && !pP c.t)
def newR (next:Int) (l:List Od) (c:Cm):Int :=
 if betB c.s 1 2 = false then 3 else if betB c.t 1 5 = false then 4 else if lifW c = true then 5 else if prcB c = false then 6 else if betB c.q 1 1000000 = false then 7 else if tagB c.g = false then 8 else matR next c (matL c next 21 l c.q [])
theorem newRefusal_any (next:Int) (vb:Value) (l:List Od) (c:Cm) (w:World) (hr:RdR Od.vs 6 w vb l) (hs:SlOk vb) (hg:GoodL l) (h0:0 ≤ next) (Q:next ≤ 1000000) (ht:c.g.size ≤ maxLen) :
  Calls Tryz.prog 108 #[.agg #[H next,vb],noV c] w fun e w'=>e = yl (H (newR next l c))∧ym w w':=by
 have HR:=Y hr
 have HG:=Y hg
 have vH:=Y hs
 have uB:Hid (0 ≤ next∧next ≤ 1000000):=⟨h0,Q⟩
 have qF:=Y ht
 obtain ⟨a,E,rfl,xB,hc⟩:=hr
 clear hc hg hs h0 Q ht xB
 generalize vG:newR next l c = res
 have HN0:Hid (_ = res):=vG
 clear vG
 obtain ⟨kk,s,ty,li,O,ii,pr,K⟩:=c
 unfold newR at HN0
 unfold noV
 simp only at *
 have xy:=zf w (D #[H next,.slice a l.length E] 28)
 have xY:((w.alloc (D #[H next,.slice a l.length E] 28)).alloc (D #[H s,H ty,H li,H O,yi pr,yj K] 112)).heap.size = w.heap.size + 1 + 1:=by rw [zf,xy]
 have r1:=zg w [H next,.slice a l.length E] 28
 have r2:=zg (w.alloc (D #[H next,.slice a l.length E] 28)) [H s,H ty,H li,H O,yi pr,yj K] 112
 rw [xy] at r2
 have qg:Below (w.heap.size + 1) (w.alloc (D #[H next,.slice a l.length E] 28)) ((w.alloc (D #[H next,.slice a l.length E] 28)).alloc (D #[H s,H ty,H li,H O,yi pr,yj K] 112)):=(Below.refl _ _).alloc (by rw [xy]; omega) _
 have xC:Hid (ym w ((w.alloc (D #[H next,.slice a l.length E] 28)).alloc (D #[H s,H ty,H li,H O,yi pr,yj K] 112))):=(dm _ _).alloc (by rw [xy]; omega) _
 have HX:Hid (_∧_):=⟨zb r1 qg (by omega),r2⟩
 have ur:Hid (w.heap.size < ((w.alloc (D #[H next,.slice a l.length E] 28)).alloc (D #[H s,H ty,H li,H O,yi pr,yj K] 112)).heap.size∧w.heap.size + 1 < ((w.alloc (D #[H next,.slice a l.length E] 28)).alloc (D #[H s,H ty,H li,H O,yi pr,yj K] 112)).heap.size):=⟨by omega,by omega⟩
 clear xy xY r1 r2 qg
 go_enter Tryz.func108,Tryz.ntmps108
 refine ds fun tg xq=>?_
 go_wp2_with fail
 refine U xq _ _ ?_
 clear xq
 generalize ((w.alloc (D #[H next,.slice a l.length E] 28)).alloc (D #[H s,H ty,H li,H O,yi pr,yj K] 112)) = X2 at xC HX ur ⊢
 have HX:Hid (X2.rangeAt w.heap.size 0 [H next,.slice a l.length E]∧X2.rangeAt (w.heap.size + 1) 0 [H s,H ty,H li,H O,yi pr,yj K]):=U HX
 have k0:=zb (U HX).1 (Below.refl _ _) (U ur).1 0 _ rfl
 have k1:=zb (U HX).1 (Below.refl _ _) (U ur).1 1 _ rfl
 have o0:=zb (U HX).2 (Below.refl _ _) (U ur).2 0 _ rfl
 have o1:=zb (U HX).2 (Below.refl _ _) (U ur).2 1 _ rfl
 have o2:=zb (U HX).2 (Below.refl _ _) (U ur).2 2 _ rfl
 have o3:=zb (U HX).2 (Below.refl _ _) (U ur).2 3 _ rfl
 have o4:=zb (U HX).2 (Below.refl _ _) (U ur).2 4 _ rfl
 have o5:=zb (U HX).2 (Below.refl _ _) (U ur).2 5 _ rfl
 simp only [Nat.zero_add] at k0 k1 o0 o1 o2 o3 o4 o5
 go_wp2_with fail
 refine (isSide_any s X2).mono ?_
 rintro e w' ⟨rfl,rfl⟩
 cases h3:betB s 1 2
 ·have HK:Hid (3 = res):=by have:=U HN0; rw [if_pos h3] at this; exact this
  clear h3
  go_wp2_with fail
  go_ret
  exact ⟨zq (U HK),U xC⟩
 have HN1:Hid (_ = res):=(if_neg (fun h=>by rw [h3] at h; cases h)).symm.trans (U HN0)
 clear h3 HN0
 go_wp2_with fail
 refine (isType_any ty w').mono ?_
 rintro e w1 ⟨rfl,rfl⟩
 cases h4:betB ty 1 5
 ·have HK:Hid (4 = res):=by have:=U HN1; rw [if_pos h4] at this; exact this
  clear h4
  go_wp2_with fail
  go_ret
  exact ⟨zq (U HK),U xC⟩
 have HN2:Hid (_ = res):=(if_neg (fun h=>by rw [h4] at h; cases h)).symm.trans (U HN1)
 clear h4 HN1
 go_wp2_with fail
 refine (isLife_any li w1).mono ?_
 rintro e w2 ⟨rfl,rfl⟩
 cases h5:betB li 0 1
 ·have HK:Hid (5 = res):=by have:=U HN2; rw [if_pos (by simp [lifW,h5])] at this; exact this
  clear h5
  go_wp2_with fail
  go_ret
  exact ⟨zq (U HK),U xC⟩
 by_cases hli:li = 1
 ·subst hli
  go_wp2_with fail
  refine (cO ⟨kk,s,ty,1,O,ii,pr,K⟩ w2).mono ?_
  rintro e w3 ⟨rfl,uC⟩
  dsimp only
  have xr:=Y uC
  clear uC k0 k1 o0 o1 o2 o3 o4 o5
  cases h6:pP ty
  ·have HK:Hid (5 = res):=by have:=U HN2; rw [if_pos (by simp [lifW,h6])] at this; exact this
   clear h6 h5
   go_wp2_with fail
   go_ret
   exact ⟨zq (U HK),(U xC).trans ((U xr).mono (U xC).size)⟩
  have oR:Hid (_ = res):=(if_neg (by simp [lifW,h5,h6])).symm.trans (U HN2)
  clear h5 h6 HN2
  have k0:=zb (U HX).1 (U xr) (U ur).1 0 _ rfl
  have k1:=zb (U HX).1 (U xr) (U ur).1 1 _ rfl
  have o0:=zb (U HX).2 (U xr) (U ur).2 0 _ rfl
  have o1:=zb (U HX).2 (U xr) (U ur).2 1 _ rfl
  have o2:=zb (U HX).2 (U xr) (U ur).2 2 _ rfl
  have o3:=zb (U HX).2 (U xr) (U ur).2 3 _ rfl
  have o4:=zb (U HX).2 (U xr) (U ur).2 4 _ rfl
  have o5:=zb (U HX).2 (U xr) (U ur).2 5 _ rfl
  simp only [Nat.zero_add] at k0 k1 o0 o1 o2 o3 o4 o5
  go_wp2_with fail
  refine (hasPrice_any ⟨kk,s,ty,1,O,ii,pr,K⟩ w3).mono ?_
  rintro e w4 ⟨rfl,xz⟩
  have uk:=Y (dq (U xr) xz)
  clear xz k0 k1 o0 o1 o2 o3 o4 o5 xr
  cases h7:prcB ⟨kk,s,ty,1,O,ii,pr,K⟩
  ·have HK:Hid (6 = res):=by have:=U oR; rw [if_pos h7] at this; exact this
   clear h7
   go_wp2_with fail
   go_ret
   exact ⟨zq (U HK),(U xC).trans ((U uk).mono (U xC).size)⟩
  have HN4:Hid (_ = res):=(if_neg (fun h=>by rw [h7] at h; cases h)).symm.trans (U oR)
  clear h7 oR
  have k0:=zb (U HX).1 (U uk) (U ur).1 0 _ rfl
  have k1:=zb (U HX).1 (U uk) (U ur).1 1 _ rfl
  have o0:=zb (U HX).2 (U uk) (U ur).2 0 _ rfl
  have o1:=zb (U HX).2 (U uk) (U ur).2 1 _ rfl
  have o2:=zb (U HX).2 (U uk) (U ur).2 2 _ rfl
  have o3:=zb (U HX).2 (U uk) (U ur).2 3 _ rfl
  have o4:=zb (U HX).2 (U uk) (U ur).2 4 _ rfl
  have o5:=zb (U HX).2 (U uk) (U ur).2 5 _ rfl
  simp only [Nat.zero_add] at k0 k1 o0 o1 o2 o3 o4 o5
  go_wp2_with fail
  refine (isQty_any O w4).mono ?_
  rintro e w5 ⟨rfl,rfl⟩
  cases h8:betB O 1 1000000
  ·have HK:Hid (7 = res):=by have:=U HN4; rw [if_pos h8] at this; exact this
   clear h8
   go_wp2_with fail
   go_ret
   exact ⟨zq (U HK),(U xC).trans ((U uk).mono (U xC).size)⟩
  have HN5:Hid (_ = res):=(if_neg (fun h=>by rw [h8] at h; cases h)).symm.trans (U HN4)
  have HQB:Hid (0 ≤ O∧O ≤ 1000000):=by
   simp only [betB,xc,xd] at h8
   exact ⟨by omega,h8.2⟩
  clear h8 HN4
  go_wp2_with fail
  refine (isTag_any K w5 (U qF)).mono ?_
  rintro e w6 ⟨rfl,rfl⟩
  cases h9:tagB K
  ·have HK:Hid (8 = res):=by have:=U HN5; rw [if_pos h9] at this; exact this
   clear h9
   go_wp2_with fail
   go_ret
   exact ⟨zq (U HK),(U xC).trans ((U uk).mono (U xC).size)⟩
  have HN6:Hid (_ = res):=(if_neg (fun h=>by rw [h9] at h; cases h)).symm.trans (U HN5)
  clear h9 HN5
  go_wp2_with fail
  refine (dj next _ l ⟨kk,s,ty,1,O,ii,pr,K⟩ w6 (zl (U HR) ((U xC).trans ((U uk).mono (U xC).size)) qt) (U vH) (U HG) (U uB).1 (U uB).2 (U HQB).1 (U HQB).2).mono ?_
  dsimp only
  rw [U HN6]
  rintro e w7 ⟨rfl,jb⟩
  have kw:=Y (((U xC).trans ((U uk).mono (U xC).size)).trans (jb.mono ((U xC).trans ((U uk).mono (U xC).size)).size))
  clear jb
  go_wp2_with fail
  go_ret
  exact ⟨rfl,U kw⟩
 have hlb:(li == 1) = false:=by rw [xb]; exact hli
 have oR:Hid (_ = res):=(if_neg (by simp [lifW,h5,hli])).symm.trans (U HN2)
 have xr:Hid (ym w2 w2):=Below.refl _ _
 clear h5 hli HN2
 go_wp2_with fail
 refine (hasPrice_any ⟨kk,s,ty,li,O,ii,pr,K⟩ w2).mono ?_
 rintro e w4 ⟨rfl,xz⟩
 have uk:=Y (dq (U xr) xz)
 clear xz k0 k1 o0 o1 o2 o3 o4 o5 xr
 cases h7:prcB ⟨kk,s,ty,li,O,ii,pr,K⟩
 ·have HK:Hid (6 = res):=by have:=U oR; rw [if_pos h7] at this; exact this
  clear h7
  go_wp2_with fail
  go_ret
  exact ⟨zq (U HK),(U xC).trans ((U uk).mono (U xC).size)⟩
 have HN4:Hid (_ = res):=(if_neg (fun h=>by rw [h7] at h; cases h)).symm.trans (U oR)
 clear h7 oR
 have k0:=zb (U HX).1 (U uk) (U ur).1 0 _ rfl
 have k1:=zb (U HX).1 (U uk) (U ur).1 1 _ rfl
 have o0:=zb (U HX).2 (U uk) (U ur).2 0 _ rfl
 have o1:=zb (U HX).2 (U uk) (U ur).2 1 _ rfl
 have o2:=zb (U HX).2 (U uk) (U ur).2 2 _ rfl
 have o3:=zb (U HX).2 (U uk) (U ur).2 3 _ rfl
 have o4:=zb (U HX).2 (U uk) (U ur).2 4 _ rfl
 have o5:=zb (U HX).2 (U uk) (U ur).2 5 _ rfl
 simp only [Nat.zero_add] at k0 k1 o0 o1 o2 o3 o4 o5
 go_wp2_with fail
 refine (isQty_any O w4).mono ?_
 rintro e w5 ⟨rfl,rfl⟩
 cases h8:betB O 1 1000000
 ·have HK:Hid (7 = res):=by have:=U HN4; rw [if_pos h8] at this; exact this
  clear h8
  go_wp2_with fail
  go_ret
  exact ⟨zq (U HK),(U xC).trans ((U uk).mono (U xC).size)⟩
 have HN5:Hid (_ = res):=(if_neg (fun h=>by rw [h8] at h; cases h)).symm.trans (U HN4)
 have HQB:Hid (0 ≤ O∧O ≤ 1000000):=by
  simp only [betB,xc,xd] at h8
  exact ⟨by omega,h8.2⟩
 clear h8 HN4
 go_wp2_with fail
 refine (isTag_any K w5 (U qF)).mono ?_
 rintro e w6 ⟨rfl,rfl⟩
 cases h9:tagB K
 ·have HK:Hid (8 = res):=by have:=U HN5; rw [if_pos h9] at this; exact this
  clear h9
  go_wp2_with fail
  go_ret
  exact ⟨zq (U HK),(U xC).trans ((U uk).mono (U xC).size)⟩
 have HN6:Hid (_ = res):=(if_neg (fun h=>by rw [h9] at h; cases h)).symm.trans (U HN5)
 clear h9 HN5
 go_wp2_with fail
 refine (dj next _ l ⟨kk,s,ty,li,O,ii,pr,K⟩ w6 (zl (U HR) ((U xC).trans ((U uk).mono (U xC).size)) qt) (U vH) (U HG) (U uB).1 (U uB).2 (U HQB).1 (U HQB).2).mono ?_
 dsimp only
 rw [U HN6]
 rintro e w7 ⟨rfl,jb⟩
 have kw:=Y (((U xC).trans ((U uk).mono (U xC).size)).trans (jb.mono ((U xC).trans ((U uk).mono (U xC).size)).size))
 clear jb
 go_wp2_with fail
 go_ret
 exact ⟨rfl,U kw⟩
def idR (l:List Od) (id:Int):Int:=if plc l id < 0 then 9 else 0
def redR (l:List Od) (id qty:Int):Int:=if betB qty 1 1000000 = true then (if plc l id < 0 then 9 else match l[(plc l id).toNat]? with | some o=>if o.left ≤ qty then 10 else 0 | none=>0) else 7
theorem cj (l:List Od) (id:Int):plc l id = -1 ∨ ∃ (k:Nat) (o:Od),plc l id = k∧l[k]? = some o:=by
 rcases plcF_spec id l 0 with ⟨Q,_⟩ | ⟨i,o,Q,N,_⟩
 ·exact .inl Q
 ·exact .inr ⟨i,o,by rw [plc,Q]; congr 1; omega,N⟩
theorem idRefusal_any (next:Int) (v:Value) (l:List Od) (id:Int) (w:World) (hr:RdR Od.vs 6 w v l) :
  Calls Tryz.prog 109 #[.agg #[H next,v],H id] w fun e w'=>e = yl (H (idR l id))∧ym w w':=by
 have HR:=Y hr
 obtain ⟨a,E,rfl,xB,hc⟩:=hr
 have vf:Hid (ym w (w.alloc (D #[H next,.slice a l.length E] 28))):=dm _ _
 clear hc
 go_enter Tryz.func109,Tryz.ntmps109
 go_wp2_with fail
 refine (cH next _ l id _ (zl (U HR) (U vf) qt)).mono ?_
 rintro e w3 ⟨rfl,uC⟩
 have xW:=Y (dq (U vf) uC)
 clear uC
 by_cases hp:plc l id < 0
 ·have HK:Hid (idR l id = 9):=if_pos hp
  go_wp2_with fail
  go_ret
  exact ⟨zq (U HK).symm,U xW⟩
 ·have HK:Hid (idR l id = 0):=if_neg hp
  go_wp2_with fail
  go_ret
  exact ⟨zq (U HK).symm,U xW⟩
def DZ (b2 b3 b off E k:Nat) (next id qty:Int) (l:List Od) (o:Od) (p:Prop) (V:World):Nat→Value→Prop
 | 0,v=>v = I b3 1
 | 1,v=>v = H qty
 | 2,v=>v = I b2 1
 | 3,v=>v = .slice (some (J b off)) l.length E
 | 4,v=>v = .agg #[H next,.slice (some (J b off)) l.length E]
 | 5,v=>v = I b3 0
 | 6,v=>v = H id
 | 7,v=>v = H k
 | 8,v=>v = I b (off + k * 6)
 | 9,v=>v = I b (off + k * 6 + 3)
 | 10,v=>v = H o.left
 | 11,v=>v = .bool (decide (o.left ≤ qty))
 | _,_=>True
theorem reduceRefusal_any (next:Int) (vb:Value) (l:List Od) (id qty:Int) (w:World) (hr:RdR Od.vs 6 w vb l) :
  Calls Tryz.prog 110 #[.agg #[H next,vb],.agg #[H id,H qty]] w fun e w'=>e = yl (H (redR l id qty))∧ym w w':=by
 have HR:=Y hr
 obtain ⟨a,E,rfl,xB,hc⟩:=hr
 have HCL:=Y hc
 clear hc
 have xy:=zf w (D #[H next,.slice a l.length E] 28)
 have xY:((w.alloc (D #[H next,.slice a l.length E] 28)).alloc (D #[H id,H qty] 118)).heap.size = w.heap.size + 1 + 1:=by rw [zf,xy]
 have r1:=zg w [H next,.slice a l.length E] 28
 have r2:=zg (w.alloc (D #[H next,.slice a l.length E] 28)) [H id,H qty] 118
 rw [xy] at r2
 have qg:Below (w.heap.size + 1) (w.alloc (D #[H next,.slice a l.length E] 28)) ((w.alloc (D #[H next,.slice a l.length E] 28)).alloc (D #[H id,H qty] 118)):=(Below.refl _ _).alloc (by rw [xy]; omega) _
 have xC:Hid (ym w ((w.alloc (D #[H next,.slice a l.length E] 28)).alloc (D #[H id,H qty] 118))):=(dm _ _).alloc (by rw [xy]; omega) _
 have HX:Hid (_∧_):=⟨zb r1 qg (by omega),r2⟩
 have ur:Hid (w.heap.size < ((w.alloc (D #[H next,.slice a l.length E] 28)).alloc (D #[H id,H qty] 118)).heap.size∧w.heap.size + 1 < ((w.alloc (D #[H next,.slice a l.length E] 28)).alloc (D #[H id,H qty] 118)).heap.size):=⟨by omega,by omega⟩
 clear xy xY r1 r2 qg
 go_enter Tryz.func110,Tryz.ntmps110
 refine ds fun tg xq=>?_
 go_wp2_with fail
 refine U xq _ _ ?_
 clear xq
 generalize ((w.alloc (D #[H next,.slice a l.length E] 28)).alloc (D #[H id,H qty] 118)) = X2 at xC HX ur ⊢
 have HX:Hid (X2.rangeAt w.heap.size 0 [H next,.slice a l.length E]∧X2.rangeAt (w.heap.size + 1) 0 [H id,H qty]):=U HX
 have k0:X2.cell? (yp w 0) = some (H next):=(U HX).1 0 _ rfl
 have k1:X2.cell? (yp w 1) = some (.slice a l.length E):=(U HX).1 1 _ rfl
 have o0:X2.cell? (J (w.heap.size + 1) 0) = some (H id):=(U HX).2 0 _ rfl
 have o1:X2.cell? (J (w.heap.size + 1) 1) = some (H qty):=(U HX).2 1 _ rfl
 go_wp2_with fail
 refine (isQty_any qty X2).mono ?_
 rintro e w3 ⟨rfl,rfl⟩
 cases hq:betB qty 1 1000000
 ·have HK:Hid (redR l id qty = 7):=by show _ = _; rw [redR,if_neg (by rw [hq]; simp)]
  clear hq
  go_wp2_with fail
  go_ret
  exact ⟨zq (U HK).symm,U xC⟩
 have HQ:=Y hq
 clear hq
 go_wp2_with fail
 refine (idRefusal_any next _ l id w3 (zl (U HR) (U xC) qt)).mono ?_
 rcases cj l id with hp | ⟨k,o,hp,hk⟩
 ·have qx:idR l id = 9:=by rw [idR,if_pos (by omega)]
  rw [qx]
  have HK:Hid (redR l id qty = 9):=by show _ = _; rw [redR,if_pos (U HQ),if_pos (by omega)]
  clear hp qx
  rintro e w4 ⟨rfl,xz⟩
  have uk:=Y (dq (U xC) xz)
  clear xz
  go_wp2_with fail
  go_ret
  exact ⟨zq (U HK).symm,U uk⟩
 have qx:idR l id = 0:=by rw [idR,if_neg (by omega)]
 rw [qx]
 have HPL:=Y hp
 have vM:Hid (redR l id qty = if o.left ≤ qty then 10 else 0):=by
  show _ = _
  rw [redR,if_pos (U HQ),if_neg (by omega),hp,Int.toNat_natCast,hk]
 have kc:=(yE.1 hk).1
 obtain ⟨b,off,rfl,hbw,L⟩:=U HCL (by intro h; rw [h] at kc; simp at kc)
 have HCE:=Y (L k o hk)
 have hkl':(k:Int) < l.length:=by omega
 have hk0:(0:Int) ≤ k:=by omega
 clear hp qx L hk
 rintro e w4 ⟨rfl,xz⟩
 have uk:=Y (dq (U xC) xz)
 have xP:Hid (w4.rangeAt w.heap.size 0 [H next,.slice (some (J b off)) l.length E]∧w4.rangeAt (w.heap.size + 1) 0 [H id,H qty]∧w.heap.size < w4.heap.size∧w.heap.size + 1 < w4.heap.size):=⟨zb (U HX).1 xz (U ur).1,zb (U HX).2 xz (U ur).2,yH (U ur).1 xz.size,yH (U ur).2 xz.size⟩
 clear xz k0 k1 o0 o1
 go_wp2_with fail
 refine zh (RG w4 (fun f=>{ tmps:=#[.agg #[H next,.slice (some (J b off)) l.length E],.agg #[H id,H qty],yn w 0,I (w.heap.size + 1) 0,H 0,H 0,I (w.heap.size + 1) 1,H qty,.bool true,.bool false,.agg #[H next,.slice (some (J b off)) l.length E],I (w.heap.size + 1) 0,H id,H 0,H 0,.bool false,M,f 0,f 1,f 2,f 3,f 4,f 5,f 6,f 7,f 8,f 9,f 10,f 11],defers:=[] }) 99 (DZ w.heap.size (w.heap.size + 1) b off E k next id qty l o)) (by kernel_rfl) ?_ ?_ ?_
 ·exact ⟨fun _=>M,rfl,⟨rfl,rfl,rfl,Nat.le_refl _,fun _ _=>rfl⟩,fun j R=>by rw [yG] at R; split at R <;> simp at R⟩
 ·rintro x hR V ⟨f,rfl,xh,X⟩ hx xM
  have xn:=zO xM hx (by kernel_rfl)
  have e11:f 11 = .bool (decide (o.left ≤ qty)):=X 11 (xn 11 (by simp))
  have xr:=Y (dq (U uk) xh)
  simp only [e11]
  clear X xn e11 xM hx xh
  by_cases jo:o.left ≤ qty
  ·have HK:Hid (redR l id qty = 10):=(U vM).trans (if_pos jo)
   go_wp2_with fail
   go_ret
   exact ⟨zq (U HK).symm,U xr⟩
  ·have HK:Hid (redR l id qty = 0):=(U vM).trans (if_neg jo)
   go_wp2_with fail
   go_ret
   exact ⟨zq (U HK).symm,U xr⟩
 ·rintro x hR V i op ⟨f,rfl,xh,X⟩ L hx Z xu G
  clear L
  have xr:=Y xh
  have HD:=Y X
  have z0:=zb (U xP).1 xh (U xP).2.2.1 0 _ rfl
  have z1:=zb (U xP).1 xh (U xP).2.2.1 1 _ rfl
  have u0:=zb (U xP).2.1 xh (U xP).2.2.2 0 _ rfl
  have u1:=zb (U xP).2.1 xh (U xP).2.2.2 1 _ rfl
  rw [Nat.zero_add] at z0 z1 u0 u1
  have qX:=Y (zl (U HR) (dq (U uk) xh) qt)
  obtain ⟨-,-,-,y3,-⟩:=zC (zb (U HCE) (dq (U uk) xh) hbw)
  match i,Z with
  | 0,Z =>
   obtain rfl:=ya Z
   clear G X xh
   rw [if_pos (by rfl)];unfold Oper.wp;go_simp
   exact ⟨upd f 0 (I (w.heap.size + 1) 1),by simp [upd],zd (U xr) (U HD) (by decide) rfl⟩
  | 1,Z =>
   obtain rfl:=ya Z
   have g:f 0 = I (w.heap.size + 1) 1:=X 0 (yd G 0 rfl)
   clear G X xh
   rw [if_pos (by rfl)];unfold Oper.wp;go_simp
   exact ⟨upd f 1 (H qty),by simp [upd,g],zd (U xr) (U HD) (by decide) rfl⟩
  | 2,Z =>
   obtain rfl:=ya Z
   clear G X xh
   rw [if_pos (by rfl)];unfold Oper.wp;go_simp
   exact ⟨upd f 2 (yn w 1),by simp [upd],zd (U xr) (U HD) (by decide) rfl⟩
  | 3,Z =>
   obtain rfl:=ya Z
   have g:f 2 = yn w 1:=X 2 (yd G 2 rfl)
   clear G X xh
   rw [if_pos (by rfl)];unfold Oper.wp;go_simp
   exact ⟨upd f 3 (.slice (some (J b off)) l.length E),by simp [upd,g],zd (U xr) (U HD) (by decide) rfl⟩
  | 4,Z =>
   obtain rfl:=ya Z
   clear G X xh
   rw [if_pos (by rfl)];unfold Oper.wp;go_simp
   exact ⟨upd f 4 (.agg #[H next,.slice (some (J b off)) l.length E]),by simp [upd],zd (U xr) (U HD) (by decide) rfl⟩
  | 5,Z =>
   obtain rfl:=ya Z
   clear G X xh
   rw [if_pos (by rfl)];unfold Oper.wp;go_simp
   exact ⟨upd f 5 (I (w.heap.size + 1) 0),by simp [upd],zd (U xr) (U HD) (by decide) rfl⟩
  | 6,Z =>
   obtain rfl:=ya Z
   have g:f 5 = I (w.heap.size + 1) 0:=X 5 (yd G 5 rfl)
   clear G X xh
   rw [if_pos (by rfl)];unfold Oper.wp;go_simp
   exact ⟨upd f 6 (H id),by simp [upd,g],zd (U xr) (U HD) (by decide) rfl⟩
  | 7,Z =>
   obtain rfl:=ya Z
   have g4:f 4 = .agg #[H next,.slice (some (J b off)) l.length E]:=X 4 (yd G 4 rfl)
   have g6:f 6 = H id:=X 6 (yd G 6 rfl)
   clear G X xh
   rw [if_pos (by rfl)];unfold Oper.wp;go_simp
   refine (cH next _ l id V (U qX)).mono ?_
   rw [U HPL]
   rintro e w4 ⟨rfl,xz⟩
   exact ⟨upd f 7 (H k),by simp [upd,g4,g6],ai (U xr) (U HD) xz (by decide) (fun j v h=>h) rfl⟩
  | 8,Z =>
   obtain rfl:=ya Z
   have g3:f 3 = .slice (some (J b off)) l.length E:=X 3 (yd G 3 rfl)
   have g7:f 7 = H k:=X 7 (yd G 7 rfl)
   clear G X xh
   rw [if_pos (by rfl)];unfold Oper.wp;go_simp
   exact ⟨upd f 8 (I b (off + k * 6)),by simp [upd,g3,g7],zd (U xr) (U HD) (by decide) rfl⟩
  | 9,Z =>
   obtain rfl:=ya Z
   have g:f 8 = I b (off + k * 6):=X 8 (yd G 8 rfl)
   clear G X xh
   rw [if_pos (by rfl)];unfold Oper.wp;go_simp
   exact ⟨upd f 9 (I b (off + k * 6 + 3)),by simp [upd,g],zd (U xr) (U HD) (by decide) rfl⟩
  | 10,Z =>
   obtain rfl:=ya Z
   have g:f 9 = I b (off + k * 6 + 3):=X 9 (yd G 9 rfl)
   clear G X xh
   rw [if_pos (by rfl)];unfold Oper.wp;go_simp
   exact ⟨upd f 10 (H o.left),by simp [upd,g],zd (U xr) (U HD) (by decide) rfl⟩
  | 11,Z =>
   obtain rfl:=ya Z
   have g1:f 1 = H qty:=X 1 (yd G 1 rfl)
   have g:f 10 = H o.left:=X 10 (yd G 10 rfl)
   clear G X xh
   rw [if_pos (by rfl)];unfold Oper.wp;go_simp
   exact ⟨upd f 11 (.bool (decide (o.left ≤ qty))),by simp [upd,g,g1],zd (U xr) (U HD) (by decide) rfl⟩
  | n + 12,Z=>simp at Z
end Go.Proofs.YtbakanofkghmiaaGreat
