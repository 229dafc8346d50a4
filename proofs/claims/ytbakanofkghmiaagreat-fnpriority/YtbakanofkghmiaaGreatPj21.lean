/-
  The reasons of a new order, by the program: proved by walking the function.
-/
import Derived.Test.YtbakanofkghmiaaGreatPj20
set_option linter.unusedVariables false
set_option maxHeartbeats 6400000
set_option maxRecDepth 100000
namespace Go.Proofs.YtbakanofkghmiaaGreat
open Go.RowKit
def lifW (c:Cm):Bool:=!betB c.l 0 1 || (decide (c.l = 1) && !ay c.t)
def newR (next:Int) (l:List Od) (c:Cm):Int :=
 if betB c.s 1 2 = false then 3 else if betB c.t 1 5 = false then 4 else if lifW c = true then 5 else if prcB c = false then 6 else if betB c.q 1 1000000 = false then 7 else if tagB c.g = false then 8 else matR next c (matL c next 21 l c.q [])
theorem newRefusal_any (next:Int) (vb:Value) (l:List Od) (c:Cm) (w:World) (hr:RdR Od.vs 6 w vb l) (hs:SlOk vb) (hg:GoodL l) (h0:0 ≤ next) (z:next ≤ 1000000) (ht:c.g.size ≤ maxLen) :
  Calls Tryz.prog 108 #[.agg #[H next,vb],noV c] w fun e w'=>e = yk (H (newR next l c))∧yl w w':=by
 have HR:=Q hr
 have HG:=Q hg
 have uW:=Q hs
 have ur:Hid (0 ≤ next∧next ≤ 1000000):=⟨h0,z⟩
 have qU:=Q ht
 obtain ⟨a,F,rfl,xD,hc⟩:=hr
 clear hc hg hs h0 z ht xD
 generalize uY:newR next l c = res
 have HN0:Hid (_ = res):=uY
 clear uY
 obtain ⟨kk,s,ty,li,X,ii,pr,O⟩:=c
 unfold newR at HN0
 unfold noV
 simp only at *
 have xz:=ze w (E #[H next,.slice a l.length F] 28)
 have xY:((w.alloc (E #[H next,.slice a l.length F] 28)).alloc (E #[H s,H ty,H li,H X,yh pr,yi O] 112)).heap.size = w.heap.size + 1 + 1:=by rw [ze,xz]
 have r1:=zg w [H next,.slice a l.length F] 28
 have r2:=zg (w.alloc (E #[H next,.slice a l.length F] 28)) [H s,H ty,H li,H X,yh pr,yi O] 112
 rw [xz] at r2
 have qg:Below (w.heap.size + 1) (w.alloc (E #[H next,.slice a l.length F] 28)) ((w.alloc (E #[H next,.slice a l.length F] 28)).alloc (E #[H s,H ty,H li,H X,yh pr,yi O] 112)):=(Below.refl _ _).alloc (by rw [xz]; omega) _
 have xC:Hid (yl w ((w.alloc (E #[H next,.slice a l.length F] 28)).alloc (E #[H s,H ty,H li,H X,yh pr,yi O] 112))):=(eD _ _).alloc (by rw [xz]; omega) _
 have HX:Hid (_∧_):=⟨zb r1 qg (by omega),r2⟩
 have uj:Hid (w.heap.size < ((w.alloc (E #[H next,.slice a l.length F] 28)).alloc (E #[H s,H ty,H li,H X,yh pr,yi O] 112)).heap.size∧w.heap.size + 1 < ((w.alloc (E #[H next,.slice a l.length F] 28)).alloc (E #[H s,H ty,H li,H X,yh pr,yi O] 112)).heap.size):=⟨by omega,by omega⟩
 clear xz xY r1 r2 qg
 go_enter Tryz.func108,Tryz.ntmps108
 refine eH fun h2 xu=>?_
 go_wp2_with fail
 refine M xu _ _ ?_
 clear xu
 generalize ((w.alloc (E #[H next,.slice a l.length F] 28)).alloc (E #[H s,H ty,H li,H X,yh pr,yi O] 112)) = X2 at xC HX uj ⊢
 have HX:Hid (X2.rangeAt w.heap.size 0 [H next,.slice a l.length F]∧X2.rangeAt (w.heap.size + 1) 0 [H s,H ty,H li,H X,yh pr,yi O]):=M HX
 have k0:=zb (M HX).1 (Below.refl _ _) (M uj).1 0 _ rfl
 have k1:=zb (M HX).1 (Below.refl _ _) (M uj).1 1 _ rfl
 have o0:=zb (M HX).2 (Below.refl _ _) (M uj).2 0 _ rfl
 have o1:=zb (M HX).2 (Below.refl _ _) (M uj).2 1 _ rfl
 have o2:=zb (M HX).2 (Below.refl _ _) (M uj).2 2 _ rfl
 have o3:=zb (M HX).2 (Below.refl _ _) (M uj).2 3 _ rfl
 have o4:=zb (M HX).2 (Below.refl _ _) (M uj).2 4 _ rfl
 have o5:=zb (M HX).2 (Below.refl _ _) (M uj).2 5 _ rfl
 simp only [Nat.zero_add] at k0 k1 o0 o1 o2 o3 o4 o5
 go_wp2_with fail
 refine (cW s X2).mono ?_
 rintro e w' ⟨rfl,rfl⟩
 cases h3:betB s 1 2
 ·have HK:Hid (3 = res):=by have:=M HN0; rw [if_pos h3] at this; exact this
  clear h3
  go_wp2_with fail
  go_ret
  exact ⟨zv (M HK),M xC⟩
 have HN1:Hid (_ = res):=(if_neg (fun h=>by rw [h3] at h; cases h)).symm.trans (M HN0)
 clear h3 HN0
 go_wp2_with fail
 refine (isType_any ty w').mono ?_
 rintro e w1 ⟨rfl,rfl⟩
 cases h4:betB ty 1 5
 ·have HK:Hid (4 = res):=by have:=M HN1; rw [if_pos h4] at this; exact this
  clear h4
  go_wp2_with fail
  go_ret
  exact ⟨zv (M HK),M xC⟩
 have HN2:Hid (_ = res):=(if_neg (fun h=>by rw [h4] at h; cases h)).symm.trans (M HN1)
 clear h4 HN1
 go_wp2_with fail
 refine (cV li w1).mono ?_
 rintro e w2 ⟨rfl,rfl⟩
 cases h5:betB li 0 1
 ·have HK:Hid (5 = res):=by have:=M HN2; rw [if_pos (by simp [lifW,h5])] at this; exact this
  clear h5
  go_wp2_with fail
  go_ret
  exact ⟨zv (M HK),M xC⟩
 by_cases hli:li = 1
 ·subst hli
  go_wp2_with fail
  refine (dS ⟨kk,s,ty,1,X,ii,pr,O⟩ w2).mono ?_
  rintro e w3 ⟨rfl,uf⟩
  dsimp only
  have xo:=Q uf
  clear uf k0 k1 o0 o1 o2 o3 o4 o5
  cases h6:ay ty
  ·have HK:Hid (5 = res):=by have:=M HN2; rw [if_pos (by simp [lifW,h6])] at this; exact this
   clear h6 h5
   go_wp2_with fail
   go_ret
   exact ⟨zv (M HK),(M xC).trans ((M xo).mono (M xC).size)⟩
  have pe:Hid (_ = res):=(if_neg (by simp [lifW,h5,h6])).symm.trans (M HN2)
  clear h5 h6 HN2
  have k0:=zb (M HX).1 (M xo) (M uj).1 0 _ rfl
  have k1:=zb (M HX).1 (M xo) (M uj).1 1 _ rfl
  have o0:=zb (M HX).2 (M xo) (M uj).2 0 _ rfl
  have o1:=zb (M HX).2 (M xo) (M uj).2 1 _ rfl
  have o2:=zb (M HX).2 (M xo) (M uj).2 2 _ rfl
  have o3:=zb (M HX).2 (M xo) (M uj).2 3 _ rfl
  have o4:=zb (M HX).2 (M xo) (M uj).2 4 _ rfl
  have o5:=zb (M HX).2 (M xo) (M uj).2 5 _ rfl
  simp only [Nat.zero_add] at k0 k1 o0 o1 o2 o3 o4 o5
  go_wp2_with fail
  refine (hasPrice_any ⟨kk,s,ty,1,X,ii,pr,O⟩ w3).mono ?_
  rintro e w4 ⟨rfl,xy⟩
  have xS:=Q (eG (M xo) xy)
  clear xy k0 k1 o0 o1 o2 o3 o4 o5 xo
  cases h7:prcB ⟨kk,s,ty,1,X,ii,pr,O⟩
  ·have HK:Hid (6 = res):=by have:=M pe; rw [if_pos h7] at this; exact this
   clear h7
   go_wp2_with fail
   go_ret
   exact ⟨zv (M HK),(M xC).trans ((M xS).mono (M xC).size)⟩
  have HN4:Hid (_ = res):=(if_neg (fun h=>by rw [h7] at h; cases h)).symm.trans (M pe)
  clear h7 pe
  have k0:=zb (M HX).1 (M xS) (M uj).1 0 _ rfl
  have k1:=zb (M HX).1 (M xS) (M uj).1 1 _ rfl
  have o0:=zb (M HX).2 (M xS) (M uj).2 0 _ rfl
  have o1:=zb (M HX).2 (M xS) (M uj).2 1 _ rfl
  have o2:=zb (M HX).2 (M xS) (M uj).2 2 _ rfl
  have o3:=zb (M HX).2 (M xS) (M uj).2 3 _ rfl
  have o4:=zb (M HX).2 (M xS) (M uj).2 4 _ rfl
  have o5:=zb (M HX).2 (M xS) (M uj).2 5 _ rfl
  simp only [Nat.zero_add] at k0 k1 o0 o1 o2 o3 o4 o5
  go_wp2_with fail
  refine (isQty_any X w4).mono ?_
  rintro e w5 ⟨rfl,rfl⟩
  cases h8:betB X 1 1000000
  ·have HK:Hid (7 = res):=by have:=M HN4; rw [if_pos h8] at this; exact this
   clear h8
   go_wp2_with fail
   go_ret
   exact ⟨zv (M HK),(M xC).trans ((M xS).mono (M xC).size)⟩
  have HN5:Hid (_ = res):=(if_neg (fun h=>by rw [h8] at h; cases h)).symm.trans (M HN4)
  have HQB:Hid (0 ≤ X∧X ≤ 1000000):=by
   simp only [betB,xb,xc] at h8
   exact ⟨by omega,h8.2⟩
  clear h8 HN4
  go_wp2_with fail
  refine (isTag_any O w5 (M qU)).mono ?_
  rintro e w6 ⟨rfl,rfl⟩
  cases h9:tagB O
  ·have HK:Hid (8 = res):=by have:=M HN5; rw [if_pos h9] at this; exact this
   clear h9
   go_wp2_with fail
   go_ret
   exact ⟨zv (M HK),(M xC).trans ((M xS).mono (M xC).size)⟩
  have HN6:Hid (_ = res):=(if_neg (fun h=>by rw [h9] at h; cases h)).symm.trans (M HN5)
  clear h9 HN5
  go_wp2_with fail
  refine (ex next _ l ⟨kk,s,ty,1,X,ii,pr,O⟩ w6 (zh (M HR) ((M xC).trans ((M xS).mono (M xC).size)) tg) (M uW) (M HG) (M ur).1 (M ur).2 (M HQB).1 (M HQB).2).mono ?_
  dsimp only
  rw [M HN6]
  rintro e w7 ⟨rfl,ja⟩
  have ku:=Q (((M xC).trans ((M xS).mono (M xC).size)).trans (ja.mono ((M xC).trans ((M xS).mono (M xC).size)).size))
  clear ja
  go_wp2_with fail
  go_ret
  exact ⟨rfl,M ku⟩
 have aw:(li == 1) = false:=by rw [xa]; exact hli
 have pe:Hid (_ = res):=(if_neg (by simp [lifW,h5,hli])).symm.trans (M HN2)
 have xo:Hid (yl w2 w2):=Below.refl _ _
 clear h5 hli HN2
 go_wp2_with fail
 refine (hasPrice_any ⟨kk,s,ty,li,X,ii,pr,O⟩ w2).mono ?_
 rintro e w4 ⟨rfl,xy⟩
 have xS:=Q (eG (M xo) xy)
 clear xy k0 k1 o0 o1 o2 o3 o4 o5 xo
 cases h7:prcB ⟨kk,s,ty,li,X,ii,pr,O⟩
 ·have HK:Hid (6 = res):=by have:=M pe; rw [if_pos h7] at this; exact this
  clear h7
  go_wp2_with fail
  go_ret
  exact ⟨zv (M HK),(M xC).trans ((M xS).mono (M xC).size)⟩
 have HN4:Hid (_ = res):=(if_neg (fun h=>by rw [h7] at h; cases h)).symm.trans (M pe)
 clear h7 pe
 have k0:=zb (M HX).1 (M xS) (M uj).1 0 _ rfl
 have k1:=zb (M HX).1 (M xS) (M uj).1 1 _ rfl
 have o0:=zb (M HX).2 (M xS) (M uj).2 0 _ rfl
 have o1:=zb (M HX).2 (M xS) (M uj).2 1 _ rfl
 have o2:=zb (M HX).2 (M xS) (M uj).2 2 _ rfl
 have o3:=zb (M HX).2 (M xS) (M uj).2 3 _ rfl
 have o4:=zb (M HX).2 (M xS) (M uj).2 4 _ rfl
 have o5:=zb (M HX).2 (M xS) (M uj).2 5 _ rfl
 simp only [Nat.zero_add] at k0 k1 o0 o1 o2 o3 o4 o5
 go_wp2_with fail
 refine (isQty_any X w4).mono ?_
 rintro e w5 ⟨rfl,rfl⟩
 cases h8:betB X 1 1000000
 ·have HK:Hid (7 = res):=by have:=M HN4; rw [if_pos h8] at this; exact this
  clear h8
  go_wp2_with fail
  go_ret
  exact ⟨zv (M HK),(M xC).trans ((M xS).mono (M xC).size)⟩
 have HN5:Hid (_ = res):=(if_neg (fun h=>by rw [h8] at h; cases h)).symm.trans (M HN4)
 have HQB:Hid (0 ≤ X∧X ≤ 1000000):=by
  simp only [betB,xb,xc] at h8
  exact ⟨by omega,h8.2⟩
 clear h8 HN4
 go_wp2_with fail
 refine (isTag_any O w5 (M qU)).mono ?_
 rintro e w6 ⟨rfl,rfl⟩
 cases h9:tagB O
 ·have HK:Hid (8 = res):=by have:=M HN5; rw [if_pos h9] at this; exact this
  clear h9
  go_wp2_with fail
  go_ret
  exact ⟨zv (M HK),(M xC).trans ((M xS).mono (M xC).size)⟩
 have HN6:Hid (_ = res):=(if_neg (fun h=>by rw [h9] at h; cases h)).symm.trans (M HN5)
 clear h9 HN5
 go_wp2_with fail
 refine (ex next _ l ⟨kk,s,ty,li,X,ii,pr,O⟩ w6 (zh (M HR) ((M xC).trans ((M xS).mono (M xC).size)) tg) (M uW) (M HG) (M ur).1 (M ur).2 (M HQB).1 (M HQB).2).mono ?_
 dsimp only
 rw [M HN6]
 rintro e w7 ⟨rfl,ja⟩
 have ku:=Q (((M xC).trans ((M xS).mono (M xC).size)).trans (ja.mono ((M xC).trans ((M xS).mono (M xC).size)).size))
 clear ja
 go_wp2_with fail
 go_ret
 exact ⟨rfl,M ku⟩
def idR (l:List Od) (id:Int):Int:=if plc l id < 0 then 9 else 0
def redR (l:List Od) (id qty:Int):Int:=if betB qty 1 1000000 = true then (if plc l id < 0 then 9 else match l[(plc l id).toNat]? with | some o=>if o.left ≤ qty then 10 else 0 | none=>0) else 7
theorem du (l:List Od) (id:Int):plc l id = -1 ∨ ∃ (k:Nat) (o:Od),plc l id = k∧l[k]? = some o:=by
 rcases plcF_spec id l 0 with ⟨z,_⟩ | ⟨i,o,z,K,_⟩
 ·exact .inl z
 ·exact .inr ⟨i,o,by rw [plc,z]; congr 1; omega,K⟩
theorem idRefusal_any (next:Int) (v:Value) (l:List Od) (id:Int) (w:World) (hr:RdR Od.vs 6 w v l) :
  Calls Tryz.prog 109 #[.agg #[H next,v],H id] w fun e w'=>e = yk (H (idR l id))∧yl w w':=by
 have HR:=Q hr
 obtain ⟨a,F,rfl,xD,hc⟩:=hr
 have ua:Hid (yl w (w.alloc (E #[H next,.slice a l.length F] 28))):=eD _ _
 clear hc
 go_enter Tryz.func109,Tryz.ntmps109
 go_wp2_with fail
 refine (dJ next _ l id _ (zh (M HR) (M ua) tg)).mono ?_
 rintro e w3 ⟨rfl,uf⟩
 have xM:=Q (eG (M ua) uf)
 clear uf
 by_cases hp:plc l id < 0
 ·have HK:Hid (idR l id = 9):=if_pos hp
  go_wp2_with fail
  go_ret
  exact ⟨zv (M HK).symm,M xM⟩
 ·have HK:Hid (idR l id = 0):=if_neg hp
  go_wp2_with fail
  go_ret
  exact ⟨zv (M HK).symm,M xM⟩
def DZ (b2 b3 b off F k:Nat) (next id qty:Int) (l:List Od) (o:Od) (p:Prop) (V:World):Nat→Value→Prop
 | 0,v=>v = I b3 1
 | 1,v=>v = H qty
 | 2,v=>v = I b2 1
 | 3,v=>v = .slice (some (J b off)) l.length F
 | 4,v=>v = .agg #[H next,.slice (some (J b off)) l.length F]
 | 5,v=>v = I b3 0
 | 6,v=>v = H id
 | 7,v=>v = H k
 | 8,v=>v = I b (off + k * 6)
 | 9,v=>v = I b (off + k * 6 + 3)
 | 10,v=>v = H o.left
 | 11,v=>v = .bool (decide (o.left ≤ qty))
 | _,_=>True
theorem reduceRefusal_any (next:Int) (vb:Value) (l:List Od) (id qty:Int) (w:World) (hr:RdR Od.vs 6 w vb l) :
  Calls Tryz.prog 110 #[.agg #[H next,vb],.agg #[H id,H qty]] w fun e w'=>e = yk (H (redR l id qty))∧yl w w':=by
 have HR:=Q hr
 obtain ⟨a,F,rfl,xD,hc⟩:=hr
 have HCL:=Q hc
 clear hc
 have xz:=ze w (E #[H next,.slice a l.length F] 28)
 have xY:((w.alloc (E #[H next,.slice a l.length F] 28)).alloc (E #[H id,H qty] 118)).heap.size = w.heap.size + 1 + 1:=by rw [ze,xz]
 have r1:=zg w [H next,.slice a l.length F] 28
 have r2:=zg (w.alloc (E #[H next,.slice a l.length F] 28)) [H id,H qty] 118
 rw [xz] at r2
 have qg:Below (w.heap.size + 1) (w.alloc (E #[H next,.slice a l.length F] 28)) ((w.alloc (E #[H next,.slice a l.length F] 28)).alloc (E #[H id,H qty] 118)):=(Below.refl _ _).alloc (by rw [xz]; omega) _
 have xC:Hid (yl w ((w.alloc (E #[H next,.slice a l.length F] 28)).alloc (E #[H id,H qty] 118))):=(eD _ _).alloc (by rw [xz]; omega) _
 have HX:Hid (_∧_):=⟨zb r1 qg (by omega),r2⟩
 have uj:Hid (w.heap.size < ((w.alloc (E #[H next,.slice a l.length F] 28)).alloc (E #[H id,H qty] 118)).heap.size∧w.heap.size + 1 < ((w.alloc (E #[H next,.slice a l.length F] 28)).alloc (E #[H id,H qty] 118)).heap.size):=⟨by omega,by omega⟩
 clear xz xY r1 r2 qg
 go_enter Tryz.func110,Tryz.ntmps110
 refine eH fun h2 xu=>?_
 go_wp2_with fail
 refine M xu _ _ ?_
 clear xu
 generalize ((w.alloc (E #[H next,.slice a l.length F] 28)).alloc (E #[H id,H qty] 118)) = X2 at xC HX uj ⊢
 have HX:Hid (X2.rangeAt w.heap.size 0 [H next,.slice a l.length F]∧X2.rangeAt (w.heap.size + 1) 0 [H id,H qty]):=M HX
 have k0:X2.cell? (yn w 0) = some (H next):=(M HX).1 0 _ rfl
 have k1:X2.cell? (yn w 1) = some (.slice a l.length F):=(M HX).1 1 _ rfl
 have o0:X2.cell? (J (w.heap.size + 1) 0) = some (H id):=(M HX).2 0 _ rfl
 have o1:X2.cell? (J (w.heap.size + 1) 1) = some (H qty):=(M HX).2 1 _ rfl
 go_wp2_with fail
 refine (isQty_any qty X2).mono ?_
 rintro e w3 ⟨rfl,rfl⟩
 cases hq:betB qty 1 1000000
 ·have HK:Hid (redR l id qty = 7):=by show _ = _; rw [redR,if_neg (by rw [hq]; simp)]
  clear hq
  go_wp2_with fail
  go_ret
  exact ⟨zv (M HK).symm,M xC⟩
 have HQ:=Q hq
 clear hq
 go_wp2_with fail
 refine (idRefusal_any next _ l id w3 (zh (M HR) (M xC) tg)).mono ?_
 rcases du l id with hp | ⟨k,o,hp,hk⟩
 ·have vM:idR l id = 9:=by rw [idR,if_pos (by omega)]
  rw [vM]
  have HK:Hid (redR l id qty = 9):=by show _ = _; rw [redR,if_pos (M HQ),if_pos (by omega)]
  clear hp vM
  rintro e w4 ⟨rfl,xy⟩
  have xS:=Q (eG (M xC) xy)
  clear xy
  go_wp2_with fail
  go_ret
  exact ⟨zv (M HK).symm,M xS⟩
 have vM:idR l id = 0:=by rw [idR,if_neg (by omega)]
 rw [vM]
 have HPL:=Q hp
 have qe:Hid (redR l id qty = if o.left ≤ qty then 10 else 0):=by
  show _ = _
  rw [redR,if_pos (M HQ),if_neg (by omega),hp,Int.toNat_natCast,hk]
 have jZ:=(yD.1 hk).1
 obtain ⟨b,off,rfl,hbw,xk⟩:=M HCL (by intro h; rw [h] at jZ; simp at jZ)
 have HCE:=Q (xk k o hk)
 have hkl':(k:Int) < l.length:=by omega
 have hk0:(0:Int) ≤ k:=by omega
 clear hp vM xk hk
 rintro e w4 ⟨rfl,xy⟩
 have xS:=Q (eG (M xC) xy)
 have xQ:Hid (w4.rangeAt w.heap.size 0 [H next,.slice (some (J b off)) l.length F]∧w4.rangeAt (w.heap.size + 1) 0 [H id,H qty]∧w.heap.size < w4.heap.size∧w.heap.size + 1 < w4.heap.size):=⟨zb (M HX).1 xy (M uj).1,zb (M HX).2 xy (M uj).2,yG (M uj).1 xy.size,yG (M uj).2 xy.size⟩
 clear xy k0 k1 o0 o1
 go_wp2_with fail
 refine zi (RG w4 (fun f=>{ tmps:=#[.agg #[H next,.slice (some (J b off)) l.length F],.agg #[H id,H qty],ym w 0,I (w.heap.size + 1) 0,H 0,H 0,I (w.heap.size + 1) 1,H qty,.bool true,.bool false,.agg #[H next,.slice (some (J b off)) l.length F],I (w.heap.size + 1) 0,H id,H 0,H 0,.bool false,Z,f 0,f 1,f 2,f 3,f 4,f 5,f 6,f 7,f 8,f 9,f 10,f 11],defers:=[] }) 99 (DZ w.heap.size (w.heap.size + 1) b off F k next id qty l o)) (by kernel_rfl) ?_ ?_ ?_
 ·exact ⟨fun _=>Z,rfl,⟨rfl,rfl,rfl,Nat.le_refl _,fun _ _=>rfl⟩,fun j L=>by rw [yF] at L; split at L <;> simp at L⟩
 ·rintro x hR V ⟨f,rfl,xe,U⟩ hx xK
  have xm:=zL xK hx (by kernel_rfl)
  have pq:f 11 = .bool (decide (o.left ≤ qty)):=U 11 (xm 11 (by simp))
  have xo:=Q (eG (M xS) xe)
  simp only [pq]
  clear U xm pq xK hx xe
  by_cases qI:o.left ≤ qty
  ·have HK:Hid (redR l id qty = 10):=(M qe).trans (if_pos qI)
   go_wp2_with fail
   go_ret
   exact ⟨zv (M HK).symm,M xo⟩
  ·have HK:Hid (redR l id qty = 0):=(M qe).trans (if_neg qI)
   go_wp2_with fail
   go_ret
   exact ⟨zv (M HK).symm,M xo⟩
 ·rintro x hR V i op ⟨f,rfl,xe,U⟩ xk hx Y xq D
  clear xk
  have xo:=Q xe
  have HD:=Q U
  have z0:=zb (M xQ).1 xe (M xQ).2.2.1 0 _ rfl
  have z1:=zb (M xQ).1 xe (M xQ).2.2.1 1 _ rfl
  have u0:=zb (M xQ).2.1 xe (M xQ).2.2.2 0 _ rfl
  have u1:=zb (M xQ).2.1 xe (M xQ).2.2.2 1 _ rfl
  rw [Nat.zero_add] at z0 z1 u0 u1
  have qC:=Q (zh (M HR) (eG (M xS) xe) tg)
  obtain ⟨-,-,-,y3,-⟩:=zx (zb (M HCE) (eG (M xS) xe) hbw)
  match i,Y with
  | 0,Y =>
   obtain rfl:=hD Y
   clear D U xe
   rw [if_pos (by rfl)];unfold Oper.wp;go_simp
   exact ⟨upd f 0 (I (w.heap.size + 1) 1),by simp [upd],zc (M xo) (M HD) (by decide) rfl⟩
  | 1,Y =>
   obtain rfl:=hD Y
   have g:f 0 = I (w.heap.size + 1) 1:=U 0 (yc D 0 rfl)
   clear D U xe
   rw [if_pos (by rfl)];unfold Oper.wp;go_simp
   exact ⟨upd f 1 (H qty),by simp [upd,g],zc (M xo) (M HD) (by decide) rfl⟩
  | 2,Y =>
   obtain rfl:=hD Y
   clear D U xe
   rw [if_pos (by rfl)];unfold Oper.wp;go_simp
   exact ⟨upd f 2 (ym w 1),by simp [upd],zc (M xo) (M HD) (by decide) rfl⟩
  | 3,Y =>
   obtain rfl:=hD Y
   have g:f 2 = ym w 1:=U 2 (yc D 2 rfl)
   clear D U xe
   rw [if_pos (by rfl)];unfold Oper.wp;go_simp
   exact ⟨upd f 3 (.slice (some (J b off)) l.length F),by simp [upd,g],zc (M xo) (M HD) (by decide) rfl⟩
  | 4,Y =>
   obtain rfl:=hD Y
   clear D U xe
   rw [if_pos (by rfl)];unfold Oper.wp;go_simp
   exact ⟨upd f 4 (.agg #[H next,.slice (some (J b off)) l.length F]),by simp [upd],zc (M xo) (M HD) (by decide) rfl⟩
  | 5,Y =>
   obtain rfl:=hD Y
   clear D U xe
   rw [if_pos (by rfl)];unfold Oper.wp;go_simp
   exact ⟨upd f 5 (I (w.heap.size + 1) 0),by simp [upd],zc (M xo) (M HD) (by decide) rfl⟩
  | 6,Y =>
   obtain rfl:=hD Y
   have g:f 5 = I (w.heap.size + 1) 0:=U 5 (yc D 5 rfl)
   clear D U xe
   rw [if_pos (by rfl)];unfold Oper.wp;go_simp
   exact ⟨upd f 6 (H id),by simp [upd,g],zc (M xo) (M HD) (by decide) rfl⟩
  | 7,Y =>
   obtain rfl:=hD Y
   have g4:f 4 = .agg #[H next,.slice (some (J b off)) l.length F]:=U 4 (yc D 4 rfl)
   have g6:f 6 = H id:=U 6 (yc D 6 rfl)
   clear D U xe
   rw [if_pos (by rfl)];unfold Oper.wp;go_simp
   refine (dJ next _ l id V (M qC)).mono ?_
   rw [M HPL]
   rintro e w4 ⟨rfl,xy⟩
   exact ⟨upd f 7 (H k),by simp [upd,g4,g6],aP (M xo) (M HD) xy (by decide) (fun j v h=>h) rfl⟩
  | 8,Y =>
   obtain rfl:=hD Y
   have g3:f 3 = .slice (some (J b off)) l.length F:=U 3 (yc D 3 rfl)
   have g7:f 7 = H k:=U 7 (yc D 7 rfl)
   clear D U xe
   rw [if_pos (by rfl)];unfold Oper.wp;go_simp
   exact ⟨upd f 8 (I b (off + k * 6)),by simp [upd,g3,g7],zc (M xo) (M HD) (by decide) rfl⟩
  | 9,Y =>
   obtain rfl:=hD Y
   have g:f 8 = I b (off + k * 6):=U 8 (yc D 8 rfl)
   clear D U xe
   rw [if_pos (by rfl)];unfold Oper.wp;go_simp
   exact ⟨upd f 9 (I b (off + k * 6 + 3)),by simp [upd,g],zc (M xo) (M HD) (by decide) rfl⟩
  | 10,Y =>
   obtain rfl:=hD Y
   have g:f 9 = I b (off + k * 6 + 3):=U 9 (yc D 9 rfl)
   clear D U xe
   rw [if_pos (by rfl)];unfold Oper.wp;go_simp
   exact ⟨upd f 10 (H o.left),by simp [upd,g],zc (M xo) (M HD) (by decide) rfl⟩
  | 11,Y =>
   obtain rfl:=hD Y
   have g1:f 1 = H qty:=U 1 (yc D 1 rfl)
   have g:f 10 = H o.left:=U 10 (yc D 10 rfl)
   clear D U xe
   rw [if_pos (by rfl)];unfold Oper.wp;go_simp
   exact ⟨upd f 11 (.bool (decide (o.left ≤ qty))),by simp [upd,g,g1],zc (M xo) (M HD) (by decide) rfl⟩
  | n + 12,Y=>simp at Y
end Go.Proofs.YtbakanofkghmiaaGreat
