/-
  The reasons of a new order, by the program: proved by walking the function.
-/
import Derived.Test.YtdliebbfcmdmaaaGreatMj17
set_option linter.unusedVariables false
set_option maxHeartbeats 6400000
set_option maxRecDepth 100000
namespace Go.Proofs.YtdliebbfcmdmaaaGreat
open Go.RowKit
def lifW (c:Cm):Bool:=!betB c.l 0 1 || (decide (c.l = 1) && !aA c.t)
def newR (next:Int) (l:List Od) (c:Cm):Int :=
 if betB c.s 1 2 = false then 3 else if betB c.t 1 5 = false then 4 else if lifW c = true then 5 else if prcB c = false then 6 else if betB c.q 1 1000000 = false then 7 else if tagB c.g = false then 8 else matR next c (matL c next 21 l c.q [])
theorem newRefusal_any (next:Int) (vb:Value) (l:List Od) (c:Cm) (w:World) (hr:RdR Od.vs 6 w vb l) (hs:SlOk vb) (hg:GoodL l) (h0:0 ≤ next) (Q:next ≤ 1000000) (ht:c.g.size ≤ maxLen) :
  Calls Tryz.prog 50 #[.agg #[H next,vb],noV c] w fun e w'=>e = ym (H (newR next l c))∧yn w w':=by
 have HR:=Y hr
 have HG:=Y hg
 have vR:=Y hs
 have uG:Hid (0 ≤ next∧next ≤ 1000000):=⟨h0,Q⟩
 have qI:=Y ht
 obtain ⟨a,A,rfl,xD,hc⟩:=hr
 clear hc hg hs h0 Q ht xD
 generalize vP:newR next l c = res
 have HN0:Hid (_ = res):=vP
 clear vP
 obtain ⟨kk,s,X,li,F,ii,pr,O⟩:=c
 unfold newR at HN0
 unfold noV
 simp only at *
 have xA:=ze w (E #[H next,.slice a l.length A] 31)
 have uc:((w.alloc (E #[H next,.slice a l.length A] 31)).alloc (E #[H s,H X,H li,H F,yj pr,yk O] 74)).heap.size = w.heap.size + 1 + 1:=by rw [ze,xA]
 have r1:=zg w [H next,.slice a l.length A] 31
 have r2:=zg (w.alloc (E #[H next,.slice a l.length A] 31)) [H s,H X,H li,H F,yj pr,yk O] 74
 rw [xA] at r2
 have qm:Below (w.heap.size + 1) (w.alloc (E #[H next,.slice a l.length A] 31)) ((w.alloc (E #[H next,.slice a l.length A] 31)).alloc (E #[H s,H X,H li,H F,yj pr,yk O] 74)):=(Below.refl _ _).alloc (by rw [xA]; omega) _
 have xF:Hid (yn w ((w.alloc (E #[H next,.slice a l.length A] 31)).alloc (E #[H s,H X,H li,H F,yj pr,yk O] 74))):=(ed _ _).alloc (by rw [xA]; omega) _
 have HX:Hid (_∧_):=⟨zb r1 qm (by omega),r2⟩
 have ux:Hid (w.heap.size < ((w.alloc (E #[H next,.slice a l.length A] 31)).alloc (E #[H s,H X,H li,H F,yj pr,yk O] 74)).heap.size∧w.heap.size + 1 < ((w.alloc (E #[H next,.slice a l.length A] 31)).alloc (E #[H s,H X,H li,H F,yj pr,yk O] 74)).heap.size):=⟨by omega,by omega⟩
 clear xA uc r1 r2 qm
 go_enter Tryz.func50,Tryz.ntmps50
 refine ei fun hR xu=>?_
 go_wp2_with fail
 refine U xu _ _ ?_
 clear xu
 generalize ((w.alloc (E #[H next,.slice a l.length A] 31)).alloc (E #[H s,H X,H li,H F,yj pr,yk O] 74)) = X2 at xF HX ux ⊢
 have HX:Hid (X2.rangeAt w.heap.size 0 [H next,.slice a l.length A]∧X2.rangeAt (w.heap.size + 1) 0 [H s,H X,H li,H F,yj pr,yk O]):=U HX
 have k0:=zb (U HX).1 (Below.refl _ _) (U ux).1 0 _ rfl
 have k1:=zb (U HX).1 (Below.refl _ _) (U ux).1 1 _ rfl
 have o0:=zb (U HX).2 (Below.refl _ _) (U ux).2 0 _ rfl
 have o1:=zb (U HX).2 (Below.refl _ _) (U ux).2 1 _ rfl
 have o2:=zb (U HX).2 (Below.refl _ _) (U ux).2 2 _ rfl
 have o3:=zb (U HX).2 (Below.refl _ _) (U ux).2 3 _ rfl
 have o4:=zb (U HX).2 (Below.refl _ _) (U ux).2 4 _ rfl
 have o5:=zb (U HX).2 (Below.refl _ _) (U ux).2 5 _ rfl
 simp only [Nat.zero_add] at k0 k1 o0 o1 o2 o3 o4 o5
 go_wp2_with fail
 refine (isSide_any s X2).mono ?_
 rintro e w' ⟨rfl,rfl⟩
 cases h3:betB s 1 2
 ·have HK:Hid (3 = res):=by have:=U HN0; rw [if_pos h3] at this; exact this
  clear h3
  go_wp2_with fail
  go_ret
  exact ⟨zp (U HK),U xF⟩
 have HN1:Hid (_ = res):=(if_neg (fun h=>by rw [h3] at h; cases h)).symm.trans (U HN0)
 clear h3 HN0
 go_wp2_with fail
 refine (isType_any X w').mono ?_
 rintro e w1 ⟨rfl,rfl⟩
 cases h4:betB X 1 5
 ·have HK:Hid (4 = res):=by have:=U HN1; rw [if_pos h4] at this; exact this
  clear h4
  go_wp2_with fail
  go_ret
  exact ⟨zp (U HK),U xF⟩
 have HN2:Hid (_ = res):=(if_neg (fun h=>by rw [h4] at h; cases h)).symm.trans (U HN1)
 clear h4 HN1
 go_wp2_with fail
 refine (isLife_any li w1).mono ?_
 rintro e w2 ⟨rfl,rfl⟩
 cases h5:betB li 0 1
 ·have HK:Hid (5 = res):=by have:=U HN2; rw [if_pos (by simp [lifW,h5])] at this; exact this
  clear h5
  go_wp2_with fail
  go_ret
  exact ⟨zp (U HK),U xF⟩
 by_cases hli:li = 1
 ·subst hli
  go_wp2_with fail
  refine (dv ⟨kk,s,X,1,F,ii,pr,O⟩ w2).mono ?_
  rintro e w3 ⟨rfl,uH⟩
  dsimp only
  have xv:=Y uH
  clear uH k0 k1 o0 o1 o2 o3 o4 o5
  cases h6:aA X
  ·have HK:Hid (5 = res):=by have:=U HN2; rw [if_pos (by simp [lifW,h6])] at this; exact this
   clear h6 h5
   go_wp2_with fail
   go_ret
   exact ⟨zp (U HK),(U xF).trans ((U xv).mono (U xF).size)⟩
  have po:Hid (_ = res):=(if_neg (by simp [lifW,h5,h6])).symm.trans (U HN2)
  clear h5 h6 HN2
  have k0:=zb (U HX).1 (U xv) (U ux).1 0 _ rfl
  have k1:=zb (U HX).1 (U xv) (U ux).1 1 _ rfl
  have o0:=zb (U HX).2 (U xv) (U ux).2 0 _ rfl
  have o1:=zb (U HX).2 (U xv) (U ux).2 1 _ rfl
  have o2:=zb (U HX).2 (U xv) (U ux).2 2 _ rfl
  have o3:=zb (U HX).2 (U xv) (U ux).2 3 _ rfl
  have o4:=zb (U HX).2 (U xv) (U ux).2 4 _ rfl
  have o5:=zb (U HX).2 (U xv) (U ux).2 5 _ rfl
  simp only [Nat.zero_add] at k0 k1 o0 o1 o2 o3 o4 o5
  go_wp2_with fail
  refine (hasPrice_any ⟨kk,s,X,1,F,ii,pr,O⟩ w3).mono ?_
  rintro e w4 ⟨rfl,xC⟩
  have un:=Y (eh (U xv) xC)
  clear xC k0 k1 o0 o1 o2 o3 o4 o5 xv
  cases h7:prcB ⟨kk,s,X,1,F,ii,pr,O⟩
  ·have HK:Hid (6 = res):=by have:=U po; rw [if_pos h7] at this; exact this
   clear h7
   go_wp2_with fail
   go_ret
   exact ⟨zp (U HK),(U xF).trans ((U un).mono (U xF).size)⟩
  have HN4:Hid (_ = res):=(if_neg (fun h=>by rw [h7] at h; cases h)).symm.trans (U po)
  clear h7 po
  have k0:=zb (U HX).1 (U un) (U ux).1 0 _ rfl
  have k1:=zb (U HX).1 (U un) (U ux).1 1 _ rfl
  have o0:=zb (U HX).2 (U un) (U ux).2 0 _ rfl
  have o1:=zb (U HX).2 (U un) (U ux).2 1 _ rfl
  have o2:=zb (U HX).2 (U un) (U ux).2 2 _ rfl
  have o3:=zb (U HX).2 (U un) (U ux).2 3 _ rfl
  have o4:=zb (U HX).2 (U un) (U ux).2 4 _ rfl
  have o5:=zb (U HX).2 (U un) (U ux).2 5 _ rfl
  simp only [Nat.zero_add] at k0 k1 o0 o1 o2 o3 o4 o5
  go_wp2_with fail
  refine (isQty_any F w4).mono ?_
  rintro e w5 ⟨rfl,rfl⟩
  cases h8:betB F 1 1000000
  ·have HK:Hid (7 = res):=by have:=U HN4; rw [if_pos h8] at this; exact this
   clear h8
   go_wp2_with fail
   go_ret
   exact ⟨zp (U HK),(U xF).trans ((U un).mono (U xF).size)⟩
  have HN5:Hid (_ = res):=(if_neg (fun h=>by rw [h8] at h; cases h)).symm.trans (U HN4)
  have HQB:Hid (0 ≤ F∧F ≤ 1000000):=by
   simp only [betB,xe,xh] at h8
   exact ⟨by omega,h8.2⟩
  clear h8 HN4
  go_wp2_with fail
  refine (isTag_any O w5 (U qI)).mono ?_
  rintro e w6 ⟨rfl,rfl⟩
  cases h9:tagB O
  ·have HK:Hid (8 = res):=by have:=U HN5; rw [if_pos h9] at this; exact this
   clear h9
   go_wp2_with fail
   go_ret
   exact ⟨zp (U HK),(U xF).trans ((U un).mono (U xF).size)⟩
  have HN6:Hid (_ = res):=(if_neg (fun h=>by rw [h9] at h; cases h)).symm.trans (U HN5)
  clear h9 HN5
  go_wp2_with fail
  refine (dY next _ l ⟨kk,s,X,1,F,ii,pr,O⟩ w6 (zl (U HR) ((U xF).trans ((U un).mono (U xF).size)) tg) (U vR) (U HG) (U uG).1 (U uG).2 (U HQB).1 (U HQB).2).mono ?_
  dsimp only
  rw [U HN6]
  rintro e w7 ⟨rfl,jk⟩
  have jA:=Y (((U xF).trans ((U un).mono (U xF).size)).trans (jk.mono ((U xF).trans ((U un).mono (U xF).size)).size))
  clear jk
  go_wp2_with fail
  go_ret
  exact ⟨rfl,U jA⟩
 have hlb:(li == 1) = false:=by rw [xd]; exact hli
 have po:Hid (_ = res):=(if_neg (by simp [lifW,h5,hli])).symm.trans (U HN2)
 have xv:Hid (yn w2 w2):=Below.refl _ _
 clear h5 hli HN2
 go_wp2_with fail
 refine (hasPrice_any ⟨kk,s,X,li,F,ii,pr,O⟩ w2).mono ?_
 rintro e w4 ⟨rfl,xC⟩
 have un:=Y (eh (U xv) xC)
 clear xC k0 k1 o0 o1 o2 o3 o4 o5 xv
 cases h7:prcB ⟨kk,s,X,li,F,ii,pr,O⟩
 ·have HK:Hid (6 = res):=by have:=U po; rw [if_pos h7] at this; exact this
  clear h7
  go_wp2_with fail
  go_ret
  exact ⟨zp (U HK),(U xF).trans ((U un).mono (U xF).size)⟩
 have HN4:Hid (_ = res):=(if_neg (fun h=>by rw [h7] at h; cases h)).symm.trans (U po)
 clear h7 po
 have k0:=zb (U HX).1 (U un) (U ux).1 0 _ rfl
 have k1:=zb (U HX).1 (U un) (U ux).1 1 _ rfl
 have o0:=zb (U HX).2 (U un) (U ux).2 0 _ rfl
 have o1:=zb (U HX).2 (U un) (U ux).2 1 _ rfl
 have o2:=zb (U HX).2 (U un) (U ux).2 2 _ rfl
 have o3:=zb (U HX).2 (U un) (U ux).2 3 _ rfl
 have o4:=zb (U HX).2 (U un) (U ux).2 4 _ rfl
 have o5:=zb (U HX).2 (U un) (U ux).2 5 _ rfl
 simp only [Nat.zero_add] at k0 k1 o0 o1 o2 o3 o4 o5
 go_wp2_with fail
 refine (isQty_any F w4).mono ?_
 rintro e w5 ⟨rfl,rfl⟩
 cases h8:betB F 1 1000000
 ·have HK:Hid (7 = res):=by have:=U HN4; rw [if_pos h8] at this; exact this
  clear h8
  go_wp2_with fail
  go_ret
  exact ⟨zp (U HK),(U xF).trans ((U un).mono (U xF).size)⟩
 have HN5:Hid (_ = res):=(if_neg (fun h=>by rw [h8] at h; cases h)).symm.trans (U HN4)
 have HQB:Hid (0 ≤ F∧F ≤ 1000000):=by
  simp only [betB,xe,xh] at h8
  exact ⟨by omega,h8.2⟩
 clear h8 HN4
 go_wp2_with fail
 refine (isTag_any O w5 (U qI)).mono ?_
 rintro e w6 ⟨rfl,rfl⟩
 cases h9:tagB O
 ·have HK:Hid (8 = res):=by have:=U HN5; rw [if_pos h9] at this; exact this
  clear h9
  go_wp2_with fail
  go_ret
  exact ⟨zp (U HK),(U xF).trans ((U un).mono (U xF).size)⟩
 have HN6:Hid (_ = res):=(if_neg (fun h=>by rw [h9] at h; cases h)).symm.trans (U HN5)
 clear h9 HN5
 go_wp2_with fail
 refine (dY next _ l ⟨kk,s,X,li,F,ii,pr,O⟩ w6 (zl (U HR) ((U xF).trans ((U un).mono (U xF).size)) tg) (U vR) (U HG) (U uG).1 (U uG).2 (U HQB).1 (U HQB).2).mono ?_
 dsimp only
 rw [U HN6]
 rintro e w7 ⟨rfl,jk⟩
 have jA:=Y (((U xF).trans ((U un).mono (U xF).size)).trans (jk.mono ((U xF).trans ((U un).mono (U xF).size)).size))
 clear jk
 go_wp2_with fail
 go_ret
 exact ⟨rfl,U jA⟩
def idR (l:List Od) (id:Int):Int:=if plc l id < 0 then 9 else 0
def redR (l:List Od) (id qty:Int):Int:=if betB qty 1 1000000 = true then (if plc l id < 0 then 9 else match l[(plc l id).toNat]? with | some o=>if o.left ≤ qty then 10 else 0 | none=>0) else 7
theorem dg (l:List Od) (id:Int):plc l id = -1 ∨ ∃ (k:Nat) (o:Od),plc l id = k∧l[k]? = some o:=by
 rcases plcF_spec id l 0 with ⟨Q,_⟩ | ⟨i,o,Q,N,_⟩
 ·exact .inl Q
 ·exact .inr ⟨i,o,by rw [plc,Q]; congr 1; omega,N⟩
theorem idRefusal_any (next:Int) (v:Value) (l:List Od) (id:Int) (w:World) (hr:RdR Od.vs 6 w v l) :
  Calls Tryz.prog 51 #[.agg #[H next,v],H id] w fun e w'=>e = ym (H (idR l id))∧yn w w':=by
 have HR:=Y hr
 obtain ⟨a,A,rfl,xD,hc⟩:=hr
 have vj:Hid (yn w (w.alloc (E #[H next,.slice a l.length A] 31))):=ed _ _
 clear hc
 go_enter Tryz.func51,Tryz.ntmps51
 go_wp2_with fail
 refine (dn next _ l id _ (zl (U HR) (U vj) tg)).mono ?_
 rintro e w3 ⟨rfl,uH⟩
 have xT:=Y (eh (U vj) uH)
 clear uH
 by_cases hp:plc l id < 0
 ·have HK:Hid (idR l id = 9):=if_pos hp
  go_wp2_with fail
  go_ret
  exact ⟨zp (U HK).symm,U xT⟩
 ·have HK:Hid (idR l id = 0):=if_neg hp
  go_wp2_with fail
  go_ret
  exact ⟨zp (U HK).symm,U xT⟩
def DZ (b2 b3 b off A k:Nat) (next id qty:Int) (l:List Od) (o:Od) (p:Prop) (V:World):Nat→Value→Prop
 | 0,v=>v = I b3 1
 | 1,v=>v = H qty
 | 2,v=>v = I b2 1
 | 3,v=>v = .slice (some (J b off)) l.length A
 | 4,v=>v = .agg #[H next,.slice (some (J b off)) l.length A]
 | 5,v=>v = I b3 0
 | 6,v=>v = H id
 | 7,v=>v = H k
 | 8,v=>v = I b (off + k * 6)
 | 9,v=>v = I b (off + k * 6 + 3)
 | 10,v=>v = H o.left
 | 11,v=>v = .bool (decide (o.left ≤ qty))
 | _,_=>True
theorem reduceRefusal_any (next:Int) (vb:Value) (l:List Od) (id qty:Int) (w:World) (hr:RdR Od.vs 6 w vb l) :
  Calls Tryz.prog 52 #[.agg #[H next,vb],.agg #[H id,H qty]] w fun e w'=>e = ym (H (redR l id qty))∧yn w w':=by
 have HR:=Y hr
 obtain ⟨a,A,rfl,xD,hc⟩:=hr
 have qk:=Y hc
 clear hc
 have xA:=ze w (E #[H next,.slice a l.length A] 31)
 have uc:((w.alloc (E #[H next,.slice a l.length A] 31)).alloc (E #[H id,H qty] 80)).heap.size = w.heap.size + 1 + 1:=by rw [ze,xA]
 have r1:=zg w [H next,.slice a l.length A] 31
 have r2:=zg (w.alloc (E #[H next,.slice a l.length A] 31)) [H id,H qty] 80
 rw [xA] at r2
 have qm:Below (w.heap.size + 1) (w.alloc (E #[H next,.slice a l.length A] 31)) ((w.alloc (E #[H next,.slice a l.length A] 31)).alloc (E #[H id,H qty] 80)):=(Below.refl _ _).alloc (by rw [xA]; omega) _
 have xF:Hid (yn w ((w.alloc (E #[H next,.slice a l.length A] 31)).alloc (E #[H id,H qty] 80))):=(ed _ _).alloc (by rw [xA]; omega) _
 have HX:Hid (_∧_):=⟨zb r1 qm (by omega),r2⟩
 have ux:Hid (w.heap.size < ((w.alloc (E #[H next,.slice a l.length A] 31)).alloc (E #[H id,H qty] 80)).heap.size∧w.heap.size + 1 < ((w.alloc (E #[H next,.slice a l.length A] 31)).alloc (E #[H id,H qty] 80)).heap.size):=⟨by omega,by omega⟩
 clear xA uc r1 r2 qm
 go_enter Tryz.func52,Tryz.ntmps52
 refine ei fun hR xu=>?_
 go_wp2_with fail
 refine U xu _ _ ?_
 clear xu
 generalize ((w.alloc (E #[H next,.slice a l.length A] 31)).alloc (E #[H id,H qty] 80)) = X2 at xF HX ux ⊢
 have HX:Hid (X2.rangeAt w.heap.size 0 [H next,.slice a l.length A]∧X2.rangeAt (w.heap.size + 1) 0 [H id,H qty]):=U HX
 have k0:X2.cell? (yq w 0) = some (H next):=(U HX).1 0 _ rfl
 have k1:X2.cell? (yq w 1) = some (.slice a l.length A):=(U HX).1 1 _ rfl
 have o0:X2.cell? (J (w.heap.size + 1) 0) = some (H id):=(U HX).2 0 _ rfl
 have o1:X2.cell? (J (w.heap.size + 1) 1) = some (H qty):=(U HX).2 1 _ rfl
 go_wp2_with fail
 refine (isQty_any qty X2).mono ?_
 rintro e w3 ⟨rfl,rfl⟩
 cases hq:betB qty 1 1000000
 ·have HK:Hid (redR l id qty = 7):=by show _ = _; rw [redR,if_neg (by rw [hq]; simp)]
  clear hq
  go_wp2_with fail
  go_ret
  exact ⟨zp (U HK).symm,U xF⟩
 have HQ:=Y hq
 clear hq
 go_wp2_with fail
 refine (idRefusal_any next _ l id w3 (zl (U HR) (U xF) tg)).mono ?_
 rcases dg l id with hp | ⟨k,o,hp,hk⟩
 ·have qE:idR l id = 9:=by rw [idR,if_pos (by omega)]
  rw [qE]
  have HK:Hid (redR l id qty = 9):=by show _ = _; rw [redR,if_pos (U HQ),if_pos (by omega)]
  clear hp qE
  rintro e w4 ⟨rfl,xC⟩
  have un:=Y (eh (U xF) xC)
  clear xC
  go_wp2_with fail
  go_ret
  exact ⟨zp (U HK).symm,U un⟩
 have qE:idR l id = 0:=by rw [idR,if_neg (by omega)]
 rw [qE]
 have HPL:=Y hp
 have vp:Hid (redR l id qty = if o.left ≤ qty then 10 else 0):=by
  show _ = _
  rw [redR,if_pos (U HQ),if_neg (by omega),hp,Int.toNat_natCast,hk]
 have kO:=(yG.1 hk).1
 obtain ⟨b,off,rfl,qr,xo⟩:=U qk (by intro h; rw [h] at kO; simp at kO)
 have HCE:=Y (xo k o hk)
 have hkl':(k:Int) < l.length:=by omega
 have hk0:(0:Int) ≤ k:=by omega
 clear hp qE xo hk
 rintro e w4 ⟨rfl,xC⟩
 have un:=Y (eh (U xF) xC)
 have xS:Hid (w4.rangeAt w.heap.size 0 [H next,.slice (some (J b off)) l.length A]∧w4.rangeAt (w.heap.size + 1) 0 [H id,H qty]∧w.heap.size < w4.heap.size∧w.heap.size + 1 < w4.heap.size):=⟨zb (U HX).1 xC (U ux).1,zb (U HX).2 xC (U ux).2,yJ (U ux).1 xC.size,yJ (U ux).2 xC.size⟩
 clear xC k0 k1 o0 o1
 go_wp2_with fail
 refine zh (RG w4 (fun f=>{ tmps:=#[.agg #[H next,.slice (some (J b off)) l.length A],.agg #[H id,H qty],yp w 0,I (w.heap.size + 1) 0,H 0,H 0,I (w.heap.size + 1) 1,H qty,.bool true,.bool false,.agg #[H next,.slice (some (J b off)) l.length A],I (w.heap.size + 1) 0,H id,H 0,H 0,.bool false,M,f 0,f 1,f 2,f 3,f 4,f 5,f 6,f 7,f 8,f 9,f 10,f 11],defers:=[] }) 99 (DZ w.heap.size (w.heap.size + 1) b off A k next id qty l o)) (by kernel_rfl) ?_ ?_ ?_
 ·exact ⟨fun _=>M,rfl,⟨rfl,rfl,rfl,Nat.le_refl _,fun _ _=>rfl⟩,fun j R=>by rw [yI] at R; split at R <;> simp at R⟩
 ·rintro x xm V ⟨f,rfl,xk,hD⟩ hx xP
  have xp:=zP xP hx (by kernel_rfl)
  have e11:f 11 = .bool (decide (o.left ≤ qty)):=hD 11 (xp 11 (by simp))
  have xv:=Y (eh (U un) xk)
  simp only [e11]
  clear hD xp e11 xP hx xk
  by_cases kl:o.left ≤ qty
  ·have HK:Hid (redR l id qty = 10):=(U vp).trans (if_pos kl)
   go_wp2_with fail
   go_ret
   exact ⟨zp (U HK).symm,U xv⟩
  ·have HK:Hid (redR l id qty = 0):=(U vp).trans (if_neg kl)
   go_wp2_with fail
   go_ret
   exact ⟨zp (U HK).symm,U xv⟩
 ·rintro x xm V i op ⟨f,rfl,xk,hD⟩ xo hx Z xy D
  clear xo
  have xv:=Y xk
  have HD:=Y hD
  have z0:=zb (U xS).1 xk (U xS).2.2.1 0 _ rfl
  have z1:=zb (U xS).1 xk (U xS).2.2.1 1 _ rfl
  have u0:=zb (U xS).2.1 xk (U xS).2.2.2 0 _ rfl
  have u1:=zb (U xS).2.1 xk (U xS).2.2.2 1 _ rfl
  rw [Nat.zero_add] at z0 z1 u0 u1
  have jf:=Y (zl (U HR) (eh (U un) xk) tg)
  obtain ⟨-,-,-,y3,-⟩:=zC (zb (U HCE) (eh (U un) xk) qr)
  match i,Z with
  | 0,Z =>
   obtain rfl:=ya Z
   clear D hD xk
   rw [if_pos (by rfl)];unfold Oper.wp;go_simp
   exact ⟨upd f 0 (I (w.heap.size + 1) 1),by simp [upd],zd (U xv) (U HD) (by decide) rfl⟩
  | 1,Z =>
   obtain rfl:=ya Z
   have g:f 0 = I (w.heap.size + 1) 1:=hD 0 (ye D 0 rfl)
   clear D hD xk
   rw [if_pos (by rfl)];unfold Oper.wp;go_simp
   exact ⟨upd f 1 (H qty),by simp [upd,g],zd (U xv) (U HD) (by decide) rfl⟩
  | 2,Z =>
   obtain rfl:=ya Z
   clear D hD xk
   rw [if_pos (by rfl)];unfold Oper.wp;go_simp
   exact ⟨upd f 2 (yp w 1),by simp [upd],zd (U xv) (U HD) (by decide) rfl⟩
  | 3,Z =>
   obtain rfl:=ya Z
   have g:f 2 = yp w 1:=hD 2 (ye D 2 rfl)
   clear D hD xk
   rw [if_pos (by rfl)];unfold Oper.wp;go_simp
   exact ⟨upd f 3 (.slice (some (J b off)) l.length A),by simp [upd,g],zd (U xv) (U HD) (by decide) rfl⟩
  | 4,Z =>
   obtain rfl:=ya Z
   clear D hD xk
   rw [if_pos (by rfl)];unfold Oper.wp;go_simp
   exact ⟨upd f 4 (.agg #[H next,.slice (some (J b off)) l.length A]),by simp [upd],zd (U xv) (U HD) (by decide) rfl⟩
  | 5,Z =>
   obtain rfl:=ya Z
   clear D hD xk
   rw [if_pos (by rfl)];unfold Oper.wp;go_simp
   exact ⟨upd f 5 (I (w.heap.size + 1) 0),by simp [upd],zd (U xv) (U HD) (by decide) rfl⟩
  | 6,Z =>
   obtain rfl:=ya Z
   have g:f 5 = I (w.heap.size + 1) 0:=hD 5 (ye D 5 rfl)
   clear D hD xk
   rw [if_pos (by rfl)];unfold Oper.wp;go_simp
   exact ⟨upd f 6 (H id),by simp [upd,g],zd (U xv) (U HD) (by decide) rfl⟩
  | 7,Z =>
   obtain rfl:=ya Z
   have g4:f 4 = .agg #[H next,.slice (some (J b off)) l.length A]:=hD 4 (ye D 4 rfl)
   have g6:f 6 = H id:=hD 6 (ye D 6 rfl)
   clear D hD xk
   rw [if_pos (by rfl)];unfold Oper.wp;go_simp
   refine (dn next _ l id V (U jf)).mono ?_
   rw [U HPL]
   rintro e w4 ⟨rfl,xC⟩
   exact ⟨upd f 7 (H k),by simp [upd,g4,g6],aR (U xv) (U HD) xC (by decide) (fun j v h=>h) rfl⟩
  | 8,Z =>
   obtain rfl:=ya Z
   have g3:f 3 = .slice (some (J b off)) l.length A:=hD 3 (ye D 3 rfl)
   have g7:f 7 = H k:=hD 7 (ye D 7 rfl)
   clear D hD xk
   rw [if_pos (by rfl)];unfold Oper.wp;go_simp
   exact ⟨upd f 8 (I b (off + k * 6)),by simp [upd,g3,g7],zd (U xv) (U HD) (by decide) rfl⟩
  | 9,Z =>
   obtain rfl:=ya Z
   have g:f 8 = I b (off + k * 6):=hD 8 (ye D 8 rfl)
   clear D hD xk
   rw [if_pos (by rfl)];unfold Oper.wp;go_simp
   exact ⟨upd f 9 (I b (off + k * 6 + 3)),by simp [upd,g],zd (U xv) (U HD) (by decide) rfl⟩
  | 10,Z =>
   obtain rfl:=ya Z
   have g:f 9 = I b (off + k * 6 + 3):=hD 9 (ye D 9 rfl)
   clear D hD xk
   rw [if_pos (by rfl)];unfold Oper.wp;go_simp
   exact ⟨upd f 10 (H o.left),by simp [upd,g],zd (U xv) (U HD) (by decide) rfl⟩
  | 11,Z =>
   obtain rfl:=ya Z
   have g1:f 1 = H qty:=hD 1 (ye D 1 rfl)
   have g:f 10 = H o.left:=hD 10 (ye D 10 rfl)
   clear D hD xk
   rw [if_pos (by rfl)];unfold Oper.wp;go_simp
   exact ⟨upd f 11 (.bool (decide (o.left ≤ qty))),by simp [upd,g,g1],zd (U xv) (U HD) (by decide) rfl⟩
  | n + 12,Z=>simp at Z
end Go.Proofs.YtdliebbfcmdmaaaGreat
