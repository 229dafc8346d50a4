/-
  The reason why a command is refused, by the program: proved by walking the functions.
-/
import Derived.Test.YtbakanofkghmiaaGreatTj22
set_option linter.unusedVariables false
set_option maxHeartbeats 6400000
set_option maxRecDepth 100000
namespace Go.Proofs.YtbakanofkghmiaaGreat
open Go.RowKit
def refR (next:Int) (l:List Od) (c:Cm):Int :=
 if c.k = 1 then (if pR ⟨1,c.s,c.t,c.l,c.q,0,c.p,c.g⟩ c = true then newR next l c else 2)
 else if c.k = 2 then (if pR ⟨2,0,0,0,0,c.i,0,⟨#[]⟩⟩ c = true then idR l c.i else 2)
 else if c.k = 3 then (if pR ⟨3,0,0,0,c.q,c.i,0,⟨#[]⟩⟩ c = true then redR l c.i c.q else 2)
 else if c.k = 4 then (if pR ⟨4,0,0,0,0,0,0,⟨#[]⟩⟩ c = true then 0 else 2)
 else 1
theorem refusal_any (next:Int) (vb:Value) (l:List Od) (c:Cm) (w:World) (hr:RdR Od.vs 6 w vb l) (hs:SlOk vb) (hg:GoodL l) (h0:0 ≤ next) (Q:next ≤ 1000000) (ht:c.g.size ≤ maxLen) :
  Calls Tryz.prog 63 #[.agg #[H next,vb],cmV c] w fun e w'=>e = yl (H (refR next l c))∧ym w w':=by
 obtain ⟨kk,s,ty,li,O,ii,pr,K⟩:=c
 unfold cmV
 simp only at ht ⊢
 by_cases e1:kk = 1
 ·subst e1; exact refusal_1 next vb l s ty li O ii pr K w hr hs hg h0 Q ht
 by_cases e2:kk = 2
 ·subst e2; exact refusal_2 next vb l s ty li O ii pr K w hr hs hg h0 Q ht
 by_cases e3:kk = 3
 ·subst e3; exact refusal_3 next vb l s ty li O ii pr K w hr hs hg h0 Q ht
 by_cases e4:kk = 4
 ·subst e4; exact refusal_4 next vb l s ty li O ii pr K w hr hs hg h0 Q ht
 have vM:Hid (refR next l ⟨kk,s,ty,li,O,ii,pr,K⟩ = 1):=by show _ = _; simp [refR,e1,e2,e3,e4]
 have jc:cmdI ⟨kk,s,ty,li,O,ii,pr,K⟩ = .nilIface:=by simp [cmdI,e1,e2,e3,e4]
 obtain ⟨a,E,rfl,xB,hc⟩:=hr
 clear hc hg hs h0 Q ht xB e1 e2 e3 e4
 have xy:=zf w (D #[H next,.slice a l.length E] 28)
 have xY:((w.alloc (D #[H next,.slice a l.length E] 28)).alloc (D (yv kk s ty li O ii pr K).toArray 43)).heap.size = w.heap.size + 1 + 1:=by rw [zf,xy]
 have r1:=zg w [H next,.slice a l.length E] 28
 have r2:=zg (w.alloc (D #[H next,.slice a l.length E] 28)) (yv kk s ty li O ii pr K) 43
 rw [xy] at r2
 have qg:Below (w.heap.size + 1) (w.alloc (D #[H next,.slice a l.length E] 28)) ((w.alloc (D #[H next,.slice a l.length E] 28)).alloc (D (yv kk s ty li O ii pr K).toArray 43)):=(Below.refl _ _).alloc (by rw [xy]; omega) _
 have xC:Hid (ym w ((w.alloc (D #[H next,.slice a l.length E] 28)).alloc (D (yv kk s ty li O ii pr K).toArray 43))):=(dm _ _).alloc (by rw [xy]; omega) _
 have HX:Hid (_∧_):=⟨zb r1 qg (by omega),r2⟩
 have ur:Hid (w.heap.size < ((w.alloc (D #[H next,.slice a l.length E] 28)).alloc (D (yv kk s ty li O ii pr K).toArray 43)).heap.size∧w.heap.size + 1 < ((w.alloc (D #[H next,.slice a l.length E] 28)).alloc (D (yv kk s ty li O ii pr K).toArray 43)).heap.size):=⟨by omega,by omega⟩
 clear xy xY r1 r2 qg
 go_enter Tryz.func63,Tryz.ntmps63
 refine ds fun tg xq=>?_
 go_wp2_with fail
 refine U xq _ _ ?_
 clear xq
 generalize ((w.alloc (D #[H next,.slice a l.length E] 28)).alloc (D (yv kk s ty li O ii pr K).toArray 43)) = X2 at xC HX ur ⊢
 have HX:Hid (X2.rangeAt w.heap.size 0 [H next,.slice a l.length E]∧X2.rangeAt (w.heap.size + 1) 0 (yv kk s ty li O ii pr K)) :=U HX
 have k0:X2.cell? (yp w 0) = some (H next):=(U HX).1 0 _ rfl
 have k1:X2.cell? (yp w 1) = some (.slice a l.length E):=(U HX).1 1 _ rfl
 obtain ⟨o0,o1,o2,o3,o4,o5,o6,o7⟩:=yB (U HX).2
 go_wp2_with fail
 refine (aZ ⟨kk,s,ty,li,O,ii,pr,K⟩ X2).mono ?_
 rw [jc]
 clear jc
 rintro e w4 ⟨rfl,xz⟩
 have uk:=Y (dq (U xC) xz)
 clear xz
 go_wp2_with fail
 go_ret
 exact ⟨zq (U vM).symm,U uk⟩
theorem br (t:Int) (w:World) :
  Calls Tryz.prog 91 #[H t] w fun e w'=>e = yl (.bool (pP t))∧w' = w:=by
 by_cases Q:t = 1
 ·subst Q
  go_enter Tryz.func91,Tryz.ntmps91
  go_wp2_with fail
  go_ret
  exact ⟨rfl,rfl⟩
 have b1:(t == 1) = false:=by rw [xb]; exact Q
 have HK:Hid (pP t = (t == 5)):=by
  show _ = _
  by_cases h5:t = 5 <;> simp [pP,Q,h5]
 clear Q
 go_enter Tryz.func91,Tryz.ntmps91
 go_wp2_with fail
 go_ret
 exact ⟨zy (U HK).symm,rfl⟩
def aD (sd tk:Int) (o:Od):Bool:=if tk = 0 then true else if sd = 1 then decide (o.ticks ≤ tk) else decide (tk ≤ o.ticks)
theorem l04Crosses_any (sd tk:Int) (o:Od) (w:World) :
  Calls Tryz.prog 160 #[H sd,H tk,.agg (yu o.id o.side o.ticks o.left o.life o.tag).toArray] w fun e w'=>e = yl (.bool (aD sd tk o))∧ym w w':=by
 obtain ⟨id,side,ticks,left,life,tag⟩:=o
 simp only
 by_cases h0:tk = 0
 ·subst h0
  go_enter Tryz.func160,Tryz.ntmps160
  go_wp2_with fail
  go_ret
  exact ⟨rfl,by go_grown⟩
 have b0:(tk == 0) = false:=by rw [xb]; exact h0
 by_cases Q:sd = 1
 ·subst Q
  have HK:Hid (aD 1 tk ⟨id,side,ticks,left,life,tag⟩ = decide (ticks ≤ tk)):=by show _ = _; simp [aD,h0]
  clear h0
  go_enter Tryz.func160,Tryz.ntmps160
  go_wp2_with fail
  go_ret
  exact ⟨zy (U HK).symm,by go_grown⟩
 have b1:(sd == 1) = false:=by rw [xb]; exact Q
 have HK:Hid (aD sd tk ⟨id,side,ticks,left,life,tag⟩ = decide (tk ≤ ticks)):=by show _ = _; simp [aD,h0,Q]
 clear h0 Q
 go_enter Tryz.func160,Tryz.ntmps160
 go_wp2_with fail
 go_ret
 exact ⟨zy (U HK).symm,by go_grown⟩
theorem bX (v:Value) (l:List Od) (id:Int) (w:World) (hr:RdR Od.vs 6 w v l) :
  Calls Tryz.prog 86 #[v,H id] w fun e w'=>e = yl (H (plc l id))∧ym w w':=by
 obtain ⟨a,E,rfl,xB,hc⟩:=hr
 have xo:∀ (k:Nat) (c:Od),l[k]? = some c→∃ b off,a = some (J b off)∧b < w.heap.size∧w.rangeAt b (off + k * 6) c.vs:=by
  intro k c hk
  obtain ⟨b,off,Q,N,h3⟩:=hc (by intro h; rw [h] at hk; simp at hk)
  exact ⟨b,off,Q,N,h3 k c hk⟩
 have HC:=Y xo
 clear xo hc
 go_enter Tryz.func86,Tryz.ntmps86
 go_wp2_with fail
 go_loopw [5] (fun iv wr=>∃ (k:Nat),k ≤ l.length∧iv = H k∧Hid (plc l id = plcF id (l.drop k) k)∧ym w wr) (fun iv _=>l.length - (intOf iv).toNat)
 case atStart=>exact ⟨0,Nat.zero_le _,rfl,rfl,Below.refl _ _⟩
 case round =>
  obtain ⟨k,hk,rfl,je,xh⟩:=hrel
  have HB:=Y xh
  clear xh
  by_cases xH:k < l.length
  ·obtain ⟨c,uW⟩:∃ c,l[k]? = some c:=⟨_,yF xH⟩
   have HP:Hid (plc l id = if c.id = id then (k:Int) else plcF id (l.drop (k + 1)) (k + 1)):=by
    have:=U je
    rw [drop_get uW] at this
    exact this
   obtain ⟨b,off,rfl,F,L⟩:=U HC k c uW
   obtain ⟨g0,g1,g2,g3,g4,g5⟩:=zC (zb L (U HB) F)
   have uu:(k:Int) < l.length:=by omega
   clear uW L F je
   by_cases qx:c.id = id
   ·have F:(c.id == id) = true:=by simpa using qx
    have HK:Hid (plc l id = k):=by have:=U HP; rw [if_pos qx] at this; exact this
    clear qx
    go_wp2_with fail
    go_ret
    exact ⟨zq (U HK).symm,U HB⟩
   ·have F:(c.id == id) = false:=by simpa using qx
    have HK:Hid (plc l id = plcF id (l.drop (k + 1)) (k + 1)):=by have:=U HP; rw [if_neg qx] at this; exact this
    clear qx
    go_wp2_with fail
    go_roundw
    case rel=>exact ⟨k + 1,by omega,by go_num,U HK,U HB⟩
    case measure=>simp [intOf]; omega
  ·have HK:Hid (plc l id = -1):=by
    have h:=U je
    rw [yY (by omega)] at h
    exact h
   go_wp2_with fail
   go_ret
   exact ⟨zq (U HK).symm,U HB⟩
end Go.Proofs.YtbakanofkghmiaaGreat
