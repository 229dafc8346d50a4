/-
  The reason why a command is refused, by the program: proved by walking the functions.
-/
import Derived.Test.YtbakanofkghmiaaGreatPj22
set_option linter.unusedVariables false
set_option maxHeartbeats 6400000
set_option maxRecDepth 100000
namespace Go.Proofs.YtbakanofkghmiaaGreat
open Go.RowKit
def refR (next:Int) (l:List Od) (c:Cm):Int :=
 if c.k = 1 then (if aA ⟨1,c.s,c.t,c.l,c.q,0,c.p,c.g⟩ c = true then newR next l c else 2)
 else if c.k = 2 then (if aA ⟨2,0,0,0,0,c.i,0,⟨#[]⟩⟩ c = true then idR l c.i else 2)
 else if c.k = 3 then (if aA ⟨3,0,0,0,c.q,c.i,0,⟨#[]⟩⟩ c = true then redR l c.i c.q else 2)
 else if c.k = 4 then (if aA ⟨4,0,0,0,0,0,0,⟨#[]⟩⟩ c = true then 0 else 2)
 else 1
theorem refusal_any (next:Int) (vb:Value) (l:List Od) (c:Cm) (w:World) (hr:RdR Od.vs 6 w vb l) (hs:SlOk vb) (hg:GoodL l) (h0:0 ≤ next) (z:next ≤ 1000000) (ht:c.g.size ≤ maxLen) :
  Calls Tryz.prog 63 #[.agg #[H next,vb],cmV c] w fun e w'=>e = yk (H (refR next l c))∧yl w w':=by
 obtain ⟨kk,s,ty,li,X,ii,pr,O⟩:=c
 unfold cmV
 simp only at ht ⊢
 by_cases e1:kk = 1
 ·subst e1; exact refusal_1 next vb l s ty li X ii pr O w hr hs hg h0 z ht
 by_cases e2:kk = 2
 ·subst e2; exact refusal_2 next vb l s ty li X ii pr O w hr hs hg h0 z ht
 by_cases e3:kk = 3
 ·subst e3; exact refusal_3 next vb l s ty li X ii pr O w hr hs hg h0 z ht
 by_cases e4:kk = 4
 ·subst e4; exact refusal_4 next vb l s ty li X ii pr O w hr hs hg h0 z ht
 have qe:Hid (refR next l ⟨kk,s,ty,li,X,ii,pr,O⟩ = 1):=by show _ = _; simp [refR,e1,e2,e3,e4]
 have jb:cmdI ⟨kk,s,ty,li,X,ii,pr,O⟩ = .nilIface:=by simp [cmdI,e1,e2,e3,e4]
 obtain ⟨a,F,rfl,xD,hc⟩:=hr
 clear hc hg hs h0 z ht xD e1 e2 e3 e4
 have xz:=ze w (E #[H next,.slice a l.length F] 28)
 have xY:((w.alloc (E #[H next,.slice a l.length F] 28)).alloc (E (yu kk s ty li X ii pr O).toArray 43)).heap.size = w.heap.size + 1 + 1:=by rw [ze,xz]
 have r1:=zg w [H next,.slice a l.length F] 28
 have r2:=zg (w.alloc (E #[H next,.slice a l.length F] 28)) (yu kk s ty li X ii pr O) 43
 rw [xz] at r2
 have qg:Below (w.heap.size + 1) (w.alloc (E #[H next,.slice a l.length F] 28)) ((w.alloc (E #[H next,.slice a l.length F] 28)).alloc (E (yu kk s ty li X ii pr O).toArray 43)):=(Below.refl _ _).alloc (by rw [xz]; omega) _
 have xC:Hid (yl w ((w.alloc (E #[H next,.slice a l.length F] 28)).alloc (E (yu kk s ty li X ii pr O).toArray 43))):=(eD _ _).alloc (by rw [xz]; omega) _
 have HX:Hid (_∧_):=⟨zb r1 qg (by omega),r2⟩
 have uj:Hid (w.heap.size < ((w.alloc (E #[H next,.slice a l.length F] 28)).alloc (E (yu kk s ty li X ii pr O).toArray 43)).heap.size∧w.heap.size + 1 < ((w.alloc (E #[H next,.slice a l.length F] 28)).alloc (E (yu kk s ty li X ii pr O).toArray 43)).heap.size):=⟨by omega,by omega⟩
 clear xz xY r1 r2 qg
 go_enter Tryz.func63,Tryz.ntmps63
 refine eH fun h2 xu=>?_
 go_wp2_with fail
 refine M xu _ _ ?_
 clear xu
 generalize ((w.alloc (E #[H next,.slice a l.length F] 28)).alloc (E (yu kk s ty li X ii pr O).toArray 43)) = X2 at xC HX uj ⊢
 have HX:Hid (X2.rangeAt w.heap.size 0 [H next,.slice a l.length F]∧X2.rangeAt (w.heap.size + 1) 0 (yu kk s ty li X ii pr O)) :=M HX
 have k0:X2.cell? (yn w 0) = some (H next):=(M HX).1 0 _ rfl
 have k1:X2.cell? (yn w 1) = some (.slice a l.length F):=(M HX).1 1 _ rfl
 obtain ⟨o0,o1,o2,o3,o4,o5,o6,o7⟩:=yA (M HX).2
 go_wp2_with fail
 refine (cx ⟨kk,s,ty,li,X,ii,pr,O⟩ X2).mono ?_
 rw [jb]
 clear jb
 rintro e w4 ⟨rfl,xy⟩
 have xS:=Q (eG (M xC) xy)
 clear xy
 go_wp2_with fail
 go_ret
 exact ⟨zv (M qe).symm,M xS⟩
theorem cP {next:Int} {l:List Od} (h:okS next l = true):GoodL l∧0 ≤ next∧next ≤ 1000000:=by
 simp only [okS,xb,xc] at h
 obtain ⟨⟨⟨z,K⟩,h4⟩,_⟩:=h
 refine ⟨⟨K,fun o Y=>?_,(dG h4).1⟩,?_,?_⟩
 ·have:=dK h4 o Y
  simp [ordB,betB] at this
  omega
 ·simp [betB] at z; omega
 ·simp [betB] at z; omega
def reaC (next:Int) (l:List Od):Int:=if okS next l = true then 0 else 1
theorem cI (t:Int) (w:World) :
  Calls Tryz.prog 91 #[H t] w fun e w'=>e = yk (.bool (ay t))∧w' = w:=by
 by_cases z:t = 1
 ·subst z
  go_enter Tryz.func91,Tryz.ntmps91
  go_wp2_with fail
  go_ret
  exact ⟨rfl,rfl⟩
 have b1:(t == 1) = false:=by rw [xa]; exact z
 have HK:Hid (ay t = (t == 5)):=by
  show _ = _
  by_cases h5:t = 5 <;> simp [ay,z,h5]
 clear z
 go_enter Tryz.func91,Tryz.ntmps91
 go_wp2_with fail
 go_ret
 exact ⟨zl (M HK).symm,rfl⟩
def bw (sd tk:Int) (o:Od):Bool:=if tk = 0 then true else if sd = 1 then decide (o.ticks ≤ tk) else decide (tk ≤ o.ticks)
theorem l04Crosses_any (sd tk:Int) (o:Od) (w:World) :
  Calls Tryz.prog 160 #[H sd,H tk,.agg (yt o.id o.side o.ticks o.left o.life o.tag).toArray] w fun e w'=>e = yk (.bool (bw sd tk o))∧yl w w':=by
 obtain ⟨id,side,ticks,left,life,tag⟩:=o
 simp only
 by_cases h0:tk = 0
 ·subst h0
  go_enter Tryz.func160,Tryz.ntmps160
  go_wp2_with fail
  go_ret
  exact ⟨rfl,by go_grown⟩
 have b0:(tk == 0) = false:=by rw [xa]; exact h0
 by_cases z:sd = 1
 ·subst z
  have HK:Hid (bw 1 tk ⟨id,side,ticks,left,life,tag⟩ = decide (ticks ≤ tk)):=by show _ = _; simp [bw,h0]
  clear h0
  go_enter Tryz.func160,Tryz.ntmps160
  go_wp2_with fail
  go_ret
  exact ⟨zl (M HK).symm,by go_grown⟩
 have b1:(sd == 1) = false:=by rw [xa]; exact z
 have HK:Hid (bw sd tk ⟨id,side,ticks,left,life,tag⟩ = decide (tk ≤ ticks)):=by show _ = _; simp [bw,h0,z]
 clear h0 z
 go_enter Tryz.func160,Tryz.ntmps160
 go_wp2_with fail
 go_ret
 exact ⟨zl (M HK).symm,by go_grown⟩
theorem dq (v:Value) (l:List Od) (id:Int) (w:World) (hr:RdR Od.vs 6 w v l) :
  Calls Tryz.prog 86 #[v,H id] w fun e w'=>e = yk (H (plc l id))∧yl w w':=by
 obtain ⟨a,F,rfl,xD,hc⟩:=hr
 have xn:∀ (k:Nat) (c:Od),l[k]? = some c→∃ b off,a = some (J b off)∧b < w.heap.size∧w.rangeAt b (off + k * 6) c.vs:=by
  intro k c hk
  obtain ⟨b,off,z,K,h3⟩:=hc (by intro h; rw [h] at hk; simp at hk)
  exact ⟨b,off,z,K,h3 k c hk⟩
 have HC:=Q xn
 clear xn hc
 go_enter Tryz.func86,Tryz.ntmps86
 go_wp2_with fail
 go_loopw [5] (fun iv wr=>∃ (k:Nat),k ≤ l.length∧iv = H k∧Hid (plc l id = plcF id (l.drop k) k)∧yl w wr) (fun iv _=>l.length - (intOf iv).toNat)
 case atStart=>exact ⟨0,Nat.zero_le _,rfl,rfl,Below.refl _ _⟩
 case round =>
  obtain ⟨k,hk,rfl,qN,xe⟩:=hrel
  have HB:=Q xe
  clear xe
  by_cases xL:k < l.length
  ·obtain ⟨c,uC⟩:∃ c,l[k]? = some c:=⟨_,yE xL⟩
   have HP:Hid (plc l id = if c.id = id then (k:Int) else plcF id (l.drop (k + 1)) (k + 1)):=by
    have:=M qN
    rw [drop_get uC] at this
    exact this
   obtain ⟨b,off,rfl,hb,xk⟩:=M HC k c uC
   obtain ⟨g0,g1,g2,g3,g4,g5⟩:=zx (zb xk (M HB) hb)
   have uO:(k:Int) < l.length:=by omega
   clear uC xk hb qN
   by_cases vM:c.id = id
   ·have hb:(c.id == id) = true:=by simpa using vM
    have HK:Hid (plc l id = k):=by have:=M HP; rw [if_pos vM] at this; exact this
    clear vM
    go_wp2_with fail
    go_ret
    exact ⟨zv (M HK).symm,M HB⟩
   ·have hb:(c.id == id) = false:=by simpa using vM
    have HK:Hid (plc l id = plcF id (l.drop (k + 1)) (k + 1)):=by have:=M HP; rw [if_neg vM] at this; exact this
    clear vM
    go_wp2_with fail
    go_roundw
    case rel=>exact ⟨k + 1,by omega,by go_num,M HK,M HB⟩
    case measure=>simp [intOf]; omega
  ·have HK:Hid (plc l id = -1):=by
    have h:=M qN
    rw [yX (by omega)] at h
    exact h
   go_wp2_with fail
   go_ret
   exact ⟨zv (M HK).symm,M HB⟩
end Go.Proofs.YtbakanofkghmiaaGreat
