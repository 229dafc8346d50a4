/-
  The reason why a command is refused, by the program: proved by walking the functions.
-/
import Derived.Test.YtnphbkgfjanmgaaGreatDoorAj16
set_option linter.unusedVariables false
set_option maxHeartbeats 6400000
set_option maxRecDepth 100000
namespace Go.Proofs.YtnphbkgfjanmgaaGreatDoor
open Go.RowKit
def refR (next:Int) (l:List Od) (c:Cm):Int :=
 if c.k = 1 then (if bD ⟨1,c.s,c.t,c.l,c.q,0,c.p,c.g⟩ c = true then newR next l c else 2)
 else if c.k = 2 then (if bD ⟨2,0,0,0,0,c.i,0,⟨#[]⟩⟩ c = true then idR l c.i else 2)
 else if c.k = 3 then (if bD ⟨3,0,0,0,c.q,c.i,0,⟨#[]⟩⟩ c = true then redR l c.i c.q else 2)
 else if c.k = 4 then (if bD ⟨4,0,0,0,0,0,0,⟨#[]⟩⟩ c = true then 0 else 2)
 else 1
theorem refusal_any (next:Int) (vb:Value) (l:List Od) (c:Cm) (w:World) (hr:RdR Od.vs 6 w vb l) (hs:SlOk vb) (hg:GoodL l) (h0:0 ≤ next) (N:next ≤ 1000000) (ht:c.g.size ≤ maxLen) :
  Calls Tryz.prog 136 #[.agg #[I next,vb],cmV c] w fun e w'=>e = yn (I (refR next l c))∧yp w w':=by
 obtain ⟨kk,s,ty,li,qt,ii,pr,tg⟩:=c
 unfold cmV
 simp only at ht ⊢
 by_cases e1:kk = 1
 ·subst e1; exact refusal_1 next vb l s ty li qt ii pr tg w hr hs hg h0 N ht
 by_cases e2:kk = 2
 ·subst e2; exact refusal_2 next vb l s ty li qt ii pr tg w hr hs hg h0 N ht
 by_cases e3:kk = 3
 ·subst e3; exact refusal_3 next vb l s ty li qt ii pr tg w hr hs hg h0 N ht
 by_cases e4:kk = 4
 ·subst e4; exact refusal_4 next vb l s ty li qt ii pr tg w hr hs hg h0 N ht
 have vv:Hid (refR next l ⟨kk,s,ty,li,qt,ii,pr,tg⟩ = 1):=by show _ = _; simp [refR,e1,e2,e3,e4]
 have aZ:cmdI ⟨kk,s,ty,li,qt,ii,pr,tg⟩ = .nilIface:=by simp [cmdI,e1,e2,e3,e4]
 obtain ⟨a,cap,rfl,xz,hc⟩:=hr
 clear hc hg hs h0 N ht xz e1 e2 e3 e4
 have xL:=zj w (A #[I next,.slice a l.length cap] 34)
 have ug:((w.alloc (A #[I next,.slice a l.length cap] 34)).alloc (A (yy kk s ty li qt ii pr tg).toArray 50)).heap.size = w.heap.size + 1 + 1:=by rw [zj,xL]
 have r1:=zo w [I next,.slice a l.length cap] 34
 have r2:=zo (w.alloc (A #[I next,.slice a l.length cap] 34)) (yy kk s ty li qt ii pr tg) 50
 rw [xL] at r2
 have qC:Below (w.heap.size + 1) (w.alloc (A #[I next,.slice a l.length cap] 34)) ((w.alloc (A #[I next,.slice a l.length cap] 34)).alloc (A (yy kk s ty li qt ii pr tg).toArray 50)):=(Below.refl _ _).alloc (by rw [xL]; omega) _
 have xw:Hid (yp w ((w.alloc (A #[I next,.slice a l.length cap] 34)).alloc (A (yy kk s ty li qt ii pr tg).toArray 50))):=(gp _ _).alloc (by rw [xL]; omega) _
 have HX:Hid (_∧_):=⟨zc r1 qC (by omega),r2⟩
 have ux:Hid (w.heap.size < ((w.alloc (A #[I next,.slice a l.length cap] 34)).alloc (A (yy kk s ty li qt ii pr tg).toArray 50)).heap.size∧w.heap.size + 1 < ((w.alloc (A #[I next,.slice a l.length cap] 34)).alloc (A (yy kk s ty li qt ii pr tg).toArray 50)).heap.size):=⟨by omega,by omega⟩
 clear xL ug r1 r2 qC
 go_enter Tryz.func136,Tryz.ntmps136
 refine gv fun hR xU=>?_
 go_wp2_with fail
 refine U xU _ _ ?_
 clear xU
 generalize ((w.alloc (A #[I next,.slice a l.length cap] 34)).alloc (A (yy kk s ty li qt ii pr tg).toArray 50)) = X2 at xw HX ux ⊢
 have HX:Hid (X2.rangeAt w.heap.size 0 [I next,.slice a l.length cap]∧X2.rangeAt (w.heap.size + 1) 0 (yy kk s ty li qt ii pr tg)) :=U HX
 have k0:X2.cell? (yr w 0) = some (I next):=(U HX).1 0 _ rfl
 have k1:X2.cell? (yr w 1) = some (.slice a l.length cap):=(U HX).1 1 _ rfl
 obtain ⟨o0,o1,o2,o3,o4,o5,o6,o7⟩:=yE (U HX).2
 go_wp2_with fail
 refine (eJ ⟨kk,s,ty,li,qt,ii,pr,tg⟩ X2).mono ?_
 rw [aZ]
 clear aZ
 rintro e w4 ⟨rfl,xy⟩
 have xH:=H (gu (U xw) xy)
 clear xy
 go_wp2_with fail
 go_ret
 exact ⟨zC (U vv).symm,U xH⟩
def tkS (x:Nat):Int:=if ((FloatKind.f64.format.order x 0 == some Ordering.gt) && ((FloatKind.f64.format.order x 4687829947429945344 == some Ordering.lt) || (FloatKind.f64.format.order x 4687829947429945344 == some Ordering.eq))) = true then tkN x else 0
theorem tkS_ok {x:Nat} (h:tkOk x = true):tkS x = tk x:=by
 unfold tk tkS
 rw [if_pos h]
 unfold tkOk at h
 rw [xf] at h
 rw [if_pos h.1]
theorem l01Ticks_any (x:Nat) (w:World) :
  Calls Tryz.prog 124 #[yk x] w fun e w'=>e = yn (.tuple #[I (tkS x),.bool (tkOk x)])∧w' = w:=by
 by_cases h0:FloatKind.f64.format.order x 0 = some Ordering.gt
 ·by_cases N:FloatKind.f64.format.order x 4687829947429945344 = some Ordering.lt ∨ FloatKind.f64.format.order x 4687829947429945344 = some Ordering.eq
  ·obtain ⟨r,n,jT,az,hn⟩:=price_four h0 N
   have hn':(n:Int) < 9007199254740992:=by omega
   have eR:tkR x = r:=by unfold tkR; rw [show FloatKind.f64.format.mul x 4616189618054758400 = some r from jT]; rfl
   have eN:tkN x = n:=by unfold tkN; rw [eR,show (FloatKind.f64.decode r).toInt .zero = some (n:Int) from az]; rfl
   have b0:(FloatKind.f64.format.order x 0 == some Ordering.gt) = true:=by rw [h0]; rfl
   have hm:∀ W,(binOp .mul 42 (yk x) (yk 4616189618054758400)).run Tryz.prog W = .ok (yk r) W:=fun W=>by
    have:FloatKind.f64.format.mul x 4616189618054758400 = some r:=jT
    simp [binOp,Op.floatArith,this]
   have hc:∀ W,(convert 42 3 (yk r)).run Tryz.prog W = .ok (I n) W:=fun W=>by
    have Y:(FloatKind.f64.decode r).toInt .zero = some (n:Int):=az
    have Q:IntKind.i64.min ≤ (n:Int)∧(n:Int) ≤ IntKind.i64.max:=by
     rw [show IntKind.i64.min = -9223372036854775808 by decide,show IntKind.i64.max = 9223372036854775807 by decide]; omega
    simp [convert,run_underlying Tryz.underlying42,run_underlying Tryz.underlying3,Conv.floatToInt,Y,Q.1]
    intro h
    omega
   have uN:((FloatKind.f64.format.order x 4687829947429945344 == some Ordering.lt) || (FloatKind.f64.format.order x 4687829947429945344 == some Ordering.eq)) = true:=by
    rcases N with N | N <;> rw [N] <;> rfl
   have vr:tkOk x = (FloatKind.f64.format.order (floatOfInt .f64 n) r == some Ordering.eq):=by unfold tkOk; rw [eN,eR,b0,uN]; rfl
   have hS:tkS x = n:=by unfold tkS; rw [b0,uN,eN]; rfl
   clear jT az h0 uN
   cases he:(FloatKind.f64.format.order (floatOfInt .f64 n) r == some Ordering.eq)
   all_goals
    have he2:(FloatKind.f64.format.order (floatOfInt .f64 n) r != some Ordering.eq) = !(FloatKind.f64.format.order (floatOfInt .f64 n) r == some Ordering.eq):=rfl
    rw [he] at he2
    rw [he] at vr
   ·have HT:Hid (tkS x = n∧tkOk x = false):=⟨hS,vr⟩
    clear vr eN eR hS
    rcases N with N | N
    ·have b1:(FloatKind.f64.format.order x 4687829947429945344 == some Ordering.lt) = true:=by rw [N]; rfl
     have b2:(FloatKind.f64.format.order x 4687829947429945344 == some Ordering.eq) = false:=by rw [N]; rfl
     clear N
     go_enter Tryz.func124,Tryz.ntmps124
     go_wp2
     go_ret2
     exact ⟨by rw [(U HT).1,(U HT).2]; rfl,rfl⟩
    ·have b1:(FloatKind.f64.format.order x 4687829947429945344 == some Ordering.lt) = false:=by rw [N]; rfl
     have b2:(FloatKind.f64.format.order x 4687829947429945344 == some Ordering.eq) = true:=by rw [N]; rfl
     clear N
     go_enter Tryz.func124,Tryz.ntmps124
     go_wp2
     go_ret2
     exact ⟨by rw [(U HT).1,(U HT).2]; rfl,rfl⟩
   ·have HT:Hid (tkS x = n∧tkOk x = true):=⟨hS,vr⟩
    clear vr eN eR hS
    rcases N with N | N
    ·have b1:(FloatKind.f64.format.order x 4687829947429945344 == some Ordering.lt) = true:=by rw [N]; rfl
     have b2:(FloatKind.f64.format.order x 4687829947429945344 == some Ordering.eq) = false:=by rw [N]; rfl
     clear N
     go_enter Tryz.func124,Tryz.ntmps124
     go_wp2
     go_ret2
     exact ⟨by rw [(U HT).1,(U HT).2]; rfl,rfl⟩
    ·have b1:(FloatKind.f64.format.order x 4687829947429945344 == some Ordering.lt) = false:=by rw [N]; rfl
     have b2:(FloatKind.f64.format.order x 4687829947429945344 == some Ordering.eq) = true:=by rw [N]; rfl
     clear N
     go_enter Tryz.func124,Tryz.ntmps124
     go_wp2
     go_ret2
     exact ⟨by rw [(U HT).1,(U HT).2]; rfl,rfl⟩
  ·have b0:(FloatKind.f64.format.order x 0 == some Ordering.gt) = true:=by rw [h0]; rfl
   have b1:(FloatKind.f64.format.order x 4687829947429945344 == some Ordering.lt) = false:=by rw [xe]; exact fun h=>N (.inl h)
   have b2:(FloatKind.f64.format.order x 4687829947429945344 == some Ordering.eq) = false:=by rw [xe]; exact fun h=>N (.inr h)
   have vr:tkOk x = false:=by unfold tkOk; rw [b0,b1,b2]; rfl
   have HT:Hid (tkS x = 0∧tkOk x = false):=⟨by unfold tkS; rw [b0,b1,b2]; rfl,vr⟩
   clear h0 N vr
   go_enter Tryz.func124,Tryz.ntmps124
   go_wp2
   go_ret2
   exact ⟨by rw [(U HT).1,(U HT).2]; rfl,rfl⟩
 ·have b0:(FloatKind.f64.format.order x 0 == some Ordering.gt) = false:=by rw [xe]; exact h0
  have vr:tkOk x = false:=by unfold tkOk; rw [b0]; rfl
  have HT:Hid (tkS x = 0∧tkOk x = false):=⟨by unfold tkS; rw [b0]; rfl,vr⟩
  clear h0 vr
  go_enter Tryz.func124,Tryz.ntmps124
  go_wp2
  go_ret2
  exact ⟨by rw [(U HT).1,(U HT).2]; rfl,rfl⟩
theorem dI (t:Int) (w:World) :
  Calls Tryz.prog 54 #[I t] w fun e w'=>e = yn (.bool (bG t))∧w' = w:=by
 by_cases N:t = 1
 ·subst N
  go_enter Tryz.func54,Tryz.ntmps54
  go_wp2_with fail
  go_ret
  exact ⟨rfl,rfl⟩
 have b1:(t == 1) = false:=by rw [xe]; exact N
 have HK:Hid (bG t = (t == 5)):=by
  show _ = _
  by_cases h5:t = 5 <;> simp [bG,N,h5]
 clear N
 go_enter Tryz.func54,Tryz.ntmps54
 go_wp2_with fail
 go_ret
 exact ⟨zp (U HK).symm,rfl⟩
def cG (sd tk:Int) (o:Od):Bool:=if tk = 0 then true else if sd = 1 then decide (o.ticks ≤ tk) else decide (tk ≤ o.ticks)
theorem l04Crosses_any (sd tk:Int) (o:Od) (w:World) :
  Calls Tryz.prog 80 #[I sd,I tk,.agg (yx o.id o.side o.ticks o.left o.life o.tag).toArray] w fun e w'=>e = yn (.bool (cG sd tk o))∧yp w w':=by
 obtain ⟨id,side,ticks,left,life,tag⟩:=o
 simp only
 by_cases h0:tk = 0
 ·subst h0
  go_enter Tryz.func80,Tryz.ntmps80
  go_wp2_with fail
  go_ret
  exact ⟨rfl,by go_grown⟩
 have b0:(tk == 0) = false:=by rw [xe]; exact h0
 by_cases N:sd = 1
 ·subst N
  have HK:Hid (cG 1 tk ⟨id,side,ticks,left,life,tag⟩ = decide (ticks ≤ tk)):=by show _ = _; simp [cG,h0]
  clear h0
  go_enter Tryz.func80,Tryz.ntmps80
  go_wp2_with fail
  go_ret
  exact ⟨zp (U HK).symm,by go_grown⟩
 have b1:(sd == 1) = false:=by rw [xe]; exact N
 have HK:Hid (cG sd tk ⟨id,side,ticks,left,life,tag⟩ = decide (tk ≤ ticks)):=by show _ = _; simp [cG,h0,N]
 clear h0 N
 go_enter Tryz.func80,Tryz.ntmps80
 go_wp2_with fail
 go_ret
 exact ⟨zp (U HK).symm,by go_grown⟩
theorem dW (v:Value) (l:List Od) (id:Int) (w:World) (hr:RdR Od.vs 6 w v l) :
  Calls Tryz.prog 78 #[v,I id] w fun e w'=>e = yn (I (plc l id))∧yp w w':=by
 obtain ⟨a,cap,rfl,xz,hc⟩:=hr
 have xr:∀ (k:Nat) (c:Od),l[k]? = some c→∃ b off,a = some (D b off)∧b < w.heap.size∧w.rangeAt b (off + k * 6) c.vs:=by
  intro k c hk
  obtain ⟨b,off,N,Y,h3⟩:=hc (by intro h; rw [h] at hk; simp at hk)
  exact ⟨b,off,N,Y,h3 k c hk⟩
 have HC:=H xr
 clear xr hc
 go_enter Tryz.func78,Tryz.ntmps78
 go_wp2_with fail
 go_loopw [5] (fun iv wr=>∃ (k:Nat),k ≤ l.length∧iv = I k∧Hid (plc l id = plcF id (l.drop k) k)∧yp w wr) (fun iv _=>l.length - (intOf iv).toNat)
 case atStart=>exact ⟨0,Nat.zero_le _,rfl,rfl,Below.refl _ _⟩
 case round =>
  obtain ⟨k,hk,rfl,uP,xl⟩:=hrel
  have HB:=H xl
  clear xl
  by_cases xI:k < l.length
  ·obtain ⟨c,uu⟩:∃ c,l[k]? = some c:=⟨_,yI xI⟩
   have HP:Hid (plc l id = if c.id = id then (k:Int) else plcF id (l.drop (k + 1)) (k + 1)):=by
    have:=U uP
    rw [drop_get uu] at this
    exact this
   obtain ⟨b,off,rfl,Q,F⟩:=U HC k c uu
   obtain ⟨g0,g1,g2,g3,g4,g5⟩:=zB (zc F (U HB) Q)
   have uF:(k:Int) < l.length:=by omega
   clear uu F Q uP
   by_cases uj:c.id = id
   ·have Q:(c.id == id) = true:=by simpa using uj
    have HK:Hid (plc l id = k):=by have:=U HP; rw [if_pos uj] at this; exact this
    clear uj
    go_wp2_with fail
    go_ret
    exact ⟨zC (U HK).symm,U HB⟩
   ·have Q:(c.id == id) = false:=by simpa using uj
    have HK:Hid (plc l id = plcF id (l.drop (k + 1)) (k + 1)):=by have:=U HP; rw [if_neg uj] at this; exact this
    clear uj
    go_wp2_with fail
    go_roundw
    case rel=>exact ⟨k + 1,by omega,by go_num,U HK,U HB⟩
    case measure=>simp [intOf]; omega
  ·have HK:Hid (plc l id = -1):=by
    have h:=U uP
    rw [xb (by omega)] at h
    exact h
   go_wp2_with fail
   go_ret
   exact ⟨zC (U HK).symm,U HB⟩
theorem bitsS_any (x:Nat) (w:World) :
  Calls Tryz.prog 103 #[yk x] w fun e w'=>e = yn (.int .u64 (fbit x))∧w' = w:=by
 have Q:=fbits
 cases h:nanB x with
 | true =>
  have HF:=H (show fbit x = 9221120237041090560 from if_pos h)
  have h':(FloatKind.f64.format.order x x != some Ordering.eq) = true:=h
  clear h
  go_enter Tryz.func103,Tryz.ntmps103
  go_wp2
  go_ret
  exact ⟨zC (by rw [U HF]; rfl),rfl⟩
 | false =>
  have HF:=H (show fbit x = x from if_neg (by rw [h]; decide))
  have h':(FloatKind.f64.format.order x x != some Ordering.eq) = false:=h
  clear h
  go_enter Tryz.func103,Tryz.ntmps103
  go_wp2
  go_ret
  exact ⟨zC (by rw [U HF]),rfl⟩
theorem l04Zero_any (x:Nat) (w:World) :
  Calls Tryz.prog 182 #[yk x] w fun e w'=>e = yn (.bool (decide (fbit x = 0)))∧w' = w:=by
 have HL:=H (fun w=>bitsS_any x w)
 generalize fbit x = u at *
 have hdec:decide (u = 0) = (((u:Nat):Int) == 0):=by
  by_cases h:u = 0 <;> simp [h]
 go_enter Tryz.func182,Tryz.ntmps182
 go_wp2_with fail
 refine (U HL _).mono ?_
 rintro e w' ⟨rfl,rfl⟩
 have HD:=H hdec
 clear hdec
 go_wp2_with fail
 go_ret
 exact ⟨zp (U HD).symm,rfl⟩
theorem l04Taker_any (next:Int) (a:Option Addr) (n cap:Nat) (c:Cm) (w:World) :
  Calls Tryz.prog 76 #[.agg #[I next,.slice a n cap],cmV c] w fun e w'=>e = yn (.agg (yx next c.s (tkS c.p) c.q c.l c.g).toArray)∧yp w w':=by
 obtain ⟨k,s,t,l,q,i,p,g⟩:=c
 unfold cmV
 simp only
 have HT:=H (fun W=>l01Ticks_any p W)
 generalize tkS p = tt at HT ⊢
 generalize tkOk p = tb at HT
 go_enter Tryz.func76,Tryz.ntmps76
 go_wp2_with fail
 refine (U HT _).mono ?_
 rintro e w' ⟨rfl,rfl⟩
 go_wp2_with fail
 go_returns
 exact ⟨rfl,by go_grown⟩
def bI (c:Cm):Bool :=
 if c.k = 1 then (c.i == 0) else if c.s ≠ 0 ∨ c.t ≠ 0 ∨ c.l ≠ 0 ∨ fbit c.p ≠ 0 ∨ c.g.toList.isEmpty = false then false else ((c.k == 3) || (c.q == 0)) && ((c.k != 4) || (c.i == 0))
theorem l04Form_any (c:Cm) (w:World) :
  Calls Tryz.prog 143 #[cmV c] w fun e w'=>e = yn (.bool (bI c))∧yp w w':=by
 obtain ⟨k,s,t,l,q,i,p,g⟩:=c
 unfold cmV
 simp only
 by_cases N:k = 1
 ·subst N
  have HK:Hid (bI ⟨1,s,t,l,q,i,p,g⟩ = (i == 0)):=by show _ = _; simp [bI]
  go_enter Tryz.func143,Tryz.ntmps143
  go_wp2_with fail
  go_ret
  exact ⟨zp (U HK).symm,by go_grown⟩
 have b1:(k == 1) = false:=by rw [xe]; exact N
 by_cases hs:s = 0
 ·subst hs
  by_cases ht:t = 0
  ·subst ht
   by_cases hl:l = 0
   ·subst hl
    have HZ:=H (fun W=>l04Zero_any p W)
    have HFI:Hid (∀ z:Bool,decide (fbit p = 0) = z→bI ⟨k,0,0,0,q,i,p,g⟩ = if z = true then (if g.toList.isEmpty = false then false else ((k == 3) || (q == 0)) && ((k != 4) || (i == 0))) else false):=by
     intro z hz
     subst hz
     by_cases hp:fbit p = 0 <;> simp [bI,N,hp]
    have HFJ:=H (U HFI _ rfl)
    generalize decide (fbit p = 0) = z at HZ HFJ
    clear HFI N
    go_enter Tryz.func143,Tryz.ntmps143
    go_wp2_with fail
    refine (U HZ _).mono ?_
    rintro e w' ⟨rfl,rfl⟩
    cases z
    ·have HK:Hid (bI ⟨k,0,0,0,q,i,p,g⟩ = false):=U HFJ
     go_wp2_with fail
     go_ret
     exact ⟨zp (U HK).symm,by go_grown⟩
    ·have HFK:Hid (bI ⟨k,0,0,0,q,i,p,g⟩ = if g.toList.isEmpty = false then false else ((k == 3) || (q == 0)) && ((k != 4) || (i == 0))):=by
      show _ = _
      have:=U HFJ
      simpa using this
     clear HFJ HZ
     cases hg:g.toList.isEmpty
     ·have bg:(!g.toList.isEmpty) = true:=by rw [hg]; rfl
      have HK:Hid (bI ⟨k,0,0,0,q,i,p,g⟩ = false):=(U HFK).trans (if_pos hg)
      clear hg
      go_wp2_with fail
      go_ret
      exact ⟨zp (U HK).symm,by go_grown⟩
     have bg:(!g.toList.isEmpty) = false:=by rw [hg]; rfl
     have HFL:Hid (bI ⟨k,0,0,0,q,i,p,g⟩ = (((k == 3) || (q == 0)) && ((k != 4) || (i == 0)))):=(U HFK).trans (if_neg (by rw [hg]; simp))
     clear hg HFK
     by_cases h3:k = 3
     ·subst h3
      have HK:Hid (bI ⟨3,0,0,0,q,i,p,g⟩ = true):=(U HFL).trans (by simp)
      go_wp2_with fail
      go_ret
      exact ⟨zp (U HK).symm,by go_grown⟩
     have b3:(k == 3) = false:=by rw [xe]; exact h3
     by_cases hq:q = 0
     ·subst hq
      by_cases h4:k = 4
      ·subst h4
       have HK:Hid (bI ⟨4,0,0,0,0,i,p,g⟩ = (i == 0)):=(U HFL).trans (by simp)
       clear h3
       go_wp2_with fail
       go_ret
       exact ⟨zp (U HK).symm,by go_grown⟩
      ·have b4:(k != 4) = true:=by simpa using h4
       have HK:Hid (bI ⟨k,0,0,0,0,i,p,g⟩ = true):=(U HFL).trans (by simp [h4])
       clear h3 h4
       go_wp2_with fail
       go_ret
       exact ⟨zp (U HK).symm,by go_grown⟩
     ·have bq:(q == 0) = false:=by rw [xe]; exact hq
      have HK:Hid (bI ⟨k,0,0,0,q,i,p,g⟩ = false):=(U HFL).trans (by simp [h3,hq])
      clear h3 hq
      go_wp2_with fail
      go_ret
      exact ⟨zp (U HK).symm,by go_grown⟩
   ·have HK:Hid (bI ⟨k,0,0,l,q,i,p,g⟩ = false):=by show _ = _; simp [bI,N,hl]
    have bl:(l != 0) = true:=by simpa using hl
    clear N hl
    go_enter Tryz.func143,Tryz.ntmps143
    go_wp2_with fail
    go_ret
    exact ⟨zp (U HK).symm,by go_grown⟩
  ·have HK:Hid (bI ⟨k,0,t,l,q,i,p,g⟩ = false):=by show _ = _; simp [bI,N,ht]
   have bl:(t != 0) = true:=by simpa using ht
   clear N ht
   go_enter Tryz.func143,Tryz.ntmps143
   go_wp2_with fail
   go_ret
   exact ⟨zp (U HK).symm,by go_grown⟩
 ·have HK:Hid (bI ⟨k,s,t,l,q,i,p,g⟩ = false):=by show _ = _; simp [bI,N,hs]
  have bl:(s != 0) = true:=by simpa using hs
  clear N hs
  go_enter Tryz.func143,Tryz.ntmps143
  go_wp2_with fail
  go_ret
  exact ⟨zp (U HK).symm,by go_grown⟩
end Go.Proofs.YtnphbkgfjanmgaaGreatDoor
namespace Go.Proofs.YtnphbkgfjanmgaaGreatDoor
open Go Ieee

theorem read_place {x:Nat} {s:Bool} {m:Nat} {i:Int} (h:double.read x = .number s m i):-1074 ≤ i:=by
 unfold Format.read at h
 simp only [bin,inf,sw,lp] at h
 split at h
 ·simp only [Datum.number.injEq] at h; omega
 ·split at h
  ·simp only [Datum.number.injEq] at h; omega
  ·split at h <;> cases h
theorem cut_pos {n drop:Nat} (h:2 ^ drop ≤ n):0 < Toward.even.cut false n drop:=by
 unfold Toward.cut
 simp only
 have hg:1 <<< min drop (n.log2 + 2) ≤ n:=by
  rw [Nat.one_shiftLeft]
  exact yO (Nat.pow_le_pow_right (by decide) (Nat.min_le_left _ _)) h
 have hp:0 < 1 <<< min drop (n.log2 + 2):=by rw [Nat.one_shiftLeft]; exact Nat.two_pow_pos _
 have:=Nat.div_pos hg hp
 omega
theorem near_pos {m:Nat} {i:Int} (hm:m ≠ 0) (hi:-1074 ≤ i):0 < double.nearest false (m * 4503599627370496) (i + -50):=by
 have hmag:¬ m * 4503599627370496 = 0:=by omega
 have hlog:=log_up hm
 have Y:2 ^ (m.log2 + 52) ≤ m * 4503599627370496:=by
  have h:=((Nat.log2_eq_iff hm).1 rfl).1
  rw [Nat.pow_add,show (2:Nat) ^ 52 = 4503599627370496 from rfl]
  exact Nat.mul_le_mul_right _ h
 unfold Format.nearest
 rw [if_neg hmag]
 simp only [hlog,fb,lp,bin,inf,Format.word,Bool.false_eq_true,if_false]
 have hlast:i + -50 + ((m.log2 + 52:Nat):Int) - (52:Nat) ≤ max (i + -50 + ((m.log2 + 52:Nat):Int) - (52:Nat)) (-1074):=Int.le_max_left _ _
 have hup:max (i + -50 + ((m.log2 + 52:Nat):Int) - (52:Nat)) (-1074) ≤ i + -50 + ((m.log2 + 52:Nat):Int):=Int.max_le.2 ⟨by omega,by omega⟩
 generalize max (i + -50 + ((m.log2 + 52:Nat):Int) - (52:Nat)) (-1074) = last at *
 have e0:(i + -50 - last).toNat = 0:=by omega
 rw [e0,Nat.shiftLeft_zero]
 have hc:=cut_pos (n:=m * 4503599627370496) (drop:=(last - (i + -50)).toNat) (yO (Nat.pow_le_pow_right (by decide) (by omega)) Y)
 generalize Toward.even.cut false (m * 4503599627370496) (last - (i + -50)).toNat = kept at *
 omega
theorem four_pos {x r:Nat} (h0:double.order x 0 = some .gt) (N:double.order x 4687829947429945344 = some .lt ∨ double.order x 4687829947429945344 = some .eq) (hr:double.mul x 4616189618054758400 = some r):double.order 0 r ≠ some .eq:=by
 rcases above_zero h0 with hx | ⟨m,i,hx,hm⟩
 ·exfalso
  unfold Format.order at N
  rw [hx,read_top] at N
  simp [Datum.order] at N
 ·have hw:=within hx hm N
  have jT:double.mul x 4616189618054758400 = some (double.nearest false (m * 4503599627370496) (i + -50)):=by
   unfold Format.mul
   rw [hx,read_four]
   rfl
  rw [jT] at hr
  have hr:=Option.some.inj hr
  have qQ:=near_pos hm (read_place hx)
  have xI:=near_le hm hw
  rw [hr] at qQ xI
  clear hr jT
  have hneg:(r / 9223372036854775808 % 2 == 1) = false:=by simp; omega
  have hrr:r % 9223372036854775808 = r:=by omega
  obtain ⟨m',i',e,hm'⟩:∃ m' i',double.read r = .number false m' i'∧m' ≠ 0:=by
   unfold Format.read
   simp only [bin,inf,sw,hneg,hrr,lp]
   split
   ·exact ⟨_,_,rfl,by omega⟩
   ·rw [if_pos (by omega)]
    exact ⟨_,_,rfl,by omega⟩
  unfold Format.order
  rw [read_zero,e]
  simp only [Datum.order,ne_eq,Option.some.injEq]
  intro h
  have h:=Std.LawfulEqCmp.eq_of_compare h
  simp only [signed,Bool.false_eq_true,if_false,Nat.shiftLeft_eq,Nat.zero_mul] at h
  have xA:m' * 2 ^ (i' - min (-1074) i').toNat ≠ 0:=Nat.mul_ne_zero hm' (Nat.pos_iff_ne_zero.1 (Nat.two_pow_pos _))
  omega
end Go.Proofs.YtnphbkgfjanmgaaGreatDoor
namespace Go.Proofs.YtnphbkgfjanmgaaGreatDoor
open Go.RowKit
theorem float_nought:floatOfInt .f64 0 = 0:=by decide
theorem tkS_pos {x:Nat} (h:tkOk x = true):tkS x ≠ 0:=by
 rw [tkS_ok h]
 unfold tk
 rw [if_pos h]
 unfold tkOk at h
 simp only [xf,Bool.or_eq_true,beq_iff_eq] at h
 obtain ⟨⟨h0,N⟩,Y⟩:=h
 intro e
 rw [e,float_nought] at Y
 obtain ⟨r,n,hm,_⟩:=price_four h0 N
 have hr:tkR x = r:=by
  unfold tkR
  rw [show FloatKind.f64.format.mul x 4616189618054758400 = some r from hm]
  rfl
 rw [hr] at Y
 exact four_pos h0 N hm Y
theorem fbit_zero {x:Nat} (h:fbit x = 0):x = 0:=by
 unfold fbit at h
 split at h
 ·omega
 ·exact h
theorem tkS_zero {x:Nat} (h:fbit x = 0):tkS x = 0:=by
 rw [fbit_zero h]
 decide
theorem side_of {s:Int} (h:betB s 1 2 = true):s = 1 ∨ s = 2:=by
 simp [betB] at h; omega
theorem oth_of {s:Int} (h:s = 1 ∨ s = 2):3 - s = othS s:=by
 rcases h with rfl | rfl <;> rfl
theorem cross_meet {c:Cm} (hp:prcB c = true) (o:Od):cG c.s (tkS c.p) o = bR c o:=by
 unfold prcB at hp
 by_cases Y:c.t = 2
 ·rw [if_pos Y] at hp
  rw [tkS_zero (of_decide_eq_true hp),cG,if_pos rfl,bR,if_pos Y]
 ·rw [if_neg Y] at hp
  rw [cG,if_neg (tkS_pos hp),bR,if_neg Y,tkS_ok hp]
def NexS (l:List Od) (t:Od) (k:Int):Prop :=
 (k = -1∧(t.left = 0 ∨ bB l (othS t.side) = none ∨ ∃ o,bB l (othS t.side) = some o∧cG t.side t.ticks o = false)) ∨
 ∃ (i:Nat) (o:Od),k = i∧i < l.length∧l[i]? = some o∧bB l (othS t.side) = some o∧cG t.side t.ticks o = true∧t.left ≠ 0
theorem front_pre {l:List Od} {sd k:Int} (hr:bT l) (h:FrPre l sd l.length k):(k = -1∧bB l sd = none) ∨ ∃ (i:Nat) (o:Od),k = i∧i < l.length∧l[i]? = some o∧bB l sd = some o:=by
 rcases frPre_end h with ⟨rfl,vN⟩ | ⟨i,o,rfl,hi,oH⟩
 ·refine .inl ⟨rfl,?_⟩
  rcases fJ (s:=decide (sd = 1)) (sd:=sd) hr with ⟨N,_⟩ | ⟨j,o',N,hf'⟩
  ·exact N
  ·exact absurd hf'.2.1 (vN o' (yP hf'.1))
 ·refine .inr ⟨i,o,rfl,hi,oH.1,?_⟩
  rcases fJ (s:=decide (sd = 1)) (sd:=sd) hr with ⟨_,vN⟩ | ⟨j,o',N,hf'⟩
  ·exact absurd oH.2.1 (vN o (yP oH.1))
  ·rw [bB,N,(front_unique hf' oH).2]
def fdyF:List Od→Nat→Int
 | [],_=>-1
 | o :: r,k=>if o.life = 1 then k else fdyF r (k + 1)
def fdy (l:List Od):Int:=fdyF l 0
theorem isOfDay_any (o:Od) (w:World) :
  Calls Tryz.prog 101 #[.agg (yx o.id o.side o.ticks o.left o.life o.tag).toArray] w fun e w'=>e = yn (.bool (o.life == 1))∧yp w w':=by
 obtain ⟨uM,side,ticks,left,life,tag⟩:=o
 simp only
 go_enter Tryz.func101,Tryz.ntmps101
 go_wp2_with fail
 go_ret
 exact ⟨rfl,by go_grown⟩
theorem indexDay_any (v:Value) (l:List Od) (w:World) (hr:RdR Od.vs 6 w v l) :
  Calls Tryz.prog 100 #[v,.func (.func 101) #[] #[]] w fun e w'=>e = yn (I (fdy l))∧yp w w':=by
 obtain ⟨a,cap,rfl,xz,hc⟩:=hr
 have xr:∀ (k:Nat) (c:Od),l[k]? = some c→∃ b off,a = some (D b off)∧b < w.heap.size∧w.rangeAt b (off + k * 6) c.vs:=by
  intro k c hk
  obtain ⟨b,off,N,Y,h3⟩:=hc (by intro h; rw [h] at hk; simp at hk)
  exact ⟨b,off,N,Y,h3 k c hk⟩
 have HC:=H xr
 clear xr hc
 go_enter Tryz.func100,Tryz.ntmps100
 go_wp2_with fail
 go_loopw [8] (fun iv wr=>∃ (k:Nat),k ≤ l.length∧iv = I k∧Hid (fdy l = fdyF (l.drop k) k)∧yp w wr) (fun iv _=>l.length - (intOf iv).toNat)
 case atStart=>exact ⟨0,Nat.zero_le _,rfl,rfl,Below.refl _ _⟩
 case round =>
  obtain ⟨k,hk,rfl,uP,xl⟩:=hrel
  have HB:=H xl
  clear xl
  by_cases xI:k < l.length
  ·obtain ⟨c,uu⟩:∃ c,l[k]? = some c:=⟨_,yI xI⟩
   have HP:Hid (fdy l = if c.life = 1 then (k:Int) else fdyF (l.drop (k + 1)) (k + 1)):=by
    have:=U uP
    rw [drop_get uu] at this
    exact this
   obtain ⟨b,off,rfl,Q,F⟩:=U HC k c uu
   obtain ⟨g0,g1,g2,g3,g4,g5⟩:=zB (zc F (U HB) Q)
   have uF:(k:Int) < l.length:=by omega
   clear uu F Q uP
   go_wp2_with fail
   refine (isOfDay_any c wr).mono ?_
   rintro e w3 ⟨rfl,xQ⟩
   have xN:=H (gu (U HB) xQ)
   clear xQ
   by_cases uj:c.life = 1
   ·have Q:(c.life == 1) = true:=by simpa using uj
    have HK:Hid (fdy l = k):=by have:=U HP; rw [if_pos uj] at this; exact this
    clear uj
    go_wp2_with fail
    go_ret
    exact ⟨zC (U HK).symm,U xN⟩
   ·have Q:(c.life == 1) = false:=by simpa using uj
    have HK:Hid (fdy l = fdyF (l.drop (k + 1)) (k + 1)):=by have:=U HP; rw [if_neg uj] at this; exact this
    clear uj
    go_wp2_with fail
    go_roundw
    case rel=>exact ⟨k + 1,by omega,by go_num,U HK,U xN⟩
    case measure=>simp [intOf]; omega
  ·have HK:Hid (fdy l = -1):=by
    have h:=U uP
    rw [xb (by omega)] at h
    exact h
   go_wp2_with fail
   go_ret
   exact ⟨zC (U HK).symm,U HB⟩
end Go.Proofs.YtnphbkgfjanmgaaGreatDoor
