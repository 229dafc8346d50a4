/-
  The reason why a command is refused, by the program: proved by walking the functions.
-/
import Derived.Test.YthhkapcbocgcoaaGreatDoorGj18
set_option linter.unusedVariables false
set_option maxHeartbeats 6400000
set_option maxRecDepth 100000
namespace Go.Proofs.YthhkapcbocgcoaaGreatDoor
open Go.RowKit
def refR (next:Int) (l:List Od) (c:Cm):Int :=
 if c.k = 1 then (if bS ⟨1,c.s,c.t,c.l,c.q,0,c.p,c.g⟩ c = true then newR next l c else 2)
 else if c.k = 2 then (if bS ⟨2,0,0,0,0,c.i,0,⟨#[]⟩⟩ c = true then idR l c.i else 2)
 else if c.k = 3 then (if bS ⟨3,0,0,0,c.q,c.i,0,⟨#[]⟩⟩ c = true then redR l c.i c.q else 2)
 else if c.k = 4 then (if bS ⟨4,0,0,0,0,0,0,⟨#[]⟩⟩ c = true then 0 else 2)
 else 1
theorem refusal_any (next:Int) (vb:Value) (l:List Od) (c:Cm) (w:World) (hr:RdR Od.vs 6 w vb l) (hs:SlOk vb) (hg:GoodL l) (h0:0 ≤ next) (Q:next ≤ 1000000) (ht:c.g.size ≤ maxLen) :
  Calls Tryz.prog 152 #[.agg #[H next,vb],cmV c] w fun e w'=>e = ym (H (refR next l c))∧yn w w':=by
 obtain ⟨kk,s,ty,li,qt,ii,pr,tg⟩:=c
 unfold cmV
 simp only at ht ⊢
 by_cases e1:kk = 1
 ·subst e1; exact refusal_1 next vb l s ty li qt ii pr tg w hr hs hg h0 Q ht
 by_cases e2:kk = 2
 ·subst e2; exact refusal_2 next vb l s ty li qt ii pr tg w hr hs hg h0 Q ht
 by_cases e3:kk = 3
 ·subst e3; exact refusal_3 next vb l s ty li qt ii pr tg w hr hs hg h0 Q ht
 by_cases e4:kk = 4
 ·subst e4; exact refusal_4 next vb l s ty li qt ii pr tg w hr hs hg h0 Q ht
 have qK:Hid (refR next l ⟨kk,s,ty,li,qt,ii,pr,tg⟩ = 1):=by show _ = _; simp [refR,e1,e2,e3,e4]
 have bH:cmdI ⟨kk,s,ty,li,qt,ii,pr,tg⟩ = .nilIface:=by simp [cmdI,e1,e2,e3,e4]
 obtain ⟨a,cap,rfl,xD,hc⟩:=hr
 clear hc hg hs h0 Q ht xD e1 e2 e3 e4
 have xF:=zi w (O #[H next,.slice a l.length cap] 27)
 have ug:((w.alloc (O #[H next,.slice a l.length cap] 27)).alloc (O (yx kk s ty li qt ii pr tg).toArray 33)).heap.size = w.heap.size + 1 + 1:=by rw [zi,xF]
 have r1:=zm w [H next,.slice a l.length cap] 27
 have r2:=zm (w.alloc (O #[H next,.slice a l.length cap] 27)) (yx kk s ty li qt ii pr tg) 33
 rw [xF] at r2
 have qi:Below (w.heap.size + 1) (w.alloc (O #[H next,.slice a l.length cap] 27)) ((w.alloc (O #[H next,.slice a l.length cap] 27)).alloc (O (yx kk s ty li qt ii pr tg).toArray 33)):=(Below.refl _ _).alloc (by rw [xF]; omega) _
 have xt:Hid (yn w ((w.alloc (O #[H next,.slice a l.length cap] 27)).alloc (O (yx kk s ty li qt ii pr tg).toArray 33))):=(gZ _ _).alloc (by rw [xF]; omega) _
 have HX:Hid (_∧_):=⟨zc r1 qi (by omega),r2⟩
 have ul:Hid (w.heap.size < ((w.alloc (O #[H next,.slice a l.length cap] 27)).alloc (O (yx kk s ty li qt ii pr tg).toArray 33)).heap.size∧w.heap.size + 1 < ((w.alloc (O #[H next,.slice a l.length cap] 27)).alloc (O (yx kk s ty li qt ii pr tg).toArray 33)).heap.size):=⟨by omega,by omega⟩
 clear xF ug r1 r2 qi
 go_enter Tryz.func152,Tryz.ntmps152
 refine ic fun xh xK=>?_
 go_wp2_with fail
 refine U xK _ _ ?_
 clear xK
 generalize ((w.alloc (O #[H next,.slice a l.length cap] 27)).alloc (O (yx kk s ty li qt ii pr tg).toArray 33)) = X2 at xt HX ul ⊢
 have HX:Hid (X2.rangeAt w.heap.size 0 [H next,.slice a l.length cap]∧X2.rangeAt (w.heap.size + 1) 0 (yx kk s ty li qt ii pr tg)) :=U HX
 have k0:X2.cell? (yq w 0) = some (H next):=(U HX).1 0 _ rfl
 have k1:X2.cell? (yq w 1) = some (.slice a l.length cap):=(U HX).1 1 _ rfl
 obtain ⟨o0,o1,o2,o3,o4,o5,o6,o7⟩:=yE (U HX).2
 go_wp2_with fail
 refine (fM ⟨kk,s,ty,li,qt,ii,pr,tg⟩ X2).mono ?_
 rw [bH]
 clear bH
 rintro e w4 ⟨rfl,xy⟩
 have xO:=M (ia (U xt) xy)
 clear xy
 go_wp2_with fail
 go_ret
 exact ⟨zw (U qK).symm,U xO⟩
theorem okS_good {next:Int} {l:List Od} (h:okS next l = true):GoodL l∧0 ≤ next∧next ≤ 1000000:=by
 simp only [okS,xf,xg] at h
 obtain ⟨⟨⟨Q,D⟩,h4⟩,_⟩:=h
 refine ⟨⟨D,fun o Y=>?_,(fP h4).1⟩,?_,?_⟩
 ·have:=fS h4 o Y
  simp [ordB,betB] at this
  omega
 ·simp [betB] at Q; omega
 ·simp [betB] at Q; omega
def reaC (next:Int) (l:List Od):Int:=if okS next l = true then 0 else 1
theorem eB (t:Int) (w:World) :
  Calls Tryz.prog 42 #[H t] w fun e w'=>e = ym (.bool (bR t))∧w' = w:=by
 by_cases Q:t = 1
 ·subst Q
  go_enter Tryz.func42,Tryz.ntmps42
  go_wp2_with fail
  go_ret
  exact ⟨rfl,rfl⟩
 have b1:(t == 1) = false:=by rw [xe]; exact Q
 have HK:Hid (bR t = (t == 5)):=by
  show _ = _
  by_cases h5:t = 5 <;> simp [bR,Q,h5]
 clear Q
 go_enter Tryz.func42,Tryz.ntmps42
 go_wp2_with fail
 go_ret
 exact ⟨zo (U HK).symm,rfl⟩
def dy (sd tk:Int) (o:Od):Bool:=if tk = 0 then true else if sd = 1 then decide (o.ticks ≤ tk) else decide (tk ≤ o.ticks)
theorem l04Crosses_any (sd tk:Int) (o:Od) (w:World) :
  Calls Tryz.prog 115 #[H sd,H tk,.agg (yw o.id o.side o.ticks o.left o.life o.tag).toArray] w fun e w'=>e = ym (.bool (dy sd tk o))∧yn w w':=by
 obtain ⟨id,side,ticks,left,life,tag⟩:=o
 simp only
 by_cases h0:tk = 0
 ·subst h0
  go_enter Tryz.func115,Tryz.ntmps115
  go_wp2_with fail
  go_ret
  exact ⟨rfl,by go_grown⟩
 have b0:(tk == 0) = false:=by rw [xe]; exact h0
 by_cases Q:sd = 1
 ·subst Q
  have HK:Hid (dy 1 tk ⟨id,side,ticks,left,life,tag⟩ = decide (ticks ≤ tk)):=by show _ = _; simp [dy,h0]
  clear h0
  go_enter Tryz.func115,Tryz.ntmps115
  go_wp2_with fail
  go_ret
  exact ⟨zo (U HK).symm,by go_grown⟩
 have b1:(sd == 1) = false:=by rw [xe]; exact Q
 have HK:Hid (dy sd tk ⟨id,side,ticks,left,life,tag⟩ = decide (tk ≤ ticks)):=by show _ = _; simp [dy,h0,Q]
 clear h0 Q
 go_enter Tryz.func115,Tryz.ntmps115
 go_wp2_with fail
 go_ret
 exact ⟨zo (U HK).symm,by go_grown⟩
theorem fC (v:Value) (l:List Od) (id:Int) (w:World) (hr:RdR Od.vs 6 w v l) :
  Calls Tryz.prog 37 #[v,H id] w fun e w'=>e = ym (H (plc l id))∧yn w w':=by
 obtain ⟨a,cap,rfl,xD,hc⟩:=hr
 have xr:∀ (k:Nat) (c:Od),l[k]? = some c→∃ b off,a = some (J b off)∧b < w.heap.size∧w.rangeAt b (off + k * 6) c.vs:=by
  intro k c E
  obtain ⟨b,off,Q,D,X⟩:=hc (by intro h; rw [h] at E; simp at E)
  exact ⟨b,off,Q,D,X k c E⟩
 have HC:=M xr
 clear xr hc
 go_enter Tryz.func37,Tryz.ntmps37
 go_wp2_with fail
 go_loopw [5] (fun iv wr=>∃ (k:Nat),k ≤ l.length∧iv = H k∧Hid (plc l id = plcF id (l.drop k) k)∧yn w wr) (fun iv _=>l.length - (intOf iv).toNat)
 case atStart=>exact ⟨0,Nat.zero_le _,rfl,rfl,Below.refl _ _⟩
 case round =>
  obtain ⟨k,E,rfl,vD,xi⟩:=hrel
  have HB:=M xi
  clear xi
  by_cases xM:k < l.length
  ·obtain ⟨c,uV⟩:∃ c,l[k]? = some c:=⟨_,yI xM⟩
   have HP:Hid (plc l id = if c.id = id then (k:Int) else plcF id (l.drop (k + 1)) (k + 1)):=by
    have:=U vD
    rw [drop_get uV] at this
    exact this
   obtain ⟨b,off,rfl,A,xo⟩:=U HC k c uV
   obtain ⟨g0,g1,g2,g3,g4,g5⟩:=zC (zc xo (U HB) A)
   have vj:(k:Int) < l.length:=by omega
   clear uV xo A vD
   by_cases uN:c.id = id
   ·have A:(c.id == id) = true:=by simpa using uN
    have HK:Hid (plc l id = k):=by have:=U HP; rw [if_pos uN] at this; exact this
    clear uN
    go_wp2_with fail
    go_ret
    exact ⟨zw (U HK).symm,U HB⟩
   ·have A:(c.id == id) = false:=by simpa using uN
    have HK:Hid (plc l id = plcF id (l.drop (k + 1)) (k + 1)):=by have:=U HP; rw [if_neg uN] at this; exact this
    clear uN
    go_wp2_with fail
    go_roundw
    case rel=>exact ⟨k + 1,by omega,by go_num,U HK,U HB⟩
    case measure=>simp [intOf]; omega
  ·have HK:Hid (plc l id = -1):=by
    have h:=U vD
    rw [xb (by omega)] at h
    exact h
   go_wp2_with fail
   go_ret
   exact ⟨zw (U HK).symm,U HB⟩
def tag3:List ByteArray:=[⟨#[]⟩,⟨#[97]⟩,⟨#[100,101,115,107,32,55]⟩]
theorem tag3_len:∀ s ∈ tag3,s.size ≤ 20:=by decide +kernel
def tyL:List Int:=[1,1,1,2,3,4,5,5]
def prL:List Nat:=[4636666922610458624,4636684514796503040,4636702106982547456,4636719699168591872,4636737291354636288,4636754883540680704,4636772475726725120,4636790067912769536,4636807660098813952]
theorem prO_ex (k:Nat) (h:k < 9):∃ a b,PrO k a b (prL.getD k 0):=by
 rcases (by omega:k = 0 ∨ k = 1 ∨ k = 2 ∨ k = 3 ∨ k = 4 ∨ k = 5 ∨ k = 6 ∨ k = 7 ∨ k = 8) with rfl | rfl | rfl | rfl | rfl | rfl | rfl | rfl | rfl
 ·exact ⟨_,_,prO_0⟩
 ·exact ⟨_,_,prO_1⟩
 ·exact ⟨_,_,prO_2⟩
 ·exact ⟨_,_,prO_3⟩
 ·exact ⟨_,_,prO_4⟩
 ·exact ⟨_,_,prO_5⟩
 ·exact ⟨_,_,prO_6⟩
 ·exact ⟨_,_,prO_7⟩
 ·exact ⟨_,_,prO_8⟩
def cpF (l:List Int) (ty:Int) (s:Sr):Nat × Sr:=if ty = 2 then (0,s) else (prL.getD (nxF l 9 s).1.toNat 0,(nxF l 9 s).2)
def clF (l:List Int) (ty:Int) (s:Sr):Int × Sr:=if bR ty = true then (if (nxF l 3 s).1 = 2 then 1 else 0,(nxF l 3 s).2) else (0,s)
def cnF (l:List Int) (s:Sr):Cm × Sr :=
 let a:=nxF l 2 s
 let b:=nxF l 8 a.2
 let d:=nxF l 12 b.2
 let g:=nxF l 3 d.2
 let ty:=tyL.getD b.1.toNat 0
 let e:=cpF l ty g.2
 let f:=clF l ty e.2
 (⟨1,1 + a.1,ty,f.1,1 + d.1,0,e.1,tag3.getD g.1.toNat ⟨#[]⟩⟩,f.2)
def cmdF (l:List Int) (ids:Int) (s:Sr):Cm × Sr :=
 let r:=nxF l 12 s
 if r.1 = 0 then rawF l r.2
 else if r.1 = 1 then (⟨2,0,0,0,0,1 + (nxF l (ids + 1) r.2).1,0,⟨#[]⟩⟩,(nxF l (ids + 1) r.2).2)
 else if r.1 = 2 then (⟨3,0,0,0,(nxF l 6 (nxF l (ids + 1) r.2).2).1,1 + (nxF l (ids + 1) r.2).1,0,⟨#[]⟩⟩,(nxF l 6 (nxF l (ids + 1) r.2).2).2)
 else if r.1 = 3 then (⟨4,0,0,0,0,0,0,⟨#[]⟩⟩,r.2)
 else cnF l r.2
def scrF (l:List Int):Nat→Nat→Sr→List Cm × Sr
 | 0,_,s=>([],s)
 | n + 1,k,s=>((cmdF l k s).1 :: (scrF l n (k + 1) (cmdF l k s).2).1,(scrF l n (k + 1) (cmdF l k s).2).2)
theorem cp_at (l:List Int) (ty:Int) (s:Sr):(cpF l ty s).2.at_ ≤ s.at_ + 3:=by
 rw [cpF]; split
 ·show s.at_ ≤ s.at_ + 3; omega
 ·exact bU l 9 s
theorem cl_at (l:List Int) (ty:Int) (s:Sr):(clF l ty s).2.at_ ≤ s.at_ + 3:=by
 rw [clF]; split
 ·exact bU l 3 s
 ·show s.at_ ≤ s.at_ + 3; omega
theorem cn_at (l:List Int) (s:Sr):(cnF l s).2.at_ ≤ s.at_ + 18:=by
 have Q:=bU l 2 s
 have D:=bU l 8 (nxF l 2 s).2
 have X:=bU l 12 (nxF l 8 (nxF l 2 s).2).2
 have h4:=bU l 3 (nxF l 12 (nxF l 8 (nxF l 2 s).2).2).2
 rw [cnF]
 simp only
 generalize tyL.getD (nxF l 8 (nxF l 2 s).2).1.toNat 0 = ty
 have h5:=cp_at l ty (nxF l 3 (nxF l 12 (nxF l 8 (nxF l 2 s).2).2).2).2
 have h6:=cl_at l ty (cpF l ty (nxF l 3 (nxF l 12 (nxF l 8 (nxF l 2 s).2).2).2).2).2
 omega
theorem cmd_at (l:List Int) (ids:Int) (s:Sr):(cmdF l ids s).2.at_ ≤ s.at_ + 30:=by
 have h0:=bU l 12 s
 have Q:=raw_at l (nxF l 12 s).2
 have D:=bU l (ids + 1) (nxF l 12 s).2
 have X:=bU l 6 (nxF l (ids + 1) (nxF l 12 s).2).2
 have h4:=cn_at l (nxF l 12 s).2
 rw [cmdF]
 split
 ·omega
 ·split
  ·show (nxF l (ids + 1) (nxF l 12 s).2).2.at_ ≤ _; omega
  ·split
   ·show (nxF l 6 (nxF l (ids + 1) (nxF l 12 s).2).2).2.at_ ≤ _; omega
   ·split
    ·show (nxF l 12 s).2.at_ ≤ _; omega
    ·omega
end Go.Proofs.YthhkapcbocgcoaaGreatDoor
