/-
  A new order asked about itself, by the program: proved by walking the methods.
-/
import Derived.Test.YtbakanofkghmiaaGreatPj10
set_option linter.unusedVariables false
set_option maxHeartbeats 6400000
set_option maxRecDepth 100000
namespace Go.Proofs.YtbakanofkghmiaaGreat
open Go.RowKit
def noV (c:Cm):Value:=.agg #[H c.s,H c.t,H c.l,H c.q,yh c.p,yi c.g]
def ay (t:Int):Bool:=decide (t = 1) || decide (t = 5)
def prcB (c:Cm):Bool:=if c.t = 2 then decide (fbit c.p = 0) else tkOk c.p
def aI (c:Cm) (o:Od):Bool:=if c.t = 2 then true else if c.s = 1 then decide (o.ticks ≤ tk c.p) else decide (tk c.p ≤ o.ticks)
def ordO (c:Cm) (id:Int):Od:=⟨id,c.s,tk c.p,c.q,c.l,c.g⟩
def othS (s:Int):Int:=if s = 1 then 2 else 1
theorem isType_any (t:Int) (w:World) :
  Calls Tryz.prog 144 #[H t] w fun e w'=>e = yk (.bool (betB t 1 5))∧w' = w:=by
 go_enter Tryz.func144,Tryz.ntmps144
 go_wp2_with fail
 refine (zE t 1 5 w).mono ?_
 rintro e w' ⟨rfl,rfl⟩
 go_wp2_with fail
 go_ret
 exact ⟨rfl,rfl⟩
theorem isQty_any (t:Int) (w:World) :
  Calls Tryz.prog 146 #[H t] w fun e w'=>e = yk (.bool (betB t 1 1000000))∧w' = w:=by
 go_enter Tryz.func146,Tryz.ntmps146
 go_wp2_with fail
 refine (zE t 1 1000000 w).mono ?_
 rintro e w' ⟨rfl,rfl⟩
 go_wp2_with fail
 go_ret
 exact ⟨rfl,rfl⟩
theorem otherSide_any (s:Int) (w:World) :
  Calls Tryz.prog 149 #[H s] w fun e w'=>e = yk (H (othS s))∧w' = w:=by
 by_cases h:s = 1
 ·subst h
  go_enter Tryz.func149,Tryz.ntmps149
  go_wp2_with fail
  go_ret
  exact ⟨rfl,rfl⟩
 ·have h':(s == 1) = false:=by simpa using h
  have HS:Hid (othS s = 1):=if_neg h
  go_enter Tryz.func149,Tryz.ntmps149
  go_wp2_with fail
  go_ret
  exact ⟨zv (M HS).symm,rfl⟩
theorem dS (c:Cm) (w:World) :
  Calls Tryz.prog 114 #[noV c] w fun e w'=>e = yk (.bool (ay c.t))∧yl w w':=by
 obtain ⟨k,s,t,l,q,i,p,g⟩:=c
 unfold noV
 simp only
 by_cases z:t = 1
 ·subst z
  go_enter Tryz.func114,Tryz.ntmps114
  go_wp2_with fail
  go_ret
  exact ⟨rfl,by go_grown⟩
 ·have b1:(t == 1) = false:=by simpa using z
  by_cases h5:t = 5
  ·subst h5
   go_enter Tryz.func114,Tryz.ntmps114
   go_wp2_with fail
   go_ret
   exact ⟨rfl,by go_grown⟩
  ·have b5:(t == 5) = false:=by simpa using h5
   have HR:Hid (ay t = false):=by show ay t = false; simp [ay,z,h5]
   go_enter Tryz.func114,Tryz.ntmps114
   go_wp2_with fail
   go_ret
   exact ⟨zl (M HR).symm,by go_grown⟩
theorem hasPrice_any (c:Cm) (w:World) :
  Calls Tryz.prog 145 #[noV c] w fun e w'=>e = yk (.bool (prcB c))∧yl w w':=by
 obtain ⟨k,s,t,l,q,i,p,g⟩:=c
 unfold noV
 simp only
 have HB:Hid (yl w (w.alloc (E #[H s,H t,H l,H q,yh p,yi g] 112))):=eD _ _
 by_cases K:t = 2
 ·subst K
  have HP:Hid (prcB ⟨k,s,2,l,q,i,p,g⟩ = decide (fbit p = 0)):=if_pos rfl
  go_enter Tryz.func145,Tryz.ntmps145
  go_wp2_with fail
  refine (floatBits_any p _).mono ?_
  rintro e w' ⟨rfl,rfl⟩
  go_wp2_with fail
  go_ret
  exact ⟨zl (by rw [M HP,Bool.eq_iff_iff]; simp),M HB⟩
 ·have b2:(t == 2) = false:=by simpa using K
  have HP:Hid (prcB ⟨k,s,t,l,q,i,p,g⟩ = tkOk p):=if_neg K
  go_enter Tryz.func145,Tryz.ntmps145
  go_wp2_with fail
  refine (dD p _).mono ?_
  rintro e w' ⟨rfl,rfl⟩
  go_wp2_with fail
  go_ret
  exact ⟨zl (M HP).symm,M HB⟩
theorem meets_any (c:Cm) (o:Od) (w:World) :
  Calls Tryz.prog 150 #[noV c,.agg (yt o.id o.side o.ticks o.left o.life o.tag).toArray] w fun e w'=>e = yk (.bool (aI c o))∧yl w w':=by
 obtain ⟨k,s,t,l,q,i,p,g⟩:=c
 obtain ⟨id,side,ticks,left,life,tag⟩:=o
 unfold noV
 simp only
 have HB:Hid (yl w ((w.alloc (E #[H s,H t,H l,H q,yh p,yi g] 112)).alloc (E (yt id side ticks left life tag).toArray 49))):=(eD _ _).alloc (by rw [ze]; omega) _
 by_cases K:t = 2
 ·subst K
  have HP:Hid (aI ⟨k,s,2,l,q,i,p,g⟩ ⟨id,side,ticks,left,life,tag⟩ = true):=if_pos rfl
  go_enter Tryz.func150,Tryz.ntmps150
  go_wp2_with fail
  go_ret
  exact ⟨zl (M HP).symm,M HB⟩
 ·have b2:(t == 2) = false:=by simpa using K
  by_cases z:s = 1
  ·subst z
   have HP:Hid (aI ⟨k,1,t,l,q,i,p,g⟩ ⟨id,side,ticks,left,life,tag⟩ = decide (ticks ≤ tk p)):=by show _ = _; rw [aI,if_neg K]; rfl
   go_enter Tryz.func150,Tryz.ntmps150
   go_wp2_with fail
   refine (dD p _).mono ?_
   rintro e w' ⟨rfl,rfl⟩
   go_wp2_with fail
   go_ret
   exact ⟨zl (M HP).symm,M HB⟩
  ·have b1:(s == 1) = false:=by simpa using z
   have HP:Hid (aI ⟨k,s,t,l,q,i,p,g⟩ ⟨id,side,ticks,left,life,tag⟩ = decide (tk p ≤ ticks)):=by show _ = _; rw [aI,if_neg K,if_neg z]
   go_enter Tryz.func150,Tryz.ntmps150
   go_wp2_with fail
   refine (dD p _).mono ?_
   rintro e w' ⟨rfl,rfl⟩
   go_wp2_with fail
   go_ret
   exact ⟨zl (M HP).symm,M HB⟩
theorem order_any (c:Cm) (id:Int) (w:World) :
  Calls Tryz.prog 148 #[noV c,H id] w fun e w'=>e = yk (.agg (yt id c.s (tk c.p) c.q c.l c.g).toArray)∧yl w w':=by
 obtain ⟨k,s,t,l,q,i,p,g⟩:=c
 unfold noV
 simp only
 go_enter Tryz.func148,Tryz.ntmps148
 go_wp2_with fail
 refine (dD p _).mono ?_
 rintro e w' ⟨rfl,rfl⟩
 go_wp2_with fail
 go_returns
 refine ⟨rfl,?_⟩
 go_grown
theorem toldNew_any (c:Cm) (w:World) :
  Calls Tryz.prog 113 #[noV c] w fun e w'=>e = yk (.agg (yu 1 c.s c.t c.l c.q 0 c.p c.g).toArray)∧yl w w':=by
 obtain ⟨k,s,t,l,q,i,p,g⟩:=c
 unfold noV
 have hsf:=sfl
 simp only
 go_enter Tryz.func113,Tryz.ntmps113
 go_wp2_with fail
 go_returns
 refine ⟨rfl,?_⟩
 go_grown
theorem toldCancel_any (i:Int) (w:World) :
  Calls Tryz.prog 185 #[.agg #[H i]] w fun e w'=>e = yk (.agg (yu 2 0 0 0 0 i 0 ⟨#[]⟩).toArray)∧yl w w':=by
 have hsf:=sfl
 go_enter Tryz.func185,Tryz.ntmps185
 go_wp2_with fail
 go_returns
 refine ⟨rfl,?_⟩
 go_grown
theorem toldReduce_any (i q:Int) (w:World) :
  Calls Tryz.prog 186 #[.agg #[H i,H q]] w fun e w'=>e = yk (.agg (yu 3 0 0 0 q i 0 ⟨#[]⟩).toArray)∧yl w w':=by
 have hsf:=sfl
 go_enter Tryz.func186,Tryz.ntmps186
 go_wp2_with fail
 go_returns
 refine ⟨rfl,?_⟩
 go_grown
theorem toldDay_any (w:World) :
  Calls Tryz.prog 187 #[.agg #[]] w fun e w'=>e = yk (.agg (yu 4 0 0 0 0 0 0 ⟨#[]⟩).toArray)∧yl w w':=by
 have hsf:=sfl
 go_enter Tryz.func187,Tryz.ntmps187
 go_wp2_with fail
 go_returns
 refine ⟨rfl,?_⟩
 go_grown
structure Ev where
 kind:Int
 cmd:Cm
 id:Int
 other:Int
 qty:Int
 price:Int
 reason:Int
def cmV (c:Cm):Value:=.agg (yu c.k c.s c.t c.l c.q c.i c.p c.g).toArray
def evV (e:Ev):Value:=.agg (ys e.kind e.cmd.k e.cmd.s e.cmd.t e.cmd.l e.cmd.q e.cmd.i e.cmd.p e.cmd.g e.id e.other e.qty e.price e.reason).toArray
def vlV (e:Ev):Value:=.agg #[H e.kind,H e.id,H e.other,H e.qty,H e.price,H e.reason,H e.cmd.k,H e.cmd.s,H e.cmd.t,H e.cmd.l,H e.cmd.q,H e.cmd.i,.int .u64 (fbit e.cmd.p),yi e.cmd.g]
def Ev.vs (e:Ev):List Value:=(ys e.kind e.cmd.k e.cmd.s e.cmd.t e.cmd.l e.cmd.q e.cmd.i e.cmd.p e.cmd.g e.id e.other e.qty e.price e.reason)
theorem Ev.len (e:Ev):e.vs.length = 14:=rfl
def zCm:Cm:=⟨0,0,0,0,0,0,0,⟨#[]⟩⟩
theorem dW (w:World) (cs:List Value) (t:TypeId):(w.alloc (Obj.cells cs.toArray t)).rangeAt w.heap.size 0 cs:=fun j u h=>by
 rw [cell_of_row _ w.heap.size (0 + j) cs.toArray t (0,0) (heap_alloc_new w _)]
 simpa using h
theorem dR (w:World) (o:Obj):(w.alloc o).heap.size = w.heap.size + 1:=by simp
theorem there_madeV (w:World) (cs:List Value) (t:TypeId):(w.alloc (Obj.cells cs.toArray t)).there w.heap.size 0 cs.length:=cz (heap_alloc_new w _) (by simp)
theorem valueOf_any (e:Ev) (w:World) :
  Calls Tryz.prog 138 #[evV e] w fun x w'=>x = yk (vlV e)∧yl w w':=by
 obtain ⟨ui,⟨k,s,t,l,q,i,p,g⟩,id,xw,qty,xO,xF⟩:=e
 unfold evV vlV
 have hsf:=sfl
 simp only
 generalize ah:fbit p = fp
 have HFB:=Q (fun W=>ah ▸ floatBits_any p W)
 clear ah
 have xz:(w.alloc (E (ys ui k s t l q i p g id xw qty xO xF).toArray 46)).heap.size = w.heap.size + 1:=dR _ _
 have xY:((w.alloc (E (ys ui k s t l q i p g id xw qty xO xF).toArray 46)).alloc (E #[H 0,H 0,H 0,H 0,H 0,H 0,H 0,H 0,H 0,H 0,H 0,H 0,.int .u64 0,yi ⟨#[]⟩] 187)).heap.size = w.heap.size + 2:=by rw [dR,xz]
 have kp:(((w.alloc (E (ys ui k s t l q i p g id xw qty xO xF).toArray 46)).alloc (E #[H 0,H 0,H 0,H 0,H 0,H 0,H 0,H 0,H 0,H 0,H 0,H 0,.int .u64 0,yi ⟨#[]⟩] 187)).alloc (E (yu k s t l q i p g).toArray 43)).heap.size = w.heap.size + 3:=by rw [dR,xY]
 have b1:Below (w.heap.size + 1) (w.alloc (E (ys ui k s t l q i p g id xw qty xO xF).toArray 46)) (((w.alloc (E (ys ui k s t l q i p g id xw qty xO xF).toArray 46)).alloc (E #[H 0,H 0,H 0,H 0,H 0,H 0,H 0,H 0,H 0,H 0,H 0,H 0,.int .u64 0,yi ⟨#[]⟩] 187)).alloc (E (yu k s t l q i p g).toArray 43)):=(((Below.refl _ _).alloc (by rw [xz]; omega) _).alloc (by rw [xY]; omega) _)
 have b2:Below (w.heap.size + 2) ((w.alloc (E (ys ui k s t l q i p g id xw qty xO xF).toArray 46)).alloc (E #[H 0,H 0,H 0,H 0,H 0,H 0,H 0,H 0,H 0,H 0,H 0,H 0,.int .u64 0,yi ⟨#[]⟩] 187)) (((w.alloc (E (ys ui k s t l q i p g id xw qty xO xF).toArray 46)).alloc (E #[H 0,H 0,H 0,H 0,H 0,H 0,H 0,H 0,H 0,H 0,H 0,H 0,.int .u64 0,yi ⟨#[]⟩] 187)).alloc (E (yu k s t l q i p g).toArray 43)):=((Below.refl _ _).alloc (by rw [xY]; omega) _)
 have r1:=zb (dW w (ys ui k s t l q i p g id xw qty xO xF) 46) b1 (by omega)
 have t2:=there_madeV (w.alloc (E (ys ui k s t l q i p g id xw qty xO xF).toArray 46)) [H 0,H 0,H 0,H 0,H 0,H 0,H 0,H 0,H 0,H 0,H 0,H 0,.int .u64 0,yi ⟨#[]⟩] 187
 have r3:=dW ((w.alloc (E (ys ui k s t l q i p g id xw qty xO xF).toArray 46)).alloc (E #[H 0,H 0,H 0,H 0,H 0,H 0,H 0,H 0,H 0,H 0,H 0,H 0,.int .u64 0,yi ⟨#[]⟩] 187)) (yu k s t l q i p g) 43
 rw [xz] at t2
 rw [xY] at r3
 have t2':=zf t2 b2 (by omega)
 have xM:Hid (yl w (((w.alloc (E (ys ui k s t l q i p g id xw qty xO xF).toArray 46)).alloc (E #[H 0,H 0,H 0,H 0,H 0,H 0,H 0,H 0,H 0,H 0,H 0,H 0,.int .u64 0,yi ⟨#[]⟩] 187)).alloc (E (yu k s t l q i p g).toArray 43))):=((eD _ _).alloc (by rw [xz]; omega) _).alloc (by rw [xY]; omega) _
 have HX:Hid (_∧_∧_):=⟨r1,t2',r3⟩
 clear r1 t2 t2' r3 b1 b2 xz xY kp
 go_enter Tryz.func138,Tryz.ntmps138
 go_wp2_with fail
 generalize (((w.alloc (E (ys ui k s t l q i p g id xw qty xO xF).toArray 46)).alloc (E #[H 0,H 0,H 0,H 0,H 0,H 0,H 0,H 0,H 0,H 0,H 0,H 0,.int .u64 0,yi ⟨#[]⟩] 187)).alloc (E (yu k s t l q i p g).toArray 43)) = WW at xM HX ⊢
 obtain ⟨jN,jO,hr3⟩:=M HX
 have x0:=jN 0 _ rfl
 have x1:=jN 1 _ rfl
 have x2:=jN 2 _ rfl
 have x3:=jN 3 _ rfl
 have x4:=jN 4 _ rfl
 have x5:=jN 5 _ rfl
 have x6:=jN 6 _ rfl
 have x7:=jN 7 _ rfl
 have x8:=jN 8 _ rfl
 have x9:=jN 9 _ rfl
 have x10:=jN 10 _ rfl
 have x11:=jN 11 _ rfl
 have x12:=jN 12 _ rfl
 have x13:=jN 13 _ rfl
 have y0:=hr3 0 _ rfl
 have y1:=hr3 1 _ rfl
 have y2:=hr3 2 _ rfl
 have y3:=hr3 3 _ rfl
 have y4:=hr3 4 _ rfl
 have y5:=hr3 5 _ rfl
 have y6:=hr3 6 _ rfl
 have y7:=hr3 7 _ rfl
 simp only [Nat.zero_add] at x0 x1 x2 x3 x4 x5 x6 x7 x8 x9 x10 x11 x12 x13 y0 y1 y2 y3 y4 y5 y6 y7
 obtain ⟨v0,z0,f0⟩:=zF jO 0 (by decide)
 obtain ⟨v1,z1,f1⟩:=zF jO 1 (by decide)
 obtain ⟨v2,z2,f2⟩:=zF jO 2 (by decide)
 obtain ⟨v3,z3,f3⟩:=zF jO 3 (by decide)
 obtain ⟨v4,z4,f4⟩:=zF jO 4 (by decide)
 obtain ⟨v5,z5,f5⟩:=zF jO 5 (by decide)
 obtain ⟨v6,z6,f6⟩:=zF jO 6 (by decide)
 obtain ⟨v7,z7,f7⟩:=zF jO 7 (by decide)
 obtain ⟨v8,z8,f8⟩:=zF jO 8 (by decide)
 obtain ⟨v9,z9,f9⟩:=zF jO 9 (by decide)
 obtain ⟨v10,z10,f10⟩:=zF jO 10 (by decide)
 obtain ⟨v11,z11,f11⟩:=zF jO 11 (by decide)
 obtain ⟨v12,z12,f12⟩:=zF jO 12 (by decide)
 obtain ⟨v13,z13,f13⟩:=zF jO 13 (by decide)
 simp only [Nat.zero_add] at z0 f0 z1 f1 z2 f2 z3 f3 z4 f4 z5 f5 z6 f6 z7 f7 z8 f8 z9 f9 z10 f10 z11 f11 z12 f12 z13 f13
 have HT:=Q jO
 clear jN jO hr3 HX
 refine wp_region_still_tail 30 (by kernel_rfl) (by kernel_rfl) ?_
 simp only [yQ,List.take_zero,yR,List.drop_zero]
 repeat still_step
 still_call (M HFB _)
 repeat still_step
 refine wpStill_nil ?_
 go_wp2_with fail
 change bodyPost _ _ _ _ _ (WW.setCells (w.heap.size + 1) 0 [H ui,H id,H xw,H qty,H xO,H xF,H k,H s,H t,H l,H q,H i,.int .u64 fp,yi g]).drew
 have jo:=Q (yU WW (w.heap.size + 1) 0 [H ui,H id,H xw,H qty,H xO,H xF,H k,H s,H t,H l,H q,H i,.int .u64 fp,yi g] (fun j L=>M HT j L))
 have uE:=Q (zu (w.heap.size + 1) (by omega) [H ui,H id,H xw,H qty,H xO,H xF,H k,H s,H t,H l,H q,H i,.int .u64 fp,yi g] 0 WW (M xM))
 generalize WW.setCells (w.heap.size + 1) 0 [H ui,H id,H xw,H qty,H xO,H xF,H k,H s,H t,H l,H q,H i,.int .u64 fp,yi g] = WE at jo uE ⊢
 obtain ⟨d0,d1,d2,d3,d4,d5,d6,d7,d8,d9,d10,d11,d12,d13⟩:=yC (M jo)
 try simp only [Exit.inBlock,Exit.then]
 refine bodyPost_ret (by simp [results,Tryz.results138,go_sem,d0,d1,d2,d3,d4,d5,d6,d7,d8,d9,d10,d11,d12,d13]; try rfl) rfl ?_
 exact ⟨rfl,(M uE).drew⟩
def cE (b:Nat):List Value:=[.func (.func 122) #[I b 0] #[],.func (.func 123) #[I b 0] #[],.func (.func 124) #[I b 0] #[]]
def cU (b:Nat):List Value:=[.func (.func 126) #[I b 0] #[],.func (.func 127) #[I b 0] #[],.func (.func 128) #[I b 0] #[]]
abbrev Tb (w:World) (b:Nat) (q:List Od):Prop:=aC 176 true w b 1 q
abbrev Ts (w:World) (b:Nat) (q:List Od):Prop:=aC 179 false w b 2 q
structure RW9 (W0:World) (BV:Value) (q1 q2:List Od) (x:List Bool) (v33 v34 v35 v36 v5 v6:Value) (b1 b2 p5 p6:Nat) (w:World):Prop where
 bel:Below W0.heap.size W0 w
 c33:x[0]? = some true→v33 = BV
 c35:x[2]? = some true→v35 = BV
 c34:x[1]? = some true→v34 = aU b1∧Tb w b1 q1
 c36:x[3]? = some true→v36 = aV b2∧Ts w b2 q2
 c5:x[4]? = some true→v5 = .pointer (some ⟨p5,0,none⟩)∧p5 < w.heap.size∧W0.heap.size ≤ p5∧w.there p5 0 3
 c6:x[5]? = some true→v6 = .pointer (some ⟨p6,0,none⟩)∧p6 < w.heap.size∧W0.heap.size ≤ p6∧w.there p6 0 3
 n15:x[1]? = some true→x[4]? = some true→b1 ≠ p5
 n16:x[1]? = some true→x[5]? = some true→b1 ≠ p6
 n25:x[3]? = some true→x[4]? = some true→b2 ≠ p5
 n26:x[3]? = some true→x[5]? = some true→b2 ≠ p6
 n56:x[4]? = some true→x[5]? = some true→p5 ≠ p6
 s5:x[6]? = some true→(x[1]? = some true∧x[4]? = some true)∧w.rangeAt p5 0 (cE b1)
 s6:x[7]? = some true→(x[3]? = some true∧x[5]? = some true)∧w.rangeAt p6 0 (cU b2)
section
variable {W0 w w':World} {BV:Value} {q1 q2:List Od} {x:List Bool} {v33 v34 v35 v36 v5 v6:Value} {b1 b2 p5 p6:Nat}
theorem rw9_grow (h:RW9 W0 BV q1 q2 x v33 v34 v35 v36 v5 v6 b1 b2 p5 p6 w) (hb:yl w w'):RW9 W0 BV q1 q2 x v33 v34 v35 v36 v5 v6 b1 b2 p5 p6 w' where
 bel:=h.bel.trans (hb.mono h.bel.size)
 c33:=h.c33
 c35:=h.c35
 c34:=fun hx=>⟨(h.c34 hx).1,zt (h.c34 hx).2 (hb.block _ (zJ (h.c34 hx).2))⟩
 c36:=fun hx=>⟨(h.c36 hx).1,zt (h.c36 hx).2 (hb.block _ (zJ (h.c36 hx).2))⟩
 c5:=fun hx=>⟨(h.c5 hx).1,yG (h.c5 hx).2.1 hb.size,(h.c5 hx).2.2.1,zf (h.c5 hx).2.2.2 hb (h.c5 hx).2.1⟩
 c6:=fun hx=>⟨(h.c6 hx).1,yG (h.c6 hx).2.1 hb.size,(h.c6 hx).2.2.1,zf (h.c6 hx).2.2.2 hb (h.c6 hx).2.1⟩
 n15:=h.n15
 n16:=h.n16
 n25:=h.n25
 n26:=h.n26
 n56:=h.n56
 s5:=fun hx=>⟨(h.s5 hx).1,zb (h.s5 hx).2 hb (h.c5 (h.s5 hx).1.2).2.1⟩
 s6:=fun hx=>⟨(h.s6 hx).1,zb (h.s6 hx).2 hb (h.c6 (h.s6 hx).1.2).2.1⟩
theorem gse {x:List Bool} {i j:Nat} (h:i ≠ j):(x.set i true)[j]? = x[j]?:=yT h
theorem rw9_0 (h:RW9 W0 BV q1 q2 x v33 v34 v35 v36 v5 v6 b1 b2 p5 p6 w):RW9 W0 BV q1 q2 (x.set 0 true) BV v34 v35 v36 v5 v6 b1 b2 p5 p6 w:=by
 constructor <;> try simp only [gse (show 0 ≠ 1 by decide),gse (show 0 ≠ 2 by decide),gse (show 0 ≠ 3 by decide),gse (show 0 ≠ 4 by decide),gse (show 0 ≠ 5 by decide),gse (show 0 ≠ 6 by decide),gse (show 0 ≠ 7 by decide)]
 ·exact h.bel
 ·exact fun _=>by first | rfl | trivial
 ·exact h.c35
 ·exact h.c34
 ·exact h.c36
 ·exact h.c5
 ·exact h.c6
 ·exact h.n15
 ·exact h.n16
 ·exact h.n25
 ·exact h.n26
 ·exact h.n56
 ·exact h.s5
 ·exact h.s6
theorem rw9_2 (h:RW9 W0 BV q1 q2 x v33 v34 v35 v36 v5 v6 b1 b2 p5 p6 w):RW9 W0 BV q1 q2 (x.set 2 true) v33 v34 BV v36 v5 v6 b1 b2 p5 p6 w:=by
 constructor <;> try simp only [gse (show 2 ≠ 0 by decide),gse (show 2 ≠ 1 by decide),gse (show 2 ≠ 3 by decide),gse (show 2 ≠ 4 by decide),gse (show 2 ≠ 5 by decide),gse (show 2 ≠ 6 by decide),gse (show 2 ≠ 7 by decide)]
 ·exact h.bel
 ·exact h.c33
 ·exact fun _=>by first | rfl | trivial
 ·exact h.c34
 ·exact h.c36
 ·exact h.c5
 ·exact h.c6
 ·exact h.n15
 ·exact h.n16
 ·exact h.n25
 ·exact h.n26
 ·exact h.n56
 ·exact h.s5
 ·exact h.s6
theorem rw9_1 (h:RW9 W0 BV q1 q2 x v33 v34 v35 v36 v5 v6 b1 b2 p5 p6 w) (h6:x[6]? ≠ some true) {b:Nat} (hb:yl w w') (qI:w.heap.size ≤ b) (ht:Tb w' b q1) :
  RW9 W0 BV q1 q2 (x.set 1 true) v33 (aU b) v35 v36 v5 v6 b b2 p5 p6 w':=by
 have g:=rw9_grow h hb
 constructor <;> try simp only [gse (show 1 ≠ 0 by decide),gse (show 1 ≠ 2 by decide),gse (show 1 ≠ 3 by decide),gse (show 1 ≠ 4 by decide),gse (show 1 ≠ 5 by decide),gse (show 1 ≠ 6 by decide),gse (show 1 ≠ 7 by decide)]
 ·exact g.bel
 ·exact g.c33
 ·exact g.c35
 ·exact fun _=>⟨by first | rfl | trivial,ht⟩
 ·exact g.c36
 ·exact g.c5
 ·exact g.c6
 ·exact fun _ h4=>by have:=(h.c5 h4).2.1; omega
 ·exact fun _ h5=>by have:=(h.c6 h5).2.1; omega
 ·exact g.n25
 ·exact g.n26
 ·exact g.n56
 ·exact fun hx=>absurd hx h6
 ·exact g.s6
theorem rw9_3 (h:RW9 W0 BV q1 q2 x v33 v34 v35 v36 v5 v6 b1 b2 p5 p6 w) (h7:x[7]? ≠ some true) {b:Nat} (hb:yl w w') (qI:w.heap.size ≤ b) (ht:Ts w' b q2) :
  RW9 W0 BV q1 q2 (x.set 3 true) v33 v34 v35 (aV b) v5 v6 b1 b p5 p6 w':=by
 have g:=rw9_grow h hb
 constructor <;> try simp only [gse (show 3 ≠ 0 by decide),gse (show 3 ≠ 1 by decide),gse (show 3 ≠ 2 by decide),gse (show 3 ≠ 4 by decide),gse (show 3 ≠ 5 by decide),gse (show 3 ≠ 6 by decide),gse (show 3 ≠ 7 by decide)]
 ·exact g.bel
 ·exact g.c33
 ·exact g.c35
 ·exact g.c34
 ·exact fun _=>⟨by first | rfl | trivial,ht⟩
 ·exact g.c5
 ·exact g.c6
 ·exact g.n15
 ·exact g.n16
 ·exact fun _ h4=>by have:=(h.c5 h4).2.1; omega
 ·exact fun _ h5=>by have:=(h.c6 h5).2.1; omega
 ·exact g.n56
 ·exact g.s5
 ·exact fun hx=>absurd hx h7
theorem zH (w:World) (cs:List Value) (t:TypeId):(w.alloc (Obj.cells cs.toArray t)).there w.heap.size 0 cs.length:=cz (heap_alloc_new w _) (by simp)
theorem rw9_4 (h:RW9 W0 BV q1 q2 x v33 v34 v35 v36 v5 v6 b1 b2 p5 p6 w) (h6:x[6]? ≠ some true) (t:TypeId) :
  RW9 W0 BV q1 q2 (x.set 4 true) v33 v34 v35 v36 (ym w 0) v6 b1 b2 w.heap.size p6 (w.alloc (E #[.nilFunc,.nilFunc,.nilFunc] t)):=by
 have g:=rw9_grow h ((Below.refl _ _).alloc tg (E #[.nilFunc,.nilFunc,.nilFunc] t))
 constructor <;> try simp only [gse (show 4 ≠ 0 by decide),gse (show 4 ≠ 1 by decide),gse (show 4 ≠ 2 by decide),gse (show 4 ≠ 3 by decide),gse (show 4 ≠ 5 by decide),gse (show 4 ≠ 6 by decide),gse (show 4 ≠ 7 by decide)]
 ·exact g.bel
 ·exact g.c33
 ·exact g.c35
 ·exact g.c34
 ·exact g.c36
 ·exact fun _=>⟨by first | rfl | trivial,by rw [ze]; omega,h.bel.size,zH w [.nilFunc,.nilFunc,.nilFunc] t⟩
 ·exact g.c6
 ·exact fun z _=>by have:=zJ (h.c34 z).2; omega
 ·exact g.n16
 ·exact fun h3 _=>by have:=zJ (h.c36 h3).2; omega
 ·exact g.n26
 ·exact fun _ h5=>by have:=(h.c6 h5).2.1; omega
 ·exact fun hx=>absurd hx h6
 ·exact g.s6
theorem rw9_5 (h:RW9 W0 BV q1 q2 x v33 v34 v35 v36 v5 v6 b1 b2 p5 p6 w) (h7:x[7]? ≠ some true) (t:TypeId) :
  RW9 W0 BV q1 q2 (x.set 5 true) v33 v34 v35 v36 v5 (ym w 0) b1 b2 p5 w.heap.size (w.alloc (E #[.nilFunc,.nilFunc,.nilFunc] t)):=by
 have g:=rw9_grow h ((Below.refl _ _).alloc tg (E #[.nilFunc,.nilFunc,.nilFunc] t))
 constructor <;> try simp only [gse (show 5 ≠ 0 by decide),gse (show 5 ≠ 1 by decide),gse (show 5 ≠ 2 by decide),gse (show 5 ≠ 3 by decide),gse (show 5 ≠ 4 by decide),gse (show 5 ≠ 6 by decide),gse (show 5 ≠ 7 by decide)]
 ·exact g.bel
 ·exact g.c33
 ·exact g.c35
 ·exact g.c34
 ·exact g.c36
 ·exact g.c5
 ·exact fun _=>⟨by first | rfl | trivial,by rw [ze]; omega,h.bel.size,zH w [.nilFunc,.nilFunc,.nilFunc] t⟩
 ·exact g.n15
 ·exact fun z _=>by have:=zJ (h.c34 z).2; omega
 ·exact g.n25
 ·exact fun h3 _=>by have:=zJ (h.c36 h3).2; omega
 ·exact fun h4 _=>by have:=(h.c5 h4).2.1; omega
 ·exact g.s5
 ·exact fun hx=>absurd hx h7
theorem ds {p:Nat} {F0 F1 F2:Value} {k:Nat} (hk:k ≠ p):(((w.setCell (J p 0) F0).setCell (J p 1) F1).setCell (J p 2) F2).heap[k]? = w.heap[k]? :=
 (yP _ _ _ _ hk).trans ((yP _ _ _ _ hk).trans (yP _ _ _ _ hk))
theorem set3_size {p:Nat} {F0 F1 F2:Value}:(((w.setCell (J p 0) F0).setCell (J p 1) F1).setCell (J p 2) F2).heap.size = w.heap.size:=by simp [World.setCell]
theorem set3_range {p:Nat} {F0 F1 F2:Value} (ht:w.there p 0 3):(((w.setCell (J p 0) F0).setCell (J p 1) F1).setCell (J p 2) F2).rangeAt p 0 [F0,F1,F2]:=yU w p 0 [F0,F1,F2] (fun j L=>ht j L)
theorem ef {p b o n:Nat} {F0 F1 F2:Value} (ht:w.there b o n):(((w.setCell (J p 0) F0).setCell (J p 1) F1).setCell (J p 2) F2).there b o n:=yY ht p 0 [F0,F1,F2]
theorem set3_below {p:Nat} {F0 F1 F2:Value} (h:yl W0 w) (hp:W0.heap.size ≤ p):yl W0 (((w.setCell (J p 0) F0).setCell (J p 1) F1).setCell (J p 2) F2) :=
 ((h.setCell (p:=(J p 0)) hp F0).setCell (p:=(J p 1)) hp F1).setCell (p:=(J p 2)) hp F2
theorem range_block {b o:Nat} {cs:List Value} (h:w.rangeAt b o cs) (hb:w'.heap[b]? = w.heap[b]?):w'.rangeAt b o cs:=fun j v hv=>(yN (a:=(J b (o + j))) hb).trans (h j v hv)
theorem rw9_6 (h:RW9 W0 BV q1 q2 x v33 v34 v35 v36 v5 v6 b1 b2 p5 p6 w) (z:x[1]? = some true) (h3:x[3]? = some true) (h4:x[4]? = some true) (h5:x[5]? = some true) {F0 F1 F2:Value} (hF:cE b1 = [F0,F1,F2]) :
  RW9 W0 BV q1 q2 (x.set 6 true) v33 v34 v35 v36 v5 v6 b1 b2 p5 p6 (((w.setCell (J p5 0) F0).setCell (J p5 1) F1).setCell (J p5 2) F2):=by
 obtain ⟨e1,e2,e3,e4⟩:=h.c5 h4
 obtain ⟨f1,f2,f3,f4⟩:=h.c6 h5
 constructor <;> try simp only [gse (show 6 ≠ 0 by decide),gse (show 6 ≠ 1 by decide),gse (show 6 ≠ 2 by decide),gse (show 6 ≠ 3 by decide),gse (show 6 ≠ 4 by decide),gse (show 6 ≠ 5 by decide),gse (show 6 ≠ 7 by decide)]
 ·exact set3_below h.bel e3
 ·exact h.c33
 ·exact h.c35
 ·exact fun _=>⟨(h.c34 z).1,zt (h.c34 z).2 (ds (h.n15 z h4))⟩
 ·exact fun _=>⟨(h.c36 h3).1,zt (h.c36 h3).2 (ds (h.n25 h3 h4))⟩
 ·exact fun _=>⟨e1,by rw [set3_size]; exact e2,e3,ef e4⟩
 ·exact fun _=>⟨f1,by rw [set3_size]; exact f2,f3,ef f4⟩
 ·exact h.n15
 ·exact h.n16
 ·exact h.n25
 ·exact h.n26
 ·exact h.n56
 ·exact fun _=>⟨⟨z,h4⟩,by rw [hF]; exact set3_range e4⟩
 ·exact fun hx=>⟨(h.s6 hx).1,range_block (h.s6 hx).2 (ds (Ne.symm (h.n56 h4 h5)))⟩
theorem rw9_7 (h:RW9 W0 BV q1 q2 x v33 v34 v35 v36 v5 v6 b1 b2 p5 p6 w) (z:x[1]? = some true) (h3:x[3]? = some true) (h4:x[4]? = some true) (h5:x[5]? = some true) {F0 F1 F2:Value} (hF:cU b2 = [F0,F1,F2]) :
  RW9 W0 BV q1 q2 (x.set 7 true) v33 v34 v35 v36 v5 v6 b1 b2 p5 p6 (((w.setCell (J p6 0) F0).setCell (J p6 1) F1).setCell (J p6 2) F2):=by
 obtain ⟨e1,e2,e3,e4⟩:=h.c5 h4
 obtain ⟨f1,f2,f3,f4⟩:=h.c6 h5
 constructor <;> try simp only [gse (show 7 ≠ 0 by decide),gse (show 7 ≠ 1 by decide),gse (show 7 ≠ 2 by decide),gse (show 7 ≠ 3 by decide),gse (show 7 ≠ 4 by decide),gse (show 7 ≠ 5 by decide),gse (show 7 ≠ 6 by decide)]
 ·exact set3_below h.bel f3
 ·exact h.c33
 ·exact h.c35
 ·exact fun _=>⟨(h.c34 z).1,zt (h.c34 z).2 (ds (h.n16 z h5))⟩
 ·exact fun _=>⟨(h.c36 h3).1,zt (h.c36 h3).2 (ds (h.n26 h3 h5))⟩
 ·exact fun _=>⟨e1,by rw [set3_size]; exact e2,e3,ef e4⟩
 ·exact fun _=>⟨f1,by rw [set3_size]; exact f2,f3,ef f4⟩
 ·exact h.n15
 ·exact h.n16
 ·exact h.n25
 ·exact h.n26
 ·exact h.n56
 ·exact fun hx=>⟨(h.s5 hx).1,range_block (h.s5 hx).2 (ds (h.n56 h4 h5))⟩
 ·exact fun _=>⟨⟨h3,h5⟩,by rw [hF]; exact set3_range f4⟩
end

end Go.Proofs.YtbakanofkghmiaaGreat
