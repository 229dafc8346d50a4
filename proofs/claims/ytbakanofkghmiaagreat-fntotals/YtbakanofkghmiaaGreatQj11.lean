/-
  A new order asked about itself, by the program: proved by walking the methods.
-/
import Derived.Test.YtbakanofkghmiaaGreatQj10
set_option linter.unusedVariables false
set_option maxHeartbeats 6400000
set_option maxRecDepth 100000
namespace Go.Proofs.YtbakanofkghmiaaGreat
open Go.RowKit
def noV (c:Cm):Value:=.agg #[H c.s,H c.t,H c.l,H c.q,yj c.p,yk c.g]
def aO (t:Int):Bool:=decide (t = 1) || decide (t = 5)
def prcB (c:Cm):Bool:=if c.t = 2 then decide (fbit c.p = 0) else tkOk c.p
def bz (c:Cm) (o:Od):Bool:=if c.t = 2 then true else if c.s = 1 then decide (o.ticks ≤ tk c.p) else decide (tk c.p ≤ o.ticks)
def ordO (c:Cm) (id:Int):Od:=⟨id,c.s,tk c.p,c.q,c.l,c.g⟩
def othS (s:Int):Int:=if s = 1 then 2 else 1
theorem isType_any (t:Int) (w:World) :
  Calls Tryz.prog 144 #[H t] w fun e w'=>e = ym (.bool (betB t 1 5))∧w' = w:=by
 go_enter Tryz.func144,Tryz.ntmps144
 go_wp2_with fail
 refine (dQ t 1 5 w).mono ?_
 rintro e w' ⟨rfl,rfl⟩
 go_wp2_with fail
 go_ret
 exact ⟨rfl,rfl⟩
theorem isQty_any (t:Int) (w:World) :
  Calls Tryz.prog 146 #[H t] w fun e w'=>e = ym (.bool (betB t 1 1000000))∧w' = w:=by
 go_enter Tryz.func146,Tryz.ntmps146
 go_wp2_with fail
 refine (dQ t 1 1000000 w).mono ?_
 rintro e w' ⟨rfl,rfl⟩
 go_wp2_with fail
 go_ret
 exact ⟨rfl,rfl⟩
theorem otherSide_any (s:Int) (w:World) :
  Calls Tryz.prog 149 #[H s] w fun e w'=>e = ym (H (othS s))∧w' = w:=by
 by_cases h:s = 1
 ·subst h
  go_enter Tryz.func149,Tryz.ntmps149
  go_wp2_with fail
  go_ret
  exact ⟨rfl,rfl⟩
 ·have h':(s == 1) = false:=by simpa using h
  have HS:Hid (othS s = 1):=if_neg h
  go_enter Tryz.func149,Tryz.ntmps149
  go_wp2_with fail
  go_ret
  exact ⟨zt (U HS).symm,rfl⟩
theorem dP (c:Cm) (w:World) :
  Calls Tryz.prog 114 #[noV c] w fun e w'=>e = ym (.bool (aO c.t))∧yn w w':=by
 obtain ⟨k,s,t,l,q,i,p,g⟩:=c
 unfold noV
 simp only
 by_cases Q:t = 1
 ·subst Q
  go_enter Tryz.func114,Tryz.ntmps114
  go_wp2_with fail
  go_ret
  exact ⟨rfl,by go_grown⟩
 ·have b1:(t == 1) = false:=by simpa using Q
  by_cases h5:t = 5
  ·subst h5
   go_enter Tryz.func114,Tryz.ntmps114
   go_wp2_with fail
   go_ret
   exact ⟨rfl,by go_grown⟩
  ·have b5:(t == 5) = false:=by simpa using h5
   have HR:Hid (aO t = false):=by show aO t = false; simp [aO,Q,h5]
   go_enter Tryz.func114,Tryz.ntmps114
   go_wp2_with fail
   go_ret
   exact ⟨zB (U HR).symm,by go_grown⟩
theorem hasPrice_any (c:Cm) (w:World) :
  Calls Tryz.prog 145 #[noV c] w fun e w'=>e = ym (.bool (prcB c))∧yn w w':=by
 obtain ⟨k,s,t,l,q,i,p,g⟩:=c
 unfold noV
 simp only
 have HB:Hid (yn w (w.alloc (E #[H s,H t,H l,H q,yj p,yk g] 112))):=eE _ _
 by_cases N:t = 2
 ·subst N
  have HP:Hid (prcB ⟨k,s,2,l,q,i,p,g⟩ = decide (fbit p = 0)):=if_pos rfl
  go_enter Tryz.func145,Tryz.ntmps145
  go_wp2_with fail
  refine (floatBits_any p _).mono ?_
  rintro e w' ⟨rfl,rfl⟩
  go_wp2_with fail
  go_ret
  exact ⟨zB (by rw [U HP,Bool.eq_iff_iff]; simp),U HB⟩
 ·have b2:(t == 2) = false:=by simpa using N
  have HP:Hid (prcB ⟨k,s,t,l,q,i,p,g⟩ = tkOk p):=if_neg N
  go_enter Tryz.func145,Tryz.ntmps145
  go_wp2_with fail
  refine (dS p _).mono ?_
  rintro e w' ⟨rfl,rfl⟩
  go_wp2_with fail
  go_ret
  exact ⟨zB (U HP).symm,U HB⟩
theorem meets_any (c:Cm) (o:Od) (w:World) :
  Calls Tryz.prog 150 #[noV c,.agg (yw o.id o.side o.ticks o.left o.life o.tag).toArray] w fun e w'=>e = ym (.bool (bz c o))∧yn w w':=by
 obtain ⟨k,s,t,l,q,i,p,g⟩:=c
 obtain ⟨id,side,ticks,left,life,tag⟩:=o
 unfold noV
 simp only
 have HB:Hid (yn w ((w.alloc (E #[H s,H t,H l,H q,yj p,yk g] 112)).alloc (E (yw id side ticks left life tag).toArray 49))):=(eE _ _).alloc (by rw [zh]; omega) _
 by_cases N:t = 2
 ·subst N
  have HP:Hid (bz ⟨k,s,2,l,q,i,p,g⟩ ⟨id,side,ticks,left,life,tag⟩ = true):=if_pos rfl
  go_enter Tryz.func150,Tryz.ntmps150
  go_wp2_with fail
  go_ret
  exact ⟨zB (U HP).symm,U HB⟩
 ·have b2:(t == 2) = false:=by simpa using N
  by_cases Q:s = 1
  ·subst Q
   have HP:Hid (bz ⟨k,1,t,l,q,i,p,g⟩ ⟨id,side,ticks,left,life,tag⟩ = decide (ticks ≤ tk p)):=by show _ = _; rw [bz,if_neg N]; rfl
   go_enter Tryz.func150,Tryz.ntmps150
   go_wp2_with fail
   refine (dS p _).mono ?_
   rintro e w' ⟨rfl,rfl⟩
   go_wp2_with fail
   go_ret
   exact ⟨zB (U HP).symm,U HB⟩
  ·have b1:(s == 1) = false:=by simpa using Q
   have HP:Hid (bz ⟨k,s,t,l,q,i,p,g⟩ ⟨id,side,ticks,left,life,tag⟩ = decide (tk p ≤ ticks)):=by show _ = _; rw [bz,if_neg N,if_neg Q]
   go_enter Tryz.func150,Tryz.ntmps150
   go_wp2_with fail
   refine (dS p _).mono ?_
   rintro e w' ⟨rfl,rfl⟩
   go_wp2_with fail
   go_ret
   exact ⟨zB (U HP).symm,U HB⟩
theorem order_any (c:Cm) (id:Int) (w:World) :
  Calls Tryz.prog 148 #[noV c,H id] w fun e w'=>e = ym (.agg (yw id c.s (tk c.p) c.q c.l c.g).toArray)∧yn w w':=by
 obtain ⟨k,s,t,l,q,i,p,g⟩:=c
 unfold noV
 simp only
 go_enter Tryz.func148,Tryz.ntmps148
 go_wp2_with fail
 refine (dS p _).mono ?_
 rintro e w' ⟨rfl,rfl⟩
 go_wp2_with fail
 go_returns
 refine ⟨rfl,?_⟩
 go_grown
theorem toldNew_any (c:Cm) (w:World) :
  Calls Tryz.prog 113 #[noV c] w fun e w'=>e = ym (.agg (yx 1 c.s c.t c.l c.q 0 c.p c.g).toArray)∧yn w w':=by
 obtain ⟨k,s,t,l,q,i,p,g⟩:=c
 unfold noV
 have hsf:=sfl
 simp only
 go_enter Tryz.func113,Tryz.ntmps113
 go_wp2_with fail
 go_returns
 refine ⟨rfl,?_⟩
 go_grown
theorem toldCancel_any (i:Int) (w:World) :
  Calls Tryz.prog 185 #[.agg #[H i]] w fun e w'=>e = ym (.agg (yx 2 0 0 0 0 i 0 ⟨#[]⟩).toArray)∧yn w w':=by
 have hsf:=sfl
 go_enter Tryz.func185,Tryz.ntmps185
 go_wp2_with fail
 go_returns
 refine ⟨rfl,?_⟩
 go_grown
theorem toldReduce_any (i q:Int) (w:World) :
  Calls Tryz.prog 186 #[.agg #[H i,H q]] w fun e w'=>e = ym (.agg (yx 3 0 0 0 q i 0 ⟨#[]⟩).toArray)∧yn w w':=by
 have hsf:=sfl
 go_enter Tryz.func186,Tryz.ntmps186
 go_wp2_with fail
 go_returns
 refine ⟨rfl,?_⟩
 go_grown
theorem toldDay_any (w:World) :
  Calls Tryz.prog 187 #[.agg #[]] w fun e w'=>e = ym (.agg (yx 4 0 0 0 0 0 0 ⟨#[]⟩).toArray)∧yn w w':=by
 have hsf:=sfl
 go_enter Tryz.func187,Tryz.ntmps187
 go_wp2_with fail
 go_returns
 refine ⟨rfl,?_⟩
 go_grown
structure Ev where
 kind:Int
 cmd:Cm
 id:Int
 other:Int
 qty:Int
 price:Int
 reason:Int
def cmV (c:Cm):Value:=.agg (yx c.k c.s c.t c.l c.q c.i c.p c.g).toArray
def evV (e:Ev):Value:=.agg (yv e.kind e.cmd.k e.cmd.s e.cmd.t e.cmd.l e.cmd.q e.cmd.i e.cmd.p e.cmd.g e.id e.other e.qty e.price e.reason).toArray
def vlV (e:Ev):Value:=.agg #[H e.kind,H e.id,H e.other,H e.qty,H e.price,H e.reason,H e.cmd.k,H e.cmd.s,H e.cmd.t,H e.cmd.l,H e.cmd.q,H e.cmd.i,.int .u64 (fbit e.cmd.p),yk e.cmd.g]
def Ev.vs (e:Ev):List Value:=(yv e.kind e.cmd.k e.cmd.s e.cmd.t e.cmd.l e.cmd.q e.cmd.i e.cmd.p e.cmd.g e.id e.other e.qty e.price e.reason)
theorem Ev.len (e:Ev):e.vs.length = 14:=rfl
def zCm:Cm:=⟨0,0,0,0,0,0,0,⟨#[]⟩⟩
theorem dU (w:World) (cs:List Value) (t:TypeId):(w.alloc (Obj.cells cs.toArray t)).rangeAt w.heap.size 0 cs:=fun j u h=>by
 rw [cell_of_row _ w.heap.size (0 + j) cs.toArray t (0,0) (heap_alloc_new w _)]
 simpa using h
theorem size_madeV (w:World) (o:Obj):(w.alloc o).heap.size = w.heap.size + 1:=by simp
theorem there_madeV (w:World) (cs:List Value) (t:TypeId):(w.alloc (Obj.cells cs.toArray t)).there w.heap.size 0 cs.length:=cJ (heap_alloc_new w _) (by simp)
theorem dX (e:Ev) (w:World) :
  Calls Tryz.prog 138 #[evV e] w fun x w'=>x = ym (vlV e)∧yn w w':=by
 obtain ⟨uB,⟨k,s,t,l,q,i,p,g⟩,id,xY,qty,uw,ub⟩:=e
 unfold evV vlV
 have hsf:=sfl
 simp only
 generalize hfb:fbit p = fp
 have HFB:=Y (fun W=>hfb ▸ floatBits_any p W)
 clear hfb
 have xC:(w.alloc (E (yv uB k s t l q i p g id xY qty uw ub).toArray 46)).heap.size = w.heap.size + 1:=size_madeV _ _
 have ua:((w.alloc (E (yv uB k s t l q i p g id xY qty uw ub).toArray 46)).alloc (E #[H 0,H 0,H 0,H 0,H 0,H 0,H 0,H 0,H 0,H 0,H 0,H 0,.int .u64 0,yk ⟨#[]⟩] 187)).heap.size = w.heap.size + 2:=by rw [size_madeV,xC]
 have jd:(((w.alloc (E (yv uB k s t l q i p g id xY qty uw ub).toArray 46)).alloc (E #[H 0,H 0,H 0,H 0,H 0,H 0,H 0,H 0,H 0,H 0,H 0,H 0,.int .u64 0,yk ⟨#[]⟩] 187)).alloc (E (yx k s t l q i p g).toArray 43)).heap.size = w.heap.size + 3:=by rw [size_madeV,ua]
 have b1:Below (w.heap.size + 1) (w.alloc (E (yv uB k s t l q i p g id xY qty uw ub).toArray 46)) (((w.alloc (E (yv uB k s t l q i p g id xY qty uw ub).toArray 46)).alloc (E #[H 0,H 0,H 0,H 0,H 0,H 0,H 0,H 0,H 0,H 0,H 0,H 0,.int .u64 0,yk ⟨#[]⟩] 187)).alloc (E (yx k s t l q i p g).toArray 43)):=(((Below.refl _ _).alloc (by rw [xC]; omega) _).alloc (by rw [ua]; omega) _)
 have b2:Below (w.heap.size + 2) ((w.alloc (E (yv uB k s t l q i p g id xY qty uw ub).toArray 46)).alloc (E #[H 0,H 0,H 0,H 0,H 0,H 0,H 0,H 0,H 0,H 0,H 0,H 0,.int .u64 0,yk ⟨#[]⟩] 187)) (((w.alloc (E (yv uB k s t l q i p g id xY qty uw ub).toArray 46)).alloc (E #[H 0,H 0,H 0,H 0,H 0,H 0,H 0,H 0,H 0,H 0,H 0,H 0,.int .u64 0,yk ⟨#[]⟩] 187)).alloc (E (yx k s t l q i p g).toArray 43)):=((Below.refl _ _).alloc (by rw [ua]; omega) _)
 have r1:=zb (dU w (yv uB k s t l q i p g id xY qty uw ub) 46) b1 (by omega)
 have t2:=there_madeV (w.alloc (E (yv uB k s t l q i p g id xY qty uw ub).toArray 46)) [H 0,H 0,H 0,H 0,H 0,H 0,H 0,H 0,H 0,H 0,H 0,H 0,.int .u64 0,yk ⟨#[]⟩] 187
 have r3:=dU ((w.alloc (E (yv uB k s t l q i p g id xY qty uw ub).toArray 46)).alloc (E #[H 0,H 0,H 0,H 0,H 0,H 0,H 0,H 0,H 0,H 0,H 0,H 0,.int .u64 0,yk ⟨#[]⟩] 187)) (yx k s t l q i p g) 43
 rw [xC] at t2
 rw [ua] at r3
 have t2':=zg t2 b2 (by omega)
 have xQ:Hid (yn w (((w.alloc (E (yv uB k s t l q i p g id xY qty uw ub).toArray 46)).alloc (E #[H 0,H 0,H 0,H 0,H 0,H 0,H 0,H 0,H 0,H 0,H 0,H 0,.int .u64 0,yk ⟨#[]⟩] 187)).alloc (E (yx k s t l q i p g).toArray 43))):=((eE _ _).alloc (by rw [xC]; omega) _).alloc (by rw [ua]; omega) _
 have HX:Hid (_∧_∧_):=⟨r1,t2',r3⟩
 clear r1 t2 t2' r3 b1 b2 xC ua jd
 go_enter Tryz.func138,Tryz.ntmps138
 go_wp2_with fail
 generalize (((w.alloc (E (yv uB k s t l q i p g id xY qty uw ub).toArray 46)).alloc (E #[H 0,H 0,H 0,H 0,H 0,H 0,H 0,H 0,H 0,H 0,H 0,H 0,.int .u64 0,yk ⟨#[]⟩] 187)).alloc (E (yx k s t l q i p g).toArray 43)) = WW at xQ HX ⊢
 obtain ⟨kl,jr,hr3⟩:=U HX
 have x0:=kl 0 _ rfl
 have x1:=kl 1 _ rfl
 have x2:=kl 2 _ rfl
 have x3:=kl 3 _ rfl
 have x4:=kl 4 _ rfl
 have x5:=kl 5 _ rfl
 have x6:=kl 6 _ rfl
 have x7:=kl 7 _ rfl
 have x8:=kl 8 _ rfl
 have x9:=kl 9 _ rfl
 have x10:=kl 10 _ rfl
 have x11:=kl 11 _ rfl
 have x12:=kl 12 _ rfl
 have x13:=kl 13 _ rfl
 have y0:=hr3 0 _ rfl
 have y1:=hr3 1 _ rfl
 have y2:=hr3 2 _ rfl
 have y3:=hr3 3 _ rfl
 have y4:=hr3 4 _ rfl
 have y5:=hr3 5 _ rfl
 have y6:=hr3 6 _ rfl
 have y7:=hr3 7 _ rfl
 simp only [Nat.zero_add] at x0 x1 x2 x3 x4 x5 x6 x7 x8 x9 x10 x11 x12 x13 y0 y1 y2 y3 y4 y5 y6 y7
 obtain ⟨v0,z0,f0⟩:=zG jr 0 (by decide)
 obtain ⟨v1,z1,f1⟩:=zG jr 1 (by decide)
 obtain ⟨v2,z2,f2⟩:=zG jr 2 (by decide)
 obtain ⟨v3,z3,f3⟩:=zG jr 3 (by decide)
 obtain ⟨v4,z4,f4⟩:=zG jr 4 (by decide)
 obtain ⟨v5,z5,f5⟩:=zG jr 5 (by decide)
 obtain ⟨v6,z6,f6⟩:=zG jr 6 (by decide)
 obtain ⟨v7,z7,f7⟩:=zG jr 7 (by decide)
 obtain ⟨v8,z8,f8⟩:=zG jr 8 (by decide)
 obtain ⟨v9,z9,f9⟩:=zG jr 9 (by decide)
 obtain ⟨v10,z10,f10⟩:=zG jr 10 (by decide)
 obtain ⟨v11,z11,f11⟩:=zG jr 11 (by decide)
 obtain ⟨v12,z12,f12⟩:=zG jr 12 (by decide)
 obtain ⟨v13,z13,f13⟩:=zG jr 13 (by decide)
 simp only [Nat.zero_add] at z0 f0 z1 f1 z2 f2 z3 f3 z4 f4 z5 f5 z6 f6 z7 f7 z8 f8 z9 f9 z10 f10 z11 f11 z12 f12 z13 f13
 have HT:=Y jr
 clear kl jr hr3 HX
 refine wp_region_still_tail 30 (by kernel_rfl) (by kernel_rfl) ?_
 simp only [yU,List.take_zero,yV,List.drop_zero]
 repeat still_step
 still_call (U HFB _)
 repeat still_step
 refine wpStill_nil ?_
 go_wp2_with fail
 change bodyPost _ _ _ _ _ (WW.setCells (w.heap.size + 1) 0 [H uB,H id,H xY,H qty,H uw,H ub,H k,H s,H t,H l,H q,H i,.int .u64 fp,yk g]).drew
 have jE:=Y (yY WW (w.heap.size + 1) 0 [H uB,H id,H xY,H qty,H uw,H ub,H k,H s,H t,H l,H q,H i,.int .u64 fp,yk g] (fun j R=>U HT j R))
 have uA:=Y (zo (w.heap.size + 1) (by omega) [H uB,H id,H xY,H qty,H uw,H ub,H k,H s,H t,H l,H q,H i,.int .u64 fp,yk g] 0 WW (U xQ))
 generalize WW.setCells (w.heap.size + 1) 0 [H uB,H id,H xY,H qty,H uw,H ub,H k,H s,H t,H l,H q,H i,.int .u64 fp,yk g] = WE at jE uA ⊢
 obtain ⟨d0,d1,d2,d3,d4,d5,d6,d7,d8,d9,d10,d11,d12,d13⟩:=yG (U jE)
 try simp only [Exit.inBlock,Exit.then]
 refine bodyPost_ret (by simp [results,Tryz.results138,go_sem,d0,d1,d2,d3,d4,d5,d6,d7,d8,d9,d10,d11,d12,d13]; try rfl) rfl ?_
 exact ⟨rfl,(U uA).drew⟩
def sideL_b (b:Nat):List Value:=[.func (.func 122) #[I b 0] #[],.func (.func 123) #[I b 0] #[],.func (.func 124) #[I b 0] #[]]
def sideL_s (b:Nat):List Value:=[.func (.func 126) #[I b 0] #[],.func (.func 127) #[I b 0] #[],.func (.func 128) #[I b 0] #[]]
abbrev Tb (w:World) (b:Nat) (q:List Od):Prop:=aQ 176 true w b 1 q
abbrev Ts (w:World) (b:Nat) (q:List Od):Prop:=aQ 179 false w b 2 q
section
variable {W0 w w':World} {BV:Value} {q1 q2:List Od} {x:List Bool} {v33 v34 v35 v36 v5 v6:Value} {b1 b2 p5 p6:Nat}
theorem zw (w:World) (cs:List Value) (t:TypeId):(w.alloc (Obj.cells cs.toArray t)).there w.heap.size 0 cs.length:=cJ (heap_alloc_new w _) (by simp)
end

theorem insT_len (s:Bool) (k:Int):∀ T:List Int,(insT s k T).length ≤ T.length + 1
 | []=>by simp [insT]
 | a :: r=>by
  have:=insT_len s k r
  rw [insT]; split
  ·simp
  ·split <;> simp <;> omega
theorem tks_len (s:Bool):∀ seq:List Od,(tks s seq).length ≤ seq.length
 | []=>by simp [tks]
 | o :: r=>by
  have Q:=insT_len s o.ticks (tks s r)
  have N:=tks_len s r
  rw [tks]; simp; omega
def backB:Nat→List Oper→Bool
 | _,[]=>true
 | i,o :: r=>o.after.toList.all (fun e=>decide (e.on < i)) && backB (i + 1) r
theorem back_spec:∀ (l:List Oper) (n:Nat),backB n l = true→∀ (i:Nat) (o:Oper),l[i]? = some o→∀ e ∈ o.after,e.on < n + i
 | [],_,_,i,o,h,_,_=>by simp at h
 | a :: r,n,X,0,o,h,e,he=>by
  simp at h; subst h
  simp only [backB,xh,List.all_eq_true,xj] at X
  exact X.1 e (by simpa using he)
 | a :: r,n,X,i + 1,o,h,e,he=>by
  simp only [backB,xh] at X
  have:=back_spec r (n + 1) X.2 i o (by simpa using h) e he
  omega
theorem acyc (l:List Oper) (h:backB 0 l = true):∀ (i:Nat) (o:Oper),l[i]? = some o→∀ e ∈ o.after,e.on < i:=fun i o Z e he=>by
 have:=back_spec l 0 h i o Z e he; omega
def C10 (b1 b2 p5 p6 N1 N2:Nat):Nat→Value→Prop
 | 0,v=>v = I p5 2
 | 1,v=>v = .func (.func 124) #[I b1 0] #[]
 | 2,v=>∃ a c,v = .slice a N1 c
 | 3,v=>v = H N1
 | 4,v=>v = I p6 2
 | 5,v=>v = .func (.func 128) #[I b2 0] #[]
 | 6,v=>∃ a c,v = .slice a N2 c
 | 7,v=>v = H N2
 | 8,v=>v = H ((N1:Int) + N2)
 | 9,v=>v = H ((N1:Int) + N2)
 | _,_=>True
theorem countLevels_any (b1 b2:Nat) (sd1 sd2:Int) (s1 s2:List Od) (w:World) (Q:aQ 176 true w b1 sd1 s1) (N:aQ 179 false w b2 sd2 s2) (n1:s1.length ≤ 20) (n2:s2.length ≤ 20) :
  Calls Tryz.prog 39 #[bW b1,bX b2] w fun e w'=>e = ym (H (((aT true sd1 s1).length:Int) + (aT false sd2 s2).length))∧yn w w':=by
 have xV:=bp Q
 have xX:=bp N
 generalize hL1:(aT true sd1 s1).length = N1
 generalize hL2:(aT false sd2 s2).length = N2
 have hN1:N1 ≤ 20:=by rw [← hL1,aT,List.length_map]; exact yO (tks_len _ _) n1
 have hN2:N2 ≤ 20:=by rw [← hL2,aT,List.length_map]; exact yO (tks_len _ _) n2
 have HLL:Hid ((aT true sd1 s1).length = N1∧(aT false sd2 s2).length = N2):=⟨hL1,hL2⟩
 have xC:=zh w (E (sideL_b b1).toArray 81)
 have ua:((w.alloc (E (sideL_b b1).toArray 81)).alloc (E (sideL_s b2).toArray 81)).heap.size = w.heap.size + 1 + 1:=by rw [zh,xC]
 have r0:=zi w (sideL_b b1) 81
 have r1:=zi (w.alloc (E (sideL_b b1).toArray 81)) (sideL_s b2) 81
 rw [xC] at r1
 have r0':=zb r0 (C:=w.heap.size + 1) ((Below.refl _ _).alloc (by rw [xC]; omega) (E (sideL_s b2).toArray 81)) (by omega)
 have uO:Hid (yn w ((w.alloc (E (sideL_b b1).toArray 81)).alloc (E (sideL_s b2).toArray 81))):=(eE _ _).alloc (by rw [xC]; omega) _
 have HR5:=Y r0'
 have HR6:=Y r1
 have qw:=Y ua
 have jj:=Y (zH Q ((U uO).block _ xV))
 have uL:=Y (zH N ((U uO).block _ xX))
 clear r0 r1 r0' xC ua hL1 hL2 Q N
 unfold bW bX
 go_enter Tryz.func39,Tryz.ntmps39
 go_wp2_with fail
 unfold sideL_b sideL_s at uO HR5 HR6 qw jj uL
 generalize hW:((w.alloc (E (List.toArray [.func (.func 122) #[I b1 0] #[],.func (.func 123) #[I b1 0] #[],.func (.func 124) #[I b1 0] #[]]) 81)).alloc (E (List.toArray [.func (.func 126) #[I b2 0] #[],.func (.func 127) #[I b2 0] #[],.func (.func 128) #[I b2 0] #[]]) 81)) = W at uO HR5 HR6 qw jj uL
 have hb1s:b1 < W.heap.size:=bp (U jj)
 have hb2s:b2 < W.heap.size:=bp (U uL)
 have hp5:w.heap.size < W.heap.size:=by rw [U qw]; omega
 have hp6:w.heap.size + 1 < W.heap.size:=by rw [U qw]; omega
 refine dk (RGrow W (fun f=>{ tmps:=#[bW b1,bX b2,yp w 0,I (w.heap.size + 1) 0,f 9,f 0,f 1,f 2,f 3,f 4,f 5,f 6,f 7,f 8],defers:=[] }) (C10 b1 b2 w.heap.size (w.heap.size + 1) N1 N2)) (by kernel_rfl) ?_ ?_ ?_
 ·refine ⟨upd (fun _=>M) 9 (H 0),rfl,?_,fun j R=>by rw [yJ] at R; split at R <;> simp at R⟩
  rw [← hW]
  exact ⟨rfl,rfl,rfl,Nat.le_refl _,fun _ _=>rfl⟩
 ·rintro x xn V ⟨f,rfl,xm,hC⟩ hx xN
  have hall9:=zS xN hx (acyc _ (by kernel_rfl)) 9 (by simp)
  have e9:f 9 = H ((N1:Int) + N2):=hC 9 hall9
  simp only [e9]
  have xw:=Y xm
  clear hC hx xN hall9 e9 xm
  go_wp2_with fail
  go_ret
  exact ⟨rfl,(U uO).trans ((U xw).mono (U uO).size)⟩
 ·rintro x xn V i o ⟨f,rfl,xm,hC⟩ hx Z xz D
  have xw:=Y xm
  have HC:=Y hC
  match i,Z with
  | 0,Z =>
   obtain rfl:=ya Z
   clear D hC xm
   rw [if_pos (by rfl)];unfold Oper.wp;go_simp
   exact ⟨upd f 0 (yp w 2),by simp [upd],U xw,zy (U HC) rfl⟩
  | 1,Z =>
   obtain rfl:=ya Z
   have g0:C10 b1 b2 w.heap.size (w.heap.size + 1) N1 N2 0 (f 0):=hC 0 (ye D 0 rfl)
   simp only [C10] at g0
   have d2:=zb (U HR5) xm hp5 2 _ rfl
   clear D hC xm
   rw [if_pos (by rfl)];unfold Oper.wp;go_simp
   exact ⟨upd f 1 (.func (.func 124) #[I b1 0] #[]),by simp [upd,g0],U xw,zy (U HC) rfl⟩
  | 2,Z =>
   obtain rfl:=ya Z
   have g1:C10 b1 b2 w.heap.size (w.heap.size + 1) N1 N2 1 (f 1):=hC 1 (ye D 1 rfl)
   simp only [C10] at g1
   have ht:=zH (U jj) (xm.block _ hb1s)
   have qB:=Y ht
   clear D hC xm ht
   rw [if_pos (by rfl)];unfold Oper.wp;go_simp
   refine (levels_b b1 sd1 s1 V (U qB) n1).mono ?_
   rintro e w4 ⟨v4,rfl,⟨al,cp,rfl,-,-⟩,xD⟩
   rw [(U HLL).1]
   exact ⟨upd f 2 (.slice al N1 cp),by simp [upd,g1],(U xw).trans (xD.mono (U xw).size),zy (U HC) ⟨al,cp,rfl⟩⟩
  | 3,Z =>
   obtain rfl:=ya Z
   have g2:C10 b1 b2 w.heap.size (w.heap.size + 1) N1 N2 2 (f 2):=hC 2 (ye D 2 rfl)
   obtain ⟨al,cp,g2⟩:=g2
   clear D hC xm
   rw [if_pos (by rfl)];unfold Oper.wp;go_simp
   exact ⟨upd f 3 (H N1),by simp [upd,g2],U xw,zy (U HC) rfl⟩
  | 4,Z =>
   obtain rfl:=ya Z
   clear D hC xm
   rw [if_pos (by rfl)];unfold Oper.wp;go_simp
   exact ⟨upd f 4 (I (w.heap.size + 1) 2),by simp [upd],U xw,zy (U HC) rfl⟩
  | 5,Z =>
   obtain rfl:=ya Z
   have g4:C10 b1 b2 w.heap.size (w.heap.size + 1) N1 N2 4 (f 4):=hC 4 (ye D 4 rfl)
   simp only [C10] at g4
   have d2:=zb (U HR6) xm hp6 2 _ rfl
   clear D hC xm
   rw [if_pos (by rfl)];unfold Oper.wp;go_simp
   exact ⟨upd f 5 (.func (.func 128) #[I b2 0] #[]),by simp [upd,g4],U xw,zy (U HC) rfl⟩
  | 6,Z =>
   obtain rfl:=ya Z
   have g5:C10 b1 b2 w.heap.size (w.heap.size + 1) N1 N2 5 (f 5):=hC 5 (ye D 5 rfl)
   simp only [C10] at g5
   have ht:=zH (U uL) (xm.block _ hb2s)
   have qB:=Y ht
   clear D hC xm ht
   rw [if_pos (by rfl)];unfold Oper.wp;go_simp
   refine (levels_s b2 sd2 s2 V (U qB) n2).mono ?_
   rintro e w4 ⟨v4,rfl,⟨al,cp,rfl,-,-⟩,xD⟩
   rw [(U HLL).2]
   exact ⟨upd f 6 (.slice al N2 cp),by simp [upd,g5],(U xw).trans (xD.mono (U xw).size),zy (U HC) ⟨al,cp,rfl⟩⟩
  | 7,Z =>
   obtain rfl:=ya Z
   have g6:C10 b1 b2 w.heap.size (w.heap.size + 1) N1 N2 6 (f 6):=hC 6 (ye D 6 rfl)
   obtain ⟨al,cp,g6⟩:=g6
   clear D hC xm
   rw [if_pos (by rfl)];unfold Oper.wp;go_simp
   exact ⟨upd f 7 (H N2),by simp [upd,g6],U xw,zy (U HC) rfl⟩
  | 8,Z =>
   obtain rfl:=ya Z
   have g3:C10 b1 b2 w.heap.size (w.heap.size + 1) N1 N2 3 (f 3):=hC 3 (ye D 3 rfl)
   have g7:C10 b1 b2 w.heap.size (w.heap.size + 1) N1 N2 7 (f 7):=hC 7 (ye D 7 rfl)
   simp only [C10] at g3
   simp only [C10] at g7
   have hwr8:IntKind.i64.wrap ((N1:Int) + N2) = (N1:Int) + N2:=by rw [IntKind.wrap_i64]; omega
   clear D hC xm
   rw [if_pos (by rfl)];unfold Oper.wp;go_simp
   exact ⟨upd f 8 (H ((N1:Int) + N2)),by simp [upd,g3,g7],U xw,zy (U HC) rfl⟩
  | 9,Z =>
   obtain rfl:=ya Z
   have g8:C10 b1 b2 w.heap.size (w.heap.size + 1) N1 N2 8 (f 8):=hC 8 (ye D 8 rfl)
   simp only [C10] at g8
   clear D hC xm
   rw [if_pos (by rfl)];unfold Oper.wp;go_simp
   exact ⟨upd f 9 (H ((N1:Int) + N2)),by simp [upd,g8],U xw,zy (U HC) rfl⟩
  | n + 10,Z=>simp at Z
end Go.Proofs.YtbakanofkghmiaaGreat
