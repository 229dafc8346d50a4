/-
  A new order asked about itself, by the program: proved by walking the methods.
-/
import Derived.Test.YtdliebbfcmdmaaaGreatMj08
import Derived.StillTailTactics
set_option linter.unusedVariables false
set_option maxHeartbeats 6400000
set_option maxRecDepth 100000
namespace Go.Proofs.YtdliebbfcmdmaaaGreat
open Go.RowKit
def noV (c:Cm):Value:=.agg #[H c.s,H c.t,H c.l,H c.q,yj c.p,yk c.g]
def aA (t:Int):Bool:=decide (t = 1) || decide (t = 5)
def prcB (c:Cm):Bool:=if c.t = 2 then decide (fbit c.p = 0) else tkOk c.p
def aO (c:Cm) (o:Od):Bool:=if c.t = 2 then true else if c.s = 1 then decide (o.ticks ≤ tk c.p) else decide (tk c.p ≤ o.ticks)
def ordO (c:Cm) (id:Int):Od:=⟨id,c.s,tk c.p,c.q,c.l,c.g⟩
def othS (s:Int):Int:=if s = 1 then 2 else 1
theorem isType_any (t:Int) (w:World) :
  Calls Tryz.prog 76 #[H t] w fun e w'=>e = ym (.bool (betB t 1 5))∧w' = w:=by
 go_enter Tryz.func76,Tryz.ntmps76
 go_wp2_with fail
 refine (dx t 1 5 w).mono ?_
 rintro e w' ⟨rfl,rfl⟩
 go_wp2_with fail
 go_ret
 exact ⟨rfl,rfl⟩
theorem isQty_any (t:Int) (w:World) :
  Calls Tryz.prog 79 #[H t] w fun e w'=>e = ym (.bool (betB t 1 1000000))∧w' = w:=by
 go_enter Tryz.func79,Tryz.ntmps79
 go_wp2_with fail
 refine (dx t 1 1000000 w).mono ?_
 rintro e w' ⟨rfl,rfl⟩
 go_wp2_with fail
 go_ret
 exact ⟨rfl,rfl⟩
theorem otherSide_any (s:Int) (w:World) :
  Calls Tryz.prog 85 #[H s] w fun e w'=>e = ym (H (othS s))∧w' = w:=by
 by_cases h:s = 1
 ·subst h
  go_enter Tryz.func85,Tryz.ntmps85
  go_wp2_with fail
  go_ret
  exact ⟨rfl,rfl⟩
 ·have h':(s == 1) = false:=by simpa using h
  have HS:Hid (othS s = 1):=if_neg h
  go_enter Tryz.func85,Tryz.ntmps85
  go_wp2_with fail
  go_ret
  exact ⟨zp (U HS).symm,rfl⟩
theorem dv (c:Cm) (w:World) :
  Calls Tryz.prog 56 #[noV c] w fun e w'=>e = ym (.bool (aA c.t))∧yn w w':=by
 obtain ⟨k,s,t,l,q,i,p,g⟩:=c
 unfold noV
 simp only
 by_cases Q:t = 1
 ·subst Q
  go_enter Tryz.func56,Tryz.ntmps56
  go_wp2_with fail
  go_ret
  exact ⟨rfl,by go_grown⟩
 ·have b1:(t == 1) = false:=by simpa using Q
  by_cases h5:t = 5
  ·subst h5
   go_enter Tryz.func56,Tryz.ntmps56
   go_wp2_with fail
   go_ret
   exact ⟨rfl,by go_grown⟩
  ·have b5:(t == 5) = false:=by simpa using h5
   have HR:Hid (aA t = false):=by show aA t = false; simp [aA,Q,h5]
   go_enter Tryz.func56,Tryz.ntmps56
   go_wp2_with fail
   go_ret
   exact ⟨zy (U HR).symm,by go_grown⟩
theorem hasPrice_any (c:Cm) (w:World) :
  Calls Tryz.prog 78 #[noV c] w fun e w'=>e = ym (.bool (prcB c))∧yn w w':=by
 obtain ⟨k,s,t,l,q,i,p,g⟩:=c
 unfold noV
 simp only
 have HB:Hid (yn w (w.alloc (E #[H s,H t,H l,H q,yj p,yk g] 74))):=ed _ _
 by_cases N:t = 2
 ·subst N
  have HP:Hid (prcB ⟨k,s,2,l,q,i,p,g⟩ = decide (fbit p = 0)):=if_pos rfl
  go_enter Tryz.func78,Tryz.ntmps78
  go_wp2_with fail
  refine (floatBits_any p _).mono ?_
  rintro e w' ⟨rfl,rfl⟩
  go_wp2_with fail
  go_ret
  exact ⟨zy (by rw [U HP,Bool.eq_iff_iff]; simp),U HB⟩
 ·have b2:(t == 2) = false:=by simpa using N
  have HP:Hid (prcB ⟨k,s,t,l,q,i,p,g⟩ = tkOk p):=if_neg N
  go_enter Tryz.func78,Tryz.ntmps78
  go_wp2_with fail
  refine (dG p _).mono ?_
  rintro e w' ⟨rfl,rfl⟩
  go_wp2_with fail
  go_ret
  exact ⟨zy (U HP).symm,U HB⟩
theorem meets_any (c:Cm) (o:Od) (w:World) :
  Calls Tryz.prog 86 #[noV c,.agg (yv o.id o.side o.ticks o.left o.life o.tag).toArray] w fun e w'=>e = ym (.bool (aO c o))∧yn w w':=by
 obtain ⟨k,s,t,l,q,i,p,g⟩:=c
 obtain ⟨id,side,ticks,left,life,tag⟩:=o
 unfold noV
 simp only
 have HB:Hid (yn w ((w.alloc (E #[H s,H t,H l,H q,yj p,yk g] 74)).alloc (E (yv id side ticks left life tag).toArray 66))):=(ed _ _).alloc (by rw [ze]; omega) _
 by_cases N:t = 2
 ·subst N
  have HP:Hid (aO ⟨k,s,2,l,q,i,p,g⟩ ⟨id,side,ticks,left,life,tag⟩ = true):=if_pos rfl
  go_enter Tryz.func86,Tryz.ntmps86
  go_wp2_with fail
  go_ret
  exact ⟨zy (U HP).symm,U HB⟩
 ·have b2:(t == 2) = false:=by simpa using N
  by_cases Q:s = 1
  ·subst Q
   have HP:Hid (aO ⟨k,1,t,l,q,i,p,g⟩ ⟨id,side,ticks,left,life,tag⟩ = decide (ticks ≤ tk p)):=by show _ = _; rw [aO,if_neg N]; rfl
   go_enter Tryz.func86,Tryz.ntmps86
   go_wp2_with fail
   refine (dG p _).mono ?_
   rintro e w' ⟨rfl,rfl⟩
   go_wp2_with fail
   go_ret
   exact ⟨zy (U HP).symm,U HB⟩
  ·have b1:(s == 1) = false:=by simpa using Q
   have HP:Hid (aO ⟨k,s,t,l,q,i,p,g⟩ ⟨id,side,ticks,left,life,tag⟩ = decide (tk p ≤ ticks)):=by show _ = _; rw [aO,if_neg N,if_neg Q]
   go_enter Tryz.func86,Tryz.ntmps86
   go_wp2_with fail
   refine (dG p _).mono ?_
   rintro e w' ⟨rfl,rfl⟩
   go_wp2_with fail
   go_ret
   exact ⟨zy (U HP).symm,U HB⟩
theorem order_any (c:Cm) (id:Int) (w:World) :
  Calls Tryz.prog 83 #[noV c,H id] w fun e w'=>e = ym (.agg (yv id c.s (tk c.p) c.q c.l c.g).toArray)∧yn w w':=by
 obtain ⟨k,s,t,l,q,i,p,g⟩:=c
 unfold noV
 simp only
 go_enter Tryz.func83,Tryz.ntmps83
 go_wp2_with fail
 refine (dG p _).mono ?_
 rintro e w' ⟨rfl,rfl⟩
 go_wp2_with fail
 go_returns
 refine ⟨rfl,?_⟩
 go_grown
theorem toldNew_any (c:Cm) (w:World) :
  Calls Tryz.prog 55 #[noV c] w fun e w'=>e = ym (.agg (yw 1 c.s c.t c.l c.q 0 c.p c.g).toArray)∧yn w w':=by
 obtain ⟨k,s,t,l,q,i,p,g⟩:=c
 unfold noV
 have hsf:=sfl
 simp only
 go_enter Tryz.func55,Tryz.ntmps55
 go_wp2_with fail
 go_returns
 refine ⟨rfl,?_⟩
 go_grown
theorem toldCancel_any (i:Int) (w:World) :
  Calls Tryz.prog 135 #[.agg #[H i]] w fun e w'=>e = ym (.agg (yw 2 0 0 0 0 i 0 ⟨#[]⟩).toArray)∧yn w w':=by
 have hsf:=sfl
 go_enter Tryz.func135,Tryz.ntmps135
 go_wp2_with fail
 go_returns
 refine ⟨rfl,?_⟩
 go_grown
theorem toldReduce_any (i q:Int) (w:World) :
  Calls Tryz.prog 136 #[.agg #[H i,H q]] w fun e w'=>e = ym (.agg (yw 3 0 0 0 q i 0 ⟨#[]⟩).toArray)∧yn w w':=by
 have hsf:=sfl
 go_enter Tryz.func136,Tryz.ntmps136
 go_wp2_with fail
 go_returns
 refine ⟨rfl,?_⟩
 go_grown
theorem toldDay_any (w:World) :
  Calls Tryz.prog 137 #[.agg #[]] w fun e w'=>e = ym (.agg (yw 4 0 0 0 0 0 0 ⟨#[]⟩).toArray)∧yn w w':=by
 have hsf:=sfl
 go_enter Tryz.func137,Tryz.ntmps137
 go_wp2_with fail
 go_returns
 refine ⟨rfl,?_⟩
 go_grown
structure Ev where
 kind:Int
 cmd:Cm
 id:Int
 other:Int
 qty:Int
 price:Int
 reason:Int
def cmV (c:Cm):Value:=.agg (yw c.k c.s c.t c.l c.q c.i c.p c.g).toArray
def evV (e:Ev):Value:=.agg (yu e.kind e.cmd.k e.cmd.s e.cmd.t e.cmd.l e.cmd.q e.cmd.i e.cmd.p e.cmd.g e.id e.other e.qty e.price e.reason).toArray
def vlV (e:Ev):Value:=.agg #[H e.kind,H e.id,H e.other,H e.qty,H e.price,H e.reason,H e.cmd.k,H e.cmd.s,H e.cmd.t,H e.cmd.l,H e.cmd.q,H e.cmd.i,.int .u64 (fbit e.cmd.p),yk e.cmd.g]
def Ev.vs (e:Ev):List Value:=(yu e.kind e.cmd.k e.cmd.s e.cmd.t e.cmd.l e.cmd.q e.cmd.i e.cmd.p e.cmd.g e.id e.other e.qty e.price e.reason)
theorem Ev.len (e:Ev):e.vs.length = 14:=rfl
def zCm:Cm:=⟨0,0,0,0,0,0,0,⟨#[]⟩⟩
theorem dH (w:World) (cs:List Value) (t:TypeId):(w.alloc (Obj.cells cs.toArray t)).rangeAt w.heap.size 0 cs:=fun j u h=>by
 rw [cell_of_row _ w.heap.size (0 + j) cs.toArray t (0,0) (heap_alloc_new w _)]
 simpa using h
theorem du (w:World) (o:Obj):(w.alloc o).heap.size = w.heap.size + 1:=by simp
theorem there_madeV (w:World) (cs:List Value) (t:TypeId):(w.alloc (Obj.cells cs.toArray t)).there w.heap.size 0 cs.length:=cn (heap_alloc_new w _) (by simp)
theorem valueOf_any (e:Ev) (w:World) :
  Calls Tryz.prog 74 #[evV e] w fun x w'=>x = ym (vlV e)∧yn w w':=by
 obtain ⟨uw,⟨k,s,t,l,q,i,p,g⟩,id,xN,qty,xO,xJ⟩:=e
 unfold evV vlV
 have hsf:=sfl
 simp only
 generalize hfb:fbit p = fp
 have HFB:=Y (fun W=>hfb ▸ floatBits_any p W)
 clear hfb
 have xA:(w.alloc (E (yu uw k s t l q i p g id xN qty xO xJ).toArray 41)).heap.size = w.heap.size + 1:=du _ _
 have uc:((w.alloc (E (yu uw k s t l q i p g id xN qty xO xJ).toArray 41)).alloc (E #[H 0,H 0,H 0,H 0,H 0,H 0,H 0,H 0,H 0,H 0,H 0,H 0,.int .u64 0,yk ⟨#[]⟩] 126)).heap.size = w.heap.size + 2:=by rw [du,xA]
 have qG:(((w.alloc (E (yu uw k s t l q i p g id xN qty xO xJ).toArray 41)).alloc (E #[H 0,H 0,H 0,H 0,H 0,H 0,H 0,H 0,H 0,H 0,H 0,H 0,.int .u64 0,yk ⟨#[]⟩] 126)).alloc (E (yw k s t l q i p g).toArray 27)).heap.size = w.heap.size + 3:=by rw [du,uc]
 have b1:Below (w.heap.size + 1) (w.alloc (E (yu uw k s t l q i p g id xN qty xO xJ).toArray 41)) (((w.alloc (E (yu uw k s t l q i p g id xN qty xO xJ).toArray 41)).alloc (E #[H 0,H 0,H 0,H 0,H 0,H 0,H 0,H 0,H 0,H 0,H 0,H 0,.int .u64 0,yk ⟨#[]⟩] 126)).alloc (E (yw k s t l q i p g).toArray 27)):=(((Below.refl _ _).alloc (by rw [xA]; omega) _).alloc (by rw [uc]; omega) _)
 have b2:Below (w.heap.size + 2) ((w.alloc (E (yu uw k s t l q i p g id xN qty xO xJ).toArray 41)).alloc (E #[H 0,H 0,H 0,H 0,H 0,H 0,H 0,H 0,H 0,H 0,H 0,H 0,.int .u64 0,yk ⟨#[]⟩] 126)) (((w.alloc (E (yu uw k s t l q i p g id xN qty xO xJ).toArray 41)).alloc (E #[H 0,H 0,H 0,H 0,H 0,H 0,H 0,H 0,H 0,H 0,H 0,H 0,.int .u64 0,yk ⟨#[]⟩] 126)).alloc (E (yw k s t l q i p g).toArray 27)):=((Below.refl _ _).alloc (by rw [uc]; omega) _)
 have r1:=zb (dH w (yu uw k s t l q i p g id xN qty xO xJ) 41) b1 (by omega)
 have t2:=there_madeV (w.alloc (E (yu uw k s t l q i p g id xN qty xO xJ).toArray 41)) [H 0,H 0,H 0,H 0,H 0,H 0,H 0,H 0,H 0,H 0,H 0,H 0,.int .u64 0,yk ⟨#[]⟩] 126
 have r3:=dH ((w.alloc (E (yu uw k s t l q i p g id xN qty xO xJ).toArray 41)).alloc (E #[H 0,H 0,H 0,H 0,H 0,H 0,H 0,H 0,H 0,H 0,H 0,H 0,.int .u64 0,yk ⟨#[]⟩] 126)) (yw k s t l q i p g) 27
 rw [xA] at t2
 rw [uc] at r3
 have t2':=zf t2 b2 (by omega)
 have xT:Hid (yn w (((w.alloc (E (yu uw k s t l q i p g id xN qty xO xJ).toArray 41)).alloc (E #[H 0,H 0,H 0,H 0,H 0,H 0,H 0,H 0,H 0,H 0,H 0,H 0,.int .u64 0,yk ⟨#[]⟩] 126)).alloc (E (yw k s t l q i p g).toArray 27))):=((ed _ _).alloc (by rw [xA]; omega) _).alloc (by rw [uc]; omega) _
 have HX:Hid (_∧_∧_):=⟨r1,t2',r3⟩
 clear r1 t2 t2' r3 b1 b2 xA uc qG
 go_enter Tryz.func74,Tryz.ntmps74
 go_wp2_with fail
 generalize (((w.alloc (E (yu uw k s t l q i p g id xN qty xO xJ).toArray 41)).alloc (E #[H 0,H 0,H 0,H 0,H 0,H 0,H 0,H 0,H 0,H 0,H 0,H 0,.int .u64 0,yk ⟨#[]⟩] 126)).alloc (E (yw k s t l q i p g).toArray 27)) = WW at xT HX ⊢
 obtain ⟨jz,jo,hr3⟩:=U HX
 have x0:=jz 0 _ rfl
 have x1:=jz 1 _ rfl
 have x2:=jz 2 _ rfl
 have x3:=jz 3 _ rfl
 have x4:=jz 4 _ rfl
 have x5:=jz 5 _ rfl
 have x6:=jz 6 _ rfl
 have x7:=jz 7 _ rfl
 have x8:=jz 8 _ rfl
 have x9:=jz 9 _ rfl
 have x10:=jz 10 _ rfl
 have x11:=jz 11 _ rfl
 have x12:=jz 12 _ rfl
 have x13:=jz 13 _ rfl
 have y0:=hr3 0 _ rfl
 have y1:=hr3 1 _ rfl
 have y2:=hr3 2 _ rfl
 have y3:=hr3 3 _ rfl
 have y4:=hr3 4 _ rfl
 have y5:=hr3 5 _ rfl
 have y6:=hr3 6 _ rfl
 have y7:=hr3 7 _ rfl
 simp only [Nat.zero_add] at x0 x1 x2 x3 x4 x5 x6 x7 x8 x9 x10 x11 x12 x13 y0 y1 y2 y3 y4 y5 y6 y7
 obtain ⟨v0,z0,f0⟩:=zD jo 0 (by decide)
 obtain ⟨v1,z1,f1⟩:=zD jo 1 (by decide)
 obtain ⟨v2,z2,f2⟩:=zD jo 2 (by decide)
 obtain ⟨v3,z3,f3⟩:=zD jo 3 (by decide)
 obtain ⟨v4,z4,f4⟩:=zD jo 4 (by decide)
 obtain ⟨v5,z5,f5⟩:=zD jo 5 (by decide)
 obtain ⟨v6,z6,f6⟩:=zD jo 6 (by decide)
 obtain ⟨v7,z7,f7⟩:=zD jo 7 (by decide)
 obtain ⟨v8,z8,f8⟩:=zD jo 8 (by decide)
 obtain ⟨v9,z9,f9⟩:=zD jo 9 (by decide)
 obtain ⟨v10,z10,f10⟩:=zD jo 10 (by decide)
 obtain ⟨v11,z11,f11⟩:=zD jo 11 (by decide)
 obtain ⟨v12,z12,f12⟩:=zD jo 12 (by decide)
 obtain ⟨v13,z13,f13⟩:=zD jo 13 (by decide)
 simp only [Nat.zero_add] at z0 f0 z1 f1 z2 f2 z3 f3 z4 f4 z5 f5 z6 f6 z7 f7 z8 f8 z9 f9 z10 f10 z11 f11 z12 f12 z13 f13
 have HT:=Y jo
 clear jz jo hr3 HX
 refine wp_region_still_tail 30 (by kernel_rfl) (by kernel_rfl) ?_
 simp only [yT,List.take_zero,yU,List.drop_zero]
 repeat still_step
 still_call (U HFB _)
 repeat still_step
 refine wpStill_nil ?_
 go_wp2_with fail
 change bodyPost _ _ _ _ _ (WW.setCells (w.heap.size + 1) 0 [H uw,H id,H xN,H qty,H xO,H xJ,H k,H s,H t,H l,H q,H i,.int .u64 fp,yk g]).drew
 have jE:=Y (yX WW (w.heap.size + 1) 0 [H uw,H id,H xN,H qty,H xO,H xJ,H k,H s,H t,H l,H q,H i,.int .u64 fp,yk g] (fun j R=>U HT j R))
 have uB:=Y (zm (w.heap.size + 1) (by omega) [H uw,H id,H xN,H qty,H xO,H xJ,H k,H s,H t,H l,H q,H i,.int .u64 fp,yk g] 0 WW (U xT))
 generalize WW.setCells (w.heap.size + 1) 0 [H uw,H id,H xN,H qty,H xO,H xJ,H k,H s,H t,H l,H q,H i,.int .u64 fp,yk g] = WE at jE uB ⊢
 obtain ⟨d0,d1,d2,d3,d4,d5,d6,d7,d8,d9,d10,d11,d12,d13⟩:=yF (U jE)
 try simp only [Exit.inBlock,Exit.then]
 refine bodyPost_ret (by simp [results,Tryz.results74,go_sem,d0,d1,d2,d3,d4,d5,d6,d7,d8,d9,d10,d11,d12,d13]; try rfl) rfl ?_
 exact ⟨rfl,(U uB).drew⟩
theorem count_set:∀ (x:List Bool) (i:Nat),x[i]? = some false→(x.set i true).count false + 1 = x.count false
 | [],i,h=>by simp at h
 | b :: r,0,h=>by simp at h; subst h; simp
 | b :: r,i + 1,h=>by
  have ih:=count_set r i (by simpa using h)
  simp only [List.set_cons_succ,List.count_cons]
  omega
theorem no_false {x:List Bool} (h:x.count false = 0) (i:Nat):x[i]? ≠ some false:=fun e=>by
 have:=List.count_pos_iff.2 (yO e)
 omega
section
variable {P:Program} {h1:Exit→Act→World→Prop} {l:List Oper} (hj:List Bool→Act→World→Prop)

theorem ready_facts {x:List Bool} (hx:x.length = l.length) {i:Nat} (h:i ∈ Region.ready .any l.toArray x.toArray) :
  ∃ o,l[i]? = some o∧x[i]? = some false∧∀ e ∈ o.after,Region.binds .any e = true→x[e.on]? = some true:=by
 obtain ⟨Q,o,N,h3⟩:=mem_ready.1 h
 refine ⟨o,by simpa using N,?_,fun e he L=>?_⟩
 ·by_cases hi:i < x.length
  ·simp [hi] at Q; simp [hi,Q]
  ·simp [hi] at Q
 ·have:=h3 e he L
  by_cases hi:e.on < x.length
  ·simp [hi] at this; simp [hi,this]
  ·simp [hi] at this
theorem ready_none {x:List Bool} (h:Region.ready .any l.toArray x.toArray = []) (hx:x.length = l.length) (i:Nat) (o:Oper) (Z:l[i]? = some o) (D:∀ e ∈ o.after,Region.binds .any e = true→x[e.on]? = some true):x[i]? = some true:=by
 have hi:i < x.length:=by rw [hx]; exact (yG.1 Z).1
 cases L:x[i]
 ·exfalso
  have:i ∈ Region.ready .any l.toArray x.toArray:=mem_ready.2 ⟨by simp [hi,L],o,by simpa using Z,fun e he hbd=>by
   have:=D e he hbd
   obtain ⟨Q,N⟩:=yG.1 this
   simp [Q,N]⟩
  rw [h] at this; simp at this
 ·simp [hi,L]
theorem wpAny_inv
  (vZ:∀ x a w,hj x a w→x.length = l.length→Region.ready .any l.toArray x.toArray = []→h1 .normal a w)
  (kP:∀ x a w i o,hj x a w→x.length = l.length→l[i]? = some o→x[i]? = some false→(∀ e ∈ o.after,Region.binds .any e = true→x[e.on]? = some true) →
   (if Region.wanted o (yielded l.toArray a.tmps) then o.wp P a w (fun a' w'=>hj (x.set i true) a' w') h1 else hj (x.set i true) (a.put o.dst M) w)) :
  ∀ (n:Nat) (x:List Bool) (a:Act) (w:World),x.count false = n→x.length = l.length→hj x a w→wpAny P .any l.toArray h1 n x.toArray a w
 | 0,x,a,w,hn,hx,K=>by
  have hr:Region.ready .any l.toArray x.toArray = []:=by
   apply List.eq_nil_iff_forall_not_mem.2
   intro i hi
   obtain ⟨o,_,N,_⟩:=ready_facts hx hi
   exact no_false hn i N
  exact ⟨hr,vZ x a w K hx hr⟩
 | n + 1,x,a,w,hn,hx,K=>by
  refine ⟨fun hr=>vZ x a w K hx hr,fun i hi=>?_⟩
  obtain ⟨o,Q,N,h3⟩:=ready_facts hx hi
  have hs:=kP x a w i o K hx Q N h3
  have hc:=count_set x i N
  have hnext:∀ a' w',hj (x.set i true) a' w'→wpAny P .any l.toArray h1 n (x.toArray.setIfInBounds i true) a' w':=fun a' w' h=>by
   have:=wpAny_inv vZ kP n (x.set i true) a' w' (by omega) (by simpa using hx) h
   simpa using this
  have Z:l.toArray[i]? = some o:=by simpa using Q
  unfold wpOp
  rw [Z]
  simp only
  split
  ·next hw=>rw [if_pos hw] at hs; exact .inl (Oper.wp_mono hnext hs)
  ·next hw=>rw [if_neg hw] at hs; exact hnext _ _ hs
theorem dl {id:Nat} {a:Act} {w:World} (hm:P.follows .mixedOrders = true)
  (h0:hj (List.replicate l.length false) a { w with drawn:=w.drawn + 1 })
  (vZ:∀ x a w,hj x a w→x.length = l.length→Region.ready .any l.toArray x.toArray = []→h1 .normal a w)
  (kP:∀ x a w i o,hj x a w→x.length = l.length→l[i]? = some o→x[i]? = some false→(∀ e ∈ o.after,Region.binds .any e = true→x[e.on]? = some true) →
   (if Region.wanted o (yielded l.toArray a.tmps) then o.wp P a w (fun a' w'=>hj (x.set i true) a' w') h1 else hj (x.set i true) (a.put o.dst M) w)) :
  (Code.region id l.toArray true).wp P h1 a w:=by
 refine wp_region_any hm ?_
 have:=wpAny_inv hj vZ kP l.length (List.replicate l.length false) a { w with drawn:=w.drawn + 1 } (by simp) (by simp) h0
 simpa using this
end
def RGrow (base:World) (qt:(Nat→Value)→Act) (C:Nat→Value→Prop) (x:List Bool) (xm:Act) (W:World):Prop :=
 ∃ f,xm = qt f∧yn base W∧∀ j,x[j]? = some true→C j (f j)
theorem zx {C:Nat→Value→Prop} {x:List Bool} {f:Nat→Value} {i:Nat} {v:Value} (h:∀ j,x[j]? = some true→C j (f j)) (hv:C i v):∀ j,(x.set i true)[j]? = some true→C j (upd f i v j):=fun j R=>by
 by_cases hji:j = i
 ·subst hji; rw [zn]; exact hv
 ·rw [zo _ _ hji]; rw [yW (fun e=>hji e.symm)] at R; exact h j R
theorem zT {l:List Oper} {x:List Bool} (h:Region.ready .any l.toArray x.toArray = []) (hx:x.length = l.length) (hacy:∀ (i:Nat) (o:Oper),l[i]? = some o→∀ e ∈ o.after,e.on < i):∀ i,i < l.length→x[i]? = some true:=by
 intro i
 induction i using Nat.strongRecOn with
 | _ i ih =>
  intro hi
  refine ready_none h hx i l[i] (yH hi) fun e he _=>?_
  have:=hacy i l[i] (yH hi) e he
  exact ih e.on this (by omega)
def RG (base:World) (qt:(Nat→Value)→Act) (k:Nat) (xj:Prop→World→Nat→Value→Prop) (x:List Bool) (xm:Act) (W:World):Prop :=
 ∃ f,xm = qt f∧yn base W∧∀ j,x[j]? = some true→xj (x[k]? = some true) W j (f j)
section
variable {base W W':World} {qt:(Nat→Value)→Act} {k:Nat} {xj:Prop→World→Nat→Value→Prop} {x:List Bool} {f:Nat→Value}
theorem cS (hm:∀ p W W' j v,yn W W'→xj p W j v→xj p W' j v) (L:yn base W) (h:∀ j,x[j]? = some true→xj (x[k]? = some true) W j (f j)) (hg:yn W W') {i:Nat} (hik:i ≠ k) {v:Value} (hv:xj (x[k]? = some true) W' i v) :
  yn base W'∧∀ j,(x.set i true)[j]? = some true→xj ((x.set i true)[k]? = some true) W' j (upd f i v j):=by
 refine ⟨L.trans (hg.mono L.size),fun j R=>?_⟩
 rw [yW hik]
 by_cases hji:j = i
 ·subst hji; rw [zn]; exact hv
 ·rw [zo _ _ hji]
  rw [yW (fun e=>hji e.symm)] at R
  exact hm _ _ _ _ _ hg (h j R)
theorem zd (L:yn base W) (h:∀ j,x[j]? = some true→xj (x[k]? = some true) W j (f j)) {i:Nat} (hik:i ≠ k) {v:Value} (hv:xj (x[k]? = some true) W i v) :
  yn base W∧∀ j,(x.set i true)[j]? = some true→xj ((x.set i true)[k]? = some true) W j (upd f i v j):=by
 refine ⟨L,fun j R=>?_⟩
 rw [yW hik]
 by_cases hji:j = i
 ·subst hji; rw [zn]; exact hv
 ·rw [zo _ _ hji]
  rw [yW (fun e=>hji e.symm)] at R
  exact h j R
end
theorem set_monoG {x:List Bool} {i j:Nat} (h:x[j]? = some true):(x.set i true)[j]? = some true:=by
 by_cases pD:i = j
 ·subst pD; exact List.getElem?_set_self (yG.1 h).1
 ·rw [yW pD]; exact h
def Closed (l:List Oper) (x:List Bool):Prop:=∀ (i:Nat) (o:Oper),l[i]? = some o→x[i]? = some true→∀ e ∈ o.after,Region.binds .any e = true→x[e.on]? = some true
theorem closed_step {l:List Oper} {x:List Bool} {i:Nat} {o:Oper} (h:Closed l x) (Z:l[i]? = some o) (D:∀ e ∈ o.after,Region.binds .any e = true→x[e.on]? = some true):Closed l (x.set i true):=by
 intro j o' vC R e he L
 by_cases hji:j = i
 ·subst hji
  rw [Z] at vC
  obtain rfl:=ya vC
  exact set_monoG (D e he L)
 ·rw [yW (fun e=>hji e.symm)] at R
  exact set_monoG (h j o' vC R e he L)
theorem zh {P:Program} {h1:Exit→Act→World→Prop} {l:List Oper} (hj:List Bool→Act→World→Prop) {id:Nat} {a:Act} {w:World} (hm:P.follows .mixedOrders = true)
  (h0:hj (List.replicate l.length false) a { w with drawn:=w.drawn + 1 })
  (vZ:∀ x a w,hj x a w→x.length = l.length→Region.ready .any l.toArray x.toArray = []→h1 .normal a w)
  (kP:∀ x a w i o,hj x a w→Closed l x→x.length = l.length→l[i]? = some o→x[i]? = some false→(∀ e ∈ o.after,Region.binds .any e = true→x[e.on]? = some true) →
   (if Region.wanted o (yielded l.toArray a.tmps) then o.wp P a w (fun a' w'=>hj (x.set i true) a' w') h1 else hj (x.set i true) (a.put o.dst M) w)) :
  (Code.region id l.toArray true).wp P h1 a w:=by
 refine dl (fun x a w=>hj x a w∧Closed l x) hm ⟨h0,fun i o _ hi=>by rw [yI] at hi; split at hi <;> simp at hi⟩ (fun x a w h=>vZ x a w h.1) ?_
 intro x a w i o h hx Z xy D
 have hs:=kP x a w i o h.1 h.2 hx Z xy D
 have hc:=closed_step h.2 Z D
 split
 ·next hw=>rw [if_pos hw] at hs; exact Oper.wp_mono (fun a' w' K=>⟨K,hc⟩) hs
 ·next hw=>rw [if_neg hw] at hs; exact ⟨hs,hc⟩
theorem dQ {P:Program} {id:Nat} {h1:Exit→Act→World→Prop} {a:Act} {w:World} {l:List Oper} (n:Nat) (hm:P.follows .mixedOrders = true) (hB:Region.lexTailB .any l.toArray n = true)
  (h:wpStill P l.toArray w.drew (fun a'=>wpList P l.toArray h1 (l.drop n) a' w.drew) (l.take n) a):(Code.region id l.toArray true).wp P h1 a w:=wp_region_still_tail n hm hB h
theorem ec {P:Program} {w:World} {o:Oper} {a:Act} {hR:Act→World→Prop} {h1:Exit→Act→World→Prop} (s x:Operand) (t:TypeId)
  (Z:o.op = .call { callee:=.builtin .append,args:=#[s,x],argTypes:=#[t,t] })
  (base:Nat) (e:TypeId) (i:TypeInfo) (size:Nat) (ht:P.underlying t = some (.slice e)) (hi:P.info? e = some i)
  (v:Value) (n:Nat) (xs:List Value) (hs:a.eval s = v) (xL:w.ownsRow base e size v n xs) (hx:a.eval x = .slice none 0 0)
  (h:hR (a.put o.dst v) w):o.wp P a w hR h1:=by
 have hrun:=run_append_owned_none (P:=P) (w:=w) base t o.type e i size ht hi v n xs xL
 unfold Oper.wp
 simp [execOp,Z,resolve,invoke,builtin,hs,hx,hrun,Result.andThen]
 exact h
theorem yf {l : List Oper} {x : List Bool} (h : Closed l x) (i : Nat) {o : Oper} (Z : l[i]? = some o) (hi : x[i]? = some true) (j : Nat) (hm : (o.after.toList.any fun e => e.on == j && Region.binds .any e) = true) : x[j]? = some true := ye (h i o Z hi) j hm
def sideL_b (b:Nat):List Value:=[.func (.func 108) #[I b 0] #[],.func (.func 109) #[I b 0] #[],.func (.func 110) #[I b 0] #[]]
def sideL_s (b:Nat):List Value:=[.func (.func 112) #[I b 0] #[],.func (.func 113) #[I b 0] #[],.func (.func 114) #[I b 0] #[]]
abbrev Tb (w:World) (b:Nat) (q:List Od):Prop:=aG 164 true w b 1 q
abbrev Ts (w:World) (b:Nat) (q:List Od):Prop:=aG 166 false w b 2 q
section
variable {W0 w w':World} {BV:Value} {q1 q2:List Od} {x:List Bool} {v33 v34 v35 v36 v5 v6:Value} {b1 b2 p5 p6:Nat}
theorem zu (w:World) (cs:List Value) (t:TypeId):(w.alloc (Obj.cells cs.toArray t)).there w.heap.size 0 cs.length:=cn (heap_alloc_new w _) (by simp)
end

end Go.Proofs.YtdliebbfcmdmaaaGreat
