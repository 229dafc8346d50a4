/-
  Whether all of some events are right, by the program: proved by walking the function.
-/
import Derived.Test.YthhkapcbocgcoaaGreatDoorGj30
import Derived.Test.YthhkapcbocgcoaaGreatDoorGj31
set_option linter.unusedVariables false
set_option maxHeartbeats 6400000
set_option maxRecDepth 100000
namespace Go.Proofs.YthhkapcbocgcoaaGreatDoor
open Go.RowKit
theorem allRight_any (v:Value) (l:List Ev) (w:World) (hr:RdR Ev.vs 14 w v l) (hf:∀ e ∈ l,e.fit) (hE:ErrT w):Calls Tryz.prog 44 #[v] w fun r w'=>r = .returned (.bool (l.all okE))∧yn w w':=by
 have hsf:=sfl
 have HE:=M hE
 obtain ⟨a,cap,rfl,hl,hc⟩:=hr
 have HC:=M hc
 have HF:=M hf
 clear hc hf hE
 go_enter Tryz.func44,Tryz.ntmps44
 go_wp2_with fail
 go_loopw [7] (fun iv wr=>∃ k:Nat,k ≤ l.length∧iv = H k∧(l.take k).all okE = true∧yn w wr) (fun iv _=>l.length - (intOf iv).toNat)
 case atStart=>exact ⟨0,Nat.zero_le _,rfl,rfl,Below.refl _ _⟩
 case round =>
  obtain ⟨k,E,rfl,K,A⟩:=hrel
  have HB:=M A
  have HA:=M K
  clear A K
  by_cases xM:k < l.length
  ·obtain ⟨e,pO⟩:∃ e,l[k]? = some e:=⟨_,yI xM⟩
   obtain ⟨b,off,rfl,oD,ua⟩:=U HC (by intro h; rw [h] at xM; simp at xM)
   have xo:=zc (ua k e pO) (U HB) oD
   have vj:(k:Int) < l.length:=by omega
   have po:=U HF e (yP pO)
   have qv:=gZ wr (Obj.cells e.vs.toArray 37)
   have xt:=M (ia (U HB) qv)
   have HO:=M (implOK_any e po (wr.alloc (Obj.cells e.vs.toArray 37)) (zW (U HE) (U xt) hU))
   have HT:Hid ((l.take (k + 1)).all okE = ((l.take k).all okE && okE e)):=by
    show (l.take (k + 1)).all okE = _
    rw [List.take_add_one,pO]
    simp
   have HNo:Hid (okE e = false→l.all okE = false):=fun h=>List.all_eq_false.2 ⟨e,yP pO,by rw [h]; decide⟩
   generalize okE e = ok at *
   obtain ⟨xn,⟨ck,cs,ct,cl,cq,ci,cp,cg⟩,id,xl,qty,xm,xk⟩:=e
   unfold evV at HO
   unfold Ev.vs at HO xt
   simp only at HO xt
   have x0:wr.cell? (J b (off + k * 14)) = _:=xo 0 _ rfl
   have x1:=xo 1 _ rfl
   have x2:=xo 2 _ rfl
   have x3:=xo 3 _ rfl
   have x4:=xo 4 _ rfl
   have x5:=xo 5 _ rfl
   have x6:=xo 6 _ rfl
   have x7:=xo 7 _ rfl
   have x8:=xo 8 _ rfl
   have x9:=xo 9 _ rfl
   have x10:=xo 10 _ rfl
   have x11:=xo 11 _ rfl
   have x12:=xo 12 _ rfl
   have x13:=xo 13 _ rfl
   clear xo ua pO po qv
   go_wp2_with fail
   refine (U HO).mono ?_
   rintro r W3 ⟨rfl,xQ⟩
   have xG:=M (ia (U xt) xQ)
   clear xQ x0 x1 x2 x3 x4 x5 x6 x7 x8 x9 x10 x11 x12 x13
   cases ok with
   | true =>
    go_wp2_with fail
    go_roundw
    case rel=>exact ⟨k + 1,by omega,by go_num,by rw [U HT,U HA]; rfl,U xG⟩
    case measure=>simp [intOf]; omega
   | false =>
    have HNN:=M (U HNo rfl)
    go_wp2_with fail
    go_ret
    exact ⟨by rw [U HNN]; rfl,U xG⟩
  ·have bK:k = l.length:=by omega
   have HY:Hid (l.all okE = true):=by
    have:=U HA
    rwa [bK,List.take_length] at this
   go_wp2_with fail
   go_ret
   exact ⟨by rw [U HY]; rfl,U HB⟩
set_option maxRecDepth 100000 in
set_option maxHeartbeats 3200000 in
theorem toldCmd_all (e:Ev) (w:World):Calls Tryz.prog 183 #[evV e] w fun r w'=>r = .returned (.tuple #[cmV (da e),.bool (startsB e.kind)])∧Below w.heap.size w w':=by
 have hsf:=sfl
 obtain ⟨xn,⟨ck,cs,ct,cl,cq,ci,cp,cg⟩,id,xl,qty,xm,xk⟩:=e
 unfold evV da cmV zCm startsB
 simp only
 by_cases E:xn = 1 ∨ xn = 2 ∨ xn = 6 ∨ xn = 7 ∨ xn = 8
 ·rcases E with rfl | rfl | rfl | rfl | rfl
  all_goals
   simp
   go_enter Tryz.func183,Tryz.ntmps183
   go_wp2_with fail
   go_returns
   exact ⟨rfl,by go_grown⟩
 ·have Q:(xn == 1) = false:=by simp; omega
  have D:(xn == 2) = false:=by simp; omega
  have h6:(xn == 6) = false:=by simp; omega
  have h7:(xn == 7) = false:=by simp; omega
  have h8:(xn == 8) = false:=by simp; omega
  rw [if_neg (by omega),if_neg (by omega),if_neg (by omega),if_neg (by omega),if_neg (by omega),Q,D,h6,h7,h8]
  clear E
  simp
  go_enter Tryz.func183,Tryz.ntmps183
  go_wp2_with fail
  go_returns
  exact ⟨rfl,by go_grown⟩
theorem toldCmd_any (e:Ev) (w:World) (E:1 ≤ e.kind∧e.kind ≤ 9):Calls Tryz.prog 183 #[evV e] w fun r w'=>r = .returned (.tuple #[cmV (da e),.bool (startsB e.kind)])∧Below w.heap.size w w':=toldCmd_all e w
def brV (k:Int):Value:=.iface 106 (H k)
def brk (k:Int):List PanicEntry:=[{ v:=.iface 106 (H k),recovered:=false }]
theorem cN (k:Int) (w:World):Calls Tryz.prog 149 #[.bool true,H k] w fun e w'=>e = .returned (.tuple #[])∧w' = w:=by
 go_enter Tryz.func149,Tryz.ntmps149
 go_wp2_with fail
 go_end0
 exact ⟨rfl,rfl⟩
theorem cG (k:Int) (w:World):Calls Tryz.prog 149 #[.bool false,H k] w fun e w'=>e = .panicked (brk k)∧w' = w:=by
 go_enter Tryz.func149,Tryz.ntmps149
 go_wp2
 exact ⟨rfl,rfl,rfl⟩
theorem isJust_any (e:Ev) (d:Du) (w:World):Calls Tryz.prog 155 #[evV e,duV d] w fun r w'=>r = .returned (.bool (cz e d))∧yn w w':=by
 have hsf:=sfl
 obtain ⟨xn,⟨ck,cs,ct,cl,cq,ci,cp,cg⟩,id,xl,qty,xm,xk⟩:=e
 obtain ⟨dk,di,dot,dq,dp⟩:=d
 unfold evV duV
 simp only
 by_cases Q:xn = dk
 ·have b1:(xn == dk) = true:=by simpa using Q
  by_cases D:id = di
  ·have b2:(id == di) = true:=by simpa using D
   have hj:cz ⟨xn,⟨ck,cs,ct,cl,cq,ci,cp,cg⟩,id,xl,qty,xm,xk⟩ ⟨dk,di,dot,dq,dp⟩ = (qty == dq):=by simp [cz,b1,b2]
   rw [hj]
   clear hj Q D
   go_enter Tryz.func155,Tryz.ntmps155
   go_wp2_with fail
   go_ret
   exact ⟨rfl,by go_grown⟩
  ·have b2:(id == di) = false:=by simpa using D
   have hj:cz ⟨xn,⟨ck,cs,ct,cl,cq,ci,cp,cg⟩,id,xl,qty,xm,xk⟩ ⟨dk,di,dot,dq,dp⟩ = false:=by simp [cz,b1,b2]
   rw [hj]
   clear hj Q D
   go_enter Tryz.func155,Tryz.ntmps155
   go_wp2_with fail
   go_ret
   exact ⟨rfl,by go_grown⟩
 ·have b1:(xn == dk) = false:=by simpa using Q
  have hj:cz ⟨xn,⟨ck,cs,ct,cl,cq,ci,cp,cg⟩,id,xl,qty,xm,xk⟩ ⟨dk,di,dot,dq,dp⟩ = false:=by simp [cz,b1]
  rw [hj]
  clear hj Q
  go_enter Tryz.func155,Tryz.ntmps155
  go_wp2_with fail
  go_ret
  exact ⟨rfl,by go_grown⟩
def mI (k:Int) (f:FuncId) (b:Nat):MapEntry:={ key:=H k,val:=.func (.func f) #[] #[],born:=b }
def chkM:Array MapEntry:=#[mI 1 94 0,mI 2 95 1,mI 3 96 2,mI 4 97 3,mI 5 98 4,mI 6 99 5,mI 7 100 6,mI 8 101 7,mI 9 102 8]
def gsV (r:Nat) (vq:Value) (g:Gr):List Value:=[.map (some r),H g.nx,vq,H g.bg,H g.cm.s,H g.cm.t,H g.cm.l,H g.cm.q,yj g.cm.p,yk g.cm.g,H g.tk.id,H g.tk.side,H g.tk.ticks,H g.tk.left,H g.tk.life,yk g.tk.tag]
structure GS (G B r:Nat) (W:World) (vq:Value) (g:Gr):Prop where
 box:Bx W G (gsV r vq g)
 row:ORow W B vq g.l
 typ:∃ cur,W.heap[G]? = some (.cells cur 67 (0,0))
 mp:W.heap[r]? = some (.map chkM 9)
 hG:B ≤ G
 hr:B ≤ r
section
variable {G B r:Nat} {w W W':World} {vq uG:Value} {g g':Gr}
theorem GS.lt (h:GS G B r W vq g):G < W.heap.size:=by
 obtain ⟨xz,hc⟩:=h.typ
 exact (yZ.1 hc).1
theorem GS.rlt (h:GS G B r W vq g):r < W.heap.size:=(yZ.1 h.mp).1
theorem GS.ne (h:GS G B r W vq g):r ≠ G:=by
 rintro rfl
 obtain ⟨xz,hc⟩:=h.typ
 rw [h.mp] at hc
 cases hc
theorem GS.nq (h:GS G B r W vq g):some G ≠ vq.ownBlock:=df h.row h.typ (by decide)
theorem GS.nr (h:GS G B r W vq g):some r ≠ vq.ownBlock:=by
 rcases h.row.2 with ⟨Q,_⟩ | ⟨b,cap,xz,Q,_,X,_⟩
 ·rw [Q]; simp [Value.ownBlock]
 ·rw [Q]
  intro e
  simp only [Value.ownBlock,Option.some.injEq] at e
  rw [← e,h.mp] at X
  cases X
theorem zx (h:GS G B r W vq g) (A:yn W W'):GS G B r W' vq g :=
 ⟨zl h.box A h.lt,zp h.row A,by obtain ⟨xz,hc⟩:=h.typ; exact ⟨xz,(A.block G h.lt).trans hc⟩,(A.block r h.rlt).trans h.mp,h.hG,h.hr⟩
theorem gs_set (h:GS G B r W vq g) (j:Nat) (u:Value) (hj:j < 16) (he:gsV r vq g' = (gsV r vq g).set j u) (hl:g'.l = g.l):GS G B r (W.setCell (J G j) u) vq g' :=
 ⟨by rw [he]; exact eh h.box hj,by rw [hl]; exact cw h.row h.nq j u,by obtain ⟨xz,hc⟩:=h.typ; exact dh W G j u hc,(yT _ _ _ _ h.ne).trans h.mp,h.hG,h.hr⟩
theorem gs_took {l':List Od} (h:GS G B r W vq g) (hc:W'.cell? (J G 2) = some uG) (Y:ORow W' B uG l') (ht:TookAt G 1 vq.ownBlock W W'):GS G B r W' uG { g with l:=l' }:=by
 refine ⟨⟨fun j u hj=>?_,fun j hj=>⟨?_,?_⟩⟩,Y,by obtain ⟨xz,hc⟩:=h.typ; exact ht.kind _ _ _ hc,(ht.block r h.rlt h.ne h.nr).trans h.mp,h.hG,h.hr⟩
 ·rw [Nat.zero_add]
  by_cases D:j = 2
  ·subst D; cases hj; exact hc
  ·rw [ht.cell j D]
   refine zb h.box j ?_
   unfold gsV at hj ⊢
   match j,hj,D with
   | 0,hj,_=>exact hj
   | 1,hj,_=>exact hj
   | 2,hj,D=>exact absurd rfl D
   | j + 3,hj,_=>exact hj
 ·rw [Nat.zero_add]
  by_cases D:j = 2
  ·subst D; rw [hc]; rfl
  ·rw [ht.cell j D]
   have:=(h.box.t j (by simpa [gsV] using hj)).1
   rwa [Nat.zero_add] at this
 ·rw [ht.frozen]
  exact (h.box.t j (by simpa [gsV] using hj)).2
theorem below_setG {C:Nat} (A:Below C w W) (hC:C ≤ B) (h:GS G B r W vq g) (j:Nat) (u:Value):Below C w (W.setCell (J G j) u) :=
 ⟨A.os,A.tape,A.output,by have:=A.size; simpa [World.setCell] using this,fun k E=>by
  rw [yT _ _ _ _ (by show k ≠ G; have:=h.hG; omega)]
  exact A.block k E⟩
end
theorem fdyF_find:∀ (l:List Od) (k:Nat),(fdyF l k = -1∧l.find? isDy = none) ∨ ∃ (i:Nat) (o:Od),fdyF l k = ((k + i:Nat):Int)∧l[i]? = some o∧l.find? isDy = some o
 | [],_=>.inl ⟨rfl,rfl⟩
 | a :: r,k=>by
  by_cases h:a.life = 1
  ·exact .inr ⟨0,a,by rw [fdyF,if_pos h,Nat.add_zero],rfl,by simp [isDy,h]⟩
  ·rcases fdyF_find r (k + 1) with ⟨Q,D⟩ | ⟨i,o,Q,D,X⟩
   ·exact .inl ⟨by rw [fdyF,if_neg h,Q],by simp [isDy,h]; simpa [isDy] using D⟩
   ·exact .inr ⟨i + 1,o,by rw [fdyF,if_neg h,Q]; congr 1; omega,by simpa using D,by rw [List.find?_cons_of_neg (by simpa [isDy] using h)]; exact X⟩
theorem fdy_find (l:List Od):(fdy l = -1∧l.find? isDy = none) ∨ ∃ (i:Nat) (o:Od),fdy l = i∧l[i]? = some o∧l.find? isDy = some o:=by
 rcases fdyF_find l 0 with h | ⟨i,o,Q,D,X⟩
 ·exact .inl h
 ·exact .inr ⟨i,o,by rw [fdy,Q,Nat.zero_add],D,X⟩
theorem dayDue_any {G B r:Nat} {vq:Value} {g:Gr} (w:World) (h:GS G B r w vq g) (hn:g.l.length ≤ 1000):Calls Tryz.prog 53 #[I G 0] w fun e w'=>e = .returned (duV (dayD g.l))∧yn w w':=by
 have hG:=h.lt
 obtain ⟨xR,HX⟩:=ie w [H 0,H 0,H 0,H 0,H 0] 39
 have HS:Hid ((w.alloc (O #[H 0,H 0,H 0,H 0,H 0] 39)).heap.size = w.heap.size + 1):=by show _ = _; simp
 have HG:=M (zx h xR)
 have HB:=M xR
 clear h xR
 obtain ⟨nx,l,bg,cm,tk⟩:=g
 simp only at hn ⊢
 go_enter Tryz.func53,Tryz.ntmps53
 refine ic fun xh HK=>?_
 go_wp2_with fail
 refine U HK _ _ ?_
 clear HK
 generalize (w.alloc (O #[H 0,H 0,H 0,H 0,H 0] 39)) = W1 at HX HS HG HB ⊢
 have c2:W1.cell? (J G 2) = some vq:=zb (U HG).box 2 rfl
 have qh:=M (zV (U HG).row (yO hn (by decide)))
 go_wp2_with fail
 refine (indexDay_any vq l W1 (U qh)).mono ?_
 rintro e w2 ⟨rfl,xP⟩
 have uo:=M (zx (U HG) xP)
 have hz:=U HS
 have xW:=M (zl (U HX) xP (by omega))
 have xt:=M (ia (U HB) xP)
 have z0:=zb (U xW) 0 rfl
 have z1:=zb (U xW) 1 rfl
 have z2:=zb (U xW) 2 rfl
 have z3:=zb (U xW) 3 rfl
 have z4:=zb (U xW) 4 rfl
 have f0:=zd (U xW) 0 (by decide)
 have f1:=zd (U xW) 1 (by decide)
 have f2:=zd (U xW) 2 (by decide)
 have f3:=zd (U xW) 3 (by decide)
 have f4:=zd (U xW) 4 (by decide)
 have HRD2:=M (zV (U uo).row (yO hn (by decide)))
 clear c2 xP hz HX HS HG HB qh
 rcases fdy_find l with ⟨Q,D⟩ | ⟨i,o,Q,D,X⟩
 ·have HD:Hid (dayD l = zDu):=by show _ = _; unfold dayD; rw [D]
  rw [Q]
  clear Q D
  go_wp2_with fail
  try simp (config:={ zetaDelta:=true }) only [Exit.noGoto_ret]
  change bodyPost _ _ _ _ _ (World.setCells w2 w.heap.size 0 [H 0,H 0,H 0,H 0,H 0])
  have xq:Hid ((World.setCells w2 w.heap.size 0 [H 0,H 0,H 0,H 0,H 0]).rangeAt w.heap.size 0 [H 0,H 0,H 0,H 0,H 0]∧yn w (World.setCells w2 w.heap.size 0 [H 0,H 0,H 0,H 0,H 0])):=⟨(zB (U xW) (by simp only [List.length_cons,List.length_nil])).r,zj w.heap.size hU [H 0,H 0,H 0,H 0,H 0] 0 w2 (U xt)⟩
  generalize World.setCells w2 w.heap.size 0 [H 0,H 0,H 0,H 0,H 0] = WE at xq ⊢
  obtain ⟨d0,d1,d2,d3,d4⟩:=yC (U xq).1
  try simp only [Exit.inBlock,Exit.then]
  refine bodyPost_ret (by simp [results,Tryz.results53,go_sem,d0,d1,d2,d3,d4]; try rfl) rfl ?_
  exact ⟨by rw [U HD]; rfl,(U xq).2⟩
 ·have HD:Hid (dayD l = ⟨9,o.id,0,o.left,0⟩):=by show _ = _; unfold dayD; rw [X]
  obtain ⟨a,cap,rfl,hl,hc⟩:=U HRD2
  obtain ⟨b,off,rfl,oD,xo⟩:=hc (by rintro rfl; simp at D)
  obtain ⟨y0,-,-,y3,-,-⟩:=zC (xo i o D)
  have hil:(i:Int) < l.length:=by have:=(yH.1 D).1; omega
  have uJ:¬ ((i:Int) < 0):=by omega
  have hi0':(0:Int) ≤ i:=by omega
  have c2:w2.cell? (J G 2) = some (.slice (some (J b off)) l.length cap):=zb (U uo).box 2 rfl
  rw [Q]
  clear Q D X hc xo HRD2
  go_wp2_with fail
  refine zS 19 (by kernel_rfl) (by kernel_rfl) ?_
  simp only [yU,List.take_zero,yV,List.drop_zero]
  have c2d:w2.drew.cell? (J G 2) = some (.slice (some (J b off)) l.length cap):=c2
  have y0d:w2.drew.cell? (J b (off + i * 6)) = some (H o.id):=y0
  have y3d:w2.drew.cell? (J b (off + i * 6 + 3)) = some (H o.left):=y3
  have HB2d:Hid (yn w w2.drew):=⟨(U xt).os,(U xt).tape,(U xt).output,(U xt).size,(U xt).block⟩
  repeat still_step
  refine wpStill_nil ?_
  have jH:Hid (Bx w2.drew w.heap.size [H 0,H 0,H 0,H 0,H 0]):=cf (U xW)
  clear c2d y0d y3d c2 y0 y3 z0 z1 z2 z3 z4 f0 f1 f2 f3 f4 xW uo xt
  generalize w2.drew = W3 at jH HB2d ⊢
  have z0:=zb (U jH) 0 rfl
  have z1:=zb (U jH) 1 rfl
  have z2:=zb (U jH) 2 rfl
  have z3:=zb (U jH) 3 rfl
  have z4:=zb (U jH) 4 rfl
  have f0:=zd (U jH) 0 (by decide)
  have f1:=zd (U jH) 1 (by decide)
  have f2:=zd (U jH) 2 (by decide)
  have f3:=zd (U jH) 3 (by decide)
  have f4:=zd (U jH) 4 (by decide)
  go_wp2_with fail
  try simp (config:={ zetaDelta:=true }) only [Exit.noGoto_ret]
  change bodyPost _ _ _ _ _ (World.setCells W3 w.heap.size 0 [H 9,H o.id,H 0,H o.left,H 0])
  have xq:Hid ((World.setCells W3 w.heap.size 0 [H 9,H o.id,H 0,H o.left,H 0]).rangeAt w.heap.size 0 [H 9,H o.id,H 0,H o.left,H 0]∧yn w (World.setCells W3 w.heap.size 0 [H 9,H o.id,H 0,H o.left,H 0])):=⟨(zB (U jH) (by simp only [List.length_cons,List.length_nil])).r,zj w.heap.size hU [H 9,H o.id,H 0,H o.left,H 0] 0 W3 (U HB2d)⟩
  generalize World.setCells W3 w.heap.size 0 [H 9,H o.id,H 0,H o.left,H 0] = WE at xq ⊢
  obtain ⟨d0,d1,d2,d3,d4⟩:=yC (U xq).1
  try simp only [Exit.inBlock,Exit.then]
  refine bodyPost_ret (by simp [results,Tryz.results53,go_sem,d0,d1,d2,d3,d4]; try rfl) rfl ?_
  exact ⟨by rw [U HD]; rfl,(U xq).2⟩
end Go.Proofs.YthhkapcbocgcoaaGreatDoor
