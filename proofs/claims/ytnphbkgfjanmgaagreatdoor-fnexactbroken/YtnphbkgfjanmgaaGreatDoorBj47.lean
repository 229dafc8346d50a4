/-
  Whether all of some events are right, by the model: proved by walking the function.
-/
import Derived.Test.YtnphbkgfjanmgaaGreatDoorBj45
import Derived.Test.YtnphbkgfjanmgaaGreatDoorBj46
import Derived.Deep.Slices
import Derived.ChangeArms
set_option linter.unusedVariables false
set_option maxHeartbeats 6400000
set_option maxRecDepth 100000
namespace Go.Proofs.YtnphbkgfjanmgaaGreatDoor
open Go.RowKit
theorem l05Events_any (v:Value) (l:List Ev) (w:World) (hr:RdR Ev.vs 14 w v l) (hf:∀ e ∈ l,e.fit):Calls Tryz.prog 26 #[v] w fun r w'=>r = .returned (.bool (l.all okE))∧yn w w':=by
 have hsf:=sfl
 obtain ⟨a,cap,rfl,hl,hc⟩:=hr
 have HC:=M hc
 have HF:=M hf
 clear hc hf
 go_enter Tryz.func26,Tryz.ntmps26
 go_wp2_with fail
 go_loopw [3] (fun iv wr=>∃ k:Nat,k ≤ l.length∧iv = I k∧(l.take k).all okE = true∧yn w wr) (fun iv _=>l.length - (intOf iv).toNat)
 case atStart=>exact ⟨0,Nat.zero_le _,rfl,rfl,Below.refl _ _⟩
 case round =>
  obtain ⟨k,hk,rfl,D,Y⟩:=hrel
  have HB:=M Y
  have HA:=M D
  clear Y D
  by_cases xI:k < l.length
  ·obtain ⟨e,jq⟩:∃ e,l[k]? = some e:=⟨_,yH xI⟩
   obtain ⟨b,off,rfl,kC,xV⟩:=H HC (by intro h; rw [h] at xI; simp at xI)
   have V:=zc (xV k e jq) (H HB) kC
   have uJ:(k:Int) < l.length:=by omega
   have ke:=H HF e (yO jq)
   have HO:=M (specOK_any e wr ke.g)
   have HT:Hid ((l.take (k + 1)).all okE = ((l.take k).all okE && okE e)):=by
    show (l.take (k + 1)).all okE = _
    rw [List.take_add_one,jq]
    simp
   have HNo:Hid (okE e = false→l.all okE = false):=fun h=>List.all_eq_false.2 ⟨e,yO jq,by rw [h]; decide⟩
   generalize okE e = ok at *
   obtain ⟨xm,⟨ck,L,ct,F,cq,ci,X,cg⟩,id,xi,qty,xj,xh⟩:=e
   unfold evV at HO
   simp only at HO
   have x0:wr.cell? (U b (off + k * 14)) = _:=V 0 _ rfl
   have x1:=V 1 _ rfl
   have x2:=V 2 _ rfl
   have x3:=V 3 _ rfl
   have x4:=V 4 _ rfl
   have x5:=V 5 _ rfl
   have x6:=V 6 _ rfl
   have x7:=V 7 _ rfl
   have x8:=V 8 _ rfl
   have x9:=V 9 _ rfl
   have jP:=V 10 _ rfl
   have jQ:=V 11 _ rfl
   have jR:=V 12 _ rfl
   have jS:=V 13 _ rfl
   clear V xV jq ke
   go_wp2_with fail
   refine (H HO).mono ?_
   rintro r W3 ⟨rfl,xM⟩
   have xL:=M (fH (H HB) xM)
   clear xM x0 x1 x2 x3 x4 x5 x6 x7 x8 x9 jP jQ jR jS
   cases ok with
   | true =>
    go_wp2_with fail
    go_roundw
    case rel=>exact ⟨k + 1,by omega,by go_num,by rw [H HT,H HA]; rfl,H xL⟩
    case measure=>simp [intOf]; omega
   | false =>
    have HNN:=M (H HNo rfl)
    go_wp2_with fail
    go_ret
    exact ⟨by rw [H HNN]; rfl,H xL⟩
  ·have oN:k = l.length:=by omega
   have HY:Hid (l.all okE = true):=by
    have:=H HA
    rwa [oN,List.take_length] at this
   go_wp2_with fail
   go_ret
   exact ⟨by rw [H HY]; rfl,H HB⟩
theorem bx14 {W:World} {b:Nat} {v0 v1 v2 v3 v4 v5 v6 v7 v8 v9 v10 v11 v12 v13:Value} (h:Bx W b [v0,v1,v2,v3,v4,v5,v6,v7,v8,v9,v10,v11,v12,v13]):W.cell? (U b 0) = some v0∧W.cell? (U b 1) = some v1∧W.cell? (U b 2) = some v2∧W.cell? (U b 3) = some v3∧W.cell? (U b 4) = some v4∧W.cell? (U b 5) = some v5∧W.cell? (U b 6) = some v6∧W.cell? (U b 7) = some v7∧W.cell? (U b 8) = some v8∧W.cell? (U b 9) = some v9∧W.cell? (U b 10) = some v10∧W.cell? (U b 11) = some v11∧W.cell? (U b 12) = some v12∧W.cell? (U b 13) = some v13:=⟨R h 0 rfl,R h 1 rfl,R h 2 rfl,R h 3 rfl,R h 4 rfl,R h 5 rfl,R h 6 rfl,R h 7 rfl,R h 8 rfl,R h 9 rfl,R h 10 rfl,R h 11 rfl,R h 12 rfl,R h 13 rfl⟩
def wbe (w:World) (next:Int) (vb:Value) (e:Ev):World:=(w.alloc (A #[I next,vb] 34)).alloc (Obj.cells e.vs.toArray 52)
theorem wbe_box (w:World) (next:Int) (vb:Value) (e:Ev):Bx (wbe w next vb e) w.heap.size [I next,vb]∧Bx (wbe w next vb e) (w.heap.size + 1) e.vs∧yn w (wbe w next vb e)∧w.heap.size + 1 < (wbe w next vb e).heap.size:=by
 have oP:(w.alloc (A #[I next,vb] 34)).heap.size = w.heap.size + 1:=by simp
 have ui:Below (w.heap.size + 1) (w.alloc (A #[I next,vb] 34)) (wbe w next vb e):=by rw [← oP]; exact fE _ _
 refine ⟨zg (zq w [I next,vb] 34) ui (by omega),?_,(fE _ _).alloc (by simp) _,by simp [wbe]⟩
 have:=zq (w.alloc (A #[I next,vb] 34)) e.vs 52
 rwa [oP] at this
theorem specBroken_any (next:Int) (vb:Value) (l:List Od) (v:Value) (es:List Ev) (e:Ev) (w:World) (hr:RdR Od.vs 6 w vb l) (hs:SlOk vb) (hgt:∀ o ∈ l,o.tag.size ≤ maxLen) (he:RdR Ev.vs 14 w v es) (hf:∀ e ∈ es,e.fit) (hef:e.fit) :
  Calls Tryz.prog 16 #[.agg #[I next,vb],v,evV e] w fun x w'=>x = .returned (.tuple #[I (brkR next l es e),I (brkC next l es e)])∧yn w w':=by
 have hsf:=sfl
 have HBK:=M (fun W (h:yn w W)=>specBookOK_any next vb l W (zh hr h ya) hgt)
 have HAL:=M (fun W (h:yn w W)=>l05Events_any v es W (zh he h ya) hf)
 have jW:=M (fun W=>specOK_any e W hef.g)
 have HGB:Hid (fltC next l es = 0→∀ W,yn w W→Calls Tryz.prog 27 #[.agg #[I next,vb],v] W fun x w'=>RepE W vb next l (runG (gr0 next l) es) x w'):=fun h0 W h=>l05Replay_any next vb l v es W (zh hr h ya) hs (okS_gi (flt_ok h0).2.1) (zh he h ya) (flt_ok h0).2.2 (fun e he=>(hf e he).g)
 have kr:Hid (okE e = true→∀ hj B W vl vd t kd dy,MS hj B W vl vd vb (runG (gr0 next l) es).1 t kd next dy l→GI (runG (gr0 next l) es).1→MR (runG (gr0 next l) es).1 t kd dy→Calls Tryz.prog 37 #[J hj 0,evV e] W fun x w'=>x = .returned (I (zD (runG (gr0 next l) es).1 e))∧yn W w'):=fun h hj B W vl vd t kd dy Q E h3=>broken_any e W Q E h3 (cY h) hef.g
 have vj:Hid (brkR next l es e = if fltC next l es = 0∧okE e = true∧(runG (gr0 next l) es).2 = 0 then zD (runG (gr0 next l) es).1 e else 0):=rfl
 have vW:Hid (brkC next l es e = if fltC next l es ≠ 0 then fltC next l es else if okE e = false then 1 else if (runG (gr0 next l) es).2 ≠ 0 then 8 else 0):=rfl
 have HFC:Hid (fltC next l es = if 4096 < es.length then 2 else if okS next l = false ∨ es.all okE = false then 1 else 0):=rfl
 generalize brkR next l es e = br at vj ⊢
 generalize brkC next l es e = bc at vW ⊢
 generalize fltC next l es = fc at HGB vj vW HFC
 generalize okE e = ok at jW kr vj vW
 generalize okS next l = bk at HBK HFC
 generalize es.all okE = al at HAL HFC
 generalize zD (runG (gr0 next l) es).1 e = re at kr vj
 generalize runG (gr0 next l) es = cl at HGB kr vj vW
 obtain ⟨g1,ru⟩:=cl
 simp only at kr vj vW
 obtain ⟨hX,hY,hB,hZ⟩:=wbe_box w next vb e
 have qQ:=M hX
 have pt:=M hY
 have xS:=M hB
 generalize hW:wbe w next vb e = W1 at qQ pt xS hZ
 have HW:=M hW
 obtain ⟨xm,⟨ck,L,ct,F,cq,ci,X,cg⟩,id,xi,qty,xj,xh⟩:=e
 unfold evV at jW kr ⊢
 unfold Ev.vs at pt
 simp only at jW kr pt ⊢
 obtain ⟨a,cap,rfl,xA,hc⟩:=he
 clear hr hs hgt hf hc hef hX hY hB hW
 go_enter Tryz.func16,Tryz.ntmps16
 refine fI fun hR HK=>?_
 go_wp2_with fail
 refine H HK _ _ ?_
 clear HK
 change Code.wp _ _ _ _ (wbe w next vb ⟨xm,⟨ck,L,ct,F,cq,ci,X,cg⟩,id,xi,qty,xj,xh⟩)
 rw [H HW]
 clear HW
 have x0:=R (H qQ) 0 rfl
 have x1:=R (H qQ) 1 rfl
 obtain ⟨e0,e1,e2,e3,e4,e5,e6,e7,e8,e9,uy,uk,uW,uA⟩:=bx14 (H pt)
 by_cases hlg:4096 < es.length
 ·have hlg':(4096:Int) < es.length:=by omega
  have hf2:=H HFC
  rw [if_pos hlg] at hf2
  have HQ:Hid (br = 0∧bc = 2):=⟨by rw [H vj,if_neg (fun h=>by have:=h.1; omega)],by rw [H vW,if_pos (by omega),hf2]⟩
  clear hf2
  go_wp2_with fail
  go_ret2
  exact ⟨by rw [(H HQ).1,(H HQ).2]; rfl,H xS⟩
 have hlg':¬ ((4096:Int) < es.length):=by omega
 have vC:=M (H HFC)
 rw [if_neg hlg] at vC
 have H1:Hid (fc = 1→br = 0∧bc = 1):=fun h=>⟨by rw [H vj,if_neg (fun E=>by have:=E.1; omega)],by rw [H vW,if_pos (by omega),h]⟩
 clear HFC hlg
 go_wp2_with fail
 refine (H HBK W1 (H xS)).mono ?_
 rintro e w2 ⟨rfl,xJ⟩
 have xu:=M (fH (H xS) xJ)
 have xH:=M (zg (H qQ) xJ (by omega))
 have jj:=M (zg (H pt) xJ hZ)
 have uF:w.heap.size + 1 < w2.heap.size:=by have:=xJ.size; omega
 clear xJ x0 x1 e0 e1 e2 e3 e4 e5 e6 e7 e8 e9 uy uk uW uA qQ pt xS HBK hZ
 cases bk
 ·have HQ:=M (H H1 (by rw [H vC,if_pos (.inl rfl)]))
  go_wp2_with fail
  go_ret2
  exact ⟨by rw [(H HQ).1,(H HQ).2]; rfl,H xu⟩
 go_wp2_with fail
 refine (H HAL w2 (H xu)).mono ?_
 rintro e w3 ⟨rfl,xM⟩
 have xL:=M (fH (H xu) xM)
 have uC:=M (zg (H xH) xM (by omega))
 have HY3:=M (zg (H jj) xM uF)
 have aO:w.heap.size + 1 < w3.heap.size:=by have:=xM.size; omega
 clear xM xH jj xu HAL uF
 cases al
 ·have HQ:=M (H H1 (by rw [H vC,if_pos (.inr rfl)]))
  go_wp2_with fail
  go_ret2
  exact ⟨by rw [(H HQ).1,(H HQ).2]; rfl,H xL⟩
 have HFZ:Hid (fc = 0):=by show _ = _; rw [H vC,if_neg (by simp)]
 have HGB2:=M (H HGB (H HFZ))
 have oC:=M (H vW)
 rw [if_neg (not_not_intro (H HFZ))] at oC
 clear HGB vW vC H1
 obtain ⟨e0,e1,e2,e3,e4,e5,e6,e7,e8,e9,uy,uk,uW,uA⟩:=bx14 (H HY3)
 go_wp2_with fail
 refine (H jW w3).mono ?_
 rintro e w4 ⟨rfl,xw⟩
 have xG:=M (fH (H xL) xw)
 have xE:=M (zg (H uC) xw (by omega))
 have qy:=M (zg (H HY3) xw aO)
 have hz4:w.heap.size + 1 < w4.heap.size:=by have:=xw.size; omega
 clear xw e0 e1 e2 e3 e4 e5 e6 e7 e8 e9 uy uk uW uA uC HY3 xL aO jW
 cases ok
 ·have HQ:Hid (br = 0∧bc = 1):=⟨by rw [H vj,if_neg (fun h=>Bool.noConfusion h.2.1)],by rw [H oC,if_pos rfl]⟩
  go_wp2_with fail
  go_ret2
  exact ⟨by rw [(H HQ).1,(H HQ).2]; rfl,H xG⟩
 have HC3:=M (H oC)
 rw [if_neg (by simp)] at HC3
 have x0:=R (H xE) 0 rfl
 have x1:=R (H xE) 1 rfl
 go_wp2_with fail
 refine (H HGB2 w4 (H xG)).mono ?_
 rintro e w5 ⟨hj,j,rfl,uf,hs5⟩
 have ug:=M (fH (H xG) uf)
 have HY5:=M (zg (H qy) uf hz4)
 have HS5:=M hs5
 clear uf hs5 x0 x1 xE qy
 simp only at HS5 ⊢
 by_cases hru:ru = 0
 case neg =>
  have b0:(ru != 0) = true:=by simpa using hru
  have HQ:Hid (br = 0∧bc = 8):=⟨by rw [H vj,if_neg (fun h=>hru h.2.2)],by rw [H HC3,if_pos hru]⟩
  clear hru
  go_wp2_with fail
  go_ret2
  exact ⟨by rw [(H HQ).1,(H HQ).2]; rfl,H ug⟩
 have b0:(ru != 0) = false:=by simpa using hru
 have HQ:Hid (br = re∧bc = 0):=⟨by rw [H vj,if_pos ⟨H HFZ,trivial,hru⟩],by rw [H HC3,if_neg (not_not_intro hru)]⟩
 obtain ⟨vl,vd,t,kd,dy,hms,hgi,hmr⟩:=H HS5 hru
 have jT:=M (H kr trivial hj _ w5 vl vd t kd dy hms hgi hmr)
 clear hru hms hgi hmr HS5 kr
 obtain ⟨e0,e1,e2,e3,e4,e5,e6,e7,e8,e9,uy,uk,uW,uA⟩:=bx14 (H HY5)
 go_wp2_with fail
 refine (H jT).mono ?_
 rintro e w6 ⟨rfl,kp⟩
 have qw:=M (fH (H ug) kp)
 clear kp
 go_wp2_with fail
 go_ret2
 exact ⟨by rw [(H HQ).1,(H HQ).2]; rfl,H qw⟩
theorem zero_read:FloatKind.f64.format.read 0 = .number false 0 FloatKind.f64.format.leastPlace:=by decide
theorem one_read:∃ m j,FloatKind.f64.format.read 4607182418800017408 = .number false m j∧m ≠ 0:=⟨_,_,rfl,by decide⟩
theorem zero_mag (s:Bool) (m a b:Nat) (h:Ieee.signed s m a = Ieee.signed false 0 b):m = 0:=by
 have h0:Ieee.signed false 0 b = 0:=by simp [Ieee.signed]
 rw [h0] at h
 have E:m <<< a = 0:=by
  cases s
  ·have h':((m <<< a:Nat):Int) = 0:=h
   omega
  ·have h':-((m <<< a:Nat):Int) = 0:=h
   omega
 rw [Nat.shiftLeft_eq] at E
 have:=Nat.two_pow_pos a
 rcases Nat.mul_eq_zero.1 E with h | h
 ·exact h
 ·omega
theorem div_zero (x:Nat) (h:FloatKind.f64.format.order x 0 = some Ordering.eq):∃ r,FloatKind.f64.format.div 4607182418800017408 x = some r:=by
 obtain ⟨m1,j1,Q,pY⟩:=one_read
 unfold Ieee.Format.order at h
 rw [zero_read] at h
 unfold Ieee.Format.div
 rw [Q]
 cases hx:FloatKind.f64.format.read x with
 | nan s f=>rw [hx] at h; simp [Ieee.Datum.order] at h
 | infinity s=>rw [hx] at h; cases s <;> simp [Ieee.Datum.order] at h
 | number s m i =>
  rw [hx] at h
  simp only [Ieee.Datum.order,Option.some.injEq] at h
  have hm:=zero_mag s m _ _ (Std.LawfulEqCmp.eq_of_compare h)
  subst hm
  exact ⟨FloatKind.f64.format.write (.infinity s),by simp [Ieee.Datum.quotient,pY]⟩
theorem sameFloat_any (x:Nat) (w:World) :
  Calls Tryz.prog 102 #[yj x,yj x] w fun e w'=>e = .returned (.bool true)∧w' = w:=by
 cases hn:nanB x with
 | true =>
  have h':(FloatKind.f64.format.order x x != some Ordering.eq) = true:=hn
  clear hn
  go_enter Tryz.func102,Tryz.ntmps102
  go_wp2
  go_ret
  exact ⟨rfl,rfl⟩
 | false =>
  have h':(FloatKind.f64.format.order x x != some Ordering.eq) = false:=hn
  have E:FloatKind.f64.format.order x x = some Ordering.eq:=by simpa using h'
  clear hn
  by_cases hz:FloatKind.f64.format.order x 0 = some Ordering.eq
  ·obtain ⟨r,hr⟩:=div_zero x hz
   have hq:∀ W,(binOp .quo 42 (yj 4607182418800017408) (yj x)).run Tryz.prog W = .ok (yj r) W:=fun W=>by simp [binOp,Op.floatArith,hr]
   have hz':(FloatKind.f64.format.order x 0 == some Ordering.eq) = true:=by rw [hz]; rfl
   clear hz hr
   go_enter Tryz.func102,Tryz.ntmps102
   go_wp2
   all_goals go_ret
   all_goals exact ⟨zp (by simp),rfl⟩
  ·have hz':(FloatKind.f64.format.order x 0 == some Ordering.eq) = false:=by simpa using hz
   clear hz
   go_enter Tryz.func102,Tryz.ntmps102
   go_wp2
   go_ret
   exact ⟨zp (by simp),rfl⟩
theorem eqCmd_same (c:Cm) (w:World) :
  Calls Tryz.prog 62 #[.agg (yx c.k c.s c.t c.l c.q c.i c.p c.g).toArray,.agg (yx c.k c.s c.t c.l c.q c.i c.p c.g).toArray] w fun e w' =>
   e = .returned (.bool true)∧yn w w':=by
 obtain ⟨k,s,t,l,q,i,p,g⟩:=c
 simp only
 go_enter Tryz.func62,Tryz.ntmps62
 go_wp2_with (go_at_call 102; refine (sameFloat_any _ _).mono ?_; rintro e w' ⟨rfl,rfl⟩)
 go_returns
 refine ⟨rfl,?_⟩
 go_grown
theorem eqEvent_same (e:Ev) (w:World) :
  Calls Tryz.prog 34 #[evV e,evV e] w fun x w'=>x = .returned (.bool true)∧yn w w':=by
 obtain ⟨xm,⟨k,s,t,l,q,i,p,g⟩,id,xi,qty,xj,xh⟩:=e
 unfold evV
 have HE:=M (fun W=>eqCmd_same ⟨k,s,t,l,q,i,p,g⟩ W)
 simp only at *
 have xK:(w.alloc (A (yv xm k s t l q i p g id xi qty xj xh).toArray 52)).heap.size = w.heap.size + 1:=ep _ _
 have ue:((w.alloc (A (yv xm k s t l q i p g id xi qty xj xh).toArray 52)).alloc (A (yv xm k s t l q i p g id xi qty xj xh).toArray 52)).heap.size = w.heap.size + 1 + 1:=by rw [ep,xK]
 have b1:Below (w.heap.size + 1) (w.alloc (A (yv xm k s t l q i p g id xi qty xj xh).toArray 52)) ((w.alloc (A (yv xm k s t l q i p g id xi qty xj xh).toArray 52)).alloc (A (yv xm k s t l q i p g id xi qty xj xh).toArray 52)):=(Below.refl _ _).alloc (by rw [xK]; omega) _
 have r1:=zc (eB w (yv xm k s t l q i p g id xi qty xj xh) 52) b1 (by omega)
 have r2:=eB (w.alloc (A (yv xm k s t l q i p g id xi qty xj xh).toArray 52)) (yv xm k s t l q i p g id xi qty xj xh) 52
 rw [xK] at r2
 have HB:Hid (yn w ((w.alloc (A (yv xm k s t l q i p g id xi qty xj xh).toArray 52)).alloc (A (yv xm k s t l q i p g id xi qty xj xh).toArray 52))):=(fE _ _).alloc (by rw [xK]; omega) _
 have HX:Hid (_∧_∧_):=⟨r1,r2,ue⟩
 clear r1 r2 b1 xK ue
 go_enter Tryz.func34,Tryz.ntmps34
 go_wp2_with fail
 generalize ((w.alloc (A (yv xm k s t l q i p g id xi qty xj xh).toArray 52)).alloc (A (yv xm k s t l q i p g id xi qty xj xh).toArray 52)) = W at HX HB ⊢
 obtain ⟨jh,aM,hsW⟩:=H HX
 refine (H HE _).mono ?_
 rintro e w2 ⟨rfl,xJ⟩
 have xu:=M (fH (H HB) xJ)
 have q1:=zc jh xJ (by omega)
 have q2:=zc aM xJ (by omega)
 have x9:=q1 9 _ rfl
 have jP:=q1 10 _ rfl
 have jQ:=q1 11 _ rfl
 have jR:=q1 12 _ rfl
 have jS:=q1 13 _ rfl
 have y9:=q2 9 _ rfl
 have y10:=q2 10 _ rfl
 have y11:=q2 11 _ rfl
 have y12:=q2 12 _ rfl
 have y13:=q2 13 _ rfl
 clear jh aM q1 q2 xJ HX HB hsW
 go_wp2_with fail
 go_returns
 exact ⟨rfl,H xu⟩
theorem toCmd_any (c:Cm) (w:World) :
  Calls Tryz.prog 38 #[.agg (yx c.k c.s c.t c.l c.q c.i c.p c.g).toArray] w fun e w' =>
   e = .returned (.agg (yx c.k c.s c.t c.l c.q c.i c.p c.g).toArray)∧yn w w':=by
 obtain ⟨k,s,t,l,q,i,p,g⟩:=c
 have hsf:=sfl
 simp only
 go_enter Tryz.func38,Tryz.ntmps38
 go_wp2_with fail
 go_returns
 refine ⟨rfl,?_⟩
 go_grown
end Go.Proofs.YtnphbkgfjanmgaaGreatDoor
namespace Go.Proofs.YtnphbkgfjanmgaaGreatDoor
open Go.RowKit Go.ChangeShapes Go.WideShapes Go.Deep
set_option linter.unusedVariables false

theorem szCmd_any (c:Cm) (x:Int) (w:World) (h0:0 ≤ x) (Q:x ≤ 1073741824) (hg:c.g.size ≤ maxLen) :
  Calls Tryz.prog 35 #[.agg (yx c.k c.s c.t c.l c.q c.i c.p c.g).toArray,I x] w fun e w' =>
   ∃ y:Int,e = .returned (I y)∧-1 ≤ y∧y ≤ x∧yn w w':=by
 obtain ⟨k,s,t,l,q,i,p,g⟩:=c
 simp only at *
 unfold maxLen at hg
 by_cases h:x < g.size
 ·go_enter Tryz.func35,Tryz.ntmps35
  go_wp2_with fail
  go_ret
  exact ⟨_,rfl,by omega,by omega,by go_grown⟩
 ·go_enter Tryz.func35,Tryz.ntmps35
  go_wp2_with fail
  go_ret
  exact ⟨_,rfl,by omega,by omega,by go_grown⟩
structure Cm.ok (c:Cm):Prop where
 k:(Lit.int .i64 c.k).wf = true
 s:(Lit.int .i64 c.s).wf = true
 t:(Lit.int .i64 c.t).wf = true
 l:(Lit.int .i64 c.l).wf = true
 q:(Lit.int .i64 c.q).wf = true
 i:(Lit.int .i64 c.i).wf = true
 p:(Lit.float .f64 c.p).wf = true
 g:c.g.size ≤ maxLen
section
variable {za:Type} {enc:TypeId × Value→za} {w:World} {base:Nat} {spare:Nat→Bool} {held:Bool}

theorem trod_flt {P:Program} {t:TypeId} {k:FloatKind} {fuel:Nat} {L:List Value} {x:DataW za × List MemPlace} (ht:P.underlying t = some (.float k)) (h:DataW.trod enc P w base spare held fuel t L = some x) :
  ∃ n,L = [.float k n]∧(Lit.float k n).wf = true:=by
 cases fuel with
 | zero=>simp [DataW.trod] at h
 | succ n =>
  unfold DataW.trod at h
  rw [ht] at h
  split at h <;> simp_all
theorem list8 {L:List Value} (h:L.length = 8):∃ v0 v1 v2 v3 v4 v5 v6 v7,L = [v0,v1,v2,v3,v4,v5,v6,v7] :=
 match L,h with
 | [v0,v1,v2,v3,v4,v5,v6,v7],_=>⟨v0,v1,v2,v3,v4,v5,v6,v7,rfl⟩
theorem cm_opened {fuel:Nat} {L:List Value} {x:DataW za × List MemPlace} (h:DataW.trod enc Tryz.prog w base spare held fuel 44 L = some x):∃ c:Cm,L = c.vs∧c.ok:=by
 obtain ⟨xs,n,_,_,xA,hxl,hf⟩:=DataW.trod_struct Tryz.underlying44 h
 have hl8:L.length = 8:=xA.trans (by kernel_rfl)
 have k3:Tryz.prog.cellsOf 3 = 1:=by kernel_rfl
 have k22:Tryz.prog.cellsOf 42 = 1:=by kernel_rfl
 have k9:Tryz.prog.cellsOf 9 = 1:=by kernel_rfl
 have hx:∀ i,i < 8→∃ y,xs[i]? = some y:=fun i hi=>⟨_,yH (by rw [hxl]; exact hi)⟩
 obtain ⟨y0,e0⟩:=hx 0 (by omega)
 obtain ⟨y1,e1⟩:=hx 1 (by omega)
 obtain ⟨y2,e2⟩:=hx 2 (by omega)
 obtain ⟨y3,e3⟩:=hx 3 (by omega)
 obtain ⟨y4,e4⟩:=hx 4 (by omega)
 obtain ⟨y5,e5⟩:=hx 5 (by omega)
 obtain ⟨y6,e6⟩:=hx 6 (by omega)
 obtain ⟨y7,e7⟩:=hx 7 (by omega)
 have f0:DataW.trod enc Tryz.prog w base spare held n 3 ((L.drop 0).take (Tryz.prog.cellsOf 3)) = some y0:=(hf 0 _ rfl).trans e0
 have f1:DataW.trod enc Tryz.prog w base spare held n 3 ((L.drop 1).take (Tryz.prog.cellsOf 3)) = some y1:=(hf 1 _ rfl).trans e1
 have f2:DataW.trod enc Tryz.prog w base spare held n 3 ((L.drop 2).take (Tryz.prog.cellsOf 3)) = some y2:=(hf 2 _ rfl).trans e2
 have f3:DataW.trod enc Tryz.prog w base spare held n 3 ((L.drop 3).take (Tryz.prog.cellsOf 3)) = some y3:=(hf 3 _ rfl).trans e3
 have f4:DataW.trod enc Tryz.prog w base spare held n 3 ((L.drop 4).take (Tryz.prog.cellsOf 3)) = some y4:=(hf 4 _ rfl).trans e4
 have f5:DataW.trod enc Tryz.prog w base spare held n 3 ((L.drop 5).take (Tryz.prog.cellsOf 3)) = some y5:=(hf 5 _ rfl).trans e5
 have f6:DataW.trod enc Tryz.prog w base spare held n 42 ((L.drop 6).take (Tryz.prog.cellsOf 42)) = some y6:=(hf 6 _ rfl).trans e6
 have f7:DataW.trod enc Tryz.prog w base spare held n 9 ((L.drop 7).take (Tryz.prog.cellsOf 9)) = some y7:=(hf 7 _ rfl).trans e7
 clear hf hx e0 e1 e2 e3 e4 e5 e6 e7 h xA
 obtain ⟨v0,v1,v2,v3,v4,v5,v6,v7,rfl⟩:=list8 hl8
 ·clear hl8
  simp only [k3,k22,k9,List.drop_zero,yU,yT,List.take_zero] at f0 f1 f2 f3 f4 f5 f6 f7
  obtain ⟨n0,c0,_,b0⟩:=DataW.trod_int Tryz.underlying3 f0
  obtain ⟨n1,c1,_,b1⟩:=DataW.trod_int Tryz.underlying3 f1
  obtain ⟨n2,c2,_,b2⟩:=DataW.trod_int Tryz.underlying3 f2
  obtain ⟨n3,c3,_,b3⟩:=DataW.trod_int Tryz.underlying3 f3
  obtain ⟨n4,c4,_,b4⟩:=DataW.trod_int Tryz.underlying3 f4
  obtain ⟨n5,c5,_,b5⟩:=DataW.trod_int Tryz.underlying3 f5
  obtain ⟨n6,c6,b6⟩:=trod_flt Tryz.underlying42 f6
  obtain ⟨n7,c7,_,b7⟩:=DataW.trod_string Tryz.underlying9 f7
  simp only [List.cons.injEq,and_true] at c0 c1 c2 c3 c4 c5 c6 c7
  subst c0 c1 c2 c3 c4 c5 c6 c7
  exact ⟨⟨n0,n1,n2,n3,n4,n5,n6,n7⟩,rfl,⟨b0,b1,b2,b3,b4,b5,b6,b7⟩⟩
end
end Go.Proofs.YtnphbkgfjanmgaaGreatDoor
