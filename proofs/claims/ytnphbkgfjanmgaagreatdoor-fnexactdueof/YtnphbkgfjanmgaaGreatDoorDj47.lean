/-
  Whether all of some events are right, by the model: proved by walking the function.
-/
import Derived.Test.YtnphbkgfjanmgaaGreatDoorDj45
import Derived.Test.YtnphbkgfjanmgaaGreatDoorDj46
import Derived.Deep.Slices
import Derived.ChangeArms
set_option linter.unusedVariables false
set_option maxHeartbeats 6400000
set_option maxRecDepth 100000
namespace Go.Proofs.YtnphbkgfjanmgaaGreatDoor
open Go.RowKit
theorem l05Events_any (v:Value) (l:List Ev) (w:World) (hr:RdR Ev.vs 14 w v l) (hf:∀ e ∈ l,e.fit):Calls Tryz.prog 26 #[v] w fun r w'=>r = .returned (.bool (l.all okE))∧yp w w':=by
 have hsf:=sfl
 obtain ⟨a,cap,rfl,hl,hc⟩:=hr
 have HC:=H hc
 have HF:=H hf
 clear hc hf
 go_enter Tryz.func26,Tryz.ntmps26
 go_wp2_with fail
 go_loopw [3] (fun iv wr=>∃ k:Nat,k ≤ l.length∧iv = I k∧(l.take k).all okE = true∧yp w wr) (fun iv _=>l.length - (intOf iv).toNat)
 case atStart=>exact ⟨0,Nat.zero_le _,rfl,rfl,Below.refl _ _⟩
 case round =>
  obtain ⟨k,hk,rfl,D,E⟩:=hrel
  have HB:=H E
  have HA:=H D
  clear E D
  by_cases xJ:k < l.length
  ·obtain ⟨e,jo⟩:∃ e,l[k]? = some e:=⟨_,yI xJ⟩
   obtain ⟨b,off,rfl,kz,xV⟩:=U HC (by intro h; rw [h] at xJ; simp at xJ)
   have X:=zc (xV k e jo) (U HB) kz
   have uF:(k:Int) < l.length:=by omega
   have ke:=U HF e (yP jo)
   have HO:=H (specOK_any e wr ke.g)
   have HT:Hid ((l.take (k + 1)).all okE = ((l.take k).all okE && okE e)):=by
    show (l.take (k + 1)).all okE = _
    rw [List.take_add_one,jo]
    simp
   have HNo:Hid (okE e = false→l.all okE = false):=fun h=>List.all_eq_false.2 ⟨e,yP jo,by rw [h]; decide⟩
   generalize okE e = ok at *
   obtain ⟨xn,⟨ck,A,ct,F,cq,ci,O,cg⟩,id,xj,qty,xk,xi⟩:=e
   unfold evV at HO
   simp only at HO
   have x0:wr.cell? (Q b (off + k * 14)) = _:=X 0 _ rfl
   have x1:=X 1 _ rfl
   have x2:=X 2 _ rfl
   have x3:=X 3 _ rfl
   have x4:=X 4 _ rfl
   have x5:=X 5 _ rfl
   have x6:=X 6 _ rfl
   have x7:=X 7 _ rfl
   have x8:=X 8 _ rfl
   have x9:=X 9 _ rfl
   have jP:=X 10 _ rfl
   have jQ:=X 11 _ rfl
   have jR:=X 12 _ rfl
   have jS:=X 13 _ rfl
   clear X xV jo ke
   go_wp2_with fail
   refine (U HO).mono ?_
   rintro r W3 ⟨rfl,xQ⟩
   have xN:=H (fC (U HB) xQ)
   clear xQ x0 x1 x2 x3 x4 x5 x6 x7 x8 x9 jP jQ jR jS
   cases ok with
   | true =>
    go_wp2_with fail
    go_roundw
    case rel=>exact ⟨k + 1,by omega,by go_num,by rw [U HT,U HA]; rfl,U xN⟩
    case measure=>simp [intOf]; omega
   | false =>
    have HNN:=H (U HNo rfl)
    go_wp2_with fail
    go_ret
    exact ⟨by rw [U HNN]; rfl,U xN⟩
  ·have oJ:k = l.length:=by omega
   have HY:Hid (l.all okE = true):=by
    have:=U HA
    rwa [oJ,List.take_length] at this
   go_wp2_with fail
   go_ret
   exact ⟨by rw [U HY]; rfl,U HB⟩
theorem specDueOf_any (next:Int) (vb:Value) (l:List Od) (v:Value) (es:List Ev) (w:World) (hr:RdR Od.vs 6 w vb l) (hs:SlOk vb) (hgt:∀ o ∈ l,o.tag.size ≤ maxLen) (he:RdR Ev.vs 14 w v es) (hf:∀ e ∈ es,e.fit) :
  Calls Tryz.prog 8 #[.agg #[I next,vb],v] w fun x w'=>x = yn (.tuple #[duV (duD next l es),I (duU next l es),I (duC next l es)])∧yp w w':=by
 have hsf:=sfl
 have HBK:=H (fun W (h:yp w W)=>specBookOK_any next vb l W (zh hr h yb) hgt)
 have HAL:=H (fun W (h:yp w W)=>l05Events_any v es W (zh he h yb) hf)
 have HGB:Hid (fltC next l es = 0→∀ W,yp w W→Calls Tryz.prog 27 #[.agg #[I next,vb],v] W fun x w'=>RepE W vb next l (runG (gr0 next l) es) x w'):=fun h0 W h=>l05Replay_any next vb l v es W (zh hr h yb) hs (okS_gi (flt_ok h0).2.1) (zh he h yb) (flt_ok h0).2.2 (fun e he=>(hf e he).g)
 have jU:Hid (∀ cp B W vl vd t kd dy,MS cp B W vl vd vb (runG (gr0 next l) es).1 t kd next dy l→GI (runG (gr0 next l) es).1→MR (runG (gr0 next l) es).1 t kd dy→Calls Tryz.prog 28 #[J cp 0] W fun x w'=>x = yn (duV (dueG (runG (gr0 next l) es).1))∧yp W w'):=fun cp B W vl vd t kd dy N Y h3=>mdue_any W N Y h3
 have HFC:Hid (fltC next l es = if 4096 < es.length then 2 else if okS next l = false ∨ es.all okE = false then 1 else 0):=rfl
 have jm:Hid (duD next l es = if fltC next l es = 0∧(runG (gr0 next l) es).2 = 0 then dueG (runG (gr0 next l) es).1 else ⟨0,0,0,0,0⟩):=rfl
 have vz:Hid (duU next l es = if fltC next l es = 0 then (runG (gr0 next l) es).2 else 0):=rfl
 have vY:Hid (duC next l es = if fltC next l es ≠ 0 then fltC next l es else if (runG (gr0 next l) es).2 ≠ 0 then 8 else 0):=rfl
 generalize duD next l es = dd at jm ⊢
 generalize duU next l es = du at vz ⊢
 generalize duC next l es = dc at vY ⊢
 generalize fltC next l es = fc at HFC HGB jm vz vY
 generalize okS next l = bk at HBK HFC
 generalize es.all okE = al at HAL HFC
 generalize dueG (runG (gr0 next l) es).1 = dg at jU jm
 generalize runG (gr0 next l) es = cl at HGB jU jm vz vY
 obtain ⟨g1,ru⟩:=cl
 simp only at jU jm vz vY
 have H1:Hid (fc ≠ 0→dd = ⟨0,0,0,0,0⟩∧du = 0∧dc = fc):=fun h=>⟨by rw [U jm,if_neg (fun Y=>h Y.1)],by rw [U vz,if_neg h],by rw [U vY,if_pos h]⟩
 have H2:Hid (fc = 0→ru ≠ 0→dd = ⟨0,0,0,0,0⟩∧du = ru∧dc = 8):=fun h Y=>⟨by rw [U jm,if_neg (fun h3=>Y h3.2)],by rw [U vz,if_pos h],by rw [U vY,if_neg (not_not_intro h),if_pos Y]⟩
 have H3:Hid (fc = 0→ru = 0→dd = dg∧du = 0∧dc = 0):=fun h Y=>⟨by rw [U jm,if_pos ⟨h,Y⟩],by rw [U vz,if_pos h,Y],by rw [U vY,if_neg (not_not_intro h),if_neg (not_not_intro Y)]⟩
 obtain ⟨hX,hY,hB,hZ⟩:=wb2_box w [I next,vb] [I 0,I 0,I 0,I 0,I 0] 34 29
 have HX:=H hX
 have HD:=H hY
 have HB:=H hB
 generalize hW:wb2 w [I next,vb] [I 0,I 0,I 0,I 0,I 0] 34 29 = W1 at HX HD HB hZ
 have HW:=H hW
 obtain ⟨a,cap,rfl,xA,hc⟩:=he
 clear hr hs hgt hf hc hX hY hB hW jm vz vY
 go_enter Tryz.func8,Tryz.ntmps8
 refine fD fun zb HK=>?_
 go_wp2_with fail
 refine U HK _ _ ?_
 clear HK
 change Code.wp _ _ _ _ (wb2 w [I next,vb] [I 0,I 0,I 0,I 0,I 0] 34 29)
 rw [U HW]
 clear HW
 have x0:=K (U HX) 0 rfl
 have x1:=K (U HX) 1 rfl
 by_cases hlg:4096 < es.length
 ·have hlg':(4096:Int) < es.length:=by omega
  have hf2:=U HFC
  rw [if_pos hlg] at hf2
  have HQ:=H (U H1 (by omega))
  rw [hf2] at HQ
  clear hf2
  have z0:=K (U HD) 0 rfl
  have z1:=K (U HD) 1 rfl
  have z2:=K (U HD) 2 rfl
  have z3:=K (U HD) 3 rfl
  have z4:=K (U HD) 4 rfl
  have f0:=zd (U HD) 0 (by decide)
  have f1:=zd (U HD) 1 (by decide)
  have f2:=zd (U HD) 2 (by decide)
  have f3:=zd (U HD) 3 (by decide)
  have f4:=zd (U HD) 4 (by decide)
  go_wp2_with fail
  try simp (config:={ zetaDelta:=true }) only [Exit.noGoto_ret]
  change bodyPost _ _ _ _ _ (World.setCells W1 (w.heap.size + 1) 0 [I 0,I 0,I 0,I 0,I 0])
  have xp:Hid ((World.setCells W1 (w.heap.size + 1) 0 [I 0,I 0,I 0,I 0,I 0]).rangeAt (w.heap.size + 1) 0 [I 0,I 0,I 0,I 0,I 0]∧yp w (World.setCells W1 (w.heap.size + 1) 0 [I 0,I 0,I 0,I 0,I 0])):=⟨(zw (U HD) (by simp only [List.length_cons,List.length_nil])).r,zi (w.heap.size + 1) (by omega) [I 0,I 0,I 0,I 0,I 0] 0 W1 (U HB)⟩
  generalize World.setCells W1 (w.heap.size + 1) 0 [I 0,I 0,I 0,I 0,I 0] = WE at xp ⊢
  obtain ⟨d0,d1,d2,d3,d4⟩:=yC (U xp).1
  try simp only [Exit.inBlock,Exit.then]
  refine bodyPost_ret (by simp [results,Tryz.results8,go_sem,d0,d1,d2,d3,d4]; try rfl) rfl ?_
  exact ⟨by rw [(U HQ).1,(U HQ).2.1,(U HQ).2.2]; rfl,(U xp).2⟩
 have hlg':¬ ((4096:Int) < es.length):=by omega
 have vC:=H (U HFC)
 rw [if_neg hlg] at vC
 have HF1:Hid (fc = 1→dd = ⟨0,0,0,0,0⟩∧du = 0∧dc = 1):=fun h=>h ▸ U H1 (by omega)
 clear HFC hlg
 go_wp2_with fail
 refine (U HBK W1 (U HB)).mono ?_
 rintro e w2 ⟨rfl,E⟩
 have HB:=H (fC (U HB) E)
 have HX:=H (zf (U HX) E (by omega))
 have HD:=H (zf (U HD) E hZ)
 have hZ:w.heap.size + 1 < w2.heap.size:=by have:=E.size; omega
 clear E x0 x1 HBK
 cases bk
 ·have HQ:=H (U HF1 (by rw [U vC,if_pos (.inl rfl)]))
  have z0:=K (U HD) 0 rfl
  have z1:=K (U HD) 1 rfl
  have z2:=K (U HD) 2 rfl
  have z3:=K (U HD) 3 rfl
  have z4:=K (U HD) 4 rfl
  have f0:=zd (U HD) 0 (by decide)
  have f1:=zd (U HD) 1 (by decide)
  have f2:=zd (U HD) 2 (by decide)
  have f3:=zd (U HD) 3 (by decide)
  have f4:=zd (U HD) 4 (by decide)
  go_wp2_with fail
  try simp (config:={ zetaDelta:=true }) only [Exit.noGoto_ret]
  change bodyPost _ _ _ _ _ (World.setCells w2 (w.heap.size + 1) 0 [I 0,I 0,I 0,I 0,I 0])
  have xp:Hid ((World.setCells w2 (w.heap.size + 1) 0 [I 0,I 0,I 0,I 0,I 0]).rangeAt (w.heap.size + 1) 0 [I 0,I 0,I 0,I 0,I 0]∧yp w (World.setCells w2 (w.heap.size + 1) 0 [I 0,I 0,I 0,I 0,I 0])):=⟨(zw (U HD) (by simp only [List.length_cons,List.length_nil])).r,zi (w.heap.size + 1) (by omega) [I 0,I 0,I 0,I 0,I 0] 0 w2 (U HB)⟩
  generalize World.setCells w2 (w.heap.size + 1) 0 [I 0,I 0,I 0,I 0,I 0] = WE at xp ⊢
  obtain ⟨d0,d1,d2,d3,d4⟩:=yC (U xp).1
  try simp only [Exit.inBlock,Exit.then]
  refine bodyPost_ret (by simp [results,Tryz.results8,go_sem,d0,d1,d2,d3,d4]; try rfl) rfl ?_
  exact ⟨by rw [(U HQ).1,(U HQ).2.1,(U HQ).2.2]; rfl,(U xp).2⟩
 go_wp2_with fail
 refine (U HAL w2 (U HB)).mono ?_
 rintro e w3 ⟨rfl,E⟩
 have HB:=H (fC (U HB) E)
 have HX:=H (zf (U HX) E (by omega))
 have HD:=H (zf (U HD) E hZ)
 have hZ:w.heap.size + 1 < w3.heap.size:=by have:=E.size; omega
 clear E HAL
 cases al
 ·have HQ:=H (U HF1 (by rw [U vC,if_pos (.inr rfl)]))
  have z0:=K (U HD) 0 rfl
  have z1:=K (U HD) 1 rfl
  have z2:=K (U HD) 2 rfl
  have z3:=K (U HD) 3 rfl
  have z4:=K (U HD) 4 rfl
  have f0:=zd (U HD) 0 (by decide)
  have f1:=zd (U HD) 1 (by decide)
  have f2:=zd (U HD) 2 (by decide)
  have f3:=zd (U HD) 3 (by decide)
  have f4:=zd (U HD) 4 (by decide)
  go_wp2_with fail
  try simp (config:={ zetaDelta:=true }) only [Exit.noGoto_ret]
  change bodyPost _ _ _ _ _ (World.setCells w3 (w.heap.size + 1) 0 [I 0,I 0,I 0,I 0,I 0])
  have xp:Hid ((World.setCells w3 (w.heap.size + 1) 0 [I 0,I 0,I 0,I 0,I 0]).rangeAt (w.heap.size + 1) 0 [I 0,I 0,I 0,I 0,I 0]∧yp w (World.setCells w3 (w.heap.size + 1) 0 [I 0,I 0,I 0,I 0,I 0])):=⟨(zw (U HD) (by simp only [List.length_cons,List.length_nil])).r,zi (w.heap.size + 1) (by omega) [I 0,I 0,I 0,I 0,I 0] 0 w3 (U HB)⟩
  generalize World.setCells w3 (w.heap.size + 1) 0 [I 0,I 0,I 0,I 0,I 0] = WE at xp ⊢
  obtain ⟨d0,d1,d2,d3,d4⟩:=yC (U xp).1
  try simp only [Exit.inBlock,Exit.then]
  refine bodyPost_ret (by simp [results,Tryz.results8,go_sem,d0,d1,d2,d3,d4]; try rfl) rfl ?_
  exact ⟨by rw [(U HQ).1,(U HQ).2.1,(U HQ).2.2]; rfl,(U xp).2⟩
 have HFZ:Hid (fc = 0):=by show _ = _; rw [U vC,if_neg (by simp)]
 clear vC HF1
 have x0:=K (U HX) 0 rfl
 have x1:=K (U HX) 1 rfl
 go_wp2_with fail
 refine (U HGB (U HFZ) w3 (U HB)).mono ?_
 rintro e w4 ⟨G,j,rfl,E,hs4⟩
 have HB:=H (fC (U HB) E)
 have HX:=H (zf (U HX) E (by omega))
 have HD:=H (zf (U HD) E hZ)
 have hZ:w.heap.size + 1 < w4.heap.size:=by have:=E.size; omega
 have pl:=H hs4
 clear E hs4 x0 x1
 simp only at pl ⊢
 by_cases hru:ru = 0
 case neg =>
  have b0:(ru != 0) = true:=by simpa using hru
  have HQ:=H (U H2 (U HFZ) hru)
  clear hru
  have z0:=K (U HD) 0 rfl
  have z1:=K (U HD) 1 rfl
  have z2:=K (U HD) 2 rfl
  have z3:=K (U HD) 3 rfl
  have z4:=K (U HD) 4 rfl
  have f0:=zd (U HD) 0 (by decide)
  have f1:=zd (U HD) 1 (by decide)
  have f2:=zd (U HD) 2 (by decide)
  have f3:=zd (U HD) 3 (by decide)
  have f4:=zd (U HD) 4 (by decide)
  go_wp2_with fail
  try simp (config:={ zetaDelta:=true }) only [Exit.noGoto_ret]
  change bodyPost _ _ _ _ _ (World.setCells w4 (w.heap.size + 1) 0 [I 0,I 0,I 0,I 0,I 0])
  have xp:Hid ((World.setCells w4 (w.heap.size + 1) 0 [I 0,I 0,I 0,I 0,I 0]).rangeAt (w.heap.size + 1) 0 [I 0,I 0,I 0,I 0,I 0]∧yp w (World.setCells w4 (w.heap.size + 1) 0 [I 0,I 0,I 0,I 0,I 0])):=⟨(zw (U HD) (by simp only [List.length_cons,List.length_nil])).r,zi (w.heap.size + 1) (by omega) [I 0,I 0,I 0,I 0,I 0] 0 w4 (U HB)⟩
  generalize World.setCells w4 (w.heap.size + 1) 0 [I 0,I 0,I 0,I 0,I 0] = WE at xp ⊢
  obtain ⟨d0,d1,d2,d3,d4⟩:=yC (U xp).1
  try simp only [Exit.inBlock,Exit.then]
  refine bodyPost_ret (by simp [results,Tryz.results8,go_sem,d0,d1,d2,d3,d4]; try rfl) rfl ?_
  exact ⟨by rw [(U HQ).1,(U HQ).2.1,(U HQ).2.2]; rfl,(U xp).2⟩
 have b0:(ru != 0) = false:=by simpa using hru
 have HQ:=H (U H3 (U HFZ) hru)
 obtain ⟨vl,vd,t,kd,dy,hms,hgi,hmr⟩:=U pl hru
 have jT:=H (U jU G _ w4 vl vd t kd dy hms hgi hmr)
 clear hru hms hgi hmr pl jU
 go_wp2_with fail
 refine (U jT).mono ?_
 rintro e w5 ⟨rfl,E⟩
 have HB:=H (fC (U HB) E)
 have HX:=H (zf (U HX) E (by omega))
 have HD:=H (zf (U HD) E hZ)
 have hZ:w.heap.size + 1 < w5.heap.size:=by have:=E.size; omega
 clear E
 obtain ⟨dk,di,dt,dq,dp⟩:=dg
 unfold duV
 simp only
 have z0:=K (U HD) 0 rfl
 have z1:=K (U HD) 1 rfl
 have z2:=K (U HD) 2 rfl
 have z3:=K (U HD) 3 rfl
 have z4:=K (U HD) 4 rfl
 have f0:=zd (U HD) 0 (by decide)
 have f1:=zd (U HD) 1 (by decide)
 have f2:=zd (U HD) 2 (by decide)
 have f3:=zd (U HD) 3 (by decide)
 have f4:=zd (U HD) 4 (by decide)
 go_wp2_with fail
 try simp (config:={ zetaDelta:=true }) only [Exit.noGoto_ret]
 change bodyPost _ _ _ _ _ (World.setCells w5 (w.heap.size + 1) 0 [I dk,I di,I dt,I dq,I dp])
 have xp:Hid ((World.setCells w5 (w.heap.size + 1) 0 [I dk,I di,I dt,I dq,I dp]).rangeAt (w.heap.size + 1) 0 [I dk,I di,I dt,I dq,I dp]∧yp w (World.setCells w5 (w.heap.size + 1) 0 [I dk,I di,I dt,I dq,I dp])):=⟨(zw (U HD) (by simp only [List.length_cons,List.length_nil])).r,zi (w.heap.size + 1) (by omega) [I dk,I di,I dt,I dq,I dp] 0 w5 (U HB)⟩
 generalize World.setCells w5 (w.heap.size + 1) 0 [I dk,I di,I dt,I dq,I dp] = WE at xp ⊢
 obtain ⟨d0,d1,d2,d3,d4⟩:=yC (U xp).1
 try simp only [Exit.inBlock,Exit.then]
 refine bodyPost_ret (by simp [results,Tryz.results8,go_sem,d0,d1,d2,d3,d4]; try rfl) rfl ?_
 exact ⟨by rw [(U HQ).1,(U HQ).2.1,(U HQ).2.2]; rfl,(U xp).2⟩
def DB (vs:List (Option Value)) (cs:World→Value→Prop) (i:Nat) (B:World→Value→Prop) (k:Nat) (p:Prop) (W:World) (j:Nat) (v:Value):Prop:=(∀ u,vs[j]? = some (some u)→v = u)∧(j = i→cs W v)∧(j = k→B W v)
section
variable {vs:List (Option Value)} {cs B:World→Value→Prop} {i k j:Nat} {p:Prop} {W:World} {v:Value}
theorem db_mono (hA:∀ W W' v,yp W W'→cs W v→cs W' v) (hB:∀ W W' v,yp W W'→B W v→B W' v):∀ p W W' j v,yp W W'→DB vs cs i B k p W j v→DB vs cs i B k p W' j v:=fun p W W' j v E h=>⟨h.1,fun e=>hA W W' v E (h.2.1 e),fun e=>hB W W' v E (h.2.2 e)⟩
theorem db_v (h:vs[j]? = some (some v)) (hi:j ≠ i) (hk:j ≠ k):DB vs cs i B k p W j v:=⟨fun u hu=>by rw [h] at hu; cases hu; rfl,fun e=>absurd e hi,fun e=>absurd e hk⟩
theorem db_a (h:vs[i]? = some none) (ha:cs W v) (hk:i ≠ k):DB vs cs i B k p W i v:=⟨fun u hu=>(by rw [h] at hu; cases hu),fun _=>ha,fun e=>absurd e hk⟩
end
theorem zero_read:FloatKind.f64.format.read 0 = .number false 0 FloatKind.f64.format.leastPlace:=by decide
theorem one_read:∃ m j,FloatKind.f64.format.read 4607182418800017408 = .number false m j∧m ≠ 0:=⟨_,_,rfl,by decide⟩
theorem zero_mag (s:Bool) (m a b:Nat) (h:Ieee.signed s m a = Ieee.signed false 0 b):m = 0:=by
 have h0:Ieee.signed false 0 b = 0:=by simp [Ieee.signed]
 rw [h0] at h
 have Y:m <<< a = 0:=by
  cases s
  ·have h':((m <<< a:Nat):Int) = 0:=h
   omega
  ·have h':-((m <<< a:Nat):Int) = 0:=h
   omega
 rw [Nat.shiftLeft_eq] at Y
 have:=Nat.two_pow_pos a
 rcases Nat.mul_eq_zero.1 Y with h | h
 ·exact h
 ·omega
theorem div_zero (x:Nat) (h:FloatKind.f64.format.order x 0 = some Ordering.eq):∃ r,FloatKind.f64.format.div 4607182418800017408 x = some r:=by
 obtain ⟨m1,j1,N,pV⟩:=one_read
 unfold Ieee.Format.order at h
 rw [zero_read] at h
 unfold Ieee.Format.div
 rw [N]
 cases hx:FloatKind.f64.format.read x with
 | nan s f=>rw [hx] at h; simp [Ieee.Datum.order] at h
 | infinity s=>rw [hx] at h; cases s <;> simp [Ieee.Datum.order] at h
 | number s m i =>
  rw [hx] at h
  simp only [Ieee.Datum.order,Option.some.injEq] at h
  have hm:=zero_mag s m _ _ (Std.LawfulEqCmp.eq_of_compare h)
  subst hm
  exact ⟨FloatKind.f64.format.write (.infinity s),by simp [Ieee.Datum.quotient,pV]⟩
theorem sameFloat_any (x:Nat) (w:World) :
  Calls Tryz.prog 102 #[yk x,yk x] w fun e w'=>e = .returned (.bool true)∧w' = w:=by
 cases hn:nanB x with
 | true =>
  have h':(FloatKind.f64.format.order x x != some Ordering.eq) = true:=hn
  clear hn
  go_enter Tryz.func102,Tryz.ntmps102
  go_wp2
  go_ret
  exact ⟨rfl,rfl⟩
 | false =>
  have h':(FloatKind.f64.format.order x x != some Ordering.eq) = false:=hn
  have Y:FloatKind.f64.format.order x x = some Ordering.eq:=by simpa using h'
  clear hn
  by_cases hz:FloatKind.f64.format.order x 0 = some Ordering.eq
  ·obtain ⟨r,hr⟩:=div_zero x hz
   have hq:∀ W,(binOp .quo 42 (yk 4607182418800017408) (yk x)).run Tryz.prog W = .ok (yk r) W:=fun W=>by simp [binOp,Op.floatArith,hr]
   have hz':(FloatKind.f64.format.order x 0 == some Ordering.eq) = true:=by rw [hz]; rfl
   clear hz hr
   go_enter Tryz.func102,Tryz.ntmps102
   go_wp2
   all_goals go_ret
   all_goals exact ⟨zp (by simp),rfl⟩
  ·have hz':(FloatKind.f64.format.order x 0 == some Ordering.eq) = false:=by simpa using hz
   clear hz
   go_enter Tryz.func102,Tryz.ntmps102
   go_wp2
   go_ret
   exact ⟨zp (by simp),rfl⟩
theorem eqCmd_same (c:Cm) (w:World) :
  Calls Tryz.prog 62 #[.agg (yy c.k c.s c.t c.l c.q c.i c.p c.g).toArray,.agg (yy c.k c.s c.t c.l c.q c.i c.p c.g).toArray] w fun e w' =>
   e = .returned (.bool true)∧yp w w':=by
 obtain ⟨k,s,t,l,q,i,p,g⟩:=c
 simp only
 go_enter Tryz.func62,Tryz.ntmps62
 go_wp2_with (go_at_call 102; refine (sameFloat_any _ _).mono ?_; rintro e w' ⟨rfl,rfl⟩)
 go_returns
 refine ⟨rfl,?_⟩
 go_grown
theorem eqEvent_same (e:Ev) (w:World) :
  Calls Tryz.prog 34 #[evV e,evV e] w fun x w'=>x = .returned (.bool true)∧yp w w':=by
 obtain ⟨xn,⟨k,s,t,l,q,i,p,g⟩,id,xj,qty,xk,xi⟩:=e
 unfold evV
 have HE:=H (fun W=>eqCmd_same ⟨k,s,t,l,q,i,p,g⟩ W)
 simp only at *
 have xK:(w.alloc (L (yw xn k s t l q i p g id xj qty xk xi).toArray 52)).heap.size = w.heap.size + 1:=eh _ _
 have uf:((w.alloc (L (yw xn k s t l q i p g id xj qty xk xi).toArray 52)).alloc (L (yw xn k s t l q i p g id xj qty xk xi).toArray 52)).heap.size = w.heap.size + 1 + 1:=by rw [eh,xK]
 have b1:Below (w.heap.size + 1) (w.alloc (L (yw xn k s t l q i p g id xj qty xk xi).toArray 52)) ((w.alloc (L (yw xn k s t l q i p g id xj qty xk xi).toArray 52)).alloc (L (yw xn k s t l q i p g id xj qty xk xi).toArray 52)):=(Below.refl _ _).alloc (by rw [xK]; omega) _
 have r1:=zc (ew w (yw xn k s t l q i p g id xj qty xk xi) 52) b1 (by omega)
 have r2:=ew (w.alloc (L (yw xn k s t l q i p g id xj qty xk xi).toArray 52)) (yw xn k s t l q i p g id xj qty xk xi) 52
 rw [xK] at r2
 have HB:Hid (yp w ((w.alloc (L (yw xn k s t l q i p g id xj qty xk xi).toArray 52)).alloc (L (yw xn k s t l q i p g id xj qty xk xi).toArray 52))):=(fw _ _).alloc (by rw [xK]; omega) _
 have HX:Hid (_∧_∧_):=⟨r1,r2,uf⟩
 clear r1 r2 b1 xK uf
 go_enter Tryz.func34,Tryz.ntmps34
 go_wp2_with fail
 generalize ((w.alloc (L (yw xn k s t l q i p g id xj qty xk xi).toArray 52)).alloc (L (yw xn k s t l q i p g id xj qty xk xi).toArray 52)) = W at HX HB ⊢
 obtain ⟨jv,aJ,hsW⟩:=U HX
 refine (U HE _).mono ?_
 rintro e w2 ⟨rfl,xL⟩
 have xw:=H (fC (U HB) xL)
 have q1:=zc jv xL (by omega)
 have q2:=zc aJ xL (by omega)
 have x9:=q1 9 _ rfl
 have jP:=q1 10 _ rfl
 have jQ:=q1 11 _ rfl
 have jR:=q1 12 _ rfl
 have jS:=q1 13 _ rfl
 have y9:=q2 9 _ rfl
 have y10:=q2 10 _ rfl
 have y11:=q2 11 _ rfl
 have y12:=q2 12 _ rfl
 have y13:=q2 13 _ rfl
 clear jv aJ q1 q2 xL HX HB hsW
 go_wp2_with fail
 go_returns
 exact ⟨rfl,U xw⟩
theorem toCmd_any (c:Cm) (w:World) :
  Calls Tryz.prog 38 #[.agg (yy c.k c.s c.t c.l c.q c.i c.p c.g).toArray] w fun e w' =>
   e = .returned (.agg (yy c.k c.s c.t c.l c.q c.i c.p c.g).toArray)∧yp w w':=by
 obtain ⟨k,s,t,l,q,i,p,g⟩:=c
 have hsf:=sfl
 simp only
 go_enter Tryz.func38,Tryz.ntmps38
 go_wp2_with fail
 go_returns
 refine ⟨rfl,?_⟩
 go_grown
end Go.Proofs.YtnphbkgfjanmgaaGreatDoor
namespace Go.Proofs.YtnphbkgfjanmgaaGreatDoor
open Go.RowKit Go.ChangeShapes Go.WideShapes Go.Deep
set_option linter.unusedVariables false

theorem szCmd_any (c:Cm) (x:Int) (w:World) (h0:0 ≤ x) (N:x ≤ 1073741824) (hg:c.g.size ≤ maxLen) :
  Calls Tryz.prog 35 #[.agg (yy c.k c.s c.t c.l c.q c.i c.p c.g).toArray,I x] w fun e w' =>
   ∃ y:Int,e = .returned (I y)∧-1 ≤ y∧y ≤ x∧yp w w':=by
 obtain ⟨k,s,t,l,q,i,p,g⟩:=c
 simp only at *
 unfold maxLen at hg
 by_cases h:x < g.size
 ·go_enter Tryz.func35,Tryz.ntmps35
  go_wp2_with fail
  go_ret
  exact ⟨_,rfl,by omega,by omega,by go_grown⟩
 ·go_enter Tryz.func35,Tryz.ntmps35
  go_wp2_with fail
  go_ret
  exact ⟨_,rfl,by omega,by omega,by go_grown⟩
structure Cm.ok (c:Cm):Prop where
 k:(Lit.int .i64 c.k).wf = true
 s:(Lit.int .i64 c.s).wf = true
 t:(Lit.int .i64 c.t).wf = true
 l:(Lit.int .i64 c.l).wf = true
 q:(Lit.int .i64 c.q).wf = true
 i:(Lit.int .i64 c.i).wf = true
 p:(Lit.float .f64 c.p).wf = true
 g:c.g.size ≤ maxLen
section
variable {yd:Type} {enc:TypeId × Value→yd} {w:World} {base:Nat} {spare:Nat→Bool} {held:Bool}

theorem trod_flt {P:Program} {t:TypeId} {k:FloatKind} {fuel:Nat} {A:List Value} {x:DataW yd × List MemPlace} (ht:P.underlying t = some (.float k)) (h:DataW.trod enc P w base spare held fuel t A = some x) :
  ∃ n,A = [.float k n]∧(Lit.float k n).wf = true:=by
 cases fuel with
 | zero=>simp [DataW.trod] at h
 | succ n =>
  unfold DataW.trod at h
  rw [ht] at h
  split at h <;> simp_all
theorem list8 {A:List Value} (h:A.length = 8):∃ v0 v1 v2 v3 v4 v5 v6 v7,A = [v0,v1,v2,v3,v4,v5,v6,v7] :=
 match A,h with
 | [v0,v1,v2,v3,v4,v5,v6,v7],_=>⟨v0,v1,v2,v3,v4,v5,v6,v7,rfl⟩
theorem cm_opened {fuel:Nat} {A:List Value} {x:DataW yd × List MemPlace} (h:DataW.trod enc Tryz.prog w base spare held fuel 44 A = some x):∃ c:Cm,A = c.vs∧c.ok:=by
 obtain ⟨xs,n,_,_,xA,hxl,hf⟩:=DataW.trod_struct Tryz.underlying44 h
 have hl8:A.length = 8:=xA.trans (by kernel_rfl)
 have k3:Tryz.prog.cellsOf 3 = 1:=by kernel_rfl
 have k22:Tryz.prog.cellsOf 42 = 1:=by kernel_rfl
 have k9:Tryz.prog.cellsOf 9 = 1:=by kernel_rfl
 have hx:∀ i,i < 8→∃ y,xs[i]? = some y:=fun i hi=>⟨_,yI (by rw [hxl]; exact hi)⟩
 obtain ⟨y0,e0⟩:=hx 0 (by omega)
 obtain ⟨y1,e1⟩:=hx 1 (by omega)
 obtain ⟨y2,e2⟩:=hx 2 (by omega)
 obtain ⟨y3,e3⟩:=hx 3 (by omega)
 obtain ⟨y4,e4⟩:=hx 4 (by omega)
 obtain ⟨y5,e5⟩:=hx 5 (by omega)
 obtain ⟨y6,e6⟩:=hx 6 (by omega)
 obtain ⟨y7,e7⟩:=hx 7 (by omega)
 have f0:DataW.trod enc Tryz.prog w base spare held n 3 ((A.drop 0).take (Tryz.prog.cellsOf 3)) = some y0:=(hf 0 _ rfl).trans e0
 have f1:DataW.trod enc Tryz.prog w base spare held n 3 ((A.drop 1).take (Tryz.prog.cellsOf 3)) = some y1:=(hf 1 _ rfl).trans e1
 have f2:DataW.trod enc Tryz.prog w base spare held n 3 ((A.drop 2).take (Tryz.prog.cellsOf 3)) = some y2:=(hf 2 _ rfl).trans e2
 have f3:DataW.trod enc Tryz.prog w base spare held n 3 ((A.drop 3).take (Tryz.prog.cellsOf 3)) = some y3:=(hf 3 _ rfl).trans e3
 have f4:DataW.trod enc Tryz.prog w base spare held n 3 ((A.drop 4).take (Tryz.prog.cellsOf 3)) = some y4:=(hf 4 _ rfl).trans e4
 have f5:DataW.trod enc Tryz.prog w base spare held n 3 ((A.drop 5).take (Tryz.prog.cellsOf 3)) = some y5:=(hf 5 _ rfl).trans e5
 have f6:DataW.trod enc Tryz.prog w base spare held n 42 ((A.drop 6).take (Tryz.prog.cellsOf 42)) = some y6:=(hf 6 _ rfl).trans e6
 have f7:DataW.trod enc Tryz.prog w base spare held n 9 ((A.drop 7).take (Tryz.prog.cellsOf 9)) = some y7:=(hf 7 _ rfl).trans e7
 clear hf hx e0 e1 e2 e3 e4 e5 e6 e7 h xA
 obtain ⟨v0,v1,v2,v3,v4,v5,v6,v7,rfl⟩:=list8 hl8
 ·clear hl8
  simp only [k3,k22,k9,List.drop_zero,yV,yU,List.take_zero] at f0 f1 f2 f3 f4 f5 f6 f7
  obtain ⟨n0,c0,_,b0⟩:=DataW.trod_int Tryz.underlying3 f0
  obtain ⟨n1,c1,_,b1⟩:=DataW.trod_int Tryz.underlying3 f1
  obtain ⟨n2,c2,_,b2⟩:=DataW.trod_int Tryz.underlying3 f2
  obtain ⟨n3,c3,_,b3⟩:=DataW.trod_int Tryz.underlying3 f3
  obtain ⟨n4,c4,_,b4⟩:=DataW.trod_int Tryz.underlying3 f4
  obtain ⟨n5,c5,_,b5⟩:=DataW.trod_int Tryz.underlying3 f5
  obtain ⟨n6,c6,b6⟩:=trod_flt Tryz.underlying42 f6
  obtain ⟨n7,c7,_,b7⟩:=DataW.trod_string Tryz.underlying9 f7
  simp only [List.cons.injEq,and_true] at c0 c1 c2 c3 c4 c5 c6 c7
  subst c0 c1 c2 c3 c4 c5 c6 c7
  exact ⟨⟨n0,n1,n2,n3,n4,n5,n6,n7⟩,rfl,⟨b0,b1,b2,b3,b4,b5,b6,b7⟩⟩
end
end Go.Proofs.YtnphbkgfjanmgaaGreatDoor
