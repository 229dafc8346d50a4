/-
  Why a command is refused, by the model: proved by walking the functions.
-/
import Derived.Test.YthhkapcbocgcoaaGreatDoorGj42
import Derived.LaidLaws
import Derived.LaidHandle
set_option linter.unusedVariables false
set_option maxHeartbeats 6400000
set_option maxRecDepth 100000
namespace Go.Proofs.YthhkapcbocgcoaaGreatDoor
open Go.RowKit
theorem okS_sides {next:Int} {l:List Od} (h:okS next l = true):∀ x ∈ l,x.side = 1 ∨ x.side = 2:=by
 simp only [okS,xf,xg] at h
 obtain ⟨⟨⟨Q,D⟩,h4⟩,_⟩:=h
 intro o Y
 have:=fS h4 o Y
 simp [ordB,betB] at this
 omega
theorem fO (next:Int) (vb:Value) (l:List Od) (c:Cm) (w:World) (hr:RdR Od.vs 6 w vb l) (hs:SlOk vb) (hg:GoodL l) (ui:∀ x ∈ l,x.side = 1 ∨ x.side = 2) (ht:c.g.size ≤ maxLen) :
  Calls Tryz.prog 35 #[.agg #[H next,vb],cmV c] w fun e w'=>e = .returned (H (refS next l c))∧yn w w':=by
 have HNW:=M (fun W hW=>l04New_any next vb l c W hW hs hg ui ht)
 have HFM:=M (fun W=>l04Form_any c W)
 have ju:=hg.len
 generalize hre:refS next l c = res
 have qK:=M hre.symm
 generalize hnr:newR next l c = nr at HNW
 have kM:=M hnr
 clear hg ui ht hre hnr
 obtain ⟨kk,s,ty,li,qt,ii,pr,tg⟩:=c
 unfold cmV at HNW HFM ⊢
 simp only at HNW HFM ⊢
 have HR:=M hr
 have qn:=M hs
 obtain ⟨a,cap,rfl,xD,hc⟩:=hr
 have xr:∀ (k:Nat) (c:Od),l[k]? = some c→∃ b off,a = some (J b off)∧b < w.heap.size∧w.rangeAt b (off + k * 6) c.vs:=by
  intro k c E
  obtain ⟨b,off,Q,D,X⟩:=hc (by intro h; rw [h] at E; simp at E)
  exact ⟨b,off,Q,D,X k c E⟩
 have HC:=M xr
 clear xr hc xD hs
 have xF:=zi w (O #[H next,.slice a l.length cap] 27)
 have ug:((w.alloc (O #[H next,.slice a l.length cap] 27)).alloc (O (yx kk s ty li qt ii pr tg).toArray 33)).heap.size = w.heap.size + 1 + 1:=by rw [zi,xF]
 have r1:=zm w [H next,.slice a l.length cap] 27
 have r2:=zm (w.alloc (O #[H next,.slice a l.length cap] 27)) (yx kk s ty li qt ii pr tg) 33
 rw [xF] at r2
 have qi:Below (w.heap.size + 1) (w.alloc (O #[H next,.slice a l.length cap] 27)) ((w.alloc (O #[H next,.slice a l.length cap] 27)).alloc (O (yx kk s ty li qt ii pr tg).toArray 33)):=(Below.refl _ _).alloc (by rw [xF]; omega) _
 have xt:Hid (yn w ((w.alloc (O #[H next,.slice a l.length cap] 27)).alloc (O (yx kk s ty li qt ii pr tg).toArray 33))):=(gZ _ _).alloc (by rw [xF]; omega) _
 have HX:Hid (_∧_):=⟨zc r1 qi (by omega),r2⟩
 have ul:Hid (w.heap.size + 1 < ((w.alloc (O #[H next,.slice a l.length cap] 27)).alloc (O (yx kk s ty li qt ii pr tg).toArray 33)).heap.size):=by show _ < _; omega
 clear xF ug r1 r2 qi
 go_enter Tryz.func35,Tryz.ntmps35
 refine ic fun xh xK=>?_
 go_wp2_with fail
 refine U xK _ _ ?_
 clear xK
 generalize ((w.alloc (O #[H next,.slice a l.length cap] 27)).alloc (O (yx kk s ty li qt ii pr tg).toArray 33)) = X2 at xt HX ul ⊢
 have HX:Hid (X2.rangeAt w.heap.size 0 [H next,.slice a l.length cap]∧X2.rangeAt (w.heap.size + 1) 0 (yx kk s ty li qt ii pr tg)):=U HX
 have k0:X2.cell? (J w.heap.size 0) = some (H next):=(U HX).1 0 _ rfl
 have k1:X2.cell? (J w.heap.size 1) = some (.slice a l.length cap):=(U HX).1 1 _ rfl
 obtain ⟨o0,o1,o2,o3,o4,o5,o6,o7⟩:=yE (U HX).2
 cases bk:betB kk 1 4
 ·have HK:Hid (res = 1):=(U qK).trans (by simp [refS,bk])
  go_wp2_with (first | (go_at_call 31; refine (db _ _ _ _).mono ?_; rintro e w' ⟨rfl,uh⟩; rw [uh]; clear uh w'))
  go_ret
  exact ⟨zw (U HK).symm,U xt⟩
 go_wp2_with (first | (go_at_call 31; refine (db _ _ _ _).mono ?_; rintro e w' ⟨rfl,uh⟩; rw [uh]; clear uh w'))
 refine (U HFM _).mono ?_
 cases bf:cx ⟨kk,s,ty,li,qt,ii,pr,tg⟩
 ·rintro e w3 ⟨rfl,xQ⟩
  have xG:=M (ia (U xt) xQ)
  have HK:Hid (res = 2):=(U qK).trans (by simp [refS,bk,bf])
  clear xQ bf bk
  go_wp2_with fail
  go_ret
  exact ⟨zw (U HK).symm,U xG⟩
 rintro e w3 ⟨rfl,xQ⟩
 have xG:=M (ia (U xt) xQ)
 have vI:Hid (w3.rangeAt w.heap.size 0 [H next,.slice a l.length cap]∧w3.rangeAt (w.heap.size + 1) 0 (yx kk s ty li qt ii pr tg)):=⟨zc (U HX).1 xQ (by have:=U ul; omega),zc (U HX).2 xQ (U ul)⟩
 have hl3:w.heap.size + 1 < w3.heap.size:=yK (U ul) xQ.size
 clear xQ HX xt ul
 clear k0 k1 o0 o1 o2 o3 o4 o5 o6 o7
 have k0:w3.cell? (J w.heap.size 0) = some (H next):=(U vI).1 0 _ rfl
 have k1:w3.cell? (J w.heap.size 1) = some (.slice a l.length cap):=(U vI).1 1 _ rfl
 obtain ⟨o0,o1,o2,o3,o4,o5,o6,o7⟩:=yE (U vI).2
 by_cases Q:kk = 1
 ·subst Q
  have HK:Hid (res = nr):=(U qK).trans (by rw [← U kM]; simp [refS,bk,bf])
  clear bk bf qK kM
  go_wp2_with fail
  refine (U HNW w3 (zh (U HR) (U xG) hU)).mono ?_
  rintro e w4 ⟨rfl,xy⟩
  have xO:=M (ia (U xG) xy)
  clear xy
  go_wp2_with fail
  go_ret
  exact ⟨zw (U HK).symm,U xO⟩
 by_cases h4:kk = 4
 ·subst h4
  have HK:Hid (res = 0):=(U qK).trans (by simp [refS,bk,bf])
  clear bk bf qK kM
  go_wp2_with fail
  go_ret
  exact ⟨zw (U HK).symm,U xG⟩
 have b1:(kk == 1) = false:=by rw [xe]; exact Q
 have b4:(kk == 4) = false:=by rw [xe]; exact h4
 by_cases X:kk = 3
 ·subst X
  cases bq:betB qt 1 1000000
  ·have HK:Hid (res = 7):=(U qK).trans (by simp [refS,bk,bf,bq])
   clear bk bf qK kM
   go_wp2_with (first | (go_at_call 31; refine (db _ _ _ _).mono ?_; rintro e w' ⟨rfl,uh⟩; rw [uh]; clear uh w'))
   go_ret
   exact ⟨zw (U HK).symm,U xG⟩
  have bB:Hid (res = if plc l ii < 0 then 9 else match l[(plc l ii).toNat]? with | some o=>if o.left ≤ qt then 10 else 0 | none=>0):=(U qK).trans (by simp [refS,bk,bf,bq]; cases l[(plc l ii).toNat]? <;> rfl)
  clear bk bf qK kM Q h4
  go_wp2_with (first | (go_at_call 31; refine (db _ _ _ _).mono ?_; rintro e w' ⟨rfl,uh⟩; rw [uh]; clear uh w'))
  refine (fC _ l ii w3 (zh (U HR) (U xG) hU)).mono ?_
  rintro e w4 ⟨rfl,xy⟩
  have xO:=M (ia (U xG) xy)
  have xE:Hid (w4.rangeAt w.heap.size 0 [H next,.slice a l.length cap]∧w4.rangeAt (w.heap.size + 1) 0 (yx 3 s ty li qt ii pr tg)):=⟨zc (U vI).1 xy (by omega),zc (U vI).2 xy hl3⟩
  clear xy
  clear k0 k1 o0 o1 o2 o3 o4 o5 o6 o7
  have k0:w4.cell? (J w.heap.size 0) = some (H next):=(U xE).1 0 _ rfl
  have k1:w4.cell? (J w.heap.size 1) = some (.slice a l.length cap):=(U xE).1 1 _ rfl
  obtain ⟨o0,o1,o2,o3,o4,o5,o6,o7⟩:=yE (U xE).2
  rcases gh l ii with e | ⟨k,o,e,Y⟩
  ·have HK:Hid (res = 9):=(U bB).trans (by rw [e]; rfl)
   rw [e]
   clear e
   go_wp2_with fail
   go_ret
   exact ⟨zw (U HK).symm,U xO⟩
  ·have bB:Hid (res = if o.left ≤ qt then 10 else 0):=(U bB).trans (by rw [e,if_neg (by omega)]; simp [Y])
   obtain ⟨b,off,rfl,A,xo⟩:=U HC k o Y
   have pP:=(yH.1 Y).1
   have c3:w4.cell? (J b (off + k * 6 + 3)) = some (H o.left):=zc xo (U xO) A 3 _ rfl
   have bK:(k:Int) < l.length:=by omega
   have oG:(0:Int) ≤ k:=by omega
   have hkn:¬ (k:Int) < 0:=by omega
   rw [e]
   clear e Y xo A pP
   by_cases hq:o.left ≤ qt
   ·have HK:Hid (res = 10):=(U bB).trans (if_pos hq)
    have hq':decide (o.left ≤ qt) = true:=by simpa using hq
    go_wp2_with fail
    go_quiet (fail)
    go_wp2_with fail
    go_ret
    exact ⟨zw (U HK).symm,dI (U xO) _⟩
   ·have HK:Hid (res = 0):=(U bB).trans (if_neg hq)
    have hq':decide (o.left ≤ qt) = false:=by simpa using hq
    go_wp2_with fail
    go_quiet (fail)
    go_wp2_with fail
    go_ret
    exact ⟨zw (U HK).symm,dI (U xO) _⟩
 ·have b3:(kk == 3) = false:=by rw [xe]; exact X
  have bB:Hid (res = if plc l ii < 0 then 9 else 0):=(U qK).trans (by
   have hx:¬ (kk = 3∧betB qt 1 1000000 = false):=fun h=>X h.1
   have hy:∀ o:Od,¬ (kk = 3∧o.left ≤ qt):=fun o h=>X h.1
   simp only [refS]
   rw [if_neg (by rw [bk]; simp),if_neg (by rw [bf]; simp),if_neg Q,if_neg h4,if_neg hx]
   by_cases hp:plc l ii < 0
   ·rw [if_pos hp,if_pos hp]
   ·rw [if_neg hp,if_neg hp]
    cases l[(plc l ii).toNat]? with
    | none=>rfl
    | some o=>exact if_neg (hy o))
  clear bk bf qK kM Q h4 X
  go_wp2_with fail
  refine (fC _ l ii w3 (zh (U HR) (U xG) hU)).mono ?_
  rintro e w4 ⟨rfl,xy⟩
  have xO:=M (ia (U xG) xy)
  have xE:Hid (w4.rangeAt w.heap.size 0 [H next,.slice a l.length cap]∧w4.rangeAt (w.heap.size + 1) 0 (yx kk s ty li qt ii pr tg)):=⟨zc (U vI).1 xy (by omega),zc (U vI).2 xy hl3⟩
  clear xy
  clear k0 k1 o0 o1 o2 o3 o4 o5 o6 o7
  have k0:w4.cell? (J w.heap.size 0) = some (H next):=(U xE).1 0 _ rfl
  have k1:w4.cell? (J w.heap.size 1) = some (.slice a l.length cap):=(U xE).1 1 _ rfl
  obtain ⟨o0,o1,o2,o3,o4,o5,o6,o7⟩:=yE (U xE).2
  by_cases hp:plc l ii < 0
  ·have HK:Hid (res = 9):=(U bB).trans (if_pos hp)
   go_wp2_with fail
   go_ret
   exact ⟨zw (U HK).symm,U xO⟩
  ·have HK:Hid (res = 0):=(U bB).trans (if_neg hp)
   have hp':decide (plc l ii < 0) = false:=by simpa using hp
   go_wp2_with fail
   go_quiet (fail)
   go_wp2_with fail
   go_ret
   exact ⟨zw (U HK).symm,dI (U xO) _⟩
theorem gErr:Tryz.prog.globalNamed "errors.errorType" = some 1:=by kernel_rfl
theorem rtErr:(Tryz.prog.cutTypes.find? (·.1 == "internal/reflectlite.rtype")).map (·.2) = some 245:=by kernel_rfl
theorem oneErr:((List.range 290).filter fun t=>Tryz.prog.rowNamed t [101,114,114,111,114]) = [169]:=by kernel_rfl
theorem sizeErr:Tryz.prog.types.size = 290:=by kernel_rfl
theorem err_laid {W:World} (h:laidMetH Tryz.prog [("errors.errorType",Rows.laid_errors_errorType)] W):ErrT W:=by
 have h':laidMet Tryz.prog [] W∧handlesMet Tryz.prog [("errors.errorType",Rows.laid_errors_errorType)] W:=h
 obtain ⟨name,u,ty,e1,e2,e3,e4,e5⟩:=h'.2 _ (List.mem_singleton.2 rfl)
 have en:name = [101,114,114,111,114]:=(Option.some.inj e1).symm
 subst en
 obtain rfl:=Option.some.inj (rtErr.symm.trans e2)
 have hm:ty ∈ (List.range 290).filter fun t=>Tryz.prog.rowNamed t [101,114,114,111,114]:=List.mem_filter.2 ⟨List.mem_range.2 (by rw [← sizeErr]; exact e3),e4⟩
 rw [oneErr] at hm
 obtain rfl:=List.mem_singleton.1 hm
 have hh:typeHandle Tryz.prog 169 = .pointer (some ⟨2,169,none⟩):=by kernel_rfl
 rw [hh] at e5
 simpa [ErrT] using World.var?_cell gErr e5 0
theorem allR_ids {next:Int}:∀ {l:List Od} {last:Int},allR next last l = true→∀ o ∈ l,o.id < next
 | [],_,_=>by simp
 | a :: r,last,h=>by
  simp only [allR,xf,xg] at h
  intro o Y
  rcases List.mem_cons.1 Y with rfl | Y
  ·exact h.1.2
  ·exact allR_ids h.2 o Y
theorem okS_gi {next:Int} {l:List Od} (h:okS next l = true):GI (gr0 next l):=by
 have ui:=okS_sides h
 simp only [okS,xf,xg] at h
 obtain ⟨⟨⟨Q,D⟩,h4⟩,_⟩:=h
 have hn:1 ≤ next∧next ≤ 1000000:=by simpa [betB] using Q
 refine gi_start ⟨D,fun o Y=>?_,(fP h4).1⟩ (by omega) hn.2 ui (allR_ids h4)
 have:=fS h4 o Y
 simp [ordB,betB] at this
 omega
def fltC (next:Int) (l:List Od) (es:List Ev):Int:=if 4096 < es.length then 2 else if okS next l = false ∨ es.all okE = false then 1 else 0
theorem flt_ok {next:Int} {l:List Od} {es:List Ev} (h:fltC next l es = 0):es.length ≤ 4096∧okS next l = true∧∀ e ∈ es,okE e = true:=by
 unfold fltC at h
 split at h
 ·omega
 ·split at h
  ·omega
  ·rename_i Q D
   simp only [not_or,Bool.not_eq_false] at D
   exact ⟨by omega,D.1,List.all_eq_true.1 D.2⟩
theorem gI (next:Int) (vb:Value) (l:List Od) (v:Value) (es:List Ev) (w:World) (hr:RdR Od.vs 6 w vb l) (kC:∀ o ∈ l,o.tag.size ≤ maxLen) (he:RdR Ev.vs 14 w v es) (hf:∀ e ∈ es,e.fit) (hE:ErrT w) :
  Calls Tryz.prog 17 #[.agg #[H next,vb],v] w fun x w'=>x = .returned (H (fltC next l es))∧yn w w':=by
 have xR:=gZ w (O #[H next,vb] 27)
 have HBO:=M (fun W (h:yn w W)=>implBookOK_any next vb l W (zh hr h hU) kC)
 have HAL:=M (fun W (h:yn w W)=>allRight_any v es W (zh he h hU) hf (zW hE h hU))
 have HFC:Hid (fltC next l es = if 4096 < es.length then 2 else if okS next l = false ∨ es.all okE = false then 1 else 0):=rfl
 rw [okI_eq] at HBO
 generalize fltC next l es = fc at HFC ⊢
 generalize okS next l = bo at HBO HFC
 generalize es.all okE = al at HAL HFC
 have xZ:=M xR
 have bD:=M (zy w [H next,vb] 27)
 obtain ⟨a,cap,rfl,xD,hc⟩:=he
 clear xR hr kC hf hE hc
 go_enter Tryz.func17,Tryz.ntmps17
 refine ic fun xh HK=>?_
 go_wp2_with fail
 refine U HK _ _ ?_
 clear HK
 generalize (w.alloc (O #[H next,vb] 27)) = W1 at xZ bD ⊢
 have x0:=zb (U bD) 0 rfl
 have x1:=zb (U bD) 1 rfl
 by_cases hl:4096 < es.length
 ·have hl':(4096:Int) < (es.length:Int):=by omega
  have HQ:Hid (fc = 2):=by show _ = _; rw [U HFC,if_pos hl]
  clear hl
  go_wp2_with fail
  go_ret
  exact ⟨by rw [U HQ]; rfl,U xZ⟩
 have hl':¬ (4096:Int) < (es.length:Int):=by omega
 have HFC2:=M (U HFC)
 rw [if_neg hl] at HFC2
 clear hl HFC
 go_wp2_with fail
 refine (U HBO W1 (U xZ)).mono ?_
 rintro e w2 ⟨rfl,xP⟩
 have xt:=M (ia (U xZ) xP)
 clear xP
 cases bo
 ·have HQ:Hid (fc = 1):=by show _ = _; rw [U HFC2,if_pos (.inl rfl)]
  go_wp2_with fail
  go_ret
  exact ⟨by rw [U HQ]; rfl,U xt⟩
 go_wp2_with fail
 refine (U HAL w2 (U xt)).mono ?_
 rintro e w3 ⟨rfl,xQ⟩
 have xG:=M (ia (U xt) xQ)
 clear xQ
 cases al
 ·have HQ:Hid (fc = 1):=by show _ = _; rw [U HFC2,if_pos (.inr rfl)]
  go_wp2_with fail
  go_ret
  exact ⟨by rw [U HQ]; rfl,U xG⟩
 ·have HQ:Hid (fc = 0):=by show _ = _; rw [U HFC2,if_neg (by simp)]
  go_wp2_with fail
  go_ret
  exact ⟨by rw [U HQ]; rfl,U xG⟩
def brkR (next:Int) (l:List Od) (es:List Ev) (e:Ev):Int:=if fltC next l es = 0∧okE e = true∧(runG (gr0 next l) es).2 = 0 then zD (runG (gr0 next l) es).1 e else 0
def brkC (next:Int) (l:List Od) (es:List Ev) (e:Ev):Int:=if fltC next l es ≠ 0 then fltC next l es else if okE e = false then 1 else if (runG (gr0 next l) es).2 ≠ 0 then 8 else 0
theorem implBroken_any (next:Int) (vb:Value) (l:List Od) (v:Value) (es:List Ev) (e:Ev) (w:World) (hr:RdR Od.vs 6 w vb l) (hs:SlOk vb) (kC:∀ o ∈ l,o.tag.size ≤ maxLen) (he:RdR Ev.vs 14 w v es) (hf:∀ e ∈ es,e.fit) (hef:e.fit) (hE:ErrT w) :
  Calls Tryz.prog 7 #[.agg #[H next,vb],v,evV e] w fun x w'=>x = .returned (.tuple #[H (brkR next l es e),H (brkC next l es e)])∧yn w w':=by
 have hsf:=sfl
 have qV:=M (fun W (h:yn w W)=>gI next vb l v es W (zh hr h hU) kC (zh he h hU) hf (zW hE h hU))
 have pC:=M (fun W (h:yn w W)=>implOK_any e hef W (zW hE h hU))
 have HGB:Hid (fltC next l es = 0→∀ W,yn w W→Calls Tryz.prog 19 #[.agg #[H next,vb],v] W fun x w'=>BehE W.heap.size W (runG (gr0 next l) es) x w'):=fun h0 W h=>gH next vb l v es W (zh hr h hU) hs (okS_gi (flt_ok h0).2.1) (zh he h hU) (flt_ok h0).2.2 (fun e he=>(hf e he).g)
 have HAD:Hid (okE e = true→∀ G B r W vq,GS G B r W vq (runG (gr0 next l) es).1→GI (runG (gr0 next l) es).1→Calls Tryz.prog 20 #[I G 0,evV e] W fun x w'=>x = .returned (H (zD (runG (gr0 next l) es).1 e))∧Below B W w'):=fun h G B r W vq Q D=>(add_any e W Q D h hef.g).mono fun x w' X=>⟨X.1,X.2.1⟩
 have vm:Hid (brkR next l es e = if fltC next l es = 0∧okE e = true∧(runG (gr0 next l) es).2 = 0 then zD (runG (gr0 next l) es).1 e else 0):=rfl
 have vS:Hid (brkC next l es e = if fltC next l es ≠ 0 then fltC next l es else if okE e = false then 1 else if (runG (gr0 next l) es).2 ≠ 0 then 8 else 0):=rfl
 generalize brkR next l es e = br at vm ⊢
 generalize brkC next l es e = bc at vS ⊢
 generalize fltC next l es = fc at qV HGB vm vS
 generalize okE e = ok at pC HAD vm vS
 generalize zD (runG (gr0 next l) es).1 e = re at HAD vm
 generalize runG (gr0 next l) es = hR at HGB HAD vm vS
 obtain ⟨g1,ru⟩:=hR
 simp only at HAD vm vS
 obtain ⟨xn,⟨ck,cs,ct,cl,cq,ci,cp,cg⟩,id,xl,qty,xm,xk⟩:=e
 unfold evV at pC HAD ⊢
 simp only at pC HAD ⊢
 obtain ⟨a,cap,rfl,xD,hc⟩:=he
 have qH:(w.alloc (O #[H next,vb] 27)).heap.size = w.heap.size + 1:=by simp
 have xR:=gZ w (O #[H next,vb] 27)
 have ub:Below (w.heap.size + 1) (w.alloc (O #[H next,vb] 27)) ((w.alloc (O #[H next,vb] 27)).alloc (O (yv xn ck cs ct cl cq ci cp cg id xl qty xm xk).toArray 37)):=(Below.refl _ _).alloc (by rw [qH]; omega) _
 have HS:Hid (((w.alloc (O #[H next,vb] 27)).alloc (O (yv xn ck cs ct cl cq ci cp cg id xl qty xm xk).toArray 37)).heap.size = w.heap.size + 1 + 1):=by show _ = _; simp
 have bD:=M (zl (zy w [H next,vb] 27) ub (by omega))
 have HY0:Hid (Bx ((w.alloc (O #[H next,vb] 27)).alloc (O (yv xn ck cs ct cl cq ci cp cg id xl qty xm xk).toArray 37)) (w.heap.size + 1) (yv xn ck cs ct cl cq ci cp cg id xl qty xm xk)):=by
  have:=zy (w.alloc (O #[H next,vb] 27)) (yv xn ck cs ct cl cq ci cp cg id xl qty xm xk) 37
  rwa [qH] at this
 have xZ:Hid (yn w ((w.alloc (O #[H next,vb] 27)).alloc (O (yv xn ck cs ct cl cq ci cp cg id xl qty xm xk).toArray 37))):=xR.trans (ub.mono (by omega))
 clear xR ub qH hr hs kC hf hE hc hef
 go_enter Tryz.func7,Tryz.ntmps7
 refine ic fun xh HK=>?_
 go_wp2_with fail
 refine U HK _ _ ?_
 clear HK
 generalize ((w.alloc (O #[H next,vb] 27)).alloc (O (yv xn ck cs ct cl cq ci cp cg id xl qty xm xk).toArray 37)) = W1 at xZ bD HY0 HS ⊢
 have x0:=zb (U bD) 0 rfl
 have x1:=zb (U bD) 1 rfl
 go_wp2_with fail
 refine (U qV W1 (U xZ)).mono ?_
 rintro e w2 ⟨rfl,xP⟩
 have hz:=U HS
 have xt:=M (ia (U xZ) xP)
 have xW:=M (zl (U bD) xP (by omega))
 have jj:=M (zl (U HY0) xP (by omega))
 have uM:w.heap.size + 1 < w2.heap.size:=by have:=xP.size; omega
 clear xP x0 x1 bD HY0 xZ qV hz HS
 by_cases hfc:fc = 0
 case neg =>
  have b0:(fc != 0) = true:=by simpa using hfc
  have HQ:Hid (br = 0∧bc = fc):=⟨by rw [U vm,if_neg (fun h=>hfc h.1)],by rw [U vS,if_pos hfc]⟩
  clear hfc
  go_wp2_with fail
  go_ret2
  exact ⟨by rw [(U HQ).1,(U HQ).2]; rfl,U xt⟩
 have b0:(fc != 0) = false:=by simpa using hfc
 have HGB2:=M (U HGB hfc)
 have kE:=M (U vS)
 rw [if_neg (not_not_intro hfc)] at kE
 have HFZ:=M hfc
 clear hfc HGB vS
 obtain ⟨e0,e1,e2,e3,e4,e5,e6,e7,e8,e9,vy,vz,qj,qk⟩:=yz (U jj)
 go_wp2_with fail
 refine (U pC w2 (U xt)).mono ?_
 rintro e w3 ⟨rfl,xQ⟩
 have xG:=M (ia (U xt) xQ)
 have vI:=M (zl (U xW) xQ (by omega))
 have HY3:=M (zl (U jj) xQ uM)
 have hz3:w.heap.size + 1 < w3.heap.size:=by have:=xQ.size; omega
 clear xQ e0 e1 e2 e3 e4 e5 e6 e7 e8 e9 vy vz qj qk xW jj xt uM b0
 cases ok
 case false =>
  have HQ:Hid (br = 0∧bc = 1):=⟨by rw [U vm,if_neg (fun h=>Bool.noConfusion h.2.1)],by rw [U kE,if_pos rfl]⟩
  go_wp2_with fail
  go_ret2
  exact ⟨by rw [(U HQ).1,(U HQ).2]; rfl,U xG⟩
 have HC3:=M (U kE)
 rw [if_neg (by simp)] at HC3
 have x0:=zb (U vI) 0 rfl
 have x1:=zb (U vI) 1 rfl
 go_wp2_with fail
 refine (U HGB2 w3 (U xG)).mono ?_
 rintro e w4 ⟨G,rfl,xy,ka⟩
 have xO:=M (ia (U xG) xy)
 have qu:=M (zl (U HY3) xy hz3)
 have oe:=M ka
 clear xy ka x0 x1 vI HY3
 simp only at oe ⊢
 by_cases hru:ru = 0
 case neg =>
  have b0:(ru != 0) = true:=by simpa using hru
  have HQ:Hid (br = 0∧bc = 8):=⟨by rw [U vm,if_neg (fun h=>hru h.2.2)],by rw [U HC3,if_pos hru]⟩
  clear hru
  go_wp2_with fail
  go_ret2
  exact ⟨by rw [(U HQ).1,(U HQ).2]; rfl,U xO⟩
 have b0:(ru != 0) = false:=by simpa using hru
 have HQ:Hid (br = re∧bc = 0):=⟨by rw [U vm,if_pos ⟨U HFZ,trivial,hru⟩],by rw [U HC3,if_neg (not_not_intro hru)]⟩
 obtain ⟨r,vq,pN,hgi⟩:=U oe hru
 have jm:=M (U HAD trivial G w3.heap.size r w4 vq pN hgi)
 clear hru pN hgi oe HAD
 obtain ⟨e0,e1,e2,e3,e4,e5,e6,e7,e8,e9,vy,vz,qj,qk⟩:=yz (U qu)
 go_wp2_with fail
 refine (U jm).mono ?_
 rintro e w5 ⟨rfl,uj⟩
 have uE:=M ((U xO).trans (uj.mono (U xG).size))
 clear uj
 go_wp2_with fail
 go_ret2
 exact ⟨by rw [(U HQ).1,(U HQ).2]; rfl,U uE⟩
def duD (next:Int) (l:List Od) (es:List Ev):Du:=if fltC next l es = 0∧(runG (gr0 next l) es).2 = 0 then dueG (runG (gr0 next l) es).1 else ⟨0,0,0,0,0⟩
def duU (next:Int) (l:List Od) (es:List Ev):Int:=if fltC next l es = 0 then (runG (gr0 next l) es).2 else 0
def duC (next:Int) (l:List Od) (es:List Ev):Int:=if fltC next l es ≠ 0 then fltC next l es else if (runG (gr0 next l) es).2 ≠ 0 then 8 else 0
def wb2 (w:World) (xs ys:List Value) (T za:TypeId):World:=(w.alloc (Obj.cells xs.toArray T)).alloc (Obj.cells ys.toArray za)
theorem wb2_box (w:World) (xs ys:List Value) (T za:TypeId):Bx (wb2 w xs ys T za) w.heap.size xs∧Bx (wb2 w xs ys T za) (w.heap.size + 1) ys∧yn w (wb2 w xs ys T za)∧w.heap.size + 1 < (wb2 w xs ys T za).heap.size:=by
 have qH:(w.alloc (Obj.cells xs.toArray T)).heap.size = w.heap.size + 1:=by simp
 have ub:Below (w.heap.size + 1) (w.alloc (Obj.cells xs.toArray T)) (wb2 w xs ys T za):=by rw [← qH]; exact gZ _ _
 refine ⟨zl (zy w xs T) ub (by omega),?_,(gZ _ _).alloc (by simp) _,by simp [wb2]⟩
 have:=zy (w.alloc (Obj.cells xs.toArray T)) ys za
 rwa [qH] at this
theorem implDueOf_any (next:Int) (vb:Value) (l:List Od) (v:Value) (es:List Ev) (w:World) (hr:RdR Od.vs 6 w vb l) (hs:SlOk vb) (kC:∀ o ∈ l,o.tag.size ≤ maxLen) (he:RdR Ev.vs 14 w v es) (hf:∀ e ∈ es,e.fit) (hE:ErrT w) :
  Calls Tryz.prog 8 #[.agg #[H next,vb],v] w fun x w'=>x = ym (.tuple #[duV (duD next l es),H (duU next l es),H (duC next l es)])∧yn w w':=by
 have hsf:=sfl
 have qV:=M (fun W (h:yn w W)=>gI next vb l v es W (zh hr h hU) kC (zh he h hU) hf (zW hE h hU))
 have HGB:Hid (fltC next l es = 0→∀ W,yn w W→Calls Tryz.prog 19 #[.agg #[H next,vb],v] W fun x w'=>BehE W.heap.size W (runG (gr0 next l) es) x w'):=fun h0 W h=>gH next vb l v es W (zh hr h hU) hs (okS_gi (flt_ok h0).2.1) (zh he h hU) (flt_ok h0).2.2 (fun e he=>(hf e he).g)
 have kJ:Hid (∀ G B r W vq,GS G B r W vq (runG (gr0 next l) es).1→GI (runG (gr0 next l) es).1→Calls Tryz.prog 21 #[I G 0] W fun x w'=>x = ym (duV (dueG (runG (gr0 next l) es).1))∧yn W w'):=fun G B r W vq Q D=>due_any W Q D
 have pd:Hid (duD next l es = if fltC next l es = 0∧(runG (gr0 next l) es).2 = 0 then dueG (runG (gr0 next l) es).1 else ⟨0,0,0,0,0⟩):=rfl
 have vm:Hid (duU next l es = if fltC next l es = 0 then (runG (gr0 next l) es).2 else 0):=rfl
 have vS:Hid (duC next l es = if fltC next l es ≠ 0 then fltC next l es else if (runG (gr0 next l) es).2 ≠ 0 then 8 else 0):=rfl
 generalize duD next l es = dd at pd ⊢
 generalize duU next l es = du at vm ⊢
 generalize duC next l es = dc at vS ⊢
 generalize fltC next l es = fc at qV HGB pd vm vS
 generalize dueG (runG (gr0 next l) es).1 = dg at kJ pd
 generalize runG (gr0 next l) es = hR at HGB kJ pd vm vS
 obtain ⟨g1,ru⟩:=hR
 simp only at kJ pd vm vS
 have H1:Hid (fc ≠ 0→dd = ⟨0,0,0,0,0⟩∧du = 0∧dc = fc):=fun h=>⟨by rw [U pd,if_neg (fun D=>h D.1)],by rw [U vm,if_neg h],by rw [U vS,if_pos h]⟩
 have H2:Hid (fc = 0→ru ≠ 0→dd = ⟨0,0,0,0,0⟩∧du = ru∧dc = 8):=fun h D=>⟨by rw [U pd,if_neg (fun X=>D X.2)],by rw [U vm,if_pos h],by rw [U vS,if_neg (not_not_intro h),if_pos D]⟩
 have H3:Hid (fc = 0→ru = 0→dd = dg∧du = 0∧dc = 0):=fun h D=>⟨by rw [U pd,if_pos ⟨h,D⟩],by rw [U vm,if_pos h,D],by rw [U vS,if_neg (not_not_intro h),if_neg (not_not_intro D)]⟩
 obtain ⟨hX,hY,hB,hZ⟩:=wb2_box w [H next,vb] [H 0,H 0,H 0,H 0,H 0] 27 39
 have HX:=M hX
 have HD:=M hY
 have HB:=M hB
 generalize hW:wb2 w [H next,vb] [H 0,H 0,H 0,H 0,H 0] 27 39 = W1 at HX HD HB hZ
 have HW:=M hW
 obtain ⟨a,cap,rfl,xD,hc⟩:=he
 clear hr hs kC hf hc hX hY hB hW pd vm vS hE
 go_enter Tryz.func8,Tryz.ntmps8
 refine ic fun xh HK=>?_
 go_wp2_with fail
 refine U HK _ _ ?_
 clear HK
 change Code.wp _ _ _ _ (wb2 w [H next,vb] [H 0,H 0,H 0,H 0,H 0] 27 39)
 rw [U HW]
 clear HW
 have x0:=zb (U HX) 0 rfl
 have x1:=zb (U HX) 1 rfl
 go_wp2_with fail
 refine (U qV W1 (U HB)).mono ?_
 rintro e w2 ⟨rfl,A⟩
 have HB:=M (ia (U HB) A)
 have HX:=M (zl (U HX) A (by omega))
 have HD:=M (zl (U HD) A hZ)
 have hZ:w.heap.size + 1 < w2.heap.size:=by have:=A.size; omega
 clear A x0 x1 qV
 by_cases hfc:fc = 0
 case neg =>
  have b0:(fc != 0) = true:=by simpa using hfc
  have HQ:=M (U H1 hfc)
  clear hfc
  have z0:=zb (U HD) 0 rfl
  have z1:=zb (U HD) 1 rfl
  have z2:=zb (U HD) 2 rfl
  have z3:=zb (U HD) 3 rfl
  have z4:=zb (U HD) 4 rfl
  have f0:=zd (U HD) 0 (by decide)
  have f1:=zd (U HD) 1 (by decide)
  have f2:=zd (U HD) 2 (by decide)
  have f3:=zd (U HD) 3 (by decide)
  have f4:=zd (U HD) 4 (by decide)
  go_wp2_with fail
  try simp (config:={ zetaDelta:=true }) only [Exit.noGoto_ret]
  change bodyPost _ _ _ _ _ (World.setCells w2 (w.heap.size + 1) 0 [H 0,H 0,H 0,H 0,H 0])
  have xq:Hid ((World.setCells w2 (w.heap.size + 1) 0 [H 0,H 0,H 0,H 0,H 0]).rangeAt (w.heap.size + 1) 0 [H 0,H 0,H 0,H 0,H 0]∧yn w (World.setCells w2 (w.heap.size + 1) 0 [H 0,H 0,H 0,H 0,H 0])):=⟨(zB (U HD) (by simp only [List.length_cons,List.length_nil])).r,zj (w.heap.size + 1) (by omega) [H 0,H 0,H 0,H 0,H 0] 0 w2 (U HB)⟩
  generalize World.setCells w2 (w.heap.size + 1) 0 [H 0,H 0,H 0,H 0,H 0] = WE at xq ⊢
  obtain ⟨d0,d1,d2,d3,d4⟩:=yC (U xq).1
  try simp only [Exit.inBlock,Exit.then]
  refine bodyPost_ret (by simp [results,Tryz.results8,go_sem,d0,d1,d2,d3,d4]; try rfl) rfl ?_
  exact ⟨by rw [(U HQ).1,(U HQ).2.1,(U HQ).2.2]; rfl,(U xq).2⟩
 have b0:(fc != 0) = false:=by simpa using hfc
 have HFZ:=M hfc
 clear hfc
 have x0:=zb (U HX) 0 rfl
 have x1:=zb (U HX) 1 rfl
 go_wp2_with fail
 refine (U HGB (U HFZ) w2 (U HB)).mono ?_
 rintro e w4 ⟨G,rfl,A,ka⟩
 have HB:=M (ia (U HB) A)
 have HX:=M (zl (U HX) A (by omega))
 have HD:=M (zl (U HD) A hZ)
 have hZ:w.heap.size + 1 < w4.heap.size:=by have:=A.size; omega
 have oe:=M ka
 clear A ka x0 x1
 simp only at oe ⊢
 by_cases hru:ru = 0
 case neg =>
  have b0:(ru != 0) = true:=by simpa using hru
  have HQ:=M (U H2 (U HFZ) hru)
  clear hru
  have z0:=zb (U HD) 0 rfl
  have z1:=zb (U HD) 1 rfl
  have z2:=zb (U HD) 2 rfl
  have z3:=zb (U HD) 3 rfl
  have z4:=zb (U HD) 4 rfl
  have f0:=zd (U HD) 0 (by decide)
  have f1:=zd (U HD) 1 (by decide)
  have f2:=zd (U HD) 2 (by decide)
  have f3:=zd (U HD) 3 (by decide)
  have f4:=zd (U HD) 4 (by decide)
  go_wp2_with fail
  try simp (config:={ zetaDelta:=true }) only [Exit.noGoto_ret]
  change bodyPost _ _ _ _ _ (World.setCells w4 (w.heap.size + 1) 0 [H 0,H 0,H 0,H 0,H 0])
  have xq:Hid ((World.setCells w4 (w.heap.size + 1) 0 [H 0,H 0,H 0,H 0,H 0]).rangeAt (w.heap.size + 1) 0 [H 0,H 0,H 0,H 0,H 0]∧yn w (World.setCells w4 (w.heap.size + 1) 0 [H 0,H 0,H 0,H 0,H 0])):=⟨(zB (U HD) (by simp only [List.length_cons,List.length_nil])).r,zj (w.heap.size + 1) (by omega) [H 0,H 0,H 0,H 0,H 0] 0 w4 (U HB)⟩
  generalize World.setCells w4 (w.heap.size + 1) 0 [H 0,H 0,H 0,H 0,H 0] = WE at xq ⊢
  obtain ⟨d0,d1,d2,d3,d4⟩:=yC (U xq).1
  try simp only [Exit.inBlock,Exit.then]
  refine bodyPost_ret (by simp [results,Tryz.results8,go_sem,d0,d1,d2,d3,d4]; try rfl) rfl ?_
  exact ⟨by rw [(U HQ).1,(U HQ).2.1,(U HQ).2.2]; rfl,(U xq).2⟩
 have b0:(ru != 0) = false:=by simpa using hru
 have HQ:=M (U H3 (U HFZ) hru)
 obtain ⟨r,vq,pN,hgi⟩:=U oe hru
 have jm:=M (U kJ G _ r w4 vq pN hgi)
 clear hru pN hgi oe kJ
 go_wp2_with fail
 refine (U jm).mono ?_
 rintro e w5 ⟨rfl,A⟩
 have HB:=M (ia (U HB) A)
 have HX:=M (zl (U HX) A (by omega))
 have HD:=M (zl (U HD) A hZ)
 have hZ:w.heap.size + 1 < w5.heap.size:=by have:=A.size; omega
 clear A
 obtain ⟨dk,di,dt,dq,dp⟩:=dg
 unfold duV
 simp only
 have z0:=zb (U HD) 0 rfl
 have z1:=zb (U HD) 1 rfl
 have z2:=zb (U HD) 2 rfl
 have z3:=zb (U HD) 3 rfl
 have z4:=zb (U HD) 4 rfl
 have f0:=zd (U HD) 0 (by decide)
 have f1:=zd (U HD) 1 (by decide)
 have f2:=zd (U HD) 2 (by decide)
 have f3:=zd (U HD) 3 (by decide)
 have f4:=zd (U HD) 4 (by decide)
 go_wp2_with fail
 try simp (config:={ zetaDelta:=true }) only [Exit.noGoto_ret]
 change bodyPost _ _ _ _ _ (World.setCells w5 (w.heap.size + 1) 0 [H dk,H di,H dt,H dq,H dp])
 have xq:Hid ((World.setCells w5 (w.heap.size + 1) 0 [H dk,H di,H dt,H dq,H dp]).rangeAt (w.heap.size + 1) 0 [H dk,H di,H dt,H dq,H dp]∧yn w (World.setCells w5 (w.heap.size + 1) 0 [H dk,H di,H dt,H dq,H dp])):=⟨(zB (U HD) (by simp only [List.length_cons,List.length_nil])).r,zj (w.heap.size + 1) (by omega) [H dk,H di,H dt,H dq,H dp] 0 w5 (U HB)⟩
 generalize World.setCells w5 (w.heap.size + 1) 0 [H dk,H di,H dt,H dq,H dp] = WE at xq ⊢
 obtain ⟨d0,d1,d2,d3,d4⟩:=yC (U xq).1
 try simp only [Exit.inBlock,Exit.then]
 refine bodyPost_ret (by simp [results,Tryz.results8,go_sem,d0,d1,d2,d3,d4]; try rfl) rfl ?_
 exact ⟨by rw [(U HQ).1,(U HQ).2.1,(U HQ).2.2]; rfl,(U xq).2⟩
end Go.Proofs.YthhkapcbocgcoaaGreatDoor
