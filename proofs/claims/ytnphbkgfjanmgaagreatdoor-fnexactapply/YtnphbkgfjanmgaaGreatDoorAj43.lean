/-
  A group behind some events, by the program: proved by walking the function.
-/
import Derived.Test.YtnphbkgfjanmgaaGreatDoorAj38
import Derived.Test.YtnphbkgfjanmgaaGreatDoorAj42
import Derived.LaidLaws
import Derived.LaidHandle
set_option linter.unusedVariables false
set_option maxHeartbeats 6400000
set_option maxRecDepth 100000
namespace Go.Proofs.YtnphbkgfjanmgaaGreatDoor
open Go.RowKit
theorem gs_base {G B B' r:Nat} {W:World} {vq:Value} {g:Gr} (h:GS G B r W vq g) (hB:B' ≤ B):GS G B' r W vq g :=
 ⟨h.box,zU h.row hB,h.typ,h.mp,yO hB h.hG,yO hB h.hr⟩
theorem runG_stop {g:Gr} {e:Ev} {r:List Ev} (h:zG g e ≠ 0):runG g (e :: r) = (g,zG g e):=by rw [runG,if_neg h]
theorem runG_go {g:Gr} {e:Ev} {r:List Ev} (h:zG g e = 0):runG g (e :: r) = runG (br g e) r:=by rw [runG,if_pos h]
def BehE (B:Nat) (w:World) (xo:Gr × Int) (x:Ending) (w':World):Prop:=∃ G,x = .returned (.tuple #[J G 0,I xo.2])∧Below B w w'∧(xo.2 = 0→∃ r vq,GS G B r w' vq xo.1∧GI xo.1)
theorem drop_ev {l:List Ev} {k:Nat} {c:Ev} (h:l[k]? = some c):l.drop k = c :: l.drop (k + 1):=by
 obtain ⟨N,rfl⟩:=yH.1 h
 exact xd N
theorem groupBehind_any (next:Int) (vb:Value) (l:List Od) (v:Value) (es:List Ev) (w:World) (hr:RdR Od.vs 6 w vb l) (hs:SlOk vb) (hi:GI (gr0 next l)) (he:RdR Ev.vs 14 w v es) (vr:∀ e ∈ es,okE e = true) (kB:∀ e ∈ es,e.cmd.g.size ≤ maxLen) :
  Calls Tryz.prog 31 #[.agg #[I next,vb],v] w fun x w'=>BehE w.heap.size w (runG (gr0 next l) es) x w':=by
 have hsf:=sfl
 have oP:Hid (∀ G k w',k = (runG (gr0 next l) es).2→yp w w'→((runG (gr0 next l) es).2 = 0→∃ r vq,GS G w.heap.size r w' vq (runG (gr0 next l) es).1∧GI (runG (gr0 next l) es).1)→BehE w.heap.size w (runG (gr0 next l) es) (.returned (.tuple #[J G 0,I k])) w'):=fun G k w' N Y h3=>⟨G,by rw [N],Y,h3⟩
 have HF0:Hid (runG (gr0 next l) es = runG (gr0 next l) es):=rfl
 generalize BehE w.heap.size w (runG (gr0 next l) es) = C at oP ⊢
 generalize hF:runG (gr0 next l) es = xo at oP
 have HF:=H hF
 clear hF HF0
 have xC:=gp w (A #[I next,vb] 34)
 have aH:=zi hr xC yb
 have HEW:=H he
 have vy:=H (fun W (h:RdR Od.vs 6 W vb l)=>beginGroup_any next vb l W h hs (yO hi.len (by decide)))
 have HR0:=H aH
 have HI:=H hi
 have HOK:=H vr
 have HSZ:=H kB
 have xX:=H xC
 have HZ0:Hid ((w.alloc (A #[I next,vb] 34)).heap.size = w.heap.size + 1):=by show _ = _; simp
 have HX0:=H (zq w [I next,vb] 34)
 obtain ⟨a,cap,rfl,xz,hc⟩:=he
 clear hr hs hi vr kB xC aH hc
 go_enter Tryz.func31,Tryz.ntmps31
 refine gv fun hR HK=>?_
 go_wp2_with fail
 refine U HK _ _ ?_
 clear HK
 generalize (w.alloc (A #[I next,vb] 34)) = W1 at HR0 xX HZ0 HX0 ⊢
 have x0:=R (U HX0) 0 rfl
 have x1:=R (U HX0) 1 rfl
 go_wp2_with fail
 refine (U vy W1 (U HR0)).mono ?_
 rintro e w2 ⟨G,r,vq,rfl,ug,xK⟩
 have hz:=U HZ0
 have uh:Hid (GS G w.heap.size r w2 vq (gr0 next l)):=gs_base ug (by omega)
 have xw:=H (gu (U xX) xK)
 clear ug xK x0 x1 hz vy HR0 HX0 xX HZ0
 go_wp2_with fail
 go_loopw [14] (fun iv wr=>∃ (k:Nat) (g:Gr) (vq:Value),k ≤ es.length∧iv = I k∧Hid (GS G w.heap.size r wr vq g)∧Hid (GI g)∧Hid (xo = runG g (es.drop k))∧Hid (yp w wr)) (fun iv _=>es.length - (intOf iv).toNat)
 case atStart=>exact ⟨0,gr0 next l,vq,Nat.zero_le _,rfl,uh,HI,(U HF).symm,xw⟩
 case round =>
  obtain ⟨k,g,vq,hk,rfl,HG,HIG,ur,HB⟩:=hrel
  have HE:=H (zi (U HEW) (U HB) yb)
  by_cases xI:k < es.length
  ·obtain ⟨e,jz⟩:∃ e,es[k]? = some e:=⟨_,yI xI⟩
   have ue:=H (U ur)
   rw [drop_ev jz] at ue
   have vX:=yP jz
   have HOE:=H (U HOK e vX)
   have HSE:=H (U HSZ e vX)
   obtain ⟨a2,cap2,e2,-,hc2⟩:=U HE
   simp only [Value.slice.injEq,true_and] at e2
   obtain ⟨rfl,rfl⟩:=e2
   obtain ⟨b,off,rfl,kr,xW⟩:=hc2 (by intro h; rw [h] at xI; simp at xI)
   have F:=xW k e jz
   have uF:(k:Int) < es.length:=by omega
   have qD:=gp wr (Obj.cells e.vs.toArray 52)
   have jw:=H (add_any e (wr.alloc (Obj.cells e.vs.toArray 52)) (zA (U HG) qD) (U HIG) (U HOE) (U HSE))
   have kJ:=H (gu (U HB) qD)
   have jm:Hid (zG g e = 0→GI (br g e)):=fun h=>gi_step (U HIG) (U HOE) h
   unfold AddE at jw
   have qg:Hid (zG g e ≠ 0→xo = (g,zG g e)):=fun h=>(U ue).trans (runG_stop h)
   have HGO:Hid (zG g e = 0→xo = runG (br g e) (es.drop (k + 1))):=fun h=>(U ue).trans (runG_go h)
   generalize zG g e = ru at jw jm qg HGO
   generalize br g e = g2 at jw jm HGO
   obtain ⟨xn,⟨ck,L,ct,V,cq,ci,O,cg⟩,id,xj,qty,xk,xi⟩:=e
   unfold evV Ev.vs at jw
   unfold Ev.vs at kJ
   simp only at jw kJ
   have x0:wr.cell? (D b (off + k * 14)) = _:=F 0 _ rfl
   have x1:=F 1 _ rfl
   have x2:=F 2 _ rfl
   have x3:=F 3 _ rfl
   have x4:=F 4 _ rfl
   have x5:=F 5 _ rfl
   have x6:=F 6 _ rfl
   have x7:=F 7 _ rfl
   have x8:=F 8 _ rfl
   have x9:=F 9 _ rfl
   have ka:=F 10 _ rfl
   have kc:=F 11 _ rfl
   have ke:=F 12 _ rfl
   have kf:=F 13 _ rfl
   clear F xW jz vX qD hc2 ue
   go_wp2_with fail
   refine (U jw).mono ?_
   rintro x w3 ⟨rfl,xQ,jU⟩
   have xN:=H ((U kJ).trans xQ)
   have vZ:=H jU
   clear xQ jU jw kJ x0 x1 x2 x3 x4 x5 x6 x7 x8 x9 ka kc ke kf
   by_cases h0:ru = 0
   ·have b0:(ru != 0) = false:=by simpa using h0
    obtain ⟨vq2,uG⟩:=U vZ h0
    have vn:=H uG
    have uw:=H (U jm h0)
    have uC:=H (U HGO h0)
    clear h0 uG qg HGO jm vZ
    go_wp2_with fail
    go_roundw
    case rel=>exact ⟨k + 1,g2,vq2,by omega,by go_num,vn,uw,uC,xN⟩
    case measure=>simp [intOf]; omega
   ·have b0:(ru != 0) = true:=by simpa using h0
    have HQ:=H (U qg h0)
    have HN0:=H h0
    clear h0 qg HGO jm vZ
    go_wp2_with fail
    exact U oP G ru _ (by rw [U HQ]) (U xN) (fun h=>absurd (by rw [U HQ] at h; exact h) (U HN0))
  ·have pd:k = es.length:=by omega
   have HQ:=H (U ur)
   rw [pd,List.drop_length,runG] at HQ
   go_wp2_with fail
   exact U oP G 0 _ (by rw [U HQ]) (U HB) (fun _=>⟨r,vq,by rw [U HQ]; exact U HG,by rw [U HQ]; exact U HIG⟩)
def RepE (w:World) (va:Value) (n0:Int) (l0:List Od) (xo:Gr × Int) (x:Ending) (w':World):Prop:=∃ cp j,x = .returned (.tuple #[J cp 0,I xo.2,I j])∧yp w w'∧(xo.2 = 0→∃ vl vd t kd dy,MS cp w.heap.size w' vl vd va xo.1 t kd n0 dy l0∧GI xo.1∧MR xo.1 t kd dy)
theorem l05Replay_any (next:Int) (vb:Value) (l:List Od) (v:Value) (es:List Ev) (w:World) (hr:RdR Od.vs 6 w vb l) (hs:SlOk vb) (hi:GI (gr0 next l)) (he:RdR Ev.vs 14 w v es) (vr:∀ e ∈ es,okE e = true) (kB:∀ e ∈ es,e.cmd.g.size ≤ maxLen) :
  Calls Tryz.prog 27 #[.agg #[I next,vb],v] w fun x w'=>RepE w vb next l (runG (gr0 next l) es) x w':=by
 have hsf:=sfl
 have oP:Hid (∀ cp k j w',k = (runG (gr0 next l) es).2→yp w w'→((runG (gr0 next l) es).2 = 0→∃ vl vd t kd dy,MS cp w.heap.size w' vl vd vb (runG (gr0 next l) es).1 t kd next dy l∧GI (runG (gr0 next l) es).1∧MR (runG (gr0 next l) es).1 t kd dy)→RepE w vb next l (runG (gr0 next l) es) (.returned (.tuple #[J cp 0,I k,I j])) w'):=fun cp k j w' N Y h3=>⟨cp,j,by rw [N],Y,h3⟩
 generalize RepE w vb next l (runG (gr0 next l) es) = C at oP ⊢
 generalize hF:runG (gr0 next l) es = xo at oP
 have HF:=H hF
 clear hF
 have xC:=gp w (A #[I next,vb] 34)
 have aH:=zi hr xC yb
 have HEW:=H he
 have vy:=H (l05Begin_any next vb l (w.alloc (A #[I next,vb] 34)) aH hs (yO hi.len (by decide)))
 have HI:=H hi
 have HOK:=H vr
 have HSZ:=H kB
 have xX:=H xC
 have HX0:=H (zq w [I next,vb] 34)
 have HNA:Hid (l ≠ []→∀ b off n c,vb = .slice (some (D b off)) n c→b < w.heap.size):=fun xA b off n c e=>by
  obtain ⟨a2,c2,e2,-,hc2⟩:=hr
  obtain ⟨b2,o2,e3,Q,-⟩:=hc2 xA
  rw [e2,e3] at e
  simp only [Value.slice.injEq,Option.some.injEq,Addr.mk.injEq,and_true] at e
  rw [← e.1.1]; exact Q
 obtain ⟨a,cap,rfl,xz,hc⟩:=he
 clear hr hs hi vr kB xC aH hc
 go_enter Tryz.func27,Tryz.ntmps27
 refine gv fun hR HK=>?_
 go_wp2_with fail
 refine U HK _ _ ?_
 clear HK
 generalize (w.alloc (A #[I next,vb] 34)) = W1 at vy xX HX0 ⊢
 have x0:=R (U HX0) 0 rfl
 have x1:=R (U HX0) 1 rfl
 go_wp2_with fail
 refine (U vy).mono ?_
 rintro e w2 ⟨cp,vl,rfl,ug,xK⟩
 have uh:Hid (MS cp w.heap.size w2 vl (.slice none 0 0) vb (gr0 next l) zOd 0 next [] l):=⟨ug.box,zU ug.row (U xX).size,ug.days,ug.ahd,ug.sla,ug.typ,yO (U xX).size ug.hO,ug.eqd,ug.ndc,U HNA⟩
 have xw:=H (gu (U xX) xK)
 clear ug xK x0 x1 vy HX0 xX
 go_wp2_with fail
 go_loopw [8] (fun iv wr=>∃ (k:Nat) (g:Gr) (vl vd:Value) (t:Od) (kd:Int) (dy:List Od),k ≤ es.length∧iv = I k∧Hid (MS cp w.heap.size wr vl vd vb g t kd next dy l)∧Hid (GI g∧MR g t kd dy)∧Hid (xo = runG g (es.drop k))∧Hid (yp w wr)) (fun iv _=>es.length - (intOf iv).toNat)
 case atStart=>exact ⟨0,gr0 next l,vl,_,zOd,0,[],Nat.zero_le _,rfl,uh,⟨U HI,mr_start next l⟩,(U HF).symm,xw⟩
 case round =>
  obtain ⟨k,g,vl,vd,t,kd,dy,hk,rfl,HG,HIG,ur,HB⟩:=hrel
  clear uh xw
  by_cases xI:k < es.length
  ·obtain ⟨e,jz⟩:∃ e,es[k]? = some e:=⟨_,yI xI⟩
   have ue:=H (U ur)
   rw [drop_ev jz] at ue
   have vX:=yP jz
   have HOE:=H (U HOK e vX)
   have HBR:=H (broken_any e wr (U HG) (U HIG).1 (U HIG).2 (ei (U HOE)) (U HSZ e vX))
   have uW:Hid (zG g e = 0→∀ W,MS cp w.heap.size W vl vd vb g t kd next dy l→Calls Tryz.prog 52 #[J cp 0,evV e] W fun x w'=>TakE cp w.heap.size vb next l g t kd dy e W x w'):=fun h0 W hW=>take_any e W hW (U HIG).1 (U HIG).2 (U HOE) h0
   have jm:Hid (zG g e = 0→GI (br g e)∧MR (br g e) (tkM g t e) (kdM kd e) (dyM g dy e)):=fun h=>⟨gi_step (U HIG).1 (U HOE) h,mr_step (U HIG).1 (U HIG).2 (U HOE) h⟩
   have qg:Hid (zG g e ≠ 0→xo = (g,zG g e)):=fun h=>(U ue).trans (runG_stop h)
   have HGO:Hid (zG g e = 0→xo = runG (br g e) (es.drop (k + 1))):=fun h=>(U ue).trans (runG_go h)
   have jr:Hid (∃ b off,a = some (D b off)∧∀ W,yp w W→W.rangeAt b (off + k * 14) e.vs):=by
    obtain ⟨a2,cap2,e2,-,hc2⟩:=U HEW
    simp only [Value.slice.injEq,true_and] at e2
    obtain ⟨rfl,rfl⟩:=e2
    obtain ⟨b,off,rfl,kr,xW⟩:=hc2 (by intro h; rw [h] at xI; simp at xI)
    exact ⟨b,off,rfl,fun W hW=>zc (xW k e jz) hW kr⟩
   obtain ⟨b,off,rfl,F⟩:=U jr
   have jB:=H F
   have uF:(k:Int) < es.length:=by omega
   have x0:wr.cell? (D b (off + k * 14)) = _:=F wr (U HB) 0 _ rfl
   have x1:=F wr (U HB) 1 _ rfl
   have x2:=F wr (U HB) 2 _ rfl
   have x3:=F wr (U HB) 3 _ rfl
   have x4:=F wr (U HB) 4 _ rfl
   have x5:=F wr (U HB) 5 _ rfl
   have x6:=F wr (U HB) 6 _ rfl
   have x7:=F wr (U HB) 7 _ rfl
   have x8:=F wr (U HB) 8 _ rfl
   have x9:=F wr (U HB) 9 _ rfl
   have ka:=F wr (U HB) 10 _ rfl
   have kc:=F wr (U HB) 11 _ rfl
   have ke:=F wr (U HB) 12 _ rfl
   have kf:=F wr (U HB) 13 _ rfl
   unfold TakE at uW
   generalize zG g e = ru at HBR uW jm qg HGO
   generalize br g e = g2 at uW jm HGO
   generalize tkM g t e = t2 at uW jm
   generalize kdM kd e = kd2 at uW jm
   generalize dyM g dy e = dy2 at uW jm
   obtain ⟨xn,⟨ck,L,ct,V,cq,ci,O,cg⟩,id,xj,qty,xk,xi⟩:=e
   unfold evV at HBR uW
   simp only at HBR uW x0 x1 x2 x3 x4 x5 x6 x7 x8 x9 ka kc ke kf
   clear F jz vX ue jr HOE
   go_wp2_with fail
   refine (U HBR).mono ?_
   rintro x w3 ⟨rfl,xQ⟩
   have xN:=H (gu (U HB) xQ)
   have vn:=H (zx (U HG) xQ)
   clear xQ HBR x0 x1 x2 x3 x4 x5 x6 x7 x8 x9 ka kc ke kf
   by_cases h0:ru = 0
   ·have b0:(ru != 0) = false:=by simpa using h0
    have jD:=H (U uW h0 w3 (U vn))
    have uw:=H (U jm h0)
    have uC:=H (U HGO h0)
    have x0:w3.cell? (D b (off + k * 14)) = _:=U jB w3 (U xN) 0 _ rfl
    have x1:=U jB w3 (U xN) 1 _ rfl
    have x2:=U jB w3 (U xN) 2 _ rfl
    have x3:=U jB w3 (U xN) 3 _ rfl
    have x4:=U jB w3 (U xN) 4 _ rfl
    have x5:=U jB w3 (U xN) 5 _ rfl
    have x6:=U jB w3 (U xN) 6 _ rfl
    have x7:=U jB w3 (U xN) 7 _ rfl
    have x8:=U jB w3 (U xN) 8 _ rfl
    have x9:=U jB w3 (U xN) 9 _ rfl
    have ka:=U jB w3 (U xN) 10 _ rfl
    have kc:=U jB w3 (U xN) 11 _ rfl
    have ke:=U jB w3 (U xN) 12 _ rfl
    have kf:=U jB w3 (U xN) 13 _ rfl
    try simp only at x0 x1 x2 x3 x4 x5 x6 x7 x8 x9 ka kc ke kf
    clear h0 qg HGO jm uW
    go_wp2_with fail
    refine (U jD).mono ?_
    rintro x w4 ⟨rfl,xy,vl2,vd2,hm4⟩
    have xH:=H ((U xN).trans xy)
    have qk:=H hm4
    clear xy hm4 jD x0 x1 x2 x3 x4 x5 x6 x7 x8 x9 ka kc ke kf
    go_wp2_with fail
    go_roundw
    case rel=>exact ⟨k + 1,g2,vl2,vd2,t2,kd2,dy2,by omega,by go_num,qk,uw,uC,xH⟩
    case measure=>simp [intOf]; omega
   ·have b0:(ru != 0) = true:=by simpa using h0
    have HQ:=H (U qg h0)
    have HN0:=H h0
    clear h0 qg HGO jm uW
    go_wp2_with fail
    exact U oP cp ru _ _ (by rw [U HQ]) (U xN) (fun h=>absurd (by rw [U HQ] at h; exact h) (U HN0))
  ·have pd:k = es.length:=by omega
   have HQ:=H (U ur)
   rw [pd,List.drop_length,runG] at HQ
   have hge:¬ ((k:Int) < es.length):=by omega
   go_wp2_with fail
   exact U oP cp 0 _ _ (by rw [U HQ]) (U HB) (fun _=>⟨vl,vd,t,kd,dy,by rw [U HQ]; exact ⟨U HG,U HIG⟩⟩)
theorem gErr:Tryz.prog.globalNamed "errors.errorType" = some 1:=by kernel_rfl
theorem rtErr:(Tryz.prog.cutTypes.find? (·.1 == "internal/reflectlite.rtype")).map (·.2) = some 257:=by kernel_rfl
theorem oneErr:((List.range 299).filter fun t=>Tryz.prog.rowNamed t [101,114,114,111,114]) = [184]:=by kernel_rfl
theorem sizeErr:Tryz.prog.types.size = 299:=by kernel_rfl
theorem err_laid {W:World} (h:laidMetH Tryz.prog [("errors.errorType",Rows.laid_errors_errorType)] W):ErrT W:=by
 have h':laidMet Tryz.prog [] W∧handlesMet Tryz.prog [("errors.errorType",Rows.laid_errors_errorType)] W:=h
 obtain ⟨name,u,ty,e1,e2,e3,e4,e5⟩:=h'.2 _ (List.mem_singleton.2 rfl)
 have en:name = [101,114,114,111,114]:=(Option.some.inj e1).symm
 subst en
 obtain rfl:=Option.some.inj (rtErr.symm.trans e2)
 have hm:ty ∈ (List.range 299).filter fun t=>Tryz.prog.rowNamed t [101,114,114,111,114]:=List.mem_filter.2 ⟨List.mem_range.2 (by rw [← sizeErr]; exact e3),e4⟩
 rw [oneErr] at hm
 obtain rfl:=List.mem_singleton.1 hm
 have hh:typeHandle Tryz.prog 184 = .pointer (some ⟨2,184,none⟩):=by kernel_rfl
 rw [hh] at e5
 simpa [ErrT] using World.var?_cell gErr e5 0
theorem allR_ids {next:Int}:∀ {l:List Od} {last:Int},allR next last l = true→∀ o ∈ l,o.id < next
 | [],_,_=>by simp
 | a :: r,last,h=>by
  simp only [allR,xf,xg] at h
  intro o Z
  rcases List.mem_cons.1 Z with rfl | Z
  ·exact h.1.2
  ·exact allR_ids h.2 o Z
theorem okS_gi {next:Int} {l:List Od} (h:okS next l = true):GI (gr0 next l):=by
 have uV:=okS_sides h
 simp only [okS,xf,xg] at h
 obtain ⟨⟨⟨N,Y⟩,h4⟩,_⟩:=h
 have hn:1 ≤ next∧next ≤ 1000000:=by simpa [betB] using N
 refine gi_start ⟨Y,fun o Z=>?_,(ft h4).1⟩ (by omega) hn.2 uV (allR_ids h4)
 have:=fG h4 o Z
 simp [ordB,betB] at this
 omega
def fltC (next:Int) (l:List Od) (es:List Ev):Int:=if 4096 < es.length then 2 else if okS next l = false ∨ es.all okE = false then 1 else 0
theorem flt_ok {next:Int} {l:List Od} {es:List Ev} (h:fltC next l es = 0):es.length ≤ 4096∧okS next l = true∧∀ e ∈ es,okE e = true:=by
 unfold fltC at h
 split at h
 ·omega
 ·split at h
  ·omega
  ·rename_i N Y
   simp only [not_or,Bool.not_eq_false] at Y
   exact ⟨by omega,Y.1,List.all_eq_true.1 Y.2⟩
theorem groupFault_any (next:Int) (vb:Value) (l:List Od) (v:Value) (es:List Ev) (w:World) (hr:RdR Od.vs 6 w vb l) (hgt:∀ o ∈ l,o.tag.size ≤ maxLen) (he:RdR Ev.vs 14 w v es) (hf:∀ e ∈ es,e.fit) (hE:ErrT w) :
  Calls Tryz.prog 30 #[.agg #[I next,vb],v] w fun x w'=>x = .returned (I (fltC next l es))∧yp w w':=by
 have xC:=gp w (A #[I next,vb] 34)
 have HBO:=H (fun W (h:yp w W)=>implBookOK_any next vb l W (zi hr h yb) hgt)
 have HAL:=H (fun W (h:yp w W)=>allRight_any v es W (zi he h yb) hf (dh hE h yb))
 have HFC:Hid (fltC next l es = if 4096 < es.length then 2 else if okS next l = false ∨ es.all okE = false then 1 else 0):=rfl
 rw [okI_eq] at HBO
 generalize fltC next l es = fc at HFC ⊢
 generalize okS next l = bo at HBO HFC
 generalize es.all okE = al at HAL HFC
 have xX:=H xC
 have HX0:=H (zq w [I next,vb] 34)
 obtain ⟨a,cap,rfl,xz,hc⟩:=he
 clear xC hr hgt hf hE hc
 go_enter Tryz.func30,Tryz.ntmps30
 refine gv fun hR HK=>?_
 go_wp2_with fail
 refine U HK _ _ ?_
 clear HK
 generalize (w.alloc (A #[I next,vb] 34)) = W1 at xX HX0 ⊢
 have x0:=R (U HX0) 0 rfl
 have x1:=R (U HX0) 1 rfl
 by_cases hl:4096 < es.length
 ·have pP:(4096:Int) < (es.length:Int):=by omega
  have HQ:Hid (fc = 2):=by show _ = _; rw [U HFC,if_pos hl]
  clear hl
  go_wp2_with fail
  go_ret
  exact ⟨by rw [U HQ]; rfl,U xX⟩
 have pP:¬ (4096:Int) < (es.length:Int):=by omega
 have HFC2:=H (U HFC)
 rw [if_neg hl] at HFC2
 clear hl HFC
 go_wp2_with fail
 refine (U HBO W1 (U xX)).mono ?_
 rintro e w2 ⟨rfl,xK⟩
 have xw:=H (gu (U xX) xK)
 clear xK
 cases bo
 ·have HQ:Hid (fc = 1):=by show _ = _; rw [U HFC2,if_pos (.inl rfl)]
  go_wp2_with fail
  go_ret
  exact ⟨by rw [U HQ]; rfl,U xw⟩
 go_wp2_with fail
 refine (U HAL w2 (U xw)).mono ?_
 rintro e w3 ⟨rfl,xQ⟩
 have xN:=H (gu (U xw) xQ)
 clear xQ
 cases al
 ·have HQ:Hid (fc = 1):=by show _ = _; rw [U HFC2,if_pos (.inr rfl)]
  go_wp2_with fail
  go_ret
  exact ⟨by rw [U HQ]; rfl,U xN⟩
 ·have HQ:Hid (fc = 0):=by show _ = _; rw [U HFC2,if_neg (by simp)]
  go_wp2_with fail
  go_ret
  exact ⟨by rw [U HQ]; rfl,U xN⟩
def wb2 (w:World) (xs ys:List Value) (T za:TypeId):World:=(w.alloc (Obj.cells xs.toArray T)).alloc (Obj.cells ys.toArray za)
theorem wb2_box (w:World) (xs ys:List Value) (T za:TypeId):Bx (wb2 w xs ys T za) w.heap.size xs∧Bx (wb2 w xs ys T za) (w.heap.size + 1) ys∧yp w (wb2 w xs ys T za)∧w.heap.size + 1 < (wb2 w xs ys T za).heap.size:=by
 have hs0:(w.alloc (Obj.cells xs.toArray T)).heap.size = w.heap.size + 1:=by simp
 have ul:Below (w.heap.size + 1) (w.alloc (Obj.cells xs.toArray T)) (wb2 w xs ys T za):=by rw [← hs0]; exact gp _ _
 refine ⟨zf (zq w xs T) ul (by omega),?_,(gp _ _).alloc (by simp) _,by simp [wb2]⟩
 have:=zq (w.alloc (Obj.cells xs.toArray T)) ys za
 rwa [hs0] at this
def endR (g:Gr):Int:=if g.bg = 0 ∨ (dueG g).kind ≠ 0 then 15 else 0
def apR (next:Int) (l:List Od) (es:List Ev):Int:=if fltC next l es ≠ 0 then 0 else if (runG (gr0 next l) es).2 = 0 then endR (runG (gr0 next l) es).1 else (runG (gr0 next l) es).2
def apC (next:Int) (l:List Od) (es:List Ev):Int:=if fltC next l es ≠ 0 then fltC next l es else if apR next l es ≠ 0 then 8 else 0
def apN (next:Int) (l:List Od) (es:List Ev):Int:=if fltC next l es = 0∧apR next l es = 0 then (runG (gr0 next l) es).1.nx else 0
def apL (next:Int) (l:List Od) (es:List Ev):List Od:=if fltC next l es = 0∧apR next l es = 0 then (runG (gr0 next l) es).1.l else []
def ApE (w:World) (n:Int) (cs:List Od) (r c:Int) (x:Ending) (w':World):Prop:=∃ v,x = yn (.tuple #[.agg #[I n,v],I r,I c])∧ORow w' w.heap.size v cs∧yp w w'
theorem fieldDu (dk di dt dq dp:Int) (W:World):Sem.run Tryz.prog (Instr.field 29 (.agg #[I dk,I di,I dt,I dq,I dp]) 0) W = .ok (I dk) W:=by kernel_rfl
theorem endRule_any {G B r:Nat} {vq:Value} {g:Gr} (w:World) (h:GS G B r w vq g) (hi:GI g):Calls Tryz.prog 42 #[J G 0] w fun e w'=>e = yn (I (endR g))∧yp w w':=by
 have hfd:=fieldDu
 have HD:=H (due_any w h hi)
 have HR:Hid (endR g = if g.bg = 0 ∨ (dueG g).kind ≠ 0 then 15 else 0):=rfl
 have c3:=R h.box 3 rfl
 generalize endR g = er at HR ⊢
 generalize dueG g = d at HD HR
 obtain ⟨dk,di,dt,dq,dp⟩:=d
 unfold duV at HD
 simp only at HD HR
 clear h hi
 by_cases Q:g.bg = 0
 ·have HQ:=H (U HR)
  rw [if_pos (.inl Q)] at HQ
  rw [Q] at c3
  go_enter Tryz.func42,Tryz.ntmps42
  go_wp2_with fail
  go_ret
  exact ⟨by rw [U HQ]; rfl,Below.refl _ _⟩
 ·have b0:(g.bg == 0) = false:=by simpa using Q
  by_cases hk:dk = 0
  ·have HQ:=H (U HR)
   rw [if_neg (fun h=>h.elim Q (fun h=>h hk))] at HQ
   have b1:(dk != 0) = false:=by simpa using hk
   clear hk Q
   go_enter Tryz.func42,Tryz.ntmps42
   go_wp2_with fail
   refine (U HD).mono ?_
   rintro e w2 ⟨rfl,xK⟩
   have HB:=H xK
   clear xK
   go_wp2_with fail
   go_ret
   exact ⟨by rw [U HQ]; rfl,U HB⟩
  ·have HQ:=H (U HR)
   rw [if_pos (.inr hk)] at HQ
   have b1:(dk != 0) = true:=by simpa using hk
   clear hk Q
   go_enter Tryz.func42,Tryz.ntmps42
   go_wp2_with fail
   refine (U HD).mono ?_
   rintro e w2 ⟨rfl,xK⟩
   have HB:=H xK
   clear xK
   go_wp2_with fail
   go_ret
   exact ⟨by rw [U HQ]; rfl,U HB⟩
theorem implApply_any (next:Int) (vb:Value) (l:List Od) (v:Value) (es:List Ev) (w:World) (hr:RdR Od.vs 6 w vb l) (hs:SlOk vb) (hgt:∀ o ∈ l,o.tag.size ≤ maxLen) (he:RdR Ev.vs 14 w v es) (hf:∀ e ∈ es,e.fit) (hE:ErrT w) :
  Calls Tryz.prog 20 #[.agg #[I next,vb],v] w fun x w'=>ApE w (apN next l es) (apL next l es) (apR next l es) (apC next l es) x w':=by
 have hsf:=sfl
 have kY:=H (fun W (h:yp w W)=>groupFault_any next vb l v es W (zi hr h yb) hgt (zi he h yb) hf (dh hE h yb))
 have HGB:Hid (fltC next l es = 0→∀ W,yp w W→Calls Tryz.prog 31 #[.agg #[I next,vb],v] W fun x w'=>BehE W.heap.size W (runG (gr0 next l) es) x w'):=fun h0 W h=>groupBehind_any next vb l v es W (zi hr h yb) hs (okS_gi (flt_ok h0).2.1) (zi he h yb) (flt_ok h0).2.2 (fun e he=>(hf e he).g)
 have kg:Hid (∀ G B r W vq,GS G B r W vq (runG (gr0 next l) es).1→GI (runG (gr0 next l) es).1→Calls Tryz.prog 42 #[J G 0] W fun x w'=>x = yn (I (endR (runG (gr0 next l) es).1))∧yp W w'):=fun G B r W vq N Y=>endRule_any W N Y
 have HR:Hid (apR next l es = if fltC next l es ≠ 0 then 0 else if (runG (gr0 next l) es).2 = 0 then endR (runG (gr0 next l) es).1 else (runG (gr0 next l) es).2):=rfl
 have HC:Hid (apC next l es = if fltC next l es ≠ 0 then fltC next l es else if apR next l es ≠ 0 then 8 else 0):=rfl
 have HN:Hid (apN next l es = if fltC next l es = 0∧apR next l es = 0 then (runG (gr0 next l) es).1.nx else 0):=rfl
 have HL:Hid (apL next l es = if fltC next l es = 0∧apR next l es = 0 then (runG (gr0 next l) es).1.l else []):=rfl
 generalize apN next l es = an at HN ⊢
 generalize apL next l es = al at HL ⊢
 generalize apC next l es = ac at HC ⊢
 generalize apR next l es = ar at HR HC HN HL ⊢
 generalize fltC next l es = fc at kY HGB HR HC HN HL
 generalize endR (runG (gr0 next l) es).1 = er at kg HR
 generalize runG (gr0 next l) es = xo at HGB kg HR HN HL
 obtain ⟨g1,ru⟩:=xo
 simp only at kg HR HN HL
 have H1:Hid (fc ≠ 0→an = 0∧al = []∧ar = 0∧ac = fc):=fun h=>⟨by rw [U HN,if_neg (fun Y=>h Y.1)],by rw [U HL,if_neg (fun Y=>h Y.1)],by rw [U HR,if_pos h],by rw [U HC,if_pos h]⟩
 have H2:Hid (∀ q,fc = 0→(if ru = 0 then er else ru) = q→q ≠ 0→an = 0∧al = []∧ar = q∧ac = 8):=fun q h hq Y=>by
  have ha:ar = q:=by rw [U HR,if_neg (not_not_intro h),hq]
  exact ⟨by rw [U HN,if_neg (fun h3=>Y (ha ▸ h3.2))],by rw [U HL,if_neg (fun h3=>Y (ha ▸ h3.2))],ha,by rw [U HC,if_neg (not_not_intro h),if_pos (ha ▸ Y)]⟩
 have H3:Hid (fc = 0→ru = 0→er = 0→an = g1.nx∧al = g1.l∧ar = 0∧ac = 0):=fun h Y h3=>by
  have ha:ar = 0:=by rw [U HR,if_neg (not_not_intro h),if_pos Y,h3]
  exact ⟨by rw [U HN,if_pos ⟨h,ha⟩],by rw [U HL,if_pos ⟨h,ha⟩],ha,by rw [U HC,if_neg (not_not_intro h),if_neg (not_not_intro ha)]⟩
 unfold ApE
 obtain ⟨hX,hY,hB,hZ⟩:=wb2_box w [I next,vb] [I 0,.slice none 0 0] 34 34
 have HX:=H hX
 have HD:=H hY
 have HB:=H hB
 generalize hW:wb2 w [I next,vb] [I 0,.slice none 0 0] 34 34 = W1 at HX HD HB hZ
 have HW:=H hW
 obtain ⟨a,cap,rfl,xz,hc⟩:=he
 clear hr hs hgt hf hc hX hY hB hW HR HC HN HL hE
 go_enter Tryz.func20,Tryz.ntmps20
 refine gv fun hR HK=>?_
 go_wp2_with fail
 refine U HK _ _ ?_
 clear HK
 change Code.wp _ _ _ _ (wb2 w [I next,vb] [I 0,.slice none 0 0] 34 34)
 rw [U HW]
 clear HW
 have x0:=R (U HX) 0 rfl
 have x1:=R (U HX) 1 rfl
 go_wp2_with fail
 refine (U kY W1 (U HB)).mono ?_
 rintro e w2 ⟨rfl,Q⟩
 have HB:=H (gu (U HB) Q)
 have HX:=H (zf (U HX) Q (by omega))
 have HD:=H (zf (U HD) Q hZ)
 have hZ:w.heap.size + 1 < w2.heap.size:=by have:=Q.size; omega
 clear Q x0 x1 kY
 by_cases hfc:fc = 0
 case neg =>
  have b0:(fc != 0) = true:=by simpa using hfc
  have HQ:=H (U H1 hfc)
  clear hfc
  have z0:=R (U HD) 0 rfl
  have z1:=R (U HD) 1 rfl
  have f0:=zd (U HD) 0 (by decide)
  have f1:=zd (U HD) 1 (by decide)
  go_wp2_with fail
  try simp (config:={ zetaDelta:=true }) only [Exit.noGoto_ret]
  change bodyPost _ _ _ _ _ (World.setCells w2 (w.heap.size + 1) 0 [I 0,.slice none 0 0])
  have xp:Hid ((World.setCells w2 (w.heap.size + 1) 0 [I 0,.slice none 0 0]).rangeAt (w.heap.size + 1) 0 [I 0,.slice none 0 0]∧yp w (World.setCells w2 (w.heap.size + 1) 0 [I 0,.slice none 0 0])∧ORow (World.setCells w2 (w.heap.size + 1) 0 [I 0,.slice none 0 0]) w.heap.size (.slice none 0 0) []):=⟨(zu (U HD) (by simp only [List.length_cons,List.length_nil])).r,zh (w.heap.size + 1) (by omega) [I 0,.slice none 0 0] 0 w2 (U HB),World.ownsRow_nil _ _ _ _⟩
  generalize World.setCells w2 (w.heap.size + 1) 0 [I 0,.slice none 0 0] = WE at xp ⊢
  have d0:WE.cell? (D (w.heap.size + 1) 0) = some (I 0):=(U xp).1 0 _ rfl
  have d1:WE.cell? (D (w.heap.size + 1) 1) = some (.slice none 0 0):=(U xp).1 1 _ rfl
  try simp only [Exit.inBlock,Exit.then]
  refine bodyPost_ret (by simp [results,Tryz.results20,go_sem,d0,d1]; try rfl) rfl ?_
  refine ⟨_,by rw [(U HQ).1,(U HQ).2.2.1,(U HQ).2.2.2]; try rfl,?_,(U xp).2.1⟩
  rw [(U HQ).2.1]
  exact (U xp).2.2
 have b0:(fc != 0) = false:=by simpa using hfc
 have HFZ:=H hfc
 clear hfc
 have x0:=R (U HX) 0 rfl
 have x1:=R (U HX) 1 rfl
 have hBW:w.heap.size + 1 < w2.heap.size:=hZ
 go_wp2_with fail
 refine (U HGB (U HFZ) w2 (U HB)).mono ?_
 rintro e w4 ⟨G,rfl,Q,hs4⟩
 have HB:=H (gu (U HB) Q)
 have HX:=H (zf (U HX) Q (by omega))
 have HD:=H (zf (U HD) Q hZ)
 have hZ:w.heap.size + 1 < w4.heap.size:=by have:=Q.size; omega
 have pF:=H hs4
 clear Q hs4 x0 x1
 simp only at pF ⊢
 by_cases hru:ru = 0
 case neg =>
  have b1:(ru == 0) = false:=by simpa using hru
  have b2:(ru != 0) = true:=by simpa using hru
  have HQ:=H (U H2 ru (U HFZ) (if_neg hru) hru)
  clear hru
  have z0:=R (U HD) 0 rfl
  have z1:=R (U HD) 1 rfl
  have f0:=zd (U HD) 0 (by decide)
  have f1:=zd (U HD) 1 (by decide)
  go_wp2_with fail
  try simp (config:={ zetaDelta:=true }) only [Exit.noGoto_ret]
  change bodyPost _ _ _ _ _ (World.setCells w4 (w.heap.size + 1) 0 [I 0,.slice none 0 0])
  have xp:Hid ((World.setCells w4 (w.heap.size + 1) 0 [I 0,.slice none 0 0]).rangeAt (w.heap.size + 1) 0 [I 0,.slice none 0 0]∧yp w (World.setCells w4 (w.heap.size + 1) 0 [I 0,.slice none 0 0])∧ORow (World.setCells w4 (w.heap.size + 1) 0 [I 0,.slice none 0 0]) w.heap.size (.slice none 0 0) []):=⟨(zu (U HD) (by simp only [List.length_cons,List.length_nil])).r,zh (w.heap.size + 1) (by omega) [I 0,.slice none 0 0] 0 w4 (U HB),World.ownsRow_nil _ _ _ _⟩
  generalize World.setCells w4 (w.heap.size + 1) 0 [I 0,.slice none 0 0] = WE at xp ⊢
  have d0:WE.cell? (D (w.heap.size + 1) 0) = some (I 0):=(U xp).1 0 _ rfl
  have d1:WE.cell? (D (w.heap.size + 1) 1) = some (.slice none 0 0):=(U xp).1 1 _ rfl
  try simp only [Exit.inBlock,Exit.then]
  refine bodyPost_ret (by simp [results,Tryz.results20,go_sem,d0,d1]; try rfl) rfl ?_
  refine ⟨_,by rw [(U HQ).1,(U HQ).2.2.1,(U HQ).2.2.2]; try rfl,?_,(U xp).2.1⟩
  rw [(U HQ).2.1]
  exact (U xp).2.2
 have b1:(ru == 0) = true:=by simpa using hru
 obtain ⟨r,vq,hgs,hgi⟩:=U pF hru
 have jw:=H (U kg G _ r w4 vq hgs hgi)
 have HGS:=H hgs
 have HLQ:=H hgi.len
 have HRZ:=H hru
 clear hru hgs hgi pF kg
 go_wp2_with fail
 refine (U jw).mono ?_
 rintro e w5 ⟨rfl,Q⟩
 have HGS:=H (zA (U HGS) Q)
 have HB:=H (gu (U HB) Q)
 have HX:=H (zf (U HX) Q (by omega))
 have HD:=H (zf (U HD) Q hZ)
 have hZ:w.heap.size + 1 < w5.heap.size:=by have:=Q.size; omega
 clear Q b1
 by_cases jk:er = 0
 case neg =>
  have b2:(er != 0) = true:=by simpa using jk
  have HQ:=H (U H2 er (U HFZ) (if_pos (U HRZ)) jk)
  clear jk
  have z0:=R (U HD) 0 rfl
  have z1:=R (U HD) 1 rfl
  have f0:=zd (U HD) 0 (by decide)
  have f1:=zd (U HD) 1 (by decide)
  go_wp2_with fail
  try simp (config:={ zetaDelta:=true }) only [Exit.noGoto_ret]
  change bodyPost _ _ _ _ _ (World.setCells w5 (w.heap.size + 1) 0 [I 0,.slice none 0 0])
  have xp:Hid ((World.setCells w5 (w.heap.size + 1) 0 [I 0,.slice none 0 0]).rangeAt (w.heap.size + 1) 0 [I 0,.slice none 0 0]∧yp w (World.setCells w5 (w.heap.size + 1) 0 [I 0,.slice none 0 0])∧ORow (World.setCells w5 (w.heap.size + 1) 0 [I 0,.slice none 0 0]) w.heap.size (.slice none 0 0) []):=⟨(zu (U HD) (by simp only [List.length_cons,List.length_nil])).r,zh (w.heap.size + 1) (by omega) [I 0,.slice none 0 0] 0 w5 (U HB),World.ownsRow_nil _ _ _ _⟩
  generalize World.setCells w5 (w.heap.size + 1) 0 [I 0,.slice none 0 0] = WE at xp ⊢
  have d0:WE.cell? (D (w.heap.size + 1) 0) = some (I 0):=(U xp).1 0 _ rfl
  have d1:WE.cell? (D (w.heap.size + 1) 1) = some (.slice none 0 0):=(U xp).1 1 _ rfl
  try simp only [Exit.inBlock,Exit.then]
  refine bodyPost_ret (by simp [results,Tryz.results20,go_sem,d0,d1]; try rfl) rfl ?_
  refine ⟨_,by rw [(U HQ).1,(U HQ).2.2.1,(U HQ).2.2.2]; try rfl,?_,(U xp).2.1⟩
  rw [(U HQ).2.1]
  exact (U xp).2.2
 have b2:(er != 0) = false:=by simpa using jk
 have HQ:=H (U H3 (U HFZ) (U HRZ) jk)
 clear jk
 obtain ⟨qa,qc,rfl⟩:=cA (zI (U HGS).row (yO (U HLQ) (by decide)))
 have c1:=R (U HGS).box 1 rfl
 have c2:=R (U HGS).box 2 rfl
 have z0:=R (U HD) 0 rfl
 have z1:=R (U HD) 1 rfl
 have f0:=zd (U HD) 0 (by decide)
 have f1:=zd (U HD) 1 (by decide)
 go_wp2_with fail
 try simp (config:={ zetaDelta:=true }) only [Exit.noGoto_ret]
 change bodyPost _ _ _ _ _ (World.setCells w5 (w.heap.size + 1) 0 [I g1.nx,.slice qa g1.l.length qc])
 have xp:Hid ((World.setCells w5 (w.heap.size + 1) 0 [I g1.nx,.slice qa g1.l.length qc]).rangeAt (w.heap.size + 1) 0 [I g1.nx,.slice qa g1.l.length qc]∧yp w (World.setCells w5 (w.heap.size + 1) 0 [I g1.nx,.slice qa g1.l.length qc])∧ORow (World.setCells w5 (w.heap.size + 1) 0 [I g1.nx,.slice qa g1.l.length qc]) w.heap.size (.slice qa g1.l.length qc) g1.l):=⟨(zu (U HD) (by simp only [List.length_cons,List.length_nil])).r,zh (w.heap.size + 1) (by omega) [I g1.nx,.slice qa g1.l.length qc] 0 w5 (U HB),dR (fun e=>by have:=((U HGS).row.lt _ e.symm).1; omega) [I g1.nx,.slice qa g1.l.length qc] 0 w5 (zU (U HGS).row (by omega))⟩
 generalize World.setCells w5 (w.heap.size + 1) 0 [I g1.nx,.slice qa g1.l.length qc] = WE at xp ⊢
 have d0:WE.cell? (D (w.heap.size + 1) 0) = some (I g1.nx):=(U xp).1 0 _ rfl
 have d1:WE.cell? (D (w.heap.size + 1) 1) = some (.slice qa g1.l.length qc):=(U xp).1 1 _ rfl
 try simp only [Exit.inBlock,Exit.then]
 refine bodyPost_ret (by simp [results,Tryz.results20,go_sem,d0,d1]; try rfl) rfl ?_
 refine ⟨_,by rw [(U HQ).1,(U HQ).2.2.1,(U HQ).2.2.2]; try rfl,?_,(U xp).2.1⟩
 rw [(U HQ).2.1]
 exact (U xp).2.2
end Go.Proofs.YtnphbkgfjanmgaaGreatDoor
