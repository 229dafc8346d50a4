/-
  A group begun, by the program: the map of checks, the book copied; proved by walking the function.
-/
import Derived.Test.YtnphbkgfjanmgaaGreatDoorBj40
import Derived.Test.YtnphbkgfjanmgaaGreatDoorBj44
import Derived.Maps.Own
import Derived.WideMake
import Derived.LaidLaws
import Derived.LaidHandle
set_option linter.unusedVariables false
set_option maxHeartbeats 6400000
set_option maxRecDepth 100000
namespace Go.Proofs.YtnphbkgfjanmgaaGreatDoor
open Go.RowKit
structure MUp (r:Nat) (w w':World):Prop where
 os:w'.os = w.os
 tape:w'.tape = w.tape
 output:w'.output = w.output
 size:w'.heap.size = w.heap.size
 block:∀ k,k ≠ r→w'.heap[k]? = w.heap[k]?
theorem cW {r:Nat} {w w1 w2:World} (Q:MUp r w w1) (E:MUp r w1 w2):MUp r w w2 :=
 ⟨E.os.trans Q.os,E.tape.trans Q.tape,E.output.trans Q.output,E.size.trans Q.size,fun k hk=>(E.block k hk).trans (Q.block k hk)⟩
theorem stepI {W:World} {r clk:Nat} {es:Array MapEntry} (k:Int) (f:FuncId) (Y:W.heap[r]? = some (.map es clk)) (hf:Instr.findNow (TypeDesc.int .i64) (I k) es.toList 0 = some none) :
  ∃ W1,(Instr.mapUpdate 83 (.map (some r)) (I k) (.func (.func f) #[] #[])).run Tryz.prog W = .ok () W1∧W1.heap[r]? = some (.map (es.push (mI k f clk)) (clk + 1))∧MUp r W W1:=by
 have hk:=Tryz.underlying3
 have hc:(Instr.checkKey false 10000 3 (I k)).run Tryz.prog W = .ok () W:=MapKept.run_checkKey (k:=I k) hk (by simp [MapKept.IsKey]) false 9999
 refine ⟨{ W with heap:=W.heap.setIfInBounds r (.map (es.push (mI k f clk)) (clk + 1)) },?_,(MapKept.heap_set Y).1,⟨rfl,rfl,rfl,by simp,fun j O=>?_⟩⟩
 ·simp [Instr.mapUpdate,run_underlying Tryz.underlying83,MapKept.run_getObj_map Y,hc,MapKept.run_findKey hk hf,MapKept.run_setObj_map _ Y,Result.andThen,mI]
 ·show (W.heap.setIfInBounds r _)[j]? = _
  exact Array.getElem?_setIfInBounds_ne (Ne.symm O)
theorem gs_new {w W:World} {r:Nat} {next:Int} {vq:Value} {l:List Od} (Y:yn w W) (N:ORow W w.heap.size vq l) (hm:W.heap[r]? = some (.map chkM 9)) (hr:w.heap.size ≤ r) :
  GS W.heap.size w.heap.size r (W.alloc (A (gsV r vq (gr0 next l)).toArray 87)) vq (gr0 next l)∧yn w (W.alloc (A (gsV r vq (gr0 next l)).toArray 87)):=by
 have qA:=fE W (A (gsV r vq (gr0 next l)).toArray 87)
 exact ⟨⟨zq W _ _,zM N qA,⟨_,heap_alloc_new W _⟩,(qA.block r (yY.1 hm).1).trans hm,Y.size,hr⟩,Y.trans (qA.mono Y.size)⟩
theorem beginGroup_any (next:Int) (v:Value) (l:List Od) (w:World) (hr:RdR Od.vs 6 w v l) (hs:SlOk v) (hn:l.length ≤ 1000) :
  Calls Tryz.prog 58 #[.agg #[I next,v]] w fun e w'=>∃ G r vq,e = .returned (J G 0)∧GS G w.heap.size r w' vq (gr0 next l)∧yn w w':=by
 have hmm:=@run_makeMap Tryz.prog
 have hmp:=@run_makeMap_plain Tryz.prog
 have xK:(w.alloc (A #[I next,v] 34)).heap.size = w.heap.size + 1:=by simp
 have h0:((w.alloc (A #[I next,v] 34)).alloc (Obj.map #[] 0)).heap[w.heap.size + 1]? = some (.map #[] 0):=by
  have:=(MapKept.heap_alloc (w.alloc (A #[I next,v] 34)) (Obj.map #[] 0)).1
  rwa [xK] at this
 have xz:yn w ((w.alloc (A #[I next,v] 34)).alloc (Obj.map #[] 0)):=(fE _ _).alloc (by rw [xK]; omega) _
 have hx0:Bx ((w.alloc (A #[I next,v] 34)).alloc (Obj.map #[] 0)) w.heap.size [I next,v]:=zg (zq w [I next,v] 34) ((Below.refl (w.heap.size + 1) _).alloc (by rw [xK]; omega) _) (by omega)
 obtain ⟨W1,u1,o1,m1⟩:=stepI 1 87 h0 rfl
 obtain ⟨W2,u2,o2,m2⟩:=stepI 2 88 o1 rfl
 obtain ⟨W3,u3,o3,m3⟩:=stepI 3 89 o2 rfl
 obtain ⟨W4,u4,o4,m4⟩:=stepI 4 90 o3 rfl
 obtain ⟨W5,u5,o5,m5⟩:=stepI 5 91 o4 rfl
 obtain ⟨W6,u6,o6,m6⟩:=stepI 6 92 o5 rfl
 obtain ⟨W7,u7,o7,m7⟩:=stepI 7 93 o6 rfl
 obtain ⟨W8,u8,o8,m8⟩:=stepI 8 94 o7 rfl
 obtain ⟨W9,u9,o9,m9⟩:=stepI 9 95 o8 rfl
 have hm:=cW (cW (cW (cW (cW (cW (cW (cW m1 m2) m3) m4) m5) m6) m7) m8) m9
 have HO9:Hid (W9.heap[w.heap.size + 1]? = some (.map chkM 9)):=o9
 have oK:yn w W9:=⟨hm.os.trans xz.os,hm.tape.trans xz.tape,hm.output.trans xz.output,by rw [hm.size]; exact xz.size,fun k hk=>(hm.block k (by omega)).trans (xz.block k hk)⟩
 have HX9:Hid (Bx W9 w.heap.size [I next,v]):=aS hx0 (hm.block w.heap.size (by omega))
 have pF:=M oK
 have HR9:=M (zh hr oK ya)
 have km:=M hs
 clear h0 xz hx0 o1 o2 o3 o4 o5 o6 o7 o8 o9 m1 m2 m3 m4 m5 m6 m7 m8 m9 hm oK hr hs xK
 go_enter Tryz.func58,Tryz.ntmps58
 have x0:=R (H HX9) 0 rfl
 have x1:=R (H HX9) 1 rfl
 go_wp2_with fail
 refine (copyBook_any next v l W9 (H HR9) (H km) hn).mono ?_
 rintro e w3 ⟨vq,rfl,aL,xM⟩
 have HGN:=M (gs_new (next:=next) (fH (H pF) xM) (zS aL (H pF).size) ((xM.block (w.heap.size + 1) (yY.1 (H HO9)).1).trans (H HO9)) (Nat.le_succ _))
 clear aL xM u1 u2 u3 u4 u5 u6 u7 u8 u9 x0 x1
 unfold gsV gr0 zCm zOd at HGN
 go_wp2_with fail
 go_ret
 exact ⟨_,_,vq,rfl,(H HGN).1,(H HGN).2⟩
theorem gs_base {G B B' r:Nat} {W:World} {vq:Value} {g:Gr} (h:GS G B r W vq g) (hB:B' ≤ B):GS G B' r W vq g :=
 ⟨h.box,zS h.row hB,h.typ,h.mp,yN hB h.hG,yN hB h.hr⟩
theorem runG_stop {g:Gr} {e:Ev} {r:List Ev} (h:zD g e ≠ 0):runG g (e :: r) = (g,zD g e):=by rw [runG,if_neg h]
theorem runG_go {g:Gr} {e:Ev} {r:List Ev} (h:zD g e = 0):runG g (e :: r) = runG (aQ g e) r:=by rw [runG,if_pos h]
def BehE (B:Nat) (w:World) (cl:Gr × Int) (x:Ending) (w':World):Prop:=∃ G,x = .returned (.tuple #[J G 0,I cl.2])∧Below B w w'∧(cl.2 = 0→∃ r vq,GS G B r w' vq cl.1∧GI cl.1)
theorem drop_ev {l:List Ev} {k:Nat} {c:Ev} (h:l[k]? = some c):l.drop k = c :: l.drop (k + 1):=by
 obtain ⟨Q,rfl⟩:=yG.1 h
 exact xc Q
theorem groupBehind_any (next:Int) (vb:Value) (l:List Od) (v:Value) (es:List Ev) (w:World) (hr:RdR Od.vs 6 w vb l) (hs:SlOk vb) (hi:GI (gr0 next l)) (he:RdR Ev.vs 14 w v es) (vw:∀ e ∈ es,okE e = true) (kS:∀ e ∈ es,e.cmd.g.size ≤ maxLen) :
  Calls Tryz.prog 31 #[.agg #[I next,vb],v] w fun x w'=>BehE w.heap.size w (runG (gr0 next l) es) x w':=by
 have hsf:=sfl
 have oD:Hid (∀ G k w',k = (runG (gr0 next l) es).2→yn w w'→((runG (gr0 next l) es).2 = 0→∃ r vq,GS G w.heap.size r w' vq (runG (gr0 next l) es).1∧GI (runG (gr0 next l) es).1)→BehE w.heap.size w (runG (gr0 next l) es) (.returned (.tuple #[J G 0,I k])) w'):=fun G k w' Q E h3=>⟨G,by rw [Q],E,h3⟩
 have HF0:Hid (runG (gr0 next l) es = runG (gr0 next l) es):=rfl
 generalize BehE w.heap.size w (runG (gr0 next l) es) = C at oD ⊢
 generalize hF:runG (gr0 next l) es = cl at oD
 have HF:=M hF
 clear hF HF0
 have xz:=fE w (A #[I next,vb] 34)
 have ai:=zh hr xz ya
 have HEW:=M he
 have vu:=M (fun W (h:RdR Od.vs 6 W vb l)=>beginGroup_any next vb l W h hs (yN hi.len (by decide)))
 have HR0:=M ai
 have HI:=M hi
 have jW:=M vw
 have HSZ:=M kS
 have xS:=M xz
 have HZ0:Hid ((w.alloc (A #[I next,vb] 34)).heap.size = w.heap.size + 1):=by show _ = _; simp
 have qQ:=M (zq w [I next,vb] 34)
 obtain ⟨a,cap,rfl,xA,hc⟩:=he
 clear hr hs hi vw kS xz ai hc
 go_enter Tryz.func31,Tryz.ntmps31
 refine fI fun hR HK=>?_
 go_wp2_with fail
 refine H HK _ _ ?_
 clear HK
 generalize (w.alloc (A #[I next,vb] 34)) = W1 at HR0 xS HZ0 qQ ⊢
 have x0:=R (H qQ) 0 rfl
 have x1:=R (H qQ) 1 rfl
 go_wp2_with fail
 refine (H vu W1 (H HR0)).mono ?_
 rintro e w2 ⟨G,r,vq,rfl,ue,xJ⟩
 have hz:=H HZ0
 have uh:Hid (GS G w.heap.size r w2 vq (gr0 next l)):=gs_base ue (by omega)
 have xu:=M (fH (H xS) xJ)
 clear ue xJ x0 x1 hz vu HR0 qQ xS HZ0
 go_wp2_with fail
 go_loopw [14] (fun iv wr=>∃ (k:Nat) (g:Gr) (vq:Value),k ≤ es.length∧iv = I k∧Hid (GS G w.heap.size r wr vq g)∧Hid (GI g)∧Hid (cl = runG g (es.drop k))∧Hid (yn w wr)) (fun iv _=>es.length - (intOf iv).toNat)
 case atStart=>exact ⟨0,gr0 next l,vq,Nat.zero_le _,rfl,uh,HI,(H HF).symm,xu⟩
 case round =>
  obtain ⟨k,g,vq,hk,rfl,HG,HIG,uo,HB⟩:=hrel
  have HE:=M (zh (H HEW) (H HB) ya)
  by_cases xI:k < es.length
  ·obtain ⟨e,jq⟩:∃ e,es[k]? = some e:=⟨_,yH xI⟩
   have uc:=M (H uo)
   rw [drop_ev jq] at uc
   have vR:=yO jq
   have HOE:=M (H jW e vR)
   have HSE:=M (H HSZ e vR)
   obtain ⟨a2,cap2,e2,-,hc2⟩:=H HE
   simp only [Value.slice.injEq,true_and] at e2
   obtain ⟨rfl,rfl⟩:=e2
   obtain ⟨b,off,rfl,kC,xV⟩:=hc2 (by intro h; rw [h] at xI; simp at xI)
   have V:=xV k e jq
   have uJ:(k:Int) < es.length:=by omega
   have qA:=fE wr (Obj.cells e.vs.toArray 52)
   have jT:=M (add_any e (wr.alloc (Obj.cells e.vs.toArray 52)) (zx (H HG) qA) (H HIG) (H HOE) (H HSE))
   have kt:=M (fH (H HB) qA)
   have jd:Hid (zD g e = 0→GI (aQ g e)):=fun h=>gi_step (H HIG) (H HOE) h
   unfold AddE at jT
   have vZ:Hid (zD g e ≠ 0→cl = (g,zD g e)):=fun h=>(H uc).trans (runG_stop h)
   have HGO:Hid (zD g e = 0→cl = runG (aQ g e) (es.drop (k + 1))):=fun h=>(H uc).trans (runG_go h)
   generalize zD g e = ru at jT jd vZ HGO
   generalize aQ g e = g2 at jT jd HGO
   obtain ⟨xm,⟨ck,L,ct,F,cq,ci,X,cg⟩,id,xi,qty,xj,xh⟩:=e
   unfold evV Ev.vs at jT
   unfold Ev.vs at kt
   simp only at jT kt
   have x0:wr.cell? (U b (off + k * 14)) = _:=V 0 _ rfl
   have x1:=V 1 _ rfl
   have x2:=V 2 _ rfl
   have x3:=V 3 _ rfl
   have x4:=V 4 _ rfl
   have x5:=V 5 _ rfl
   have x6:=V 6 _ rfl
   have x7:=V 7 _ rfl
   have x8:=V 8 _ rfl
   have x9:=V 9 _ rfl
   have jP:=V 10 _ rfl
   have jQ:=V 11 _ rfl
   have jR:=V 12 _ rfl
   have jS:=V 13 _ rfl
   clear V xV jq vR qA hc2 uc
   go_wp2_with fail
   refine (H jT).mono ?_
   rintro x w3 ⟨rfl,xM,jJ⟩
   have xL:=M ((H kt).trans xM)
   have vT:=M jJ
   clear xM jJ jT kt x0 x1 x2 x3 x4 x5 x6 x7 x8 x9 jP jQ jR jS
   by_cases h0:ru = 0
   ·have b0:(ru != 0) = false:=by simpa using h0
    obtain ⟨vq2,uG⟩:=H vT h0
    have vi:=M uG
    have ut:=M (H jd h0)
    have uE:=M (H HGO h0)
    clear h0 uG vZ HGO jd vT
    go_wp2_with fail
    go_roundw
    case rel=>exact ⟨k + 1,g2,vq2,by omega,by go_num,vi,ut,uE,xL⟩
    case measure=>simp [intOf]; omega
   ·have b0:(ru != 0) = true:=by simpa using h0
    have HQ:=M (H vZ h0)
    have HN0:=M h0
    clear h0 vZ HGO jd vT
    go_wp2_with fail
    exact H oD G ru _ (by rw [H HQ]) (H xL) (fun h=>absurd (by rw [H HQ] at h; exact h) (H HN0))
  ·have oN:k = es.length:=by omega
   have HQ:=M (H uo)
   rw [oN,List.drop_length,runG] at HQ
   go_wp2_with fail
   exact H oD G 0 _ (by rw [H HQ]) (H HB) (fun _=>⟨r,vq,by rw [H HQ]; exact H HG,by rw [H HQ]; exact H HIG⟩)
def RepE (w:World) (va:Value) (n0:Int) (l0:List Od) (cl:Gr × Int) (x:Ending) (w':World):Prop:=∃ hj j,x = .returned (.tuple #[J hj 0,I cl.2,I j])∧yn w w'∧(cl.2 = 0→∃ vl vd t kd dy,MS hj w.heap.size w' vl vd va cl.1 t kd n0 dy l0∧GI cl.1∧MR cl.1 t kd dy)
theorem l05Replay_any (next:Int) (vb:Value) (l:List Od) (v:Value) (es:List Ev) (w:World) (hr:RdR Od.vs 6 w vb l) (hs:SlOk vb) (hi:GI (gr0 next l)) (he:RdR Ev.vs 14 w v es) (vw:∀ e ∈ es,okE e = true) (kS:∀ e ∈ es,e.cmd.g.size ≤ maxLen) :
  Calls Tryz.prog 27 #[.agg #[I next,vb],v] w fun x w'=>RepE w vb next l (runG (gr0 next l) es) x w':=by
 have hsf:=sfl
 have oD:Hid (∀ hj k j w',k = (runG (gr0 next l) es).2→yn w w'→((runG (gr0 next l) es).2 = 0→∃ vl vd t kd dy,MS hj w.heap.size w' vl vd vb (runG (gr0 next l) es).1 t kd next dy l∧GI (runG (gr0 next l) es).1∧MR (runG (gr0 next l) es).1 t kd dy)→RepE w vb next l (runG (gr0 next l) es) (.returned (.tuple #[J hj 0,I k,I j])) w'):=fun hj k j w' Q E h3=>⟨hj,j,by rw [Q],E,h3⟩
 generalize RepE w vb next l (runG (gr0 next l) es) = C at oD ⊢
 generalize hF:runG (gr0 next l) es = cl at oD
 have HF:=M hF
 clear hF
 have xz:=fE w (A #[I next,vb] 34)
 have ai:=zh hr xz ya
 have HEW:=M he
 have vu:=M (l05Begin_any next vb l (w.alloc (A #[I next,vb] 34)) ai hs (yN hi.len (by decide)))
 have HI:=M hi
 have jW:=M vw
 have HSZ:=M kS
 have xS:=M xz
 have qQ:=M (zq w [I next,vb] 34)
 have HNA:Hid (l ≠ []→∀ b off n c,vb = .slice (some (U b off)) n c→b < w.heap.size):=fun xD b off n c e=>by
  obtain ⟨a2,c2,e2,-,hc2⟩:=hr
  obtain ⟨b2,o2,e3,Y,-⟩:=hc2 xD
  rw [e2,e3] at e
  simp only [Value.slice.injEq,Option.some.injEq,Addr.mk.injEq,and_true] at e
  rw [← e.1.1]; exact Y
 obtain ⟨a,cap,rfl,xA,hc⟩:=he
 clear hr hs hi vw kS xz ai hc
 go_enter Tryz.func27,Tryz.ntmps27
 refine fI fun hR HK=>?_
 go_wp2_with fail
 refine H HK _ _ ?_
 clear HK
 generalize (w.alloc (A #[I next,vb] 34)) = W1 at vu xS qQ ⊢
 have x0:=R (H qQ) 0 rfl
 have x1:=R (H qQ) 1 rfl
 go_wp2_with fail
 refine (H vu).mono ?_
 rintro e w2 ⟨hj,vl,rfl,ue,xJ⟩
 have uh:Hid (MS hj w.heap.size w2 vl (.slice none 0 0) vb (gr0 next l) zOd 0 next [] l):=⟨ue.box,zS ue.row (H xS).size,ue.days,ue.ahd,ue.sla,ue.typ,yN (H xS).size ue.hO,ue.eqd,ue.ndc,H HNA⟩
 have xu:=M (fH (H xS) xJ)
 clear ue xJ x0 x1 vu qQ xS
 go_wp2_with fail
 go_loopw [8] (fun iv wr=>∃ (k:Nat) (g:Gr) (vl vd:Value) (t:Od) (kd:Int) (dy:List Od),k ≤ es.length∧iv = I k∧Hid (MS hj w.heap.size wr vl vd vb g t kd next dy l)∧Hid (GI g∧MR g t kd dy)∧Hid (cl = runG g (es.drop k))∧Hid (yn w wr)) (fun iv _=>es.length - (intOf iv).toNat)
 case atStart=>exact ⟨0,gr0 next l,vl,_,zOd,0,[],Nat.zero_le _,rfl,uh,⟨H HI,mr_start next l⟩,(H HF).symm,xu⟩
 case round =>
  obtain ⟨k,g,vl,vd,t,kd,dy,hk,rfl,HG,HIG,uo,HB⟩:=hrel
  clear uh xu
  by_cases xI:k < es.length
  ·obtain ⟨e,jq⟩:∃ e,es[k]? = some e:=⟨_,yH xI⟩
   have uc:=M (H uo)
   rw [drop_ev jq] at uc
   have vR:=yO jq
   have HOE:=M (H jW e vR)
   have HBR:=M (broken_any e wr (H HG) (H HIG).1 (H HIG).2 (cY (H HOE)) (H HSZ e vR))
   have uU:Hid (zD g e = 0→∀ W,MS hj w.heap.size W vl vd vb g t kd next dy l→Calls Tryz.prog 52 #[J hj 0,evV e] W fun x w'=>TakE hj w.heap.size vb next l g t kd dy e W x w'):=fun h0 W hW=>take_any e W hW (H HIG).1 (H HIG).2 (H HOE) h0
   have jd:Hid (zD g e = 0→GI (aQ g e)∧MR (aQ g e) (tkM g t e) (kdM kd e) (dyM g dy e)):=fun h=>⟨gi_step (H HIG).1 (H HOE) h,mr_step (H HIG).1 (H HIG).2 (H HOE) h⟩
   have vZ:Hid (zD g e ≠ 0→cl = (g,zD g e)):=fun h=>(H uc).trans (runG_stop h)
   have HGO:Hid (zD g e = 0→cl = runG (aQ g e) (es.drop (k + 1))):=fun h=>(H uc).trans (runG_go h)
   have jm:Hid (∃ b off,a = some (U b off)∧∀ W,yn w W→W.rangeAt b (off + k * 14) e.vs):=by
    obtain ⟨a2,cap2,e2,-,hc2⟩:=H HEW
    simp only [Value.slice.injEq,true_and] at e2
    obtain ⟨rfl,rfl⟩:=e2
    obtain ⟨b,off,rfl,kC,xV⟩:=hc2 (by intro h; rw [h] at xI; simp at xI)
    exact ⟨b,off,rfl,fun W hW=>zc (xV k e jq) hW kC⟩
   obtain ⟨b,off,rfl,V⟩:=H jm
   have js:=M V
   have uJ:(k:Int) < es.length:=by omega
   have x0:wr.cell? (U b (off + k * 14)) = _:=V wr (H HB) 0 _ rfl
   have x1:=V wr (H HB) 1 _ rfl
   have x2:=V wr (H HB) 2 _ rfl
   have x3:=V wr (H HB) 3 _ rfl
   have x4:=V wr (H HB) 4 _ rfl
   have x5:=V wr (H HB) 5 _ rfl
   have x6:=V wr (H HB) 6 _ rfl
   have x7:=V wr (H HB) 7 _ rfl
   have x8:=V wr (H HB) 8 _ rfl
   have x9:=V wr (H HB) 9 _ rfl
   have jP:=V wr (H HB) 10 _ rfl
   have jQ:=V wr (H HB) 11 _ rfl
   have jR:=V wr (H HB) 12 _ rfl
   have jS:=V wr (H HB) 13 _ rfl
   unfold TakE at uU
   generalize zD g e = ru at HBR uU jd vZ HGO
   generalize aQ g e = g2 at uU jd HGO
   generalize tkM g t e = t2 at uU jd
   generalize kdM kd e = kd2 at uU jd
   generalize dyM g dy e = dy2 at uU jd
   obtain ⟨xm,⟨ck,L,ct,F,cq,ci,X,cg⟩,id,xi,qty,xj,xh⟩:=e
   unfold evV at HBR uU
   simp only at HBR uU x0 x1 x2 x3 x4 x5 x6 x7 x8 x9 jP jQ jR jS
   clear V jq vR uc jm HOE
   go_wp2_with fail
   refine (H HBR).mono ?_
   rintro x w3 ⟨rfl,xM⟩
   have xL:=M (fH (H HB) xM)
   have vi:=M (zv (H HG) xM)
   clear xM HBR x0 x1 x2 x3 x4 x5 x6 x7 x8 x9 jP jQ jR jS
   by_cases h0:ru = 0
   ·have b0:(ru != 0) = false:=by simpa using h0
    have ju:=M (H uU h0 w3 (H vi))
    have ut:=M (H jd h0)
    have uE:=M (H HGO h0)
    have x0:w3.cell? (U b (off + k * 14)) = _:=H js w3 (H xL) 0 _ rfl
    have x1:=H js w3 (H xL) 1 _ rfl
    have x2:=H js w3 (H xL) 2 _ rfl
    have x3:=H js w3 (H xL) 3 _ rfl
    have x4:=H js w3 (H xL) 4 _ rfl
    have x5:=H js w3 (H xL) 5 _ rfl
    have x6:=H js w3 (H xL) 6 _ rfl
    have x7:=H js w3 (H xL) 7 _ rfl
    have x8:=H js w3 (H xL) 8 _ rfl
    have x9:=H js w3 (H xL) 9 _ rfl
    have jP:=H js w3 (H xL) 10 _ rfl
    have jQ:=H js w3 (H xL) 11 _ rfl
    have jR:=H js w3 (H xL) 12 _ rfl
    have jS:=H js w3 (H xL) 13 _ rfl
    try simp only at x0 x1 x2 x3 x4 x5 x6 x7 x8 x9 jP jQ jR jS
    clear h0 vZ HGO jd uU
    go_wp2_with fail
    refine (H ju).mono ?_
    rintro x w4 ⟨rfl,xw,vl2,vd2,hm4⟩
    have xG:=M ((H xL).trans xw)
    have qd:=M hm4
    clear xw hm4 ju x0 x1 x2 x3 x4 x5 x6 x7 x8 x9 jP jQ jR jS
    go_wp2_with fail
    go_roundw
    case rel=>exact ⟨k + 1,g2,vl2,vd2,t2,kd2,dy2,by omega,by go_num,qd,ut,uE,xG⟩
    case measure=>simp [intOf]; omega
   ·have b0:(ru != 0) = true:=by simpa using h0
    have HQ:=M (H vZ h0)
    have HN0:=M h0
    clear h0 vZ HGO jd uU
    go_wp2_with fail
    exact H oD hj ru _ _ (by rw [H HQ]) (H xL) (fun h=>absurd (by rw [H HQ] at h; exact h) (H HN0))
  ·have oN:k = es.length:=by omega
   have HQ:=M (H uo)
   rw [oN,List.drop_length,runG] at HQ
   have hge:¬ ((k:Int) < es.length):=by omega
   go_wp2_with fail
   exact H oD hj 0 _ _ (by rw [H HQ]) (H HB) (fun _=>⟨vl,vd,t,kd,dy,by rw [H HQ]; exact ⟨H HG,H HIG⟩⟩)
theorem gErr:Tryz.prog.globalNamed "errors.errorType" = some 1:=by kernel_rfl
theorem rtErr:(Tryz.prog.cutTypes.find? (·.1 == "internal/reflectlite.rtype")).map (·.2) = some 257:=by kernel_rfl
theorem oneErr:((List.range 299).filter fun t=>Tryz.prog.rowNamed t [101,114,114,111,114]) = [184]:=by kernel_rfl
theorem sizeErr:Tryz.prog.types.size = 299:=by kernel_rfl
theorem err_laid {W:World} (h:laidMetH Tryz.prog [("errors.errorType",Rows.laid_errors_errorType)] W):ErrT W:=by
 have h':laidMet Tryz.prog [] W∧handlesMet Tryz.prog [("errors.errorType",Rows.laid_errors_errorType)] W:=h
 obtain ⟨name,u,ty,e1,e2,e3,e4,e5⟩:=h'.2 _ (List.mem_singleton.2 rfl)
 have en:name = [101,114,114,111,114]:=(Option.some.inj e1).symm
 subst en
 obtain rfl:=Option.some.inj (rtErr.symm.trans e2)
 have hm:ty ∈ (List.range 299).filter fun t=>Tryz.prog.rowNamed t [101,114,114,111,114]:=List.mem_filter.2 ⟨List.mem_range.2 (by rw [← sizeErr]; exact e3),e4⟩
 rw [oneErr] at hm
 obtain rfl:=List.mem_singleton.1 hm
 have hh:typeHandle Tryz.prog 184 = .pointer (some ⟨2,184,none⟩):=by kernel_rfl
 rw [hh] at e5
 simpa [ErrT] using World.var?_cell gErr e5 0
theorem allR_ids {next:Int}:∀ {l:List Od} {last:Int},allR next last l = true→∀ o ∈ l,o.id < next
 | [],_,_=>by simp
 | a :: r,last,h=>by
  simp only [allR,xe,xf] at h
  intro o N
  rcases List.mem_cons.1 N with rfl | N
  ·exact h.1.2
  ·exact allR_ids h.2 o N
theorem okS_gi {next:Int} {l:List Od} (h:okS next l = true):GI (gr0 next l):=by
 have uT:=okS_sides h
 simp only [okS,xe,xf] at h
 obtain ⟨⟨⟨Q,E⟩,h4⟩,_⟩:=h
 have hn:1 ≤ next∧next ≤ 1000000:=by simpa [betB] using Q
 refine gi_start ⟨E,fun o N=>?_,(eA h4).1⟩ (by omega) hn.2 uT (allR_ids h4)
 have:=eI h4 o N
 simp [ordB,betB] at this
 omega
def fltC (next:Int) (l:List Od) (es:List Ev):Int:=if 4096 < es.length then 2 else if okS next l = false ∨ es.all okE = false then 1 else 0
theorem flt_ok {next:Int} {l:List Od} {es:List Ev} (h:fltC next l es = 0):es.length ≤ 4096∧okS next l = true∧∀ e ∈ es,okE e = true:=by
 unfold fltC at h
 split at h
 ·omega
 ·split at h
  ·omega
  ·rename_i Q E
   simp only [not_or,Bool.not_eq_false] at E
   exact ⟨by omega,E.1,List.all_eq_true.1 E.2⟩
theorem groupFault_any (next:Int) (vb:Value) (l:List Od) (v:Value) (es:List Ev) (w:World) (hr:RdR Od.vs 6 w vb l) (hgt:∀ o ∈ l,o.tag.size ≤ maxLen) (he:RdR Ev.vs 14 w v es) (hf:∀ e ∈ es,e.fit) (hE:ErrT w) :
  Calls Tryz.prog 30 #[.agg #[I next,vb],v] w fun x w'=>x = .returned (I (fltC next l es))∧yn w w':=by
 have xz:=fE w (A #[I next,vb] 34)
 have HBO:=M (fun W (h:yn w W)=>implBookOK_any next vb l W (zh hr h ya) hgt)
 have HAL:=M (fun W (h:yn w W)=>allRight_any v es W (zh he h ya) hf (cx hE h ya))
 have HFC:Hid (fltC next l es = if 4096 < es.length then 2 else if okS next l = false ∨ es.all okE = false then 1 else 0):=rfl
 rw [okI_eq] at HBO
 generalize fltC next l es = fc at HFC ⊢
 generalize okS next l = bo at HBO HFC
 generalize es.all okE = al at HAL HFC
 have xS:=M xz
 have qQ:=M (zq w [I next,vb] 34)
 obtain ⟨a,cap,rfl,xA,hc⟩:=he
 clear xz hr hgt hf hE hc
 go_enter Tryz.func30,Tryz.ntmps30
 refine fI fun hR HK=>?_
 go_wp2_with fail
 refine H HK _ _ ?_
 clear HK
 generalize (w.alloc (A #[I next,vb] 34)) = W1 at xS qQ ⊢
 have x0:=R (H qQ) 0 rfl
 have x1:=R (H qQ) 1 rfl
 by_cases hl:4096 < es.length
 ·have pB:(4096:Int) < (es.length:Int):=by omega
  have HQ:Hid (fc = 2):=by show _ = _; rw [H HFC,if_pos hl]
  clear hl
  go_wp2_with fail
  go_ret
  exact ⟨by rw [H HQ]; rfl,H xS⟩
 have pB:¬ (4096:Int) < (es.length:Int):=by omega
 have HFC2:=M (H HFC)
 rw [if_neg hl] at HFC2
 clear hl HFC
 go_wp2_with fail
 refine (H HBO W1 (H xS)).mono ?_
 rintro e w2 ⟨rfl,xJ⟩
 have xu:=M (fH (H xS) xJ)
 clear xJ
 cases bo
 ·have HQ:Hid (fc = 1):=by show _ = _; rw [H HFC2,if_pos (.inl rfl)]
  go_wp2_with fail
  go_ret
  exact ⟨by rw [H HQ]; rfl,H xu⟩
 go_wp2_with fail
 refine (H HAL w2 (H xu)).mono ?_
 rintro e w3 ⟨rfl,xM⟩
 have xL:=M (fH (H xu) xM)
 clear xM
 cases al
 ·have HQ:Hid (fc = 1):=by show _ = _; rw [H HFC2,if_pos (.inr rfl)]
  go_wp2_with fail
  go_ret
  exact ⟨by rw [H HQ]; rfl,H xL⟩
 ·have HQ:Hid (fc = 0):=by show _ = _; rw [H HFC2,if_neg (by simp)]
  go_wp2_with fail
  go_ret
  exact ⟨by rw [H HQ]; rfl,H xL⟩
def brkR (next:Int) (l:List Od) (es:List Ev) (e:Ev):Int:=if fltC next l es = 0∧okE e = true∧(runG (gr0 next l) es).2 = 0 then zD (runG (gr0 next l) es).1 e else 0
def brkC (next:Int) (l:List Od) (es:List Ev) (e:Ev):Int:=if fltC next l es ≠ 0 then fltC next l es else if okE e = false then 1 else if (runG (gr0 next l) es).2 ≠ 0 then 8 else 0
theorem implBroken_any (next:Int) (vb:Value) (l:List Od) (v:Value) (es:List Ev) (e:Ev) (w:World) (hr:RdR Od.vs 6 w vb l) (hs:SlOk vb) (hgt:∀ o ∈ l,o.tag.size ≤ maxLen) (he:RdR Ev.vs 14 w v es) (hf:∀ e ∈ es,e.fit) (hef:e.fit) (hE:ErrT w) :
  Calls Tryz.prog 18 #[.agg #[I next,vb],v,evV e] w fun x w'=>x = .returned (.tuple #[I (brkR next l es e),I (brkC next l es e)])∧yn w w':=by
 have hsf:=sfl
 have kL:=M (fun W (h:yn w W)=>groupFault_any next vb l v es W (zh hr h ya) hgt (zh he h ya) hf (cx hE h ya))
 have jW:=M (fun W (h:yn w W)=>implOK_any e hef W (cx hE h ya))
 have HGB:Hid (fltC next l es = 0→∀ W,yn w W→Calls Tryz.prog 31 #[.agg #[I next,vb],v] W fun x w'=>BehE W.heap.size W (runG (gr0 next l) es) x w'):=fun h0 W h=>groupBehind_any next vb l v es W (zh hr h ya) hs (okS_gi (flt_ok h0).2.1) (zh he h ya) (flt_ok h0).2.2 (fun e he=>(hf e he).g)
 have kr:Hid (okE e = true→∀ G B r W vq,GS G B r W vq (runG (gr0 next l) es).1→GI (runG (gr0 next l) es).1→Calls Tryz.prog 40 #[J G 0,evV e] W fun x w'=>x = .returned (I (zD (runG (gr0 next l) es).1 e))∧Below B W w'):=fun h G B r W vq Q E=>(add_any e W Q E h hef.g).mono fun x w' h3=>⟨h3.1,h3.2.1⟩
 have vj:Hid (brkR next l es e = if fltC next l es = 0∧okE e = true∧(runG (gr0 next l) es).2 = 0 then zD (runG (gr0 next l) es).1 e else 0):=rfl
 have vW:Hid (brkC next l es e = if fltC next l es ≠ 0 then fltC next l es else if okE e = false then 1 else if (runG (gr0 next l) es).2 ≠ 0 then 8 else 0):=rfl
 generalize brkR next l es e = br at vj ⊢
 generalize brkC next l es e = bc at vW ⊢
 generalize fltC next l es = fc at kL HGB vj vW
 generalize okE e = ok at jW kr vj vW
 generalize zD (runG (gr0 next l) es).1 e = re at kr vj
 generalize runG (gr0 next l) es = cl at HGB kr vj vW
 obtain ⟨g1,ru⟩:=cl
 simp only at kr vj vW
 obtain ⟨xm,⟨ck,L,ct,F,cq,ci,X,cg⟩,id,xi,qty,xj,xh⟩:=e
 unfold evV at jW kr ⊢
 simp only at jW kr ⊢
 obtain ⟨a,cap,rfl,xA,hc⟩:=he
 have oP:(w.alloc (A #[I next,vb] 34)).heap.size = w.heap.size + 1:=by simp
 have xz:=fE w (A #[I next,vb] 34)
 have ui:Below (w.heap.size + 1) (w.alloc (A #[I next,vb] 34)) ((w.alloc (A #[I next,vb] 34)).alloc (A (yv xm ck L ct F cq ci X cg id xi qty xj xh).toArray 52)):=(Below.refl _ _).alloc (by rw [oP]; omega) _
 have HS:Hid (((w.alloc (A #[I next,vb] 34)).alloc (A (yv xm ck L ct F cq ci X cg id xi qty xj xh).toArray 52)).heap.size = w.heap.size + 1 + 1):=by show _ = _; simp
 have qQ:=M (zg (zq w [I next,vb] 34) ui (by omega))
 have pt:Hid (Bx ((w.alloc (A #[I next,vb] 34)).alloc (A (yv xm ck L ct F cq ci X cg id xi qty xj xh).toArray 52)) (w.heap.size + 1) (yv xm ck L ct F cq ci X cg id xi qty xj xh)):=by
  have:=zq (w.alloc (A #[I next,vb] 34)) (yv xm ck L ct F cq ci X cg id xi qty xj xh) 52
  rwa [oP] at this
 have xS:Hid (yn w ((w.alloc (A #[I next,vb] 34)).alloc (A (yv xm ck L ct F cq ci X cg id xi qty xj xh).toArray 52))):=xz.trans (ui.mono (by omega))
 clear xz ui oP hr hs hgt hf hE hc hef
 go_enter Tryz.func18,Tryz.ntmps18
 refine fI fun hR HK=>?_
 go_wp2_with fail
 refine H HK _ _ ?_
 clear HK
 generalize ((w.alloc (A #[I next,vb] 34)).alloc (A (yv xm ck L ct F cq ci X cg id xi qty xj xh).toArray 52)) = W1 at xS qQ pt HS ⊢
 have x0:=R (H qQ) 0 rfl
 have x1:=R (H qQ) 1 rfl
 go_wp2_with fail
 refine (H kL W1 (H xS)).mono ?_
 rintro e w2 ⟨rfl,xJ⟩
 have hz:=H HS
 have xu:=M (fH (H xS) xJ)
 have xH:=M (zg (H qQ) xJ (by omega))
 have jj:=M (zg (H pt) xJ (by omega))
 have uF:w.heap.size + 1 < w2.heap.size:=by have:=xJ.size; omega
 clear xJ x0 x1 qQ pt xS kL hz HS
 by_cases hfc:fc = 0
 case neg =>
  have b0:(fc != 0) = true:=by simpa using hfc
  have HQ:Hid (br = 0∧bc = fc):=⟨by rw [H vj,if_neg (fun h=>hfc h.1)],by rw [H vW,if_pos hfc]⟩
  clear hfc
  go_wp2_with fail
  go_ret2
  exact ⟨by rw [(H HQ).1,(H HQ).2]; rfl,H xu⟩
 have b0:(fc != 0) = false:=by simpa using hfc
 have HGB2:=M (H HGB hfc)
 have oC:=M (H vW)
 rw [if_neg (not_not_intro hfc)] at oC
 have HFZ:=M hfc
 clear hfc HGB vW
 obtain ⟨e0,e1,e2,e3,e4,e5,e6,e7,e8,e9,uy,uk,uW,uA⟩:=yy (H jj)
 go_wp2_with fail
 refine (H jW w2 (H xu)).mono ?_
 rintro e w3 ⟨rfl,xM⟩
 have xL:=M (fH (H xu) xM)
 have uC:=M (zg (H xH) xM (by omega))
 have HY3:=M (zg (H jj) xM uF)
 have aO:w.heap.size + 1 < w3.heap.size:=by have:=xM.size; omega
 clear xM e0 e1 e2 e3 e4 e5 e6 e7 e8 e9 uy uk uW uA xH jj xu uF b0
 cases ok
 case false =>
  have HQ:Hid (br = 0∧bc = 1):=⟨by rw [H vj,if_neg (fun h=>Bool.noConfusion h.2.1)],by rw [H oC,if_pos rfl]⟩
  go_wp2_with fail
  go_ret2
  exact ⟨by rw [(H HQ).1,(H HQ).2]; rfl,H xL⟩
 have HC3:=M (H oC)
 rw [if_neg (by simp)] at HC3
 have x0:=R (H uC) 0 rfl
 have x1:=R (H uC) 1 rfl
 go_wp2_with fail
 refine (H HGB2 w3 (H xL)).mono ?_
 rintro e w4 ⟨G,rfl,xw,hs4⟩
 have xG:=M (fH (H xL) xw)
 have qy:=M (zg (H HY3) xw aO)
 have HS4:=M hs4
 clear xw hs4 x0 x1 uC HY3
 simp only at HS4 ⊢
 by_cases hru:ru = 0
 case neg =>
  have b0:(ru != 0) = true:=by simpa using hru
  have HQ:Hid (br = 0∧bc = 8):=⟨by rw [H vj,if_neg (fun h=>hru h.2.2)],by rw [H HC3,if_pos hru]⟩
  clear hru
  go_wp2_with fail
  go_ret2
  exact ⟨by rw [(H HQ).1,(H HQ).2]; rfl,H xG⟩
 have b0:(ru != 0) = false:=by simpa using hru
 have HQ:Hid (br = re∧bc = 0):=⟨by rw [H vj,if_pos ⟨H HFZ,trivial,hru⟩],by rw [H HC3,if_neg (not_not_intro hru)]⟩
 obtain ⟨r,vq,hgs,hgi⟩:=H HS4 hru
 have jT:=M (H kr trivial G w3.heap.size r w4 vq hgs hgi)
 clear hru hgs hgi HS4 kr
 obtain ⟨e0,e1,e2,e3,e4,e5,e6,e7,e8,e9,uy,uk,uW,uA⟩:=yy (H qy)
 go_wp2_with fail
 refine (H jT).mono ?_
 rintro e w5 ⟨rfl,uf⟩
 have ug:=M ((H xG).trans (uf.mono (H xL).size))
 clear uf
 go_wp2_with fail
 go_ret2
 exact ⟨by rw [(H HQ).1,(H HQ).2]; rfl,H ug⟩
end Go.Proofs.YtnphbkgfjanmgaaGreatDoor
