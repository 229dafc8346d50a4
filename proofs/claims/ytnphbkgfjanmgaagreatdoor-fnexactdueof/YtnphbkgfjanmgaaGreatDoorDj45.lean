/-
  A group begun, by the program: the map of checks, the book copied; proved by walking the function.
-/
import Derived.Test.YtnphbkgfjanmgaaGreatDoorDj40
import Derived.Test.YtnphbkgfjanmgaaGreatDoorDj44
import Derived.Maps.Own
import Derived.WideMake
import Derived.LaidLaws
import Derived.LaidHandle
set_option linter.unusedVariables false
set_option maxHeartbeats 6400000
set_option maxRecDepth 100000
namespace Go.Proofs.YtnphbkgfjanmgaaGreatDoor
open Go.RowKit
structure MUp (r:Nat) (w w':World):Prop where
 os:w'.os = w.os
 tape:w'.tape = w.tape
 output:w'.output = w.output
 size:w'.heap.size = w.heap.size
 block:∀ k,k ≠ r→w'.heap[k]? = w.heap[k]?
theorem cP {r:Nat} {w w1 w2:World} (N:MUp r w w1) (Y:MUp r w1 w2):MUp r w w2 :=
 ⟨Y.os.trans N.os,Y.tape.trans N.tape,Y.output.trans N.output,Y.size.trans N.size,fun k hk=>(Y.block k hk).trans (N.block k hk)⟩
theorem stepI {W:World} {r clk:Nat} {es:Array MapEntry} (k:Int) (f:FuncId) (E:W.heap[r]? = some (.map es clk)) (hf:Instr.findNow (TypeDesc.int .i64) (I k) es.toList 0 = some none) :
  ∃ W1,(Instr.mapUpdate 83 (.map (some r)) (I k) (.func (.func f) #[] #[])).run Tryz.prog W = .ok () W1∧W1.heap[r]? = some (.map (es.push (mI k f clk)) (clk + 1))∧MUp r W W1:=by
 have hk:=Tryz.underlying3
 have hc:(Instr.checkKey false 10000 3 (I k)).run Tryz.prog W = .ok () W:=MapKept.run_checkKey (k:=I k) hk (by simp [MapKept.IsKey]) false 9999
 refine ⟨{ W with heap:=W.heap.setIfInBounds r (.map (es.push (mI k f clk)) (clk + 1)) },?_,(MapKept.heap_set E).1,⟨rfl,rfl,rfl,by simp,fun j V=>?_⟩⟩
 ·simp [Instr.mapUpdate,run_underlying Tryz.underlying83,MapKept.run_getObj_map E,hc,MapKept.run_findKey hk hf,MapKept.run_setObj_map _ E,Result.andThen,mI]
 ·show (W.heap.setIfInBounds r _)[j]? = _
  exact Array.getElem?_setIfInBounds_ne (Ne.symm V)
theorem gs_new {w W:World} {r:Nat} {next:Int} {vq:Value} {l:List Od} (E:yp w W) (Z:ORow W w.heap.size vq l) (hm:W.heap[r]? = some (.map chkM 9)) (hr:w.heap.size ≤ r) :
  GS W.heap.size w.heap.size r (W.alloc (L (gsV r vq (gr0 next l)).toArray 87)) vq (gr0 next l)∧yp w (W.alloc (L (gsV r vq (gr0 next l)).toArray 87)):=by
 have qw:=fw W (L (gsV r vq (gr0 next l)).toArray 87)
 exact ⟨⟨zq W _ _,zM Z qw,⟨_,heap_alloc_new W _⟩,(qw.block r (yZ.1 hm).1).trans hm,E.size,hr⟩,E.trans (qw.mono E.size)⟩
theorem beginGroup_any (next:Int) (v:Value) (l:List Od) (w:World) (hr:RdR Od.vs 6 w v l) (hs:SlOk v) (hn:l.length ≤ 1000) :
  Calls Tryz.prog 58 #[.agg #[I next,v]] w fun e w'=>∃ G r vq,e = .returned (J G 0)∧GS G w.heap.size r w' vq (gr0 next l)∧yp w w':=by
 have hmm:=@run_makeMap Tryz.prog
 have hmp:=@run_makeMap_plain Tryz.prog
 have xK:(w.alloc (L #[I next,v] 34)).heap.size = w.heap.size + 1:=by simp
 have h0:((w.alloc (L #[I next,v] 34)).alloc (Obj.map #[] 0)).heap[w.heap.size + 1]? = some (.map #[] 0):=by
  have:=(MapKept.heap_alloc (w.alloc (L #[I next,v] 34)) (Obj.map #[] 0)).1
  rwa [xK] at this
 have xz:yp w ((w.alloc (L #[I next,v] 34)).alloc (Obj.map #[] 0)):=(fw _ _).alloc (by rw [xK]; omega) _
 have hx0:Bx ((w.alloc (L #[I next,v] 34)).alloc (Obj.map #[] 0)) w.heap.size [I next,v]:=zf (zq w [I next,v] 34) ((Below.refl (w.heap.size + 1) _).alloc (by rw [xK]; omega) _) (by omega)
 obtain ⟨W1,u1,o1,m1⟩:=stepI 1 87 h0 rfl
 obtain ⟨W2,u2,o2,m2⟩:=stepI 2 88 o1 rfl
 obtain ⟨W3,u3,o3,m3⟩:=stepI 3 89 o2 rfl
 obtain ⟨W4,u4,o4,m4⟩:=stepI 4 90 o3 rfl
 obtain ⟨W5,u5,o5,m5⟩:=stepI 5 91 o4 rfl
 obtain ⟨W6,u6,o6,m6⟩:=stepI 6 92 o5 rfl
 obtain ⟨W7,u7,o7,m7⟩:=stepI 7 93 o6 rfl
 obtain ⟨W8,u8,o8,m8⟩:=stepI 8 94 o7 rfl
 obtain ⟨W9,u9,o9,m9⟩:=stepI 9 95 o8 rfl
 have hm:=cP (cP (cP (cP (cP (cP (cP (cP m1 m2) m3) m4) m5) m6) m7) m8) m9
 have HO9:Hid (W9.heap[w.heap.size + 1]? = some (.map chkM 9)):=o9
 have oG:yp w W9:=⟨hm.os.trans xz.os,hm.tape.trans xz.tape,hm.output.trans xz.output,by rw [hm.size]; exact xz.size,fun k hk=>(hm.block k (by omega)).trans (xz.block k hk)⟩
 have HX9:Hid (Bx W9 w.heap.size [I next,v]):=aO hx0 (hm.block w.heap.size (by omega))
 have pB:=H oG
 have HR9:=H (zh hr oG yb)
 have km:=H hs
 clear h0 xz hx0 o1 o2 o3 o4 o5 o6 o7 o8 o9 m1 m2 m3 m4 m5 m6 m7 m8 m9 hm oG hr hs xK
 go_enter Tryz.func58,Tryz.ntmps58
 have x0:=K (U HX9) 0 rfl
 have x1:=K (U HX9) 1 rfl
 go_wp2_with fail
 refine (copyBook_any next v l W9 (U HR9) (U km) hn).mono ?_
 rintro e w3 ⟨vq,rfl,aI,xQ⟩
 have HGN:=H (gs_new (next:=next) (fC (U pB) xQ) (zS aI (U pB).size) ((xQ.block (w.heap.size + 1) (yZ.1 (U HO9)).1).trans (U HO9)) (Nat.le_succ _))
 clear aI xQ u1 u2 u3 u4 u5 u6 u7 u8 u9 x0 x1
 unfold gsV gr0 zCm zOd at HGN
 go_wp2_with fail
 go_ret
 exact ⟨_,_,vq,rfl,(U HGN).1,(U HGN).2⟩
theorem gs_base {G B B' r:Nat} {W:World} {vq:Value} {g:Gr} (h:GS G B r W vq g) (hB:B' ≤ B):GS G B' r W vq g :=
 ⟨h.box,zS h.row hB,h.typ,h.mp,yO hB h.hG,yO hB h.hr⟩
theorem runG_stop {g:Gr} {e:Ev} {r:List Ev} (h:zF g e ≠ 0):runG g (e :: r) = (g,zF g e):=by rw [runG,if_neg h]
theorem runG_go {g:Gr} {e:Ev} {r:List Ev} (h:zF g e = 0):runG g (e :: r) = runG (aM g e) r:=by rw [runG,if_pos h]
def BehE (B:Nat) (w:World) (cl:Gr × Int) (x:Ending) (w':World):Prop:=∃ G,x = .returned (.tuple #[J G 0,I cl.2])∧Below B w w'∧(cl.2 = 0→∃ r vq,GS G B r w' vq cl.1∧GI cl.1)
theorem drop_ev {l:List Ev} {k:Nat} {c:Ev} (h:l[k]? = some c):l.drop k = c :: l.drop (k + 1):=by
 obtain ⟨N,rfl⟩:=yH.1 h
 exact xd N
theorem groupBehind_any (next:Int) (vb:Value) (l:List Od) (v:Value) (es:List Ev) (w:World) (hr:RdR Od.vs 6 w vb l) (hs:SlOk vb) (hi:GI (gr0 next l)) (he:RdR Ev.vs 14 w v es) (vu:∀ e ∈ es,okE e = true) (kO:∀ e ∈ es,e.cmd.g.size ≤ maxLen) :
  Calls Tryz.prog 31 #[.agg #[I next,vb],v] w fun x w'=>BehE w.heap.size w (runG (gr0 next l) es) x w':=by
 have hsf:=sfl
 have oz:Hid (∀ G k w',k = (runG (gr0 next l) es).2→yp w w'→((runG (gr0 next l) es).2 = 0→∃ r vq,GS G w.heap.size r w' vq (runG (gr0 next l) es).1∧GI (runG (gr0 next l) es).1)→BehE w.heap.size w (runG (gr0 next l) es) (.returned (.tuple #[J G 0,I k])) w'):=fun G k w' N Y h3=>⟨G,by rw [N],Y,h3⟩
 have HF0:Hid (runG (gr0 next l) es = runG (gr0 next l) es):=rfl
 generalize BehE w.heap.size w (runG (gr0 next l) es) = C at oz ⊢
 generalize hF:runG (gr0 next l) es = cl at oz
 have HF:=H hF
 clear hF HF0
 have xz:=fw w (L #[I next,vb] 34)
 have af:=zh hr xz yb
 have HEW:=H he
 have vp:=H (fun W (h:RdR Od.vs 6 W vb l)=>beginGroup_any next vb l W h hs (yO hi.len (by decide)))
 have jm:=H af
 have HI:=H hi
 have HOK:=H vu
 have HSZ:=H kO
 have xW:=H xz
 have HZ0:Hid ((w.alloc (L #[I next,vb] 34)).heap.size = w.heap.size + 1):=by show _ = _; simp
 have HX0:=H (zq w [I next,vb] 34)
 obtain ⟨a,cap,rfl,xA,hc⟩:=he
 clear hr hs hi vu kO xz af hc
 go_enter Tryz.func31,Tryz.ntmps31
 refine fD fun zb HK=>?_
 go_wp2_with fail
 refine U HK _ _ ?_
 clear HK
 generalize (w.alloc (L #[I next,vb] 34)) = W1 at jm xW HZ0 HX0 ⊢
 have x0:=K (U HX0) 0 rfl
 have x1:=K (U HX0) 1 rfl
 go_wp2_with fail
 refine (U vp W1 (U jm)).mono ?_
 rintro e w2 ⟨G,r,vq,rfl,uf,xL⟩
 have hz:=U HZ0
 have ug:Hid (GS G w.heap.size r w2 vq (gr0 next l)):=gs_base uf (by omega)
 have xw:=H (fC (U xW) xL)
 clear uf xL x0 x1 hz vp jm HX0 xW HZ0
 go_wp2_with fail
 go_loopw [14] (fun iv wr=>∃ (k:Nat) (g:Gr) (vq:Value),k ≤ es.length∧iv = I k∧Hid (GS G w.heap.size r wr vq g)∧Hid (GI g)∧Hid (cl = runG g (es.drop k))∧Hid (yp w wr)) (fun iv _=>es.length - (intOf iv).toNat)
 case atStart=>exact ⟨0,gr0 next l,vq,Nat.zero_le _,rfl,ug,HI,(U HF).symm,xw⟩
 case round =>
  obtain ⟨k,g,vq,hk,rfl,HG,HIG,uo,HB⟩:=hrel
  have HE:=H (zh (U HEW) (U HB) yb)
  by_cases xJ:k < es.length
  ·obtain ⟨e,jo⟩:∃ e,es[k]? = some e:=⟨_,yI xJ⟩
   have ud:=H (U uo)
   rw [drop_ev jo] at ud
   have vS:=yP jo
   have HOE:=H (U HOK e vS)
   have HSE:=H (U HSZ e vS)
   obtain ⟨a2,cap2,e2,-,hc2⟩:=U HE
   simp only [Value.slice.injEq,true_and] at e2
   obtain ⟨rfl,rfl⟩:=e2
   obtain ⟨b,off,rfl,kz,xV⟩:=hc2 (by intro h; rw [h] at xJ; simp at xJ)
   have X:=xV k e jo
   have uF:(k:Int) < es.length:=by omega
   have qw:=fw wr (Obj.cells e.vs.toArray 52)
   have jT:=H (add_any e (wr.alloc (Obj.cells e.vs.toArray 52)) (zy (U HG) qw) (U HIG) (U HOE) (U HSE))
   have kq:=H (fC (U HB) qw)
   have jc:Hid (zF g e = 0→GI (aM g e)):=fun h=>gi_step (U HIG) (U HOE) h
   unfold AddE at jT
   have vZ:Hid (zF g e ≠ 0→cl = (g,zF g e)):=fun h=>(U ud).trans (runG_stop h)
   have HGO:Hid (zF g e = 0→cl = runG (aM g e) (es.drop (k + 1))):=fun h=>(U ud).trans (runG_go h)
   generalize zF g e = ru at jT jc vZ HGO
   generalize aM g e = g2 at jT jc HGO
   obtain ⟨xn,⟨ck,A,ct,F,cq,ci,O,cg⟩,id,xj,qty,xk,xi⟩:=e
   unfold evV Ev.vs at jT
   unfold Ev.vs at kq
   simp only at jT kq
   have x0:wr.cell? (Q b (off + k * 14)) = _:=X 0 _ rfl
   have x1:=X 1 _ rfl
   have x2:=X 2 _ rfl
   have x3:=X 3 _ rfl
   have x4:=X 4 _ rfl
   have x5:=X 5 _ rfl
   have x6:=X 6 _ rfl
   have x7:=X 7 _ rfl
   have x8:=X 8 _ rfl
   have x9:=X 9 _ rfl
   have jP:=X 10 _ rfl
   have jQ:=X 11 _ rfl
   have jR:=X 12 _ rfl
   have jS:=X 13 _ rfl
   clear X xV jo vS qw hc2 ud
   go_wp2_with fail
   refine (U jT).mono ?_
   rintro x w3 ⟨rfl,xQ,jJ⟩
   have xN:=H ((U kq).trans xQ)
   have vU:=H jJ
   clear xQ jJ jT kq x0 x1 x2 x3 x4 x5 x6 x7 x8 x9 jP jQ jR jS
   by_cases h0:ru = 0
   ·have b0:(ru != 0) = false:=by simpa using h0
    obtain ⟨vq2,uD⟩:=U vU h0
    have vi:=H uD
    have ut:=H (U jc h0)
    have uC:=H (U HGO h0)
    clear h0 uD vZ HGO jc vU
    go_wp2_with fail
    go_roundw
    case rel=>exact ⟨k + 1,g2,vq2,by omega,by go_num,vi,ut,uC,xN⟩
    case measure=>simp [intOf]; omega
   ·have b0:(ru != 0) = true:=by simpa using h0
    have HQ:=H (U vZ h0)
    have HN0:=H h0
    clear h0 vZ HGO jc vU
    go_wp2_with fail
    exact U oz G ru _ (by rw [U HQ]) (U xN) (fun h=>absurd (by rw [U HQ] at h; exact h) (U HN0))
  ·have oJ:k = es.length:=by omega
   have HQ:=H (U uo)
   rw [oJ,List.drop_length,runG] at HQ
   go_wp2_with fail
   exact U oz G 0 _ (by rw [U HQ]) (U HB) (fun _=>⟨r,vq,by rw [U HQ]; exact U HG,by rw [U HQ]; exact U HIG⟩)
def RepE (w:World) (va:Value) (n0:Int) (l0:List Od) (cl:Gr × Int) (x:Ending) (w':World):Prop:=∃ cp j,x = .returned (.tuple #[J cp 0,I cl.2,I j])∧yp w w'∧(cl.2 = 0→∃ vl vd t kd dy,MS cp w.heap.size w' vl vd va cl.1 t kd n0 dy l0∧GI cl.1∧MR cl.1 t kd dy)
theorem l05Replay_any (next:Int) (vb:Value) (l:List Od) (v:Value) (es:List Ev) (w:World) (hr:RdR Od.vs 6 w vb l) (hs:SlOk vb) (hi:GI (gr0 next l)) (he:RdR Ev.vs 14 w v es) (vu:∀ e ∈ es,okE e = true) (kO:∀ e ∈ es,e.cmd.g.size ≤ maxLen) :
  Calls Tryz.prog 27 #[.agg #[I next,vb],v] w fun x w'=>RepE w vb next l (runG (gr0 next l) es) x w':=by
 have hsf:=sfl
 have oz:Hid (∀ cp k j w',k = (runG (gr0 next l) es).2→yp w w'→((runG (gr0 next l) es).2 = 0→∃ vl vd t kd dy,MS cp w.heap.size w' vl vd vb (runG (gr0 next l) es).1 t kd next dy l∧GI (runG (gr0 next l) es).1∧MR (runG (gr0 next l) es).1 t kd dy)→RepE w vb next l (runG (gr0 next l) es) (.returned (.tuple #[J cp 0,I k,I j])) w'):=fun cp k j w' N Y h3=>⟨cp,j,by rw [N],Y,h3⟩
 generalize RepE w vb next l (runG (gr0 next l) es) = C at oz ⊢
 generalize hF:runG (gr0 next l) es = cl at oz
 have HF:=H hF
 clear hF
 have xz:=fw w (L #[I next,vb] 34)
 have af:=zh hr xz yb
 have HEW:=H he
 have vp:=H (l05Begin_any next vb l (w.alloc (L #[I next,vb] 34)) af hs (yO hi.len (by decide)))
 have HI:=H hi
 have HOK:=H vu
 have HSZ:=H kO
 have xW:=H xz
 have HX0:=H (zq w [I next,vb] 34)
 have HNA:Hid (l ≠ []→∀ b off n c,vb = .slice (some (Q b off)) n c→b < w.heap.size):=fun xD b off n c e=>by
  obtain ⟨a2,c2,e2,-,hc2⟩:=hr
  obtain ⟨b2,o2,e3,E,-⟩:=hc2 xD
  rw [e2,e3] at e
  simp only [Value.slice.injEq,Option.some.injEq,Addr.mk.injEq,and_true] at e
  rw [← e.1.1]; exact E
 obtain ⟨a,cap,rfl,xA,hc⟩:=he
 clear hr hs hi vu kO xz af hc
 go_enter Tryz.func27,Tryz.ntmps27
 refine fD fun zb HK=>?_
 go_wp2_with fail
 refine U HK _ _ ?_
 clear HK
 generalize (w.alloc (L #[I next,vb] 34)) = W1 at vp xW HX0 ⊢
 have x0:=K (U HX0) 0 rfl
 have x1:=K (U HX0) 1 rfl
 go_wp2_with fail
 refine (U vp).mono ?_
 rintro e w2 ⟨cp,vl,rfl,uf,xL⟩
 have ug:Hid (MS cp w.heap.size w2 vl (.slice none 0 0) vb (gr0 next l) zOd 0 next [] l):=⟨uf.box,zS uf.row (U xW).size,uf.days,uf.ahd,uf.sla,uf.typ,yO (U xW).size uf.hO,uf.eqd,uf.ndc,U HNA⟩
 have xw:=H (fC (U xW) xL)
 clear uf xL x0 x1 vp HX0 xW
 go_wp2_with fail
 go_loopw [8] (fun iv wr=>∃ (k:Nat) (g:Gr) (vl vd:Value) (t:Od) (kd:Int) (dy:List Od),k ≤ es.length∧iv = I k∧Hid (MS cp w.heap.size wr vl vd vb g t kd next dy l)∧Hid (GI g∧MR g t kd dy)∧Hid (cl = runG g (es.drop k))∧Hid (yp w wr)) (fun iv _=>es.length - (intOf iv).toNat)
 case atStart=>exact ⟨0,gr0 next l,vl,_,zOd,0,[],Nat.zero_le _,rfl,ug,⟨U HI,mr_start next l⟩,(U HF).symm,xw⟩
 case round =>
  obtain ⟨k,g,vl,vd,t,kd,dy,hk,rfl,HG,HIG,uo,HB⟩:=hrel
  clear ug xw
  by_cases xJ:k < es.length
  ·obtain ⟨e,jo⟩:∃ e,es[k]? = some e:=⟨_,yI xJ⟩
   have ud:=H (U uo)
   rw [drop_ev jo] at ud
   have vS:=yP jo
   have HOE:=H (U HOK e vS)
   have HBR:=H (broken_any e wr (U HG) (U HIG).1 (U HIG).2 (dx (U HOE)) (U HSZ e vS))
   have uT:Hid (zF g e = 0→∀ W,MS cp w.heap.size W vl vd vb g t kd next dy l→Calls Tryz.prog 52 #[J cp 0,evV e] W fun x w'=>TakE cp w.heap.size vb next l g t kd dy e W x w'):=fun h0 W hW=>take_any e W hW (U HIG).1 (U HIG).2 (U HOE) h0
   have jc:Hid (zF g e = 0→GI (aM g e)∧MR (aM g e) (tkM g t e) (kdM kd e) (dyM g dy e)):=fun h=>⟨gi_step (U HIG).1 (U HOE) h,mr_step (U HIG).1 (U HIG).2 (U HOE) h⟩
   have vZ:Hid (zF g e ≠ 0→cl = (g,zF g e)):=fun h=>(U ud).trans (runG_stop h)
   have HGO:Hid (zF g e = 0→cl = runG (aM g e) (es.drop (k + 1))):=fun h=>(U ud).trans (runG_go h)
   have jj:Hid (∃ b off,a = some (Q b off)∧∀ W,yp w W→W.rangeAt b (off + k * 14) e.vs):=by
    obtain ⟨a2,cap2,e2,-,hc2⟩:=U HEW
    simp only [Value.slice.injEq,true_and] at e2
    obtain ⟨rfl,rfl⟩:=e2
    obtain ⟨b,off,rfl,kz,xV⟩:=hc2 (by intro h; rw [h] at xJ; simp at xJ)
    exact ⟨b,off,rfl,fun W hW=>zc (xV k e jo) hW kz⟩
   obtain ⟨b,off,rfl,X⟩:=U jj
   have jq:=H X
   have uF:(k:Int) < es.length:=by omega
   have x0:wr.cell? (Q b (off + k * 14)) = _:=X wr (U HB) 0 _ rfl
   have x1:=X wr (U HB) 1 _ rfl
   have x2:=X wr (U HB) 2 _ rfl
   have x3:=X wr (U HB) 3 _ rfl
   have x4:=X wr (U HB) 4 _ rfl
   have x5:=X wr (U HB) 5 _ rfl
   have x6:=X wr (U HB) 6 _ rfl
   have x7:=X wr (U HB) 7 _ rfl
   have x8:=X wr (U HB) 8 _ rfl
   have x9:=X wr (U HB) 9 _ rfl
   have jP:=X wr (U HB) 10 _ rfl
   have jQ:=X wr (U HB) 11 _ rfl
   have jR:=X wr (U HB) 12 _ rfl
   have jS:=X wr (U HB) 13 _ rfl
   unfold TakE at uT
   generalize zF g e = ru at HBR uT jc vZ HGO
   generalize aM g e = g2 at uT jc HGO
   generalize tkM g t e = t2 at uT jc
   generalize kdM kd e = kd2 at uT jc
   generalize dyM g dy e = dy2 at uT jc
   obtain ⟨xn,⟨ck,A,ct,F,cq,ci,O,cg⟩,id,xj,qty,xk,xi⟩:=e
   unfold evV at HBR uT
   simp only at HBR uT x0 x1 x2 x3 x4 x5 x6 x7 x8 x9 jP jQ jR jS
   clear X jo vS ud jj HOE
   go_wp2_with fail
   refine (U HBR).mono ?_
   rintro x w3 ⟨rfl,xQ⟩
   have xN:=H (fC (U HB) xQ)
   have vi:=H (zv (U HG) xQ)
   clear xQ HBR x0 x1 x2 x3 x4 x5 x6 x7 x8 x9 jP jQ jR jS
   by_cases h0:ru = 0
   ·have b0:(ru != 0) = false:=by simpa using h0
    have js:=H (U uT h0 w3 (U vi))
    have ut:=H (U jc h0)
    have uC:=H (U HGO h0)
    have x0:w3.cell? (Q b (off + k * 14)) = _:=U jq w3 (U xN) 0 _ rfl
    have x1:=U jq w3 (U xN) 1 _ rfl
    have x2:=U jq w3 (U xN) 2 _ rfl
    have x3:=U jq w3 (U xN) 3 _ rfl
    have x4:=U jq w3 (U xN) 4 _ rfl
    have x5:=U jq w3 (U xN) 5 _ rfl
    have x6:=U jq w3 (U xN) 6 _ rfl
    have x7:=U jq w3 (U xN) 7 _ rfl
    have x8:=U jq w3 (U xN) 8 _ rfl
    have x9:=U jq w3 (U xN) 9 _ rfl
    have jP:=U jq w3 (U xN) 10 _ rfl
    have jQ:=U jq w3 (U xN) 11 _ rfl
    have jR:=U jq w3 (U xN) 12 _ rfl
    have jS:=U jq w3 (U xN) 13 _ rfl
    try simp only at x0 x1 x2 x3 x4 x5 x6 x7 x8 x9 jP jQ jR jS
    clear h0 vZ HGO jc uT
    go_wp2_with fail
    refine (U js).mono ?_
    rintro x w4 ⟨rfl,xy,vl2,vd2,hm4⟩
    have xH:=H ((U xN).trans xy)
    have qd:=H hm4
    clear xy hm4 js x0 x1 x2 x3 x4 x5 x6 x7 x8 x9 jP jQ jR jS
    go_wp2_with fail
    go_roundw
    case rel=>exact ⟨k + 1,g2,vl2,vd2,t2,kd2,dy2,by omega,by go_num,qd,ut,uC,xH⟩
    case measure=>simp [intOf]; omega
   ·have b0:(ru != 0) = true:=by simpa using h0
    have HQ:=H (U vZ h0)
    have HN0:=H h0
    clear h0 vZ HGO jc uT
    go_wp2_with fail
    exact U oz cp ru _ _ (by rw [U HQ]) (U xN) (fun h=>absurd (by rw [U HQ] at h; exact h) (U HN0))
  ·have oJ:k = es.length:=by omega
   have HQ:=H (U uo)
   rw [oJ,List.drop_length,runG] at HQ
   have hge:¬ ((k:Int) < es.length):=by omega
   go_wp2_with fail
   exact U oz cp 0 _ _ (by rw [U HQ]) (U HB) (fun _=>⟨vl,vd,t,kd,dy,by rw [U HQ]; exact ⟨U HG,U HIG⟩⟩)
theorem gErr:Tryz.prog.globalNamed "errors.errorType" = some 1:=by kernel_rfl
theorem rtErr:(Tryz.prog.cutTypes.find? (·.1 == "internal/reflectlite.rtype")).map (·.2) = some 257:=by kernel_rfl
theorem oneErr:((List.range 299).filter fun t=>Tryz.prog.rowNamed t [101,114,114,111,114]) = [184]:=by kernel_rfl
theorem sizeErr:Tryz.prog.types.size = 299:=by kernel_rfl
theorem err_laid {W:World} (h:laidMetH Tryz.prog [("errors.errorType",Rows.laid_errors_errorType)] W):ErrT W:=by
 have h':laidMet Tryz.prog [] W∧handlesMet Tryz.prog [("errors.errorType",Rows.laid_errors_errorType)] W:=h
 obtain ⟨name,u,ty,e1,e2,e3,e4,e5⟩:=h'.2 _ (List.mem_singleton.2 rfl)
 have en:name = [101,114,114,111,114]:=(Option.some.inj e1).symm
 subst en
 obtain rfl:=Option.some.inj (rtErr.symm.trans e2)
 have hm:ty ∈ (List.range 299).filter fun t=>Tryz.prog.rowNamed t [101,114,114,111,114]:=List.mem_filter.2 ⟨List.mem_range.2 (by rw [← sizeErr]; exact e3),e4⟩
 rw [oneErr] at hm
 obtain rfl:=List.mem_singleton.1 hm
 have hh:typeHandle Tryz.prog 184 = .pointer (some ⟨2,184,none⟩):=by kernel_rfl
 rw [hh] at e5
 simpa [ErrT] using World.var?_cell gErr e5 0
theorem allR_ids {next:Int}:∀ {l:List Od} {last:Int},allR next last l = true→∀ o ∈ l,o.id < next
 | [],_,_=>by simp
 | a :: r,last,h=>by
  simp only [allR,xf,xg] at h
  intro o Z
  rcases List.mem_cons.1 Z with rfl | Z
  ·exact h.1.2
  ·exact allR_ids h.2 o Z
theorem okS_gi {next:Int} {l:List Od} (h:okS next l = true):GI (gr0 next l):=by
 have uS:=okS_sides h
 simp only [okS,xf,xg] at h
 obtain ⟨⟨⟨N,Y⟩,h4⟩,_⟩:=h
 have hn:1 ≤ next∧next ≤ 1000000:=by simpa [betB] using N
 refine gi_start ⟨Y,fun o Z=>?_,(eu h4).1⟩ (by omega) hn.2 uS (allR_ids h4)
 have:=eD h4 o Z
 simp [ordB,betB] at this
 omega
def fltC (next:Int) (l:List Od) (es:List Ev):Int:=if 4096 < es.length then 2 else if okS next l = false ∨ es.all okE = false then 1 else 0
theorem flt_ok {next:Int} {l:List Od} {es:List Ev} (h:fltC next l es = 0):es.length ≤ 4096∧okS next l = true∧∀ e ∈ es,okE e = true:=by
 unfold fltC at h
 split at h
 ·omega
 ·split at h
  ·omega
  ·rename_i N Y
   simp only [not_or,Bool.not_eq_false] at Y
   exact ⟨by omega,Y.1,List.all_eq_true.1 Y.2⟩
theorem groupFault_any (next:Int) (vb:Value) (l:List Od) (v:Value) (es:List Ev) (w:World) (hr:RdR Od.vs 6 w vb l) (hgt:∀ o ∈ l,o.tag.size ≤ maxLen) (he:RdR Ev.vs 14 w v es) (hf:∀ e ∈ es,e.fit) (hE:ErrT w) :
  Calls Tryz.prog 30 #[.agg #[I next,vb],v] w fun x w'=>x = .returned (I (fltC next l es))∧yp w w':=by
 have xz:=fw w (L #[I next,vb] 34)
 have HBO:=H (fun W (h:yp w W)=>implBookOK_any next vb l W (zh hr h yb) hgt)
 have HAL:=H (fun W (h:yp w W)=>allRight_any v es W (zh he h yb) hf (cy hE h yb))
 have HFC:Hid (fltC next l es = if 4096 < es.length then 2 else if okS next l = false ∨ es.all okE = false then 1 else 0):=rfl
 rw [okI_eq] at HBO
 generalize fltC next l es = fc at HFC ⊢
 generalize okS next l = bo at HBO HFC
 generalize es.all okE = al at HAL HFC
 have xW:=H xz
 have HX0:=H (zq w [I next,vb] 34)
 obtain ⟨a,cap,rfl,xA,hc⟩:=he
 clear xz hr hgt hf hE hc
 go_enter Tryz.func30,Tryz.ntmps30
 refine fD fun zb HK=>?_
 go_wp2_with fail
 refine U HK _ _ ?_
 clear HK
 generalize (w.alloc (L #[I next,vb] 34)) = W1 at xW HX0 ⊢
 have x0:=K (U HX0) 0 rfl
 have x1:=K (U HX0) 1 rfl
 by_cases hl:4096 < es.length
 ·have px:(4096:Int) < (es.length:Int):=by omega
  have HQ:Hid (fc = 2):=by show _ = _; rw [U HFC,if_pos hl]
  clear hl
  go_wp2_with fail
  go_ret
  exact ⟨by rw [U HQ]; rfl,U xW⟩
 have px:¬ (4096:Int) < (es.length:Int):=by omega
 have HFC2:=H (U HFC)
 rw [if_neg hl] at HFC2
 clear hl HFC
 go_wp2_with fail
 refine (U HBO W1 (U xW)).mono ?_
 rintro e w2 ⟨rfl,xL⟩
 have xw:=H (fC (U xW) xL)
 clear xL
 cases bo
 ·have HQ:Hid (fc = 1):=by show _ = _; rw [U HFC2,if_pos (.inl rfl)]
  go_wp2_with fail
  go_ret
  exact ⟨by rw [U HQ]; rfl,U xw⟩
 go_wp2_with fail
 refine (U HAL w2 (U xw)).mono ?_
 rintro e w3 ⟨rfl,xQ⟩
 have xN:=H (fC (U xw) xQ)
 clear xQ
 cases al
 ·have HQ:Hid (fc = 1):=by show _ = _; rw [U HFC2,if_pos (.inr rfl)]
  go_wp2_with fail
  go_ret
  exact ⟨by rw [U HQ]; rfl,U xN⟩
 ·have HQ:Hid (fc = 0):=by show _ = _; rw [U HFC2,if_neg (by simp)]
  go_wp2_with fail
  go_ret
  exact ⟨by rw [U HQ]; rfl,U xN⟩
def duD (next:Int) (l:List Od) (es:List Ev):Du:=if fltC next l es = 0∧(runG (gr0 next l) es).2 = 0 then dueG (runG (gr0 next l) es).1 else ⟨0,0,0,0,0⟩
def duU (next:Int) (l:List Od) (es:List Ev):Int:=if fltC next l es = 0 then (runG (gr0 next l) es).2 else 0
def duC (next:Int) (l:List Od) (es:List Ev):Int:=if fltC next l es ≠ 0 then fltC next l es else if (runG (gr0 next l) es).2 ≠ 0 then 8 else 0
def wb2 (w:World) (xs ys:List Value) (T za:TypeId):World:=(w.alloc (Obj.cells xs.toArray T)).alloc (Obj.cells ys.toArray za)
theorem wb2_box (w:World) (xs ys:List Value) (T za:TypeId):Bx (wb2 w xs ys T za) w.heap.size xs∧Bx (wb2 w xs ys T za) (w.heap.size + 1) ys∧yp w (wb2 w xs ys T za)∧w.heap.size + 1 < (wb2 w xs ys T za).heap.size:=by
 have hs0:(w.alloc (Obj.cells xs.toArray T)).heap.size = w.heap.size + 1:=by simp
 have uk:Below (w.heap.size + 1) (w.alloc (Obj.cells xs.toArray T)) (wb2 w xs ys T za):=by rw [← hs0]; exact fw _ _
 refine ⟨zf (zq w xs T) uk (by omega),?_,(fw _ _).alloc (by simp) _,by simp [wb2]⟩
 have:=zq (w.alloc (Obj.cells xs.toArray T)) ys za
 rwa [hs0] at this
theorem implDueOf_any (next:Int) (vb:Value) (l:List Od) (v:Value) (es:List Ev) (w:World) (hr:RdR Od.vs 6 w vb l) (hs:SlOk vb) (hgt:∀ o ∈ l,o.tag.size ≤ maxLen) (he:RdR Ev.vs 14 w v es) (hf:∀ e ∈ es,e.fit) (hE:ErrT w) :
  Calls Tryz.prog 11 #[.agg #[I next,vb],v] w fun x w'=>x = yn (.tuple #[duV (duD next l es),I (duU next l es),I (duC next l es)])∧yp w w':=by
 have hsf:=sfl
 have kI:=H (fun W (h:yp w W)=>groupFault_any next vb l v es W (zh hr h yb) hgt (zh he h yb) hf (cy hE h yb))
 have HGB:Hid (fltC next l es = 0→∀ W,yp w W→Calls Tryz.prog 31 #[.agg #[I next,vb],v] W fun x w'=>BehE W.heap.size W (runG (gr0 next l) es) x w'):=fun h0 W h=>groupBehind_any next vb l v es W (zh hr h yb) hs (okS_gi (flt_ok h0).2.1) (zh he h yb) (flt_ok h0).2.2 (fun e he=>(hf e he).g)
 have jU:Hid (∀ G B r W vq,GS G B r W vq (runG (gr0 next l) es).1→GI (runG (gr0 next l) es).1→Calls Tryz.prog 32 #[J G 0] W fun x w'=>x = yn (duV (dueG (runG (gr0 next l) es).1))∧yp W w'):=fun G B r W vq N Y=>due_any W N Y
 have jm:Hid (duD next l es = if fltC next l es = 0∧(runG (gr0 next l) es).2 = 0 then dueG (runG (gr0 next l) es).1 else ⟨0,0,0,0,0⟩):=rfl
 have vz:Hid (duU next l es = if fltC next l es = 0 then (runG (gr0 next l) es).2 else 0):=rfl
 have vY:Hid (duC next l es = if fltC next l es ≠ 0 then fltC next l es else if (runG (gr0 next l) es).2 ≠ 0 then 8 else 0):=rfl
 generalize duD next l es = dd at jm ⊢
 generalize duU next l es = du at vz ⊢
 generalize duC next l es = dc at vY ⊢
 generalize fltC next l es = fc at kI HGB jm vz vY
 generalize dueG (runG (gr0 next l) es).1 = dg at jU jm
 generalize runG (gr0 next l) es = cl at HGB jU jm vz vY
 obtain ⟨g1,ru⟩:=cl
 simp only at jU jm vz vY
 have H1:Hid (fc ≠ 0→dd = ⟨0,0,0,0,0⟩∧du = 0∧dc = fc):=fun h=>⟨by rw [U jm,if_neg (fun Y=>h Y.1)],by rw [U vz,if_neg h],by rw [U vY,if_pos h]⟩
 have H2:Hid (fc = 0→ru ≠ 0→dd = ⟨0,0,0,0,0⟩∧du = ru∧dc = 8):=fun h Y=>⟨by rw [U jm,if_neg (fun h3=>Y h3.2)],by rw [U vz,if_pos h],by rw [U vY,if_neg (not_not_intro h),if_pos Y]⟩
 have H3:Hid (fc = 0→ru = 0→dd = dg∧du = 0∧dc = 0):=fun h Y=>⟨by rw [U jm,if_pos ⟨h,Y⟩],by rw [U vz,if_pos h,Y],by rw [U vY,if_neg (not_not_intro h),if_neg (not_not_intro Y)]⟩
 obtain ⟨hX,hY,hB,hZ⟩:=wb2_box w [I next,vb] [I 0,I 0,I 0,I 0,I 0] 34 29
 have HX:=H hX
 have HD:=H hY
 have HB:=H hB
 generalize hW:wb2 w [I next,vb] [I 0,I 0,I 0,I 0,I 0] 34 29 = W1 at HX HD HB hZ
 have HW:=H hW
 obtain ⟨a,cap,rfl,xA,hc⟩:=he
 clear hr hs hgt hf hc hX hY hB hW jm vz vY hE
 go_enter Tryz.func11,Tryz.ntmps11
 refine fD fun zb HK=>?_
 go_wp2_with fail
 refine U HK _ _ ?_
 clear HK
 change Code.wp _ _ _ _ (wb2 w [I next,vb] [I 0,I 0,I 0,I 0,I 0] 34 29)
 rw [U HW]
 clear HW
 have x0:=K (U HX) 0 rfl
 have x1:=K (U HX) 1 rfl
 go_wp2_with fail
 refine (U kI W1 (U HB)).mono ?_
 rintro e w2 ⟨rfl,E⟩
 have HB:=H (fC (U HB) E)
 have HX:=H (zf (U HX) E (by omega))
 have HD:=H (zf (U HD) E hZ)
 have hZ:w.heap.size + 1 < w2.heap.size:=by have:=E.size; omega
 clear E x0 x1 kI
 by_cases hfc:fc = 0
 case neg =>
  have b0:(fc != 0) = true:=by simpa using hfc
  have HQ:=H (U H1 hfc)
  clear hfc
  have z0:=K (U HD) 0 rfl
  have z1:=K (U HD) 1 rfl
  have z2:=K (U HD) 2 rfl
  have z3:=K (U HD) 3 rfl
  have z4:=K (U HD) 4 rfl
  have f0:=zd (U HD) 0 (by decide)
  have f1:=zd (U HD) 1 (by decide)
  have f2:=zd (U HD) 2 (by decide)
  have f3:=zd (U HD) 3 (by decide)
  have f4:=zd (U HD) 4 (by decide)
  go_wp2_with fail
  try simp (config:={ zetaDelta:=true }) only [Exit.noGoto_ret]
  change bodyPost _ _ _ _ _ (World.setCells w2 (w.heap.size + 1) 0 [I 0,I 0,I 0,I 0,I 0])
  have xp:Hid ((World.setCells w2 (w.heap.size + 1) 0 [I 0,I 0,I 0,I 0,I 0]).rangeAt (w.heap.size + 1) 0 [I 0,I 0,I 0,I 0,I 0]∧yp w (World.setCells w2 (w.heap.size + 1) 0 [I 0,I 0,I 0,I 0,I 0])):=⟨(zw (U HD) (by simp only [List.length_cons,List.length_nil])).r,zi (w.heap.size + 1) (by omega) [I 0,I 0,I 0,I 0,I 0] 0 w2 (U HB)⟩
  generalize World.setCells w2 (w.heap.size + 1) 0 [I 0,I 0,I 0,I 0,I 0] = WE at xp ⊢
  obtain ⟨d0,d1,d2,d3,d4⟩:=yC (U xp).1
  try simp only [Exit.inBlock,Exit.then]
  refine bodyPost_ret (by simp [results,Tryz.results11,go_sem,d0,d1,d2,d3,d4]; try rfl) rfl ?_
  exact ⟨by rw [(U HQ).1,(U HQ).2.1,(U HQ).2.2]; rfl,(U xp).2⟩
 have b0:(fc != 0) = false:=by simpa using hfc
 have HFZ:=H hfc
 clear hfc
 have x0:=K (U HX) 0 rfl
 have x1:=K (U HX) 1 rfl
 go_wp2_with fail
 refine (U HGB (U HFZ) w2 (U HB)).mono ?_
 rintro e w4 ⟨G,rfl,E,hs4⟩
 have HB:=H (fC (U HB) E)
 have HX:=H (zf (U HX) E (by omega))
 have HD:=H (zf (U HD) E hZ)
 have hZ:w.heap.size + 1 < w4.heap.size:=by have:=E.size; omega
 have pl:=H hs4
 clear E hs4 x0 x1
 simp only at pl ⊢
 by_cases hru:ru = 0
 case neg =>
  have b0:(ru != 0) = true:=by simpa using hru
  have HQ:=H (U H2 (U HFZ) hru)
  clear hru
  have z0:=K (U HD) 0 rfl
  have z1:=K (U HD) 1 rfl
  have z2:=K (U HD) 2 rfl
  have z3:=K (U HD) 3 rfl
  have z4:=K (U HD) 4 rfl
  have f0:=zd (U HD) 0 (by decide)
  have f1:=zd (U HD) 1 (by decide)
  have f2:=zd (U HD) 2 (by decide)
  have f3:=zd (U HD) 3 (by decide)
  have f4:=zd (U HD) 4 (by decide)
  go_wp2_with fail
  try simp (config:={ zetaDelta:=true }) only [Exit.noGoto_ret]
  change bodyPost _ _ _ _ _ (World.setCells w4 (w.heap.size + 1) 0 [I 0,I 0,I 0,I 0,I 0])
  have xp:Hid ((World.setCells w4 (w.heap.size + 1) 0 [I 0,I 0,I 0,I 0,I 0]).rangeAt (w.heap.size + 1) 0 [I 0,I 0,I 0,I 0,I 0]∧yp w (World.setCells w4 (w.heap.size + 1) 0 [I 0,I 0,I 0,I 0,I 0])):=⟨(zw (U HD) (by simp only [List.length_cons,List.length_nil])).r,zi (w.heap.size + 1) (by omega) [I 0,I 0,I 0,I 0,I 0] 0 w4 (U HB)⟩
  generalize World.setCells w4 (w.heap.size + 1) 0 [I 0,I 0,I 0,I 0,I 0] = WE at xp ⊢
  obtain ⟨d0,d1,d2,d3,d4⟩:=yC (U xp).1
  try simp only [Exit.inBlock,Exit.then]
  refine bodyPost_ret (by simp [results,Tryz.results11,go_sem,d0,d1,d2,d3,d4]; try rfl) rfl ?_
  exact ⟨by rw [(U HQ).1,(U HQ).2.1,(U HQ).2.2]; rfl,(U xp).2⟩
 have b0:(ru != 0) = false:=by simpa using hru
 have HQ:=H (U H3 (U HFZ) hru)
 obtain ⟨r,vq,hgs,hgi⟩:=U pl hru
 have jT:=H (U jU G _ r w4 vq hgs hgi)
 clear hru hgs hgi pl jU
 go_wp2_with fail
 refine (U jT).mono ?_
 rintro e w5 ⟨rfl,E⟩
 have HB:=H (fC (U HB) E)
 have HX:=H (zf (U HX) E (by omega))
 have HD:=H (zf (U HD) E hZ)
 have hZ:w.heap.size + 1 < w5.heap.size:=by have:=E.size; omega
 clear E
 obtain ⟨dk,di,dt,dq,dp⟩:=dg
 unfold duV
 simp only
 have z0:=K (U HD) 0 rfl
 have z1:=K (U HD) 1 rfl
 have z2:=K (U HD) 2 rfl
 have z3:=K (U HD) 3 rfl
 have z4:=K (U HD) 4 rfl
 have f0:=zd (U HD) 0 (by decide)
 have f1:=zd (U HD) 1 (by decide)
 have f2:=zd (U HD) 2 (by decide)
 have f3:=zd (U HD) 3 (by decide)
 have f4:=zd (U HD) 4 (by decide)
 go_wp2_with fail
 try simp (config:={ zetaDelta:=true }) only [Exit.noGoto_ret]
 change bodyPost _ _ _ _ _ (World.setCells w5 (w.heap.size + 1) 0 [I dk,I di,I dt,I dq,I dp])
 have xp:Hid ((World.setCells w5 (w.heap.size + 1) 0 [I dk,I di,I dt,I dq,I dp]).rangeAt (w.heap.size + 1) 0 [I dk,I di,I dt,I dq,I dp]∧yp w (World.setCells w5 (w.heap.size + 1) 0 [I dk,I di,I dt,I dq,I dp])):=⟨(zw (U HD) (by simp only [List.length_cons,List.length_nil])).r,zi (w.heap.size + 1) (by omega) [I dk,I di,I dt,I dq,I dp] 0 w5 (U HB)⟩
 generalize World.setCells w5 (w.heap.size + 1) 0 [I dk,I di,I dt,I dq,I dp] = WE at xp ⊢
 obtain ⟨d0,d1,d2,d3,d4⟩:=yC (U xp).1
 try simp only [Exit.inBlock,Exit.then]
 refine bodyPost_ret (by simp [results,Tryz.results11,go_sem,d0,d1,d2,d3,d4]; try rfl) rfl ?_
 exact ⟨by rw [(U HQ).1,(U HQ).2.1,(U HQ).2.2]; rfl,(U xp).2⟩
end Go.Proofs.YtnphbkgfjanmgaaGreatDoor
