/-.-/
import Derived.Test.YtkofhemdefffpaaGreatDoorPq11
import Derived.Test.YtkofhemdefffpaaGreatDoorPq31
set_option linter.unusedVariables false
set_option maxHeartbeats 6400000
set_option maxRecDepth 100000
namespace Go.Proofs.YtkofhemdefffpaaGreatDoor
open Go.RowKit
def outD (k:Int)(d:Du):Ending:=if k=0 then .returned (duV d) else .panicked (brk k)
theorem outD_ok {k:Int}{d:Du}(h:k=0):outD k d = .returned (duV d):=if_pos h
theorem outD_no {k:Int}{d:Du}(h:k≠0):outD k d = .panicked (brk k):=if_neg h
theorem lA {G B r:Nat}{vq:Value}{g:Gr}(e:Ev)(w:World)(h:GS G B r w vq g)(hi:GI g):Calls Tryz.prog 123 #[h3 G 0,evV e] w fun x w'=>x=outD (dueR g e) (dueG g)/\yp w w':=by
 have hsf:=sfl;have hG:=h.lt;have HJ:=U (fun W=>isJust_any e (dueG g) W);have HDU:=U (fun W hW=>due_any (G:=G) (B:=B) (r:=r) (vq:=vq) (g:=g) W hW hi);have HDR:Hid (dueR g e=if g.bg=0 then 3 else if (dueG g).kind=0 then 8 else if ((dueG g).kind=9\/e.kind=9)/\dW e (dueG g)=false then 14 else 0):=rfl
 generalize dueR g e=dr at HDR |-;generalize dW e (dueG g)=jb at HJ HDR;generalize dueG g=d at HJ HDU HDR |-;obtain⟨xn,⟨ck,cs,ct,cl,cq,ci,cp,cg⟩,id,xj,qty,xk,xi⟩:=e;obtain⟨dk,di,dt,dq,dp⟩:=d;unfold evV duV at HJ;unfold evV;unfold duV at HDU;simp only at HJ HDU HDR |-;have jo:(w.alloc (me (yw xn ck cs ct cl cq ci cp cg id xj qty xk xi).toArray 78)).heap.size=w.heap.size+1:=by simp
 have xS:=mc w (me (yw xn ck cs ct cl cq ci cp cg id xj qty xk xi).toArray 78);have ud:Below (w.heap.size+1) (w.alloc (me (yw xn ck cs ct cl cq ci cp cg id xj qty xk xi).toArray 78)) ((w.alloc (me (yw xn ck cs ct cl cq ci cp cg id xj qty xk xi).toArray 78)).alloc (me #[H 0,H 0,H 0,H 0,H 0] 167)):=(Below.refl _ _).alloc (by rw[jo];omega) _;have HS:Hid (((w.alloc (me (yw xn ck cs ct cl cq ci cp cg id xj qty xk xi).toArray 78)).alloc (me #[H 0,H 0,H 0,H 0,H 0] 167)).heap.size=w.heap.size+1+1):=by show _ = _;simp
 have HX:=U (zl (zo w (yw xn ck cs ct cl cq ci cp cg id xj qty xk xi) 78) ud (by omega))
 have HY:Hid (Bx ((w.alloc (me (yw xn ck cs ct cl cq ci cp cg id xj qty xk xi).toArray 78)).alloc (me #[H 0,H 0,H 0,H 0,H 0] 167)) (w.heap.size+1) [H 0,H 0,H 0,H 0,H 0]):=by
  have:=zo (w.alloc (me (yw xn ck cs ct cl cq ci cp cg id xj qty xk xi).toArray 78)) [H 0,H 0,H 0,H 0,H 0] 167;rwa[jo] at this
 have HB:Hid (yp w ((w.alloc (me (yw xn ck cs ct cl cq ci cp cg id xj qty xk xi).toArray 78)).alloc (me #[H 0,H 0,H 0,H 0,H 0] 167))):=xS.trans (ud.mono (by omega));have HG:=U (zw h (O HB));clear h xS hi ud jo;go_enter Tryz.func123,Tryz.ntmps123;refine mg fun hb HK=>?_;go_wp2_with fail;refine O HK _ _ ?_;clear HK;generalize ((w.alloc (me (yw xn ck cs ct cl cq ci cp cg id xj qty xk xi).toArray 78)).alloc (me #[H 0,H 0,H 0,H 0,H 0] 167))=W1 at HS HX HY HG HB |-;have c3:W1.cell? (Y G 3)=some (H g.bg):=J (O HG).box 3 rfl
 by_cases h0:g.bg=0
 ·have b0:(g.bg != 0)=false:=by simpa using h0
  have HQ:Hid (dr=3):=by show _ = _;rw[O HDR,if_pos h0]
  clear h0;go_wp2_with fail;refine(eh 3 _).mono ?_;rintro e w6 ⟨rfl,rfl⟩;go_wp2_with fail;exact⟨rfl,by rw[O HQ];rfl,O HB⟩
 have b0:(g.bg != 0)=true:=by simpa using h0
 have HDR2:Hid (dr=if dk=0 then 8 else if (dk=9\/xn=9)/\jb=false then 14 else 0):=by show _ = _;rw[O HDR,if_neg h0]
 clear h0 HDR;go_wp2_with fail;refine(eB 3 _).mono ?_;rintro e w6 ⟨rfl,rfl⟩;clear c3 b0;go_wp2_with fail;refine(O HDU w6 (O HG)).mono ?_;rintro e w3 ⟨rfl,xV⟩;have hz:=O HS;have xF:=mc w3 (me #[H dk,H di,H dt,H dq,H dp] 167);have hb34:=xV.trans (xF.mono xV.size);have xH:=U (zl (O HX) hb34 (by omega));have ju:=U (zl (O HY) hb34 (by omega));have uX:=U (zw (O HG) hb34);have xQ:=U (mf (O HB) hb34);have py:=U (zo w3 [H dk,H di,H dt,H dq,H dp] 167);have HZ4:Hid (w3.heap.size<(w3.alloc (me #[H dk,H di,H dt,H dq,H dp] 167)).heap.size/\w.heap.size+1<w3.heap.size):=⟨by simp,by have:=xV.size;omega⟩;clear xV xF hb34 hz HX HY HG HB HS HDU
 by_cases pP:dk=0
 ·have b0:(dk != 0)=false:=by simpa using pP
  have HQ:Hid (dr=8):=by show _ = _;rw[O HDR2,if_pos pP]
  clear pP;go_wp2_with fail;refine(eh 8 _).mono ?_;rintro e w6 ⟨rfl,rfl⟩;go_wp2_with fail;exact⟨rfl,by rw[O HQ];rfl,O xQ⟩
 have b0:(dk != 0)=true:=by simpa using pP
 have HDR3:Hid (dr=if (dk=9\/xn=9)/\jb=false then 14 else 0):=by show _ = _;rw[O HDR2,if_neg pP]
 clear pP HDR2;go_wp2_with fail;refine(eB 8 _).mono ?_;rintro e xh ⟨rfl,hX⟩;rw[<- hX] at xH ju uX xQ py HZ4;clear hX b0;have v0:=J (O py) 0 rfl;have e0:=J (O xH) 0 rfl
 by_cases h9:dk=9
 ·have b9:(dk==9)=true:=by simpa using h9
  have HOR:Hid (dk=9\/xn=9):=.inl h9;clear h9;obtain⟨e0,e1,e2,e3,e4,e5,e6,e7,e8,e9,vQ,vY,qq,qF⟩:=yz (O xH);obtain ⟨v0,v1,v2,v3,v4⟩:=q0_5 (O py) rfl;go_wp2_with fail;refine(O HJ xh).mono ?_;rintro e w7 ⟨rfl,qQ⟩;have jE:=U (zl (O ju) qQ (by have:=O HZ4;omega));have HV7:=U (zl (O py) qQ (O HZ4).1);have jA:=U (mf (O xQ) qQ);clear qQ e0 e1 e2 e3 e4 e5 e6 e7 e8 e9 vQ vY qq qF v0 v1 v2 v3 v4;cases jb
  ·have HQ:Hid (dr=14):=by show _ = _;rw[O HDR3,if_pos ⟨O HOR,rfl⟩]
   go_wp2_with fail;refine(eh 14 _).mono ?_;rintro e w6 ⟨rfl,rfl⟩;go_wp2_with fail;exact⟨rfl,by rw[O HQ];rfl,O jA⟩
  ·have HQ:Hid (dr=0):=by show _ = _;rw[O HDR3,if_neg (by simp)]
   go_wp2_with fail;refine(eB 14 _).mono ?_;rintro e w6 ⟨rfl,rfl⟩;obtain ⟨v0,v1,v2,v3,v4⟩:=q0_5 (O HV7) rfl;obtain ⟨z0,z1,z2,z3,z4⟩:=q0_5 (O jE) rfl;obtain ⟨f0,f1,f2,f3,f4⟩:=r0_5 (O jE) rfl;go_wp2_with fail
   try simp +zetaDelta only[Exit.noGoto_ret]
   change bodyPost _ _ _ _ _ (World.setCells w6 (w.heap.size+1) 0 [H dk,H di,H dt,H dq,H dp]);have xr:Hid ((World.setCells w6 (w.heap.size+1) 0 [H dk,H di,H dt,H dq,H dp]).rangeAt (w.heap.size+1) 0 [H dk,H di,H dt,H dq,H dp]/\yp w (World.setCells w6 (w.heap.size+1) 0 [H dk,H di,H dt,H dq,H dp])):=⟨(zy (O jE) (by simp only[List.length_cons,List.length_nil])).r,zj (w.heap.size+1) (by omega) [H dk,H di,H dt,H dq,H dp] 0 w6 (O jA)⟩;generalize World.setCells w6 (w.heap.size+1) 0 [H dk,H di,H dt,H dq,H dp]=WE at xr |-;obtain⟨d0,d1,d2,d3,d4⟩:=yC (O xr).1
   try simp only[Exit.inBlock,Exit.then]
   refine bodyPost_ret (by simp[results,Tryz.results123,go_sem,d0,d1,d2,d3,d4];try rfl) rfl ?_;exact⟨by rw[O HQ];rfl,(O xr).2⟩
 have b9:(dk==9)=false:=by simpa using h9
 by_cases hk9:xn=9
 ·have bk9:(xn==9)=true:=by simpa using hk9
  have HOR:Hid (dk=9\/xn=9):=.inr hk9;clear h9 hk9;obtain⟨e0,e1,e2,e3,e4,e5,e6,e7,e8,e9,vQ,vY,qq,qF⟩:=yz (O xH);obtain ⟨v0,v1,v2,v3,v4⟩:=q0_5 (O py) rfl;go_wp2_with fail;refine(O HJ xh).mono ?_;rintro e w7 ⟨rfl,qQ⟩;have jE:=U (zl (O ju) qQ (by have:=O HZ4;omega));have HV7:=U (zl (O py) qQ (O HZ4).1);have jA:=U (mf (O xQ) qQ);clear qQ e0 e1 e2 e3 e4 e5 e6 e7 e8 e9 vQ vY qq qF v0 v1 v2 v3 v4;cases jb
  ·have HQ:Hid (dr=14):=by show _ = _;rw[O HDR3,if_pos ⟨O HOR,rfl⟩]
   go_wp2_with fail;refine(eh 14 _).mono ?_;rintro e w6 ⟨rfl,rfl⟩;go_wp2_with fail;exact⟨rfl,by rw[O HQ];rfl,O jA⟩
  ·have HQ:Hid (dr=0):=by show _ = _;rw[O HDR3,if_neg (by simp)]
   go_wp2_with fail;refine(eB 14 _).mono ?_;rintro e w6 ⟨rfl,rfl⟩;obtain ⟨v0,v1,v2,v3,v4⟩:=q0_5 (O HV7) rfl;obtain ⟨z0,z1,z2,z3,z4⟩:=q0_5 (O jE) rfl;obtain ⟨f0,f1,f2,f3,f4⟩:=r0_5 (O jE) rfl;go_wp2_with fail
   try simp +zetaDelta only[Exit.noGoto_ret]
   change bodyPost _ _ _ _ _ (World.setCells w6 (w.heap.size+1) 0 [H dk,H di,H dt,H dq,H dp]);have xr:Hid ((World.setCells w6 (w.heap.size+1) 0 [H dk,H di,H dt,H dq,H dp]).rangeAt (w.heap.size+1) 0 [H dk,H di,H dt,H dq,H dp]/\yp w (World.setCells w6 (w.heap.size+1) 0 [H dk,H di,H dt,H dq,H dp])):=⟨(zy (O jE) (by simp only[List.length_cons,List.length_nil])).r,zj (w.heap.size+1) (by omega) [H dk,H di,H dt,H dq,H dp] 0 w6 (O jA)⟩;generalize World.setCells w6 (w.heap.size+1) 0 [H dk,H di,H dt,H dq,H dp]=WE at xr |-;obtain⟨d0,d1,d2,d3,d4⟩:=yC (O xr).1
   try simp only[Exit.inBlock,Exit.then]
   refine bodyPost_ret (by simp[results,Tryz.results123,go_sem,d0,d1,d2,d3,d4];try rfl) rfl ?_;exact⟨by rw[O HQ];rfl,(O xr).2⟩
 have bk9:(xn==9)=false:=by simpa using hk9
 have HQ:Hid (dr=0):=by show _ = _;rw[O HDR3,if_neg (by simp[h9,hk9])]
 clear h9 hk9;obtain ⟨v0,v1,v2,v3,v4⟩:=q0_5 (O py) rfl;obtain ⟨z0,z1,z2,z3,z4⟩:=q0_5 (O ju) rfl;obtain ⟨f0,f1,f2,f3,f4⟩:=r0_5 (O ju) rfl;go_wp2_with fail
 try simp +zetaDelta only[Exit.noGoto_ret]
 change bodyPost _ _ _ _ _ (World.setCells xh (w.heap.size+1) 0 [H dk,H di,H dt,H dq,H dp]);have xr:Hid ((World.setCells xh (w.heap.size+1) 0 [H dk,H di,H dt,H dq,H dp]).rangeAt (w.heap.size+1) 0 [H dk,H di,H dt,H dq,H dp]/\yp w (World.setCells xh (w.heap.size+1) 0 [H dk,H di,H dt,H dq,H dp])):=⟨(zy (O ju) (by simp only[List.length_cons,List.length_nil])).r,zj (w.heap.size+1) (by omega) [H dk,H di,H dt,H dq,H dp] 0 xh (O xQ)⟩;generalize World.setCells xh (w.heap.size+1) 0 [H dk,H di,H dt,H dq,H dp]=WE at xr |-;obtain⟨d0,d1,d2,d3,d4⟩:=yC (O xr).1
 try simp only[Exit.inBlock,Exit.then]
 refine bodyPost_ret (by simp[results,Tryz.results123,go_sem,d0,d1,d2,d3,d4];try rfl) rfl ?_;exact⟨by rw[O HQ];rfl,(O xr).2⟩
def takG (g:Gr)(e:Ev):Gr:={ dG g e with bg:=g.bg }
structure Kp (G:Nat) (vq:Value) (w w':World):Prop where
 os:w'.os=w.os
 tape:w'.tape=w.tape
 output:w'.output=w.output
 size:w.heap.size<=w'.heap.size
 block:∀k,k<w.heap.size->k≠G->some k≠vq.ownBlock->w'.heap[k]? = w.heap[k]?
section
variable {G:Nat} {vq:Value} {w W W':World}
theorem kp_of (h:yp w W):Kp G vq w W:=⟨h.os,h.tape,h.output,h.size,fun k E _ _=>h.block k E⟩
theorem dU (h:Kp G vq w W)(K:yp W W'):Kp G vq w W':=
 ⟨K.os.trans h.os,K.tape.trans h.tape,K.output.trans h.output,yO h.size K.size,fun k E Z Q=>(K.block k (yK E h.size)).trans (h.block k E Z Q)⟩
theorem ip (h:Kp G vq w W):Kp G vq w W.drew:=⟨h.os,h.tape,h.output,h.size,h.block⟩
theorem kp_set (h:Kp G vq w W)(j:Nat)(u:Value):Kp G vq w (W.setCell (Y G j) u):=
 ⟨h.os,h.tape,h.output,by have:=h.size;simpa[World.setCell] using this,fun k E Z Q=>(yT _ _ _ _ Z).trans (h.block k E Z Q)⟩
theorem kp_sets:∀ {W:World}(h:Kp G vq w W)(o:Nat)(us:List Value),Kp G vq w (W.setCells G o us)
 | _,h,_,[]=>h
 | _,h,o,u::us=>by rw[World.setCells];exact kp_sets (kp_set h o u) (o+1) us
theorem kp_took (h:Kp G vq w W)(ht:TookAt G 1 vq.ownBlock W W'):Kp G vq w W':=
 ⟨ht.os.trans h.os,ht.tape.trans h.tape,ht.output.trans h.output,yO h.size ht.size,fun k E Z Q=>(ht.block k (yK E h.size) Z Q).trans (h.block k E Z Q)⟩
theorem kp_row {b:Nat}(h:Kp G vq w W)(F:W.grownBy W' (some b))(K:vq.ownBlock=some b):Kp G vq w W':=
 ⟨F.os.trans h.os,F.tape.trans h.tape,F.output.trans h.output,yO h.size F.size,fun k E Z Q=>(F.block k (yK E h.size) (by rw[<- K];exact Q)).trans (h.block k E Z Q)⟩
theorem kp_to {B r:Nat}{g:Gr}(h:Kp G vq w W)(hs:GS G B r w vq g):Below B w W:=
 ⟨h.os,h.tape,h.output,h.size,fun k E=>h.block k (yK E (yO hs.hG (Nat.le_of_lt hs.lt))) (by have:=hs.hG;omega) (fun e=>by have:=(hs.row.lt k e.symm).1;omega)⟩
end
def Chk (G B r:Nat)(vq:Value)(g:Gr)(e:Ev)(w:World)(x:Ending)(w':World):Prop:=x=outR (zK g e)/\Kp G vq w w'/\(zK g e=0->∃uB,GS G B r w' uB (takG g e))
section
variable {G B r:Nat} {vq:Value} {g:Gr} {e:Ev} {w w':World}
theorem chk_no {k:Int}(h:zK g e=k)(E:k≠0)(K:Kp G vq w w'):Chk G B r vq g e w (.panicked (brk k)) w':=
 ⟨by rw[h,outR_no E],K,fun h0=>absurd (h.symm.trans h0) E⟩
theorem chk_ok {uB:Value}(h:zK g e=0)(K:Kp G vq w w')(hs:GS G B r w' uB (takG g e)):Chk G B r vq g e w (.returned (.tuple #[])) w':=
 ⟨by rw[outR_ok h],K,fun _=>⟨uB,hs⟩⟩
end
theorem GS.base {G B r:Nat}{W:World}{vq:Value}{g:Gr}(h:GS G B r W vq g):B<=W.heap.size:=yO h.hG (Nat.le_of_lt h.lt)
theorem bx_setAt {b:Nat}:∀(us:List Value) (o:Nat) (W:World) (vs:List Value),Bx W b vs->o+us.length<=vs.length->Bx (W.setCells b o us) b (vs.take o++us++vs.drop (o+us.length))
 | [],o,W,vs,h,_=>by simpa[World.setCells] using h
 | u::us,o,W,vs,h,hl=>by
  have D:o<vs.length:=by simp at hl;omega
  have Z:=bx_setAt us (o+1) (W.setCell (Y b o) u) (vs.set o u) (eO h D) (by simp at hl |-;omega);rw[World.setCells]
  have e:(vs.set o u).take (o+1)++us++(vs.set o u).drop (o+1+us.length)=vs.take o++(u::us)++vs.drop (o+(u::us).length):=by
   rw[List.drop_set_of_lt (by omega),List.take_add_one,List.take_set_of_le yb,List.getElem?_set_self D];simp[Nat.add_assoc,Nat.add_comm 1 us.length]
  rwa[e] at Z
theorem iM {B e sz n:Nat}{v:Value}{xs:List Value}{b:Nat}(K:some b≠v.ownBlock):∀(us:List Value) (o:Nat) (W:World),W.ownsRow B e sz v n xs->(W.setCells b o us).ownsRow B e sz v n xs
 | [],_,_,h=>h
 | u::us,o,W,h=>by rw[World.setCells];exact iM K us (o+1) _ (zX h K o u)
theorem kind_sets {p:Nat}{t:TypeId}{x:Nat × Nat}:∀(us:List Value) (o:Nat) (W:World),(∃xt,W.heap[p]? = some (.cells xt t x))->∃xt,(W.setCells p o us).heap[p]? = some (.cells xt t x)
 | [],_,_,h=>h
 | u::us,o,W,⟨xt,h⟩=>by rw[World.setCells];exact kind_sets us (o+1) _ (ez W p o u h)
theorem gs_sets {G B r:Nat}{W:World}{vq:Value}{g g':Gr}(h:GS G B r W vq g)(o:Nat)(us:List Value)(hl:o+us.length<=16)(he:gsV r vq g'=(gsV r vq g).take o++us++(gsV r vq g).drop (o+us.length))(jf:g'.l=g.l):GS G B r (W.setCells G o us) vq g':=
 ⟨by rw[he];exact bx_setAt us o W _ h.box hl,by rw[jf];exact iM h.nq us o W h.row,kind_sets us o W h.typ,(bx_heap G r h.ne us o W).trans h.mp,h.hG,h.hr⟩
theorem gs_rowset {G B r:Nat}{W W':World}{vq:Value}{g:Gr}{l':List Od}{b:Nat}(h:GS G B r W vq g)(D:ORow W' B vq l')(F:W.grownBy W' (some b))(K:vq.ownBlock=some b):GS G B r W' vq { g with l:=l' }:=by
 have nG:some G≠some b:=by rw[<- K];exact h.nq
 have nr:some r≠some b:=by rw[<- K];exact h.nr
 refine⟨dm h.box (F.block G h.lt nG),D,?_,(F.block r h.rlt nr).trans h.mp,h.hG,h.hr⟩;obtain⟨xt,hc⟩:=h.typ;exact⟨xt,(F.block G h.lt nG).trans hc⟩
end Go.Proofs.YtkofhemdefffpaaGreatDoor
