/-.-/
import Derived.Test.YtkofhemdefffpaaGreatDoorPq13
import Derived.Test.YtkofhemdefffpaaGreatDoorPq36
import Derived.Test.YtkofhemdefffpaaGreatDoorPq38
import Derived.Maps.Own
import Derived.WideMake
set_option linter.unusedVariables false
set_option maxHeartbeats 6400000
set_option maxRecDepth 100000
namespace Go.Proofs.YtkofhemdefffpaaGreatDoor
open Go.RowKit
structure MUp (r:Nat) (w w':World):Prop where
 os:w'.os=w.os
 tape:w'.tape=w.tape
 output:w'.output=w.output
 size:w'.heap.size=w.heap.size
 block:∀k,k≠r->w'.heap[k]? = w.heap[k]?
theorem gM {r:Nat}{w w1 w2:World}(Z:MUp r w w1)(Q:MUp r w1 w2):MUp r w w2:=
 ⟨Q.os.trans Z.os,Q.tape.trans Z.tape,Q.output.trans Z.output,Q.size.trans Z.size,fun k E=>(Q.block k E).trans (Z.block k E)⟩
theorem stepI {W:World}{r clk:Nat}{es:Array MapEntry}(k:Int)(f:FuncId)(K:W.heap[r]? = some (.map es clk))(hf:Instr.findNow (TypeDesc.int .i64) (H k) es.toList 0=some none) :
  ∃W1,(Instr.mapUpdate 140 (.map (some r)) (H k) (.func (.func f) #[] #[])).run Tryz.prog W = .ok () W1/\W1.heap[r]? = some (.map (es.push (mI k f clk)) (clk+1))/\MUp r W W1:=by
 have E:=Tryz.underlying3;have hc:(Instr.checkKey false 10000 3 (H k)).run Tryz.prog W = .ok () W:=MapKept.run_checkKey (k:=H k) E (by simp[MapKept.IsKey]) false 9999;refine⟨{ W with heap:=W.heap.setIfInBounds r (.map (es.push (mI k f clk)) (clk+1)) },?_,(MapKept.heap_set K).1,⟨rfl,rfl,rfl,by simp,fun j hj=>?_⟩⟩
 ·simp[Instr.mapUpdate,run_underlying Tryz.underlying140,MapKept.run_getObj_map K,hc,MapKept.run_findKey E hf,MapKept.run_setObj_map _ K,Result.andThen,mI]
 ·show(W.heap.setIfInBounds r _)[j]? = _;exact Array.getElem?_setIfInBounds_ne (Ne.symm hj)
theorem gs_new {w W:World}{r:Nat}{next:Int}{vq:Value}{l:List Od}(K:yp w W)(D:ORow W w.heap.size vq l)(hm:W.heap[r]? = some (.map chkM 9))(hr:w.heap.size<=r) :
  GS W.heap.size w.heap.size r (W.alloc (me (gsV r vq (gr0 next l)).toArray 144)) vq (gr0 next l)/\yp w (W.alloc (me (gsV r vq (gr0 next l)).toArray 144)):=by
 have jc:=mc W (me (gsV r vq (gr0 next l)).toArray 144);exact⟨⟨zo W _ _,zn D jc,⟨_,heap_alloc_new W _⟩,(jc.block r (yZ.1 hm).1).trans hm,K.size,hr⟩,K.trans (jc.mono K.size)⟩
theorem beginGroup_any (next:Int)(v:Value)(l:List Od)(w:World)(hr:RdR Od.vs 6 w v l)(hs:SlOk v)(hn:l.length<=1000) :
  Calls Tryz.prog 77 #[.agg #[H next,v]] w fun e w'=>∃G r vq,e = .returned (h3 G 0)/\GS G w.heap.size r w' vq (gr0 next l)/\yp w w':=by
 have hmm:=@run_makeMap Tryz.prog;have hmp:=@run_makeMap_plain Tryz.prog;have xG:(w.alloc (me #[H next,v] 31)).heap.size=w.heap.size+1:=by simp
 have h0:((w.alloc (me #[H next,v] 31)).alloc (Obj.map #[] 0)).heap[w.heap.size+1]? = some (.map #[] 0):=by
  have:=(MapKept.heap_alloc (w.alloc (me #[H next,v] 31)) (Obj.map #[] 0)).1;rwa[xG] at this
 have xS:yp w ((w.alloc (me #[H next,v] 31)).alloc (Obj.map #[] 0)):=(mc _ _).alloc (by rw[xG];omega) _;have hx0:Bx ((w.alloc (me #[H next,v] 31)).alloc (Obj.map #[] 0)) w.heap.size [H next,v]:=zl (zo w [H next,v] 31) ((Below.refl (w.heap.size+1) _).alloc (by rw[xG];omega) _) (by omega);obtain⟨W1,u1,o1,m1⟩:=stepI 1 93 h0 rfl;obtain⟨W2,u2,o2,m2⟩:=stepI 2 94 o1 rfl;obtain⟨W3,u3,o3,m3⟩:=stepI 3 95 o2 rfl;obtain⟨W4,u4,o4,m4⟩:=stepI 4 96 o3 rfl;obtain⟨W5,u5,o5,m5⟩:=stepI 5 97 o4 rfl;obtain⟨W6,u6,o6,m6⟩:=stepI 6 98 o5 rfl;obtain⟨W7,u7,o7,m7⟩:=stepI 7 99 o6 rfl;obtain⟨W8,u8,o8,m8⟩:=stepI 8 100 o7 rfl;obtain⟨W9,u9,o9,m9⟩:=stepI 9 101 o8 rfl;have hm:=gM (gM (gM (gM (gM (gM (gM (gM m1 m2) m3) m4) m5) m6) m7) m8) m9;have bC:Hid (W9.heap[w.heap.size+1]? = some (.map chkM 9)):=o9;have hb9:yp w W9:=⟨hm.os.trans xS.os,hm.tape.trans xS.tape,hm.output.trans xS.output,by rw[hm.size];exact xS.size,fun k E=>(hm.block k (by omega)).trans (xS.block k E)⟩;have HX9:Hid (Bx W9 w.heap.size [H next,v]):=dm hx0 (hm.block w.heap.size (by omega));have jh:=U hb9;have HR9:=U (zq hr hb9 yb);have qJ:=U hs;clear h0 xS hx0 o1 o2 o3 o4 o5 o6 o7 o8 o9 m1 m2 m3 m4 m5 m6 m7 m8 m9 hm hb9 hr hs xG;go_enter Tryz.func77,Tryz.ntmps77;have x0:=J (O HX9) 0 rfl;have x1:=J (O HX9) 1 rfl;go_wp2_with fail;refine(copyBook_any next v l W9 (O HR9) (O qJ) hn).mono ?_;rintro e w3 ⟨vq,rfl,oK,xV⟩;have HGN:=U (gs_new (next:=next) (mf (O jh) xV) (fM oK (O jh).size) ((xV.block (w.heap.size+1) (yZ.1 (O bC)).1).trans (O bC)) (Nat.le_succ _));clear oK xV u1 u2 u3 u4 u5 u6 u7 u8 u9 x0 x1;unfold gsV gr0 zCm zOd at HGN;go_wp2_with fail;go_ret;exact⟨_,_,vq,rfl,(O HGN).1,(O HGN).2⟩
theorem runG_stop {g:Gr}{e:Ev}{r:List Ev}(h:zK g e≠0):runG g (e::r)=(g,zK g e):=by rw[runG,if_neg h]
theorem runG_go {g:Gr}{e:Ev}{r:List Ev}(h:zK g e=0):runG g (e::r)=runG (dG g e) r:=by rw[runG,if_pos h]

end Go.Proofs.YtkofhemdefffpaaGreatDoor
