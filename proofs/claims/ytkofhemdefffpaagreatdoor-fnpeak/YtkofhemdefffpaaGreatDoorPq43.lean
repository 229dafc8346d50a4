/-.-/
import Derived.Test.YtkofhemdefffpaaGreatDoorPq39
set_option linter.unusedVariables false
set_option maxHeartbeats 6400000
set_option maxRecDepth 100000
namespace Go.Proofs.YtkofhemdefffpaaGreatDoor
open Go.RowKit
theorem tail_kinds {n:Int}{l:List Od}{c:Cm}(F:GoodL l):∀e∈(stE n l c).drop 1,e.kind≠1/\e.kind≠2:=by
 rw[stE]
 by_cases h0:refR n l c=0
 ·rw[if_pos h0]
  by_cases E:c.k=1
  ·rw[if_pos E];have hq:=iL h0 E;obtain⟨-,s2⟩:=matL_sums (c:=c) (id:=n) 21 l c.q [] F (by omega) hq.2 (by simp);rw[accE,List.cons_append,yV,List.drop_zero];intro e he;rcases List.mem_append.1 he with he|he
   ·have:=(s2 e he).1;omega
   ·split at he
    ·rw[List.mem_singleton.1 he];show(if dj c.t=true then(4:Int) else 5)≠1/\(if dj c.t=true then(4:Int) else 5)≠2
     split <;> decide
    ·cases he
  ·rw[if_neg E];split
   ·split <;> simp
   ·split
    ·simp
    ·intro e he;simp only[yV,List.drop_zero] at he;obtain⟨o,_,rfl⟩:=List.mem_map.1 he;exact⟨by show(9:Int)≠1;decide,by show(9:Int)≠2;decide⟩
 ·rw[if_neg h0];simp
theorem l01Text_any (s:ByteArray)(w:World)(hs:s.size<=maxLen) :
  Calls Tryz.prog 64 #[yl s] w fun e w'=>∃v,e=yn v/\OwnT w.heap.size w' v (dZ s)/\yp w w':=by
 obtain⟨i0,hi,ub,xX,uh⟩:=info_parts Tryz.infoByte;have hc:=gL s;have HT:=U (textL_len s).2;have HTL:=U (show dZ s=putU (zz (cutB s).size)++bl (cutB s) from rfl);have HC:=U (fun w=>specCut_any s w hs);generalize cutB s=c at *;generalize dZ s=l at *;clear hs;go_enter Tryz.func64,Tryz.ntmps64;go_wp2_with fail;refine(O HC _).mono ?_;rintro e w0 ⟨rfl,rfl⟩;go_wp2_with fail;refine(eF c.size _ (by omega) (by omega)).mono ?_;rintro e w1 ⟨v1,rfl,D,K⟩;have HO:=U D;have HB:=U K;clear D K;go_wp2_with (at_builtin;go_must (refine wpList_append_text _ rfl _ _ 22 9 rfl w0.heap.size 5 i0 Tryz.underlying22 Tryz.underlying9 hi ub xX uh _ _ rfl (O HO) c rfl (by have:=O HT;rw[O HTL,yQ,bl_len] at this;exact this) (O HB).size ?_);intro v2 w2 ur vn);go_ret;refine⟨_,rfl,by rw[O HTL];exact ur,(O HB).grown vn (O HB).size (OwnT.ge (O HO))⟩

def FlEnd (k:Int)(w:World)(e:Ending)(w':World):Prop:=∃g,e = .returned (.slice (some (Y g 0)) (fldK k).length (fldK k).length)/\w.heap.size<=g/\Bx w' g ((fldK k).map Value.bool)/\yp w w'
theorem fX (k:Int)(l:List Bool)(w:World)(t:TypeId)(h:fldK k=l):FlEnd k w (.returned (.slice (some (Y w.heap.size 0)) l.length l.length)) (w.alloc (me (l.map Value.bool).toArray t)):=by
 subst h;exact⟨w.heap.size,rfl,Nat.le_refl _,zo w _ t,mc _ _⟩
theorem fields1 (w:World):Calls Tryz.prog 65 #[H 1] w fun e w'=>FlEnd 1 w e w':=by
 have HE:=U (fX 1 (fldK 1) w 4 rfl);go_enter Tryz.func65,Tryz.ntmps65;go_wp2_with fail;go_ret;exact O HE
theorem fields2 (w:World):Calls Tryz.prog 65 #[H 2] w fun e w'=>FlEnd 2 w e w':=by
 have HE:=U (fX 2 (fldK 2) w 4 rfl);go_enter Tryz.func65,Tryz.ntmps65;go_wp2_with fail;go_ret;exact O HE
theorem fields3 (w:World):Calls Tryz.prog 65 #[H 3] w fun e w'=>FlEnd 3 w e w':=by
 have HE:=U (fX 3 (fldK 3) w 4 rfl);go_enter Tryz.func65,Tryz.ntmps65;go_wp2_with fail;go_ret;exact O HE
theorem fields4 (w:World):Calls Tryz.prog 65 #[H 4] w fun e w'=>FlEnd 4 w e w':=by
 have HE:=U (fX 4 (fldK 4) w 4 rfl);go_enter Tryz.func65,Tryz.ntmps65;go_wp2_with fail;go_ret;exact O HE
theorem fields5 (w:World):Calls Tryz.prog 65 #[H 5] w fun e w'=>FlEnd 5 w e w':=by
 have HE:=U (fX 5 (fldK 5) w 4 rfl);go_enter Tryz.func65,Tryz.ntmps65;go_wp2_with fail;go_ret;exact O HE
theorem fields6 (w:World):Calls Tryz.prog 65 #[H 6] w fun e w'=>FlEnd 6 w e w':=by
 have HE:=U (fX 6 (fldK 6) w 4 rfl);go_enter Tryz.func65,Tryz.ntmps65;go_wp2_with fail;go_ret;exact O HE
theorem fields7 (w:World):Calls Tryz.prog 65 #[H 7] w fun e w'=>FlEnd 7 w e w':=by
 have HE:=U (fX 7 (fldK 7) w 4 rfl);go_enter Tryz.func65,Tryz.ntmps65;go_wp2_with fail;go_ret;exact O HE
theorem fields8 (w:World):Calls Tryz.prog 65 #[H 8] w fun e w'=>FlEnd 8 w e w':=by
 have HE:=U (fX 8 (fldK 8) w 4 rfl);go_enter Tryz.func65,Tryz.ntmps65;go_wp2_with fail;go_ret;exact O HE
theorem fields9 (w:World):Calls Tryz.prog 65 #[H 9] w fun e w'=>FlEnd 9 w e w':=by
 have HE:=U (fX 9 (fldK 9) w 4 rfl);go_enter Tryz.func65,Tryz.ntmps65;go_wp2_with fail;go_ret;exact O HE
theorem fieldsN (k:Int)(w:World)(h:¬ (1<=k/\k<=9)):Calls Tryz.prog 65 #[H k] w fun e w'=>FlEnd k w e w':=by
 have HE:=U (fX k [] w 4 (by unfold fldK;rw[if_neg (by omega),if_neg (by omega),if_neg (by omega),if_neg (by omega),if_neg (by omega)]));have e1:(k==1)=false:=xe.2 (by omega);have e2:(k==2)=false:=xe.2 (by omega);have e3:(k==3)=false:=xe.2 (by omega);have e4:(k==4)=false:=xe.2 (by omega);have e5:(k==5)=false:=xe.2 (by omega);have e6:(k==6)=false:=xe.2 (by omega);have e7:(k==7)=false:=xe.2 (by omega);have e8:(k==8)=false:=xe.2 (by omega);have e9:(k==9)=false:=xe.2 (by omega);clear h;go_enter Tryz.func65,Tryz.ntmps65;go_wp2_with fail;go_ret;exact O HE
theorem fields_any (k:Int)(w:World):Calls Tryz.prog 65 #[H k] w fun e w'=>FlEnd k w e w':=by
 by_cases h:1<=k/\k<=9
 ·rcases(show k=1\/k=2\/k=3\/k=4\/k=5\/k=6\/k=7\/k=8\/k=9 by omega) with rfl|rfl|rfl|rfl|rfl|rfl|rfl|rfl|rfl
  ·exact fields1 w
  ·exact fields2 w
  ·exact fields3 w
  ·exact fields4 w
  ·exact fields5 w
  ·exact fields6 w
  ·exact fields7 w
  ·exact fields8 w
  ·exact fields9 w
 ·exact fieldsN k w h
theorem size_mk (w:World)(o:Obj):(w.alloc o).heap.size=w.heap.size+1:=by simp
theorem lL (e:Ev)(w:World):Calls Tryz.prog 66 #[evV e] w fun r w'=>∃g,r = .returned (.slice (some (Y g 0)) 5 5)/\w.heap.size<=g/\Bx w' g ((dw e).map (H))/\yp w w':=by
 have HE:Hid (∀w':World,yp w w'->∃g,Ending.returned (.slice (some (Y w'.heap.size 0)) 5 5) = .returned (.slice (some (Y g 0)) 5 5)/\w.heap.size<=g/\Bx (w'.alloc (me ((dw e).map (H)).toArray 3)) g ((dw e).map (H))/\yp w (w'.alloc (me ((dw e).map (H)).toArray 3))):=fun w' K =>
  ⟨w'.heap.size,rfl,K.size,zo w' _ _,K.alloc K.size _⟩
 have K:=mc w (Obj.cells e.vs.toArray 78);have HB:=U K;obtain⟨xn,⟨ck,cs,ct,cl,cq,ci,cp,cg⟩,id,xj,qty,xk,xi⟩:=e;unfold evV;unfold dw at HE |-;unfold Ev.vs at HB;simp only[List.map_cons,List.map_nil] at HE HB |-;clear K;go_enter Tryz.func66,Tryz.ntmps66;go_wp2_with fail;go_ret;have hf:=O HE _ (O HB);rw[size_mk] at hf;exact hf
end Go.Proofs.YtkofhemdefffpaaGreatDoor
