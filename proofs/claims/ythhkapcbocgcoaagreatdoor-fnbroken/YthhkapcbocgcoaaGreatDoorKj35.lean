/-.-/
import Derived.Test.YthhkapcbocgcoaaGreatDoorKj27
import Derived.Test.YthhkapcbocgcoaaGreatDoorKj29
import Derived.LaidLaws
import Derived.LaidHandle
set_option linter.unusedVariables false
set_option maxHeartbeats 6400000
set_option maxRecDepth 100000
namespace Go.Proofs.YthhkapcbocgcoaaGreatDoor
open Go.RowKit
theorem gErr:Tryz.prog.globalNamed "errors.errorType" = some 1:=by kernel_rfl
theorem rtErr:(Tryz.prog.cutTypes.find? (·.1 == "internal/reflectlite.rtype")).map (·.2) = some 245:=by kernel_rfl
theorem oneErr:((List.range 290).filter fun t=>Tryz.prog.rowNamed t [101,114,114,111,114]) = [169]:=by kernel_rfl
theorem sizeErr:Tryz.prog.types.size = 290:=by kernel_rfl
theorem err_laid {W:World}(h:laidMetH Tryz.prog [("errors.errorType",Rows.laid_errors_errorType)] W):ErrT W:=by
 have h':laidMet Tryz.prog [] W/\handlesMet Tryz.prog [("errors.errorType",Rows.laid_errors_errorType)] W:=h;obtain ⟨name,u,ty,e1,e2,e3,e4,e5⟩:=h'.2 _ (List.mem_singleton.2 rfl);have en:name = [101,114,114,111,114]:=(Option.some.inj e1).symm;subst en;obtain rfl:=Option.some.inj (rtErr.symm.trans e2);have hm:ty ∈ (List.range 290).filter fun t=>Tryz.prog.rowNamed t [101,114,114,111,114]:=List.mem_filter.2 ⟨List.mem_range.2 (by rw [<- sizeErr];exact e3),e4⟩;rw [oneErr] at hm;obtain rfl:=List.mem_singleton.1 hm;have hh:typeHandle Tryz.prog 169 = .pointer (some ⟨2,169,none⟩):=by kernel_rfl
 rw[hh] at e5;simpa[ErrT] using World.var?_cell gErr e5 0
theorem allR_ids {next:Int}:∀ {l:List Od} {last:Int},allR next last l=true->∀o∈l,o.id<next
 | [],_,_=>by simp
 | a::r,last,h=>by
  simp only[allR,xf,xg] at h;intro o Q;rcases List.mem_cons.1 Q with rfl|Q
  ·exact h.1.2
  ·exact allR_ids h.2 o Q
theorem okS_gi {next:Int}{l:List Od}(h:okS next l=true):GI (gr0 next l):=by
 have uX:=okS_sides h;simp only[okS,xf,xg] at h;obtain⟨⟨⟨D,Y⟩,h4⟩,_⟩:=h;have hn:1<=next/\next<=1000000:=by simpa[betB] using D
 refine gi_start ⟨Y,fun o Q=>?_,(iC h4).1⟩ (by omega) hn.2 uX (allR_ids h4);have:=iU h4 o Q;simp[ordB,betB] at this;omega
def fltC (next:Int)(l:List Od)(es:List Ev):Int:=if 4096<es.length then 2 else if okS next l=false\/es.all okE=false then 1 else 0
theorem flt_ok {next:Int}{l:List Od}{es:List Ev}(h:fltC next l es=0):es.length<=4096/\okS next l=true/\∀e∈es,okE e=true:=by
 unfold fltC at h;split at h
 ·omega
 ·split at h
  ·omega
  ·rename_i D Y;simp only[not_or,Bool.not_eq_false] at Y;exact⟨by omega,Y.1,List.all_eq_true.1 Y.2⟩
theorem mi (next:Int)(vb:Value)(l:List Od)(v:Value)(es:List Ev)(w:World)(hr:RdR Od.vs 6 w vb l)(pC:∀o∈l,o.tag.size<=maxLen)(he:RdR Ev.vs 14 w v es)(hf:∀e∈es,e.fit)(hE:ErrT w) :
  Calls Tryz.prog 17 #[.agg #[H next,vb],v] w fun x w'=>x = .returned (H (fltC next l es))/\yn w w':=by
 have xD:=mn w (mq #[H next,vb] 27);have HBO:=Z (fun W (h:yn w W)=>implBookOK_any next vb l W (zi hr h ya) pC);have HAL:=Z (fun W (h:yn w W)=>allRight_any v es W (zi he h ya) hf (fK hE h ya));have HFC:Hid (fltC next l es=if 4096<es.length then 2 else if okS next l=false\/es.all okE=false then 1 else 0):=rfl
 rw[okI_eq] at HBO;generalize fltC next l es=fc at HFC |-;generalize okS next l=bo at HBO HFC;generalize es.all okE=al at HAL HFC;have ud:=Z xD;have oQ:=Z (zn w [H next,vb] 27);obtain⟨a,cap,rfl,xC,hc⟩:=he;clear xD hr pC hf hE hc;go_enter Tryz.func17,Tryz.ntmps17;refine ms fun mR HK=>?_;go_wp2_with fail;refine U HK _ _ ?_;clear HK;generalize (w.alloc (mq #[H next,vb] 27))=W1 at ud oQ |-;obtain ⟨x0,x1⟩:=q0_2 (U oQ) rfl
 by_cases hl:4096<es.length
 ·have hl':(4096:Int)<(es.length:Int):=by omega
  have HQ:Hid (fc=2):=by show _ = _;rw[U HFC,if_pos hl]
  clear hl;go_wp2_with fail;go_ret;exact⟨by rw[U HQ];rfl,U ud⟩
 have hl':¬ (4096:Int)<(es.length:Int):=by omega
 have HFC2:=Z (U HFC);rw[if_neg hl] at HFC2;clear hl HFC;go_wp2_with fail;refine(U HBO W1 (U ud)).mono ?_;rintro e w2 ⟨rfl,xO⟩;have xv:=Z (mr (U ud) xO);clear xO;cases bo
 ·have HQ:Hid (fc=1):=by show _ = _;rw[U HFC2,if_pos (.inl rfl)]
  go_wp2_with fail;go_ret;exact⟨by rw[U HQ];rfl,U xv⟩
 go_wp2_with fail;refine(U HAL w2 (U xv)).mono ?_;rintro e w3 ⟨rfl,xL⟩;have xI:=Z (mr (U xv) xL);clear xL;cases al
 ·have HQ:Hid (fc=1):=by show _ = _;rw[U HFC2,if_pos (.inr rfl)]
  go_wp2_with fail;go_ret;exact⟨by rw[U HQ];rfl,U xI⟩
 ·have HQ:Hid (fc=0):=by show _ = _;rw[U HFC2,if_neg (by simp)]
  go_wp2_with fail;go_ret;exact⟨by rw[U HQ];rfl,U xI⟩
def wb2 (w:World)(xs ys:List Value)(T za:TypeId):World:=(w.alloc (Obj.cells xs.toArray T)).alloc (Obj.cells ys.toArray za)
theorem wb2_box (w:World)(xs ys:List Value)(T za:TypeId):Bx (wb2 w xs ys T za) w.heap.size xs/\Bx (wb2 w xs ys T za) (w.heap.size+1) ys/\yn w (wb2 w xs ys T za)/\w.heap.size+1<(wb2 w xs ys T za).heap.size:=by
 have qJ:(w.alloc (Obj.cells xs.toArray T)).heap.size=w.heap.size+1:=by simp
 have uw:Below (w.heap.size+1) (w.alloc (Obj.cells xs.toArray T)) (wb2 w xs ys T za):=by rw[<- qJ];exact mn _ _
 refine⟨zg (zn w xs T) uw (by omega),?_,(mn _ _).alloc (by simp) _,by simp[wb2]⟩;have:=zn (w.alloc (Obj.cells xs.toArray T)) ys za;rwa[qJ] at this
end Go.Proofs.YthhkapcbocgcoaaGreatDoor
