/-.-/
import Derived.Test.YtbghmldggahjiaaGreatDoorUj32
import Derived.MapKept
import Derived.Maps.Own
import Derived.WideMake
set_option linter.unusedVariables false
set_option maxHeartbeats 6400000
set_option maxRecDepth 100000
namespace Go.Proofs.YtbghmldggahjiaaGreatDoor
open Go.RowKit
def fnK (k:Int):FuncId:=if k=1 then 60 else if k=2 then 61 else if k=3 then 62 else if k=4 then 63 else if k=5 then 64 else if k=6 then 65 else if k=7 then 66 else if k=8 then 67 else if k=9 then 68 else(0:Nat)
theorem chk_any {G B r:Nat}{vq:Value}{g:Gr}(e:Ev)(w:World)(h:GS G B r w vq g)(hi:GI g)(he:okE e=true)(M:e.cmd.g.size<=maxLen):Calls Tryz.prog (fnK e.kind) #[xj G 0,evV e] w fun x w'=>Chk G B r vq g e w x w':=by
 have X:=fx he;rcases(show e.kind=1\/e.kind=2\/e.kind=3\/e.kind=4\/e.kind=5\/e.kind=6\/e.kind=7\/e.kind=8\/e.kind=9 by omega) with k|k|k|k|k|k|k|k|k
 ·rw[show fnK e.kind = 60 by simp[fnK,k]];exact accept_chk e w h hi he k M
 ·rw[show fnK e.kind = 61 by simp[fnK,k]];exact refuse_chk e w h hi he k M
 ·rw[show fnK e.kind = 62 by simp[fnK,k]];exact trade_chk e w h hi he k M
 ·rw[show fnK e.kind = 63 by simp[fnK,k]];exact rest_chk e w h hi he k M
 ·rw[show fnK e.kind = 64 by simp[fnK,k]];exact drop_chk e w h hi he k M
 ·rw[show fnK e.kind = 65 by simp[fnK,k]];exact cancel_chk e w h hi he k M
 ·rw[show fnK e.kind = 66 by simp[fnK,k]];exact reduce_chk e w h hi he k M
 ·rw[show fnK e.kind = 67 by simp[fnK,k]];exact endDay_chk e w h hi he k M
 ·rw[show fnK e.kind = 68 by simp[fnK,k]];exact expire_chk e w h hi he k M
theorem lookI_run {W:World}{r:Nat}(k:Int)(X:1<=k/\k<=9)(A:W.heap[r]? = some (.map chkM 9)) :
  (Instr.lookup 94 (.map (some r)) (H k) false).run Tryz.prog W = .ok (.func (.func (fnK k)) #[] #[]) W:=by
 have hu:=Tryz.underlying3;have hc:∀e,(Instr.checkKey e 10000 3 (H k)).run Tryz.prog W = .ok () W:=fun e=>MapKept.run_checkKey (k:=H k) hu (by simp[MapKept.IsKey]) e 9999
 have hf:∃i,Instr.findNow (TypeDesc.int .i64) (H k) chkM.toList 0=some (some (i,.func (.func (fnK k)) #[] #[])):=by
  rcases(show k=1\/k=2\/k=3\/k=4\/k=5\/k=6\/k=7\/k=8\/k=9 by omega) with rfl|rfl|rfl|rfl|rfl|rfl|rfl|rfl|rfl
  all_goals exact⟨_,rfl⟩
 obtain⟨i,hf⟩:=hf;simp[Instr.lookup,run_underlying Tryz.underlying94,MapKept.run_getObj_map A,hc,MapKept.run_findKey hu hf,Result.andThen]
theorem ta_br (k:Int)(w:World):(Instr.typeAssert (.iface 119 (H k)) 20 119 true).run Tryz.prog w = .ok (.tuple #[H k,.bool true]) w:=by kernel_rfl
theorem ta_brn (w:World):(Instr.typeAssert .nilIface 20 119 true).run Tryz.prog w = .ok (.tuple #[H 0,.bool false]) w:=by kernel_rfl
theorem catchA_panicking (p:Addr)(x:Value)(k:Int)(older:List PanicEntry)(w:World)(hc:w.cell? p=some x)(hz:w.frozen? p=false) :
  CallsD Tryz.prog 72 #[.pointer (some p)] (.panicking ({ v:=brV k,recovered:=false } :: older)) w fun e u' w' =>
   e = .returned (.tuple #[])/\u' = .panicking ({ v:=brV k,recovered:=true } :: older)/\w'=w.setCell p (H k):=by
 refine callsD_of_wpS Tryz.func72 rfl fun c₀ cs hu=>?_;simp only[brV] at hu |-;apply wpS_seq;apply wpS_region;simp[wpOpsS,go_sem,recoverD,hu,Tryz.ntmps72,Exit.thenS,ta_br];apply wpS_seq;apply wpS_region;simp[wpOpsS,go_sem,Exit.thenS];refine wpS_cond (t:=true) (by simp[Act.eval,Array.replicate]) ?_;simp only[if_true];apply wpS_region;simp[wpOpsS,go_sem,hc,hz,bodyPostS,results,Tryz.results72]
theorem catchA_idle (p:Addr)(w:World) :
  CallsD Tryz.prog 72 #[.pointer (some p)] .returning w fun e u' w'=>e = .returned (.tuple #[])/\u' = .returning/\w'=w:=by
 refine callsD_of_wpS Tryz.func72 rfl fun c₀ cs hu=>?_;apply wpS_seq;apply wpS_region;simp[wpOpsS,go_sem,recoverD,hu,Tryz.ntmps72,Exit.thenS,ta_brn];apply wpS_seq;apply wpS_region;simp[wpOpsS,go_sem,Exit.thenS];refine wpS_cond (t:=false) (by simp[Act.eval,Array.replicate]) ?_;simp only[Bool.false_eq_true,if_false];refine wpS_of_wp (wp_skip ?_);cases c₀
 simp_all [bodyPostS,results,Tryz.results72]
theorem gs_far {G B r b:Nat}{W:World}{vq:Value}{g:Gr}{u:Value}(h:GS G B r W vq g)(A:b≠G)(ht:∃xr,W.heap[b]? = some (.cells xr 3 (0,0))):GS G B r (W.setCell (U b 0) u) vq g:=by
 have hr:r≠b:=by
  rintro rfl;obtain⟨xr,hc⟩:=ht;rw[h.mp] at hc;cases hc
 obtain⟨xr,hc⟩:=h.typ;exact⟨ej h.box (Ne.symm A),dT h.row (zy h.row ht (by decide)) 0 u,⟨xr,(yS _ _ _ _ (Ne.symm A)).trans hc⟩,(yS _ _ _ _ hr).trans h.mp,h.hG,h.hr⟩
theorem step_bg {g:Gr}{e:Ev}:dK g e = { takG g e with bg:=begG g e }:=by
 unfold takG dK
 repeat' split
 all_goals rfl
def AddE (G B r:Nat)(g:Gr)(e:Ev)(w:World)(x:Ending)(w':World):Prop:=x = .returned (H (zx g e))/\Below B w w'/\(zx g e=0->∃ux,GS G B r w' ux (dK g e))
def AddK (G B r:Nat)(vq:Value)(g:Gr)(e:Ev)(w:World)(x:Ending)(w':World):Prop:=x = .returned (H (zx g e))/\Kp G vq w w'/\(zx g e=0->∃ux,GS G B r w' ux (dK g e))
theorem kp_kp {G:Nat}{vq:Value}{w W W':World}(h:Kp G vq w W)(k:Kp G vq W W'):Kp G vq w W':=
 ⟨k.os.trans h.os,k.tape.trans h.tape,k.output.trans h.output,yN h.size k.size,fun i hi D E=>(k.block i (yJ hi h.size) D E).trans (h.block i hi D E)⟩
theorem kp_far {G b:Nat}{vq u:Value}{w W:World}(h:Kp G vq w W)(A:w.heap.size<=b):Kp G vq w (W.setCell (U b 0) u):=
 ⟨h.os,h.tape,h.output,by have:=h.size;simpa[World.setCell] using this,fun i hi D E=>(yS _ _ _ _ (by show i≠b;omega)).trans (h.block i hi D E)⟩
theorem add_kp {G B r:Nat}{vq:Value}{g:Gr}(e:Ev)(w:World)(h:GS G B r w vq g)(hi:GI g)(he:okE e=true)(M:e.cmd.g.size<=maxLen):Calls Tryz.prog 46 #[xj G 0,evV e] w fun x w'=>AddK G B r vq g e w x w':=by
 have hsf:=sfl;have hmf:∀(fn:Fn) (first cap:Array Value) (w:World),(Instr.makeFunc fn first cap).run Tryz.prog w = .ok (.func fn first cap) w:=fun _ _ _ _=>rfl;have hG:=h.lt;have jA:=h.base;have HCH:=Q (fun W (hW:GS G B r W vq g)=>chk_any e W hW hi he M);have ak:=Q (fun W hW=>lookI_run (W:=W) (r:=r) e.kind (fx he) hW)
 have HFK:Hid (fnK e.kind = 60 \/ fnK e.kind = 61 \/ fnK e.kind = 62 \/ fnK e.kind = 63 \/ fnK e.kind = 64 \/ fnK e.kind = 65 \/ fnK e.kind = 66 \/ fnK e.kind = 67 \/ fnK e.kind = 68):=by
  have X:=fx he;rcases(show e.kind=1\/e.kind=2\/e.kind=3\/e.kind=4\/e.kind=5\/e.kind=6\/e.kind=7\/e.kind=8\/e.kind=9 by omega) with k|k|k|k|k|k|k|k|k <;> (show _ \/ _;simp[fnK,k])
 have HKD:Hid (dK g e = { takG g e with bg:=if g.bg=0 then e.kind else g.bg }):=step_bg
 have HCE:Hid (∀x w',x = .returned (H (zx g e))->Kp G vq w w'->(zx g e=0->∃ux,GS G B r w' ux (dK g e))->AddK G B r vq g e w x w'):=fun x w' D E h3=>⟨D,E,h3⟩;have HTB:Hid ((takG g e).bg=g.bg):=rfl;unfold Chk at HCH;generalize AddK G B r vq g e w=C at HCE |-;generalize zx g e=ru at HCH HCE;generalize dK g e=g2 at HKD HCE;generalize takG g e=g1 at HCH HKD HTB;generalize fnK e.kind=fk at HCH ak HFK;obtain⟨xl,⟨ck,cs,ct,cl,cq,ci,cp,cg⟩,id,xh,qty,xi,xg⟩:=e;unfold evV at HCH |-;simp only at HCH ak HKD |-;have kt:(w.alloc (J (yv xl ck cs ct cl cq ci cp cg id xh qty xi xg).toArray 89)).heap.size=w.heap.size+1:=by simp
 have xA:=lT w (J (yv xl ck cs ct cl cq ci cp cg id xh qty xi xg).toArray 89);have xR:Below (w.heap.size+1) (w.alloc (J (yv xl ck cs ct cl cq ci cp cg id xh qty xi xg).toArray 89)) ((w.alloc (J (yv xl ck cs ct cl cq ci cp cg id xh qty xi xg).toArray 89)).alloc (J #[H 0] 3)):=(Below.refl _ _).alloc (by rw[kt];omega) _;have HS:Hid (((w.alloc (J (yv xl ck cs ct cl cq ci cp cg id xh qty xi xg).toArray 89)).alloc (J #[H 0] 3)).heap.size=w.heap.size+1+1):=by show _ = _;simp
 have HX:=Q (zf (zj w (yv xl ck cs ct cl cq ci cp cg id xh qty xi xg) 89) xR (by omega))
 have HY:Hid (Bx ((w.alloc (J (yv xl ck cs ct cl cq ci cp cg id xh qty xi xg).toArray 89)).alloc (J #[H 0] 3)) (w.heap.size+1) [H 0]):=by
  have:=zj (w.alloc (J (yv xl ck cs ct cl cq ci cp cg id xh qty xi xg).toArray 89)) [H 0] 3;rwa[kt] at this
 have HYT:Hid (∃xr,((w.alloc (J (yv xl ck cs ct cl cq ci cp cg id xh qty xi xg).toArray 89)).alloc (J #[H 0] 3)).heap[w.heap.size+1]? = some (.cells xr 3 (0,0))):=by
  have:=heap_alloc_new (w.alloc (J (yv xl ck cs ct cl cq ci cp cg id xh qty xi xg).toArray 89)) (J #[H 0] 3);rw[kt] at this;exact⟨_,this⟩
 have qe:Hid (yn w ((w.alloc (J (yv xl ck cs ct cl cq ci cp cg id xh qty xi xg).toArray 89)).alloc (J #[H 0] 3))):=xA.trans (xR.mono (by omega));have HB:Hid (Kp G vq w ((w.alloc (J (yv xl ck cs ct cl cq ci cp cg id xh qty xi xg).toArray 89)).alloc (J #[H 0] 3))):=eL (Z qe);have HG:=Q (zu h (Z qe));have HGW:=Q h;clear h xA hi xR kt he M qe
 go_enter_defers Tryz.func46,Tryz.ntmps46
 go_wp2_with fail;generalize ((w.alloc (J (yv xl ck cs ct cl cq ci cp cg id xh qty xi xg).toArray 89)).alloc (J #[H 0] 3))=hk at HS HX HY HYT HG HB |-;have xW:Hid (Bx hk.drew w.heap.size (yv xl ck cs ct cl cq ci cp cg id xh qty xi xg)):=zm (Z HX);have HYD:Hid (Bx hk.drew (w.heap.size+1) [H 0]):=zm (Z HY);have qM:Hid (GS G B r hk.drew vq g):=zu (Z HG) ⟨rfl,rfl,rfl,Nat.le_refl _,fun _ _=>rfl⟩;have uk:Hid (Kp G vq w hk.drew):=ie (Z HB);have hSD:w.heap.size+1<hk.drew.heap.size:=by show w.heap.size+1<hk.heap.size;have:=Z HS;omega
 clear HX HY HG HB HS;obtain⟨e0,e1,e2,e3,e4,e5,e6,e7,e8,e9,uL,uG,vJ,vu⟩:=yy (Z xW);have c0:hk.drew.cell? (U G 0)=some (.map (some r)):=Y (Z qM).box 0 rfl;have vC:=Z ak hk.drew (Z qM).mp;have pn:vq.ownBlock≠some (w.heap.size+1):=fun e=>by have:=((Z HGW).row.lt _ e).2;omega
 have HNR2:vq.ownBlock≠some w.heap.size:=fun e=>by have:=((Z HGW).row.lt _ e).2;omega
 refine zw 9 (by kernel_rfl) (by kernel_rfl) ?_;simp only[yT,List.take_zero,yU,List.drop_zero]
 repeat still_step
 refine wpStill_nil ?_;clear vC c0 e0 e1 e2 e3 e4 e5 e6 e7 e8 e9 uL uG vJ vu;go_wp2_with fail;rcases Z HFK with rfl|rfl|rfl|rfl|rfl|rfl|rfl|rfl|rfl
 all_goals
  clear HFK ak;go_wp2_with fail;refine(Z HCH hk.drew (Z qM)).mono ?_;clear HCH;rintro x w2 ⟨hx,oC,uc⟩;have xq:=Q (kp_kp (Z uk) oC);have xS:=(Z qM).row;have hY2:Bx w2 (w.heap.size+1) [H 0]:=zQ (Z HYD) (oC.block (w.heap.size+1) hSD (by omega) (fun e=>pn e.symm));have hX2:Bx w2 w.heap.size (yv xl ck cs ct cl cq ci cp cg id xh qty xi xg):=zQ (Z xW) (oC.block w.heap.size (by omega) (by omega) (fun e=>HNR2 e.symm));have HY2:=Q hY2
  have HYT2:Hid (∃xr,w2.heap[w.heap.size+1]? = some (.cells xr 3 (0,0))):=by
   obtain⟨xr,hc⟩:=Z HYT;exact⟨xr,(oC.block (w.heap.size+1) hSD (by omega) (fun e=>pn e.symm)).trans hc⟩
  have xF:=Q hX2;have vL:=Q uc;clear oC uc xS hX2 hY2
  by_cases hr:ru=0
  case neg =>
   rw[outR_no hr] at hx;subst hx;have z0:=Y (Z HY2) 0 rfl;have f0:=zc (Z HY2) 0 (by decide);have HR:=Q hr;clear hr;go_wp2_with fail;refine leaves_cons (f:=72) (args:=#[xj (w.heap.size+1) 0]) (by simp) (by simp[go_sem]) ?_;refine(catchA_panicking (U (w.heap.size+1) 0) (H 0) ru [] _ z0 f0).mono ?_;rintro e u' w'' ⟨rfl,rfl,rfl⟩;simp[Leaves,settle,results,Tryz.results46,go_sem,yM _ _ (H ru) z0];exact Z HCE _ _ rfl (kp_far (Z xq) (by omega)) (fun h=>absurd h (Z HR))
  rw[outR_ok hr] at hx;subst hx;obtain⟨ux,ja⟩:=Z vL hr;have uD:=Q ja;have HR:=Q hr
  have c3:w2.cell? (U G 3)=some (H g.bg):=by
   have:=Y (Z uD).box 3 rfl;rw[<- Z HTB];exact this
  have q3:=zc (Z uD).box 3 (by show 3<16;decide);have x0:=Y (Z xF) 0 rfl
  by_cases h0:g.bg=0
  ·have b0:(g.bg==0)=true:=by simpa using h0
   have aA:=Q (Z HKD);rw[if_pos h0] at aA;have HY3:Hid (Bx (w2.setCell (U G 3) (H xl)) (w.heap.size+1) [H 0]):=ej (Z HY2) (by omega);have uP:Hid (GS G B r (w2.setCell (U G 3) (H xl)) ux { g1 with bg:=xl }):=gs_set (Z uD) 3 _ (by decide) rfl rfl
   have HYT4:Hid (∃xr,(w2.setCell (U G 3) (H xl)).heap[w.heap.size+1]? = some (.cells xr 3 (0,0))):=by
    obtain⟨xr,hc⟩:=Z HYT2;exact⟨xr,(yS _ _ _ _ (by show w.heap.size+1≠G;omega)).trans hc⟩
   have xK:=Q (kp_set (Z xq) 3 (H xl));have z0:=Y (Z HY3) 0 rfl;have f0:=zc (Z HY3) 0 (by decide);clear h0 hr;go_wp2_with fail;refine leaves_cons (f:=72) (args:=#[xj (w.heap.size+1) 0]) (by simp) (by simp[go_sem]) ?_;refine(catchA_idle (U (w.heap.size+1) 0) _).mono ?_;rintro e u' w'' ⟨rfl,rfl,rfl⟩;simp[Leaves,settle,results,Tryz.results46,go_sem,yM _ _ (H 0) z0];exact Z HCE _ _ (by rw[Z HR]) (kp_far (Z xK) (by omega)) (fun _=>⟨ux,by rw[Z aA];exact gs_far (Z uP) (by omega) (Z HYT4)⟩)
  ·have b0:(g.bg==0)=false:=by simpa using h0
   have aA:Hid (g2=g1):=by
    show _ = _;rw[Z HKD,if_neg h0,<- Z HTB]
   have z0:=Y (Z HY2) 0 rfl;have f0:=zc (Z HY2) 0 (by decide);clear h0 hr;go_wp2_with fail;refine leaves_cons (f:=72) (args:=#[xj (w.heap.size+1) 0]) (by simp) (by simp[go_sem]) ?_;refine(catchA_idle (U (w.heap.size+1) 0) _).mono ?_;rintro e u' w'' ⟨rfl,rfl,rfl⟩;simp[Leaves,settle,results,Tryz.results46,go_sem,yM _ _ (H 0) z0];exact Z HCE _ _ (by rw[Z HR]) (kp_far (Z xq) (by omega)) (fun _=>⟨ux,by rw[Z aA];exact gs_far (Z uD) (by omega) (Z HYT2)⟩)
structure MUp (r:Nat) (w w':World):Prop where
 os:w'.os=w.os
 tape:w'.tape=w.tape
 output:w'.output=w.output
 size:w'.heap.size=w.heap.size
 block:∀k,k≠r->w'.heap[k]? = w.heap[k]?
theorem gJ {r:Nat}{w w1 w2:World}(D:MUp r w w1)(E:MUp r w1 w2):MUp r w w2:=
 ⟨E.os.trans D.os,E.tape.trans D.tape,E.output.trans D.output,E.size.trans D.size,fun k X=>(E.block k X).trans (D.block k X)⟩
theorem stepI {W:World}{r clk:Nat}{es:Array MapEntry}(k:Int)(f:FuncId)(A:W.heap[r]? = some (.map es clk))(hf:Instr.findNow (TypeDesc.int .i64) (H k) es.toList 0=some none) :
  ∃W1,(Instr.mapUpdate 94 (.map (some r)) (H k) (.func (.func f) #[] #[])).run Tryz.prog W = .ok () W1/\W1.heap[r]? = some (.map (es.push (mI k f clk)) (clk+1))/\MUp r W W1:=by
 have X:=Tryz.underlying3;have hc:(Instr.checkKey false 10000 3 (H k)).run Tryz.prog W = .ok () W:=MapKept.run_checkKey (k:=H k) X (by simp[MapKept.IsKey]) false 9999;refine⟨{ W with heap:=W.heap.setIfInBounds r (.map (es.push (mI k f clk)) (clk+1)) },?_,(MapKept.heap_set A).1,⟨rfl,rfl,rfl,by simp,fun j hj=>?_⟩⟩
 ·simp[Instr.mapUpdate,run_underlying Tryz.underlying94,MapKept.run_getObj_map A,hc,MapKept.run_findKey X hf,MapKept.run_setObj_map _ A,Result.andThen,mI]
 ·show(W.heap.setIfInBounds r _)[j]? = _;exact Array.getElem?_setIfInBounds_ne (Ne.symm hj)
theorem gs_new {w W:World}{r:Nat}{next:Int}{vq:Value}{l:List Od}(A:yn w W)(K:ORow W w.heap.size vq l)(hm:W.heap[r]? = some (.map chkM 9))(hr:w.heap.size<=r) :
  GS W.heap.size w.heap.size r (W.alloc (J (gsV r vq (gr0 next l)).toArray 100)) vq (gr0 next l)/\yn w (W.alloc (J (gsV r vq (gr0 next l)).toArray 100)):=by
 have jB:=lT W (J (gsV r vq (gr0 next l)).toArray 100);exact⟨⟨zj W _ _,zK K jB,⟨_,heap_alloc_new W _⟩,(jB.block r (yY.1 hm).1).trans hm,A.size,hr⟩,A.trans (jB.mono A.size)⟩
theorem beginGroup_any (next:Int)(v:Value)(l:List Od)(w:World)(hr:RdR Od.vs 6 w v l)(hs:SlOk v)(hn:l.length<=1000) :
  Calls Tryz.prog 44 #[.agg #[H next,v]] w fun e w'=>∃G r vq,e = .returned (xj G 0)/\GS G w.heap.size r w' vq (gr0 next l)/\yn w w':=by
 have hmm:=@run_makeMap Tryz.prog;have hmp:=@run_makeMap_plain Tryz.prog;have xI:(w.alloc (J #[H next,v] 41)).heap.size=w.heap.size+1:=by simp
 have h0:((w.alloc (J #[H next,v] 41)).alloc (Obj.map #[] 0)).heap[w.heap.size+1]? = some (.map #[] 0):=by
  have:=(MapKept.heap_alloc (w.alloc (J #[H next,v] 41)) (Obj.map #[] 0)).1;rwa[xI] at this
 have xA:yn w ((w.alloc (J #[H next,v] 41)).alloc (Obj.map #[] 0)):=(lT _ _).alloc (by rw[xI];omega) _;have qW:Bx ((w.alloc (J #[H next,v] 41)).alloc (Obj.map #[] 0)) w.heap.size [H next,v]:=zf (zj w [H next,v] 41) ((Below.refl (w.heap.size+1) _).alloc (by rw[xI];omega) _) (by omega);obtain⟨W1,u1,o1,m1⟩:=stepI 1 60 h0 rfl;obtain⟨W2,u2,o2,m2⟩:=stepI 2 61 o1 rfl;obtain⟨W3,u3,o3,m3⟩:=stepI 3 62 o2 rfl;obtain⟨W4,u4,o4,m4⟩:=stepI 4 63 o3 rfl;obtain⟨W5,u5,o5,m5⟩:=stepI 5 64 o4 rfl;obtain⟨W6,u6,o6,m6⟩:=stepI 6 65 o5 rfl;obtain⟨W7,u7,o7,m7⟩:=stepI 7 66 o6 rfl;obtain⟨W8,u8,o8,m8⟩:=stepI 8 67 o7 rfl;obtain⟨W9,u9,o9,m9⟩:=stepI 9 68 o8 rfl;have hm:=gJ (gJ (gJ (gJ (gJ (gJ (gJ (gJ m1 m2) m3) m4) m5) m6) m7) m8) m9;have HO9:Hid (W9.heap[w.heap.size+1]? = some (.map chkM 9)):=o9;have jk:yn w W9:=⟨hm.os.trans xA.os,hm.tape.trans xA.tape,hm.output.trans xA.output,by rw[hm.size];exact xA.size,fun k X=>(hm.block k (by omega)).trans (xA.block k X)⟩;have HX9:Hid (Bx W9 w.heap.size [H next,v]):=zQ qW (hm.block w.heap.size (by omega));have bH:=Q jk;have HR9:=Q (zq hr jk ya);have jS:=Q hs;clear h0 xA qW o1 o2 o3 o4 o5 o6 o7 o8 o9 m1 m2 m3 m4 m5 m6 m7 m8 m9 hm jk hr hs xI;go_enter Tryz.func44,Tryz.ntmps44;have x0:=Y (Z HX9) 0 rfl;have x1:=Y (Z HX9) 1 rfl;go_wp2_with fail;refine(copyBook_any next v l W9 (Z HR9) (Z jS) hn).mono ?_;rintro e w3 ⟨vq,rfl,pI,xN⟩;have cO:=Q (gs_new (next:=next) (lW (Z bH) xN) (ex pI (Z bH).size) ((xN.block (w.heap.size+1) (yY.1 (Z HO9)).1).trans (Z HO9)) (Nat.le_succ _));clear pI xN u1 u2 u3 u4 u5 u6 u7 u8 u9 x0 x1;unfold gsV gr0 zCm zOd at cO;go_wp2_with fail;go_ret;exact⟨_,_,vq,rfl,(Z cO).1,(Z cO).2⟩
theorem runG_stop {g:Gr}{e:Ev}{r:List Ev}(h:zx g e≠0):runG g (e::r)=(g,zx g e):=by rw[runG,if_neg h]
theorem runG_go {g:Gr}{e:Ev}{r:List Ev}(h:zx g e=0):runG g (e::r)=runG (dK g e) r:=by rw[runG,if_pos h]
theorem ix (n a b:Int)(w:World) :
  Calls Tryz.prog 202 #[H n,H a,H b] w fun e w'=>e = .returned (.bool (betB n a b))/\w'=w:=by
 go_enter Tryz.func202,Tryz.ntmps202;go_wp2
 all_goals go_ret
 all_goals exact⟨zO (by rw[Bool.eq_iff_iff];simp[betB];omega),rfl⟩
theorem l03Tag_any (s:ByteArray)(w:World)(hs:s.size<=maxLen) :
  Calls Tryz.prog 218 #[yk s] w fun e w'=>e = .returned (.bool (tagB s))/\w'=w:=by
 unfold maxLen at hs
 by_cases hl:s.size<=12
 ·have kQ:¬ ((12:Int)<s.size):=by omega
  go_enter Tryz.func218,Tryz.ntmps218;go_wp2_with fail
  go_loop [3] (fun i=>∃k:Nat,k<=s.size/\i=H k/\Hid (s.data.toList.all tagC=(s.data.toList.drop k).all tagC)) (fun i=>s.size-(intOf i).toNat)
  case atStart=>exact⟨0,Nat.zero_le _,rfl,by simp[Hid]⟩
  case round =>
   obtain⟨k,X,rfl,I⟩:=hrel
   by_cases xH:k<s.size
   ·have uq:(k:Int)<s.size:=by omega
    have ko:=drop_cons s k xH;have hw:betB (s[k].toNat:Int) 32 126=tagC s[k]:=rfl;cases ht:tagC s[k]
    ·have HT:Hid (s.data.toList.all tagC=false):=by
      have:=Z I;rw[ko,List.all_cons,ht,Bool.false_and] at this;exact this
     rw[ht] at hw
     have hor:(s[k].toNat:Int)<32\/(32<=(s[k].toNat:Int)/\(126:Int)<s[k].toNat):=by
      simp[betB] at hw;omega
     clear ko ht hw;rcases hor with h32|⟨h32,h126⟩
     ·have hd:decide ((s[k].toNat:Int)<32)=true:=by simpa using h32
      go_wp2_with fail;go_ret;exact⟨zO (tag_no s (Z HT)).symm,rfl⟩
     ·have hd:decide ((s[k].toNat:Int)<32)=false:=by simpa using h32
      go_wp2_with fail;go_ret;exact⟨zO (tag_no s (Z HT)).symm,rfl⟩
    ·have HN:Hid (s.data.toList.all tagC=(s.data.toList.drop (k+1)).all tagC):=by
      have:=Z I;rw[ko,List.all_cons,ht,Bool.true_and] at this;exact this
     rw[ht] at hw
     have hor:32<=(s[k].toNat:Int)/\(s[k].toNat:Int)<=126:=by
      simp[betB] at hw;omega
     obtain⟨h32,h126⟩:=hor;have hd:decide ((s[k].toNat:Int)<32)=false:=by simpa using h32
     have hd2:¬ ((126:Int)<s[k].toNat):=by omega
     clear ko ht hw;go_wp2_with fail
     go_round
     case rel=>exact⟨k+1,by omega,by go_num,Z HN⟩
     case measure=>simp[intOf];omega
   ·go_wp2_with fail;go_ret;have h:=Z I;rw[xa (by rw[data_len];omega)] at h;exact⟨zO (tag_yes s hl (by rw[h];rfl)).symm,rfl⟩
 ·have kQ:(12:Int)<s.size:=by omega
  go_enter Tryz.func218,Tryz.ntmps218;go_wp2_with fail;go_ret;exact⟨zO (tag_long s hl).symm,rfl⟩
theorem l03Levels_any (v:Value)(l:List Od)(w:World)(hr:RdR Od.vs 6 w v l)(hn:l.length<=1000) :
  Calls Tryz.prog 89 #[v] w fun e w'=>e = .returned (H (nlev l:Nat))/\w.grownBy w' none:=by
 obtain⟨a,cap,rfl,xD,hc⟩:=hr
 have xp:∀(k:Nat) (c:Od),l[k]? = some c->∃b off,a=some (U b off)/\b<w.heap.size/\w.rangeAt b (off+k*6) c.vs:=by
  intro k c X;obtain⟨b,off,D,E,h3⟩:=hc (by intro h;rw[h] at X;simp at X);exact⟨b,off,D,E,h3 k c X⟩
 have HC:=Q xp;clear xp hc;go_enter Tryz.func89,Tryz.ntmps89;go_wp2_with fail;go_loopw [3,4] (fun nv iv wr=>∃(i n:Nat),nv=H n/\i<=l.length/\iv=H i/\Hid (n=nlev (l.take i))/\n<=i/\w.grownBy wr none) (fun _ iv _=>l.length-(intOf iv).toNat)
 case atStart=>exact⟨0,0,rfl,Nat.zero_le _,rfl,by simp[Hid,nlev,nlevR],Nat.le_refl _,yR _ _⟩
 case round =>
  obtain⟨i,n,rfl,hi,rfl,hnl,hni,M⟩:=hrel;have HG:=Q M;clear M
  by_cases xH:i<l.length
  ·obtain⟨c,qk⟩:∃c,l[i]? = some c:=⟨_,yH xH⟩;obtain⟨b,off,rfl,A,xm⟩:=Z HC i c qk;have aB:=Q qk;have bI:=Q xm;have uq:(i:Int)<l.length:=by omega
   have HNN:Hid (nlev (l.take (i+1))=n+(fR c (l.take i)).toNat):=by
    show _ = _;rw[takeR l i c qk,nlev_fresh,<- Z hnl]
   clear qk xm hnl;go_wp2_with fail;go_loopw [5,6] (fun fv kv wq=>∃(k:Nat) (fb:Bool),fv = .bool fb/\k<=i/\kv=H k/\Hid (fb=fR c (l.take k))/\w.grownBy wq none) (fun _ kv _=>i-(intOf kv).toNat)
   case atStart=>exact⟨0,true,rfl,Nat.zero_le _,rfl,rfl,Z HG⟩
   case round =>
    obtain⟨k,fb,rfl,X,rfl,cy,M⟩:=hrel;have HGQ:=Q M;clear M
    by_cases hki:k<i
    ·obtain⟨y,hky⟩:∃y,l[k]? = some y:=⟨_,yH (by omega)⟩;obtain⟨b',oW,pf,cj,kL⟩:=Z HC k y hky;simp only[Option.some.injEq,Addr.mk.injEq,and_true] at pf;obtain⟨rfl,rfl⟩:=pf
     have HFN:Hid (fR c (l.take (k+1))=(fb&&difB c y)):=by
      show _ = _;rw[takeR l k y hky,Z cy,fR,List.all_append];simp[fR]
     obtain⟨-,e1,e2,-⟩:=zM (zA (Z bI) (Z HGQ) A (by simp));obtain⟨-,d1,d2,-⟩:=zM (zA kL (Z HGQ) A (by simp));have hki':(k:Int)<i:=by omega
     have hkl':(k:Int)<l.length:=by omega
     have qi:∀(fb':Bool),fb'=(fb&&difB c y)->Hid (fb'=fR c (l.take (k+1))):=fun fb' h=>by show _ = _;rw[h,Z HFN]
     have ax:=Q qi;clear hky kL qi;cases fb
     ·go_wp2_with fail;go_quiet (fail);go_wp2_with fail;go_roundw
      case rel=>exact⟨k+1,false,rfl,by omega,by go_num,Z ax _ rfl,gg (Z HGQ) rfl rfl rfl rfl⟩
      case measure=>simp[intOf];omega
     ·by_cases D:y.side=c.side
      ·have h1':(y.side != c.side)=false:=by simpa using D
       by_cases E:y.ticks=c.ticks
       ·have hd:(true&&difB c y)=false:=by simp[difB,D,E]
        go_wp2_with fail;go_quiet (fail);go_wp2_with fail;go_roundw
        case rel=>exact⟨k+1,false,by first|rfl|simp[E],by omega,by go_num,Z ax _ hd.symm,gg (Z HGQ) rfl rfl rfl rfl⟩
        case measure=>simp[intOf];omega
       ·have hd:(true&&difB c y)=true:=by simp[difB,E]
        go_wp2_with fail;go_quiet (fail);go_wp2_with fail;go_roundw
        case rel=>exact⟨k+1,true,by first|rfl|simp[E],by omega,by go_num,Z ax _ hd.symm,gg (Z HGQ) rfl rfl rfl rfl⟩
        case measure=>simp[intOf];omega
      ·have h1':(y.side != c.side)=true:=by simpa using D
       have hd:(true&&difB c y)=true:=by simp[difB,D]
       go_wp2_with fail;go_quiet (fail);go_wp2_with fail;go_roundw
       case rel=>exact⟨k+1,true,by first|rfl|simp,by omega,by go_num,Z ax _ hd.symm,gg (Z HGQ) rfl rfl rfl rfl⟩
       case measure=>simp[intOf];omega
    ·obtain rfl:k=i:=by omega
     have HF:=cy;cases fb
     ·have HE:Hid (nlev (l.take (k+1))=n):=by show _ = _;rw[Z HNN,<- Z HF];rfl
      clear cy;go_wp2_with fail;exact⟨⟨k+1,n,rfl,by omega,by go_num,(Z HE).symm,by omega,Z HGQ⟩,by simp[intOf];omega⟩
     ·have HE:Hid (nlev (l.take (k+1))=n+1):=by show _ = _;rw[Z HNN,<- Z HF];rfl
      clear cy;go_wp2_with fail;exact⟨⟨k+1,n+1,by go_num,by omega,by go_num,(Z HE).symm,by omega,Z HGQ⟩,by simp[intOf];omega⟩
  ·go_wp2_with fail;go_ret;have h:=Z hnl;rw[yZ (by omega)] at h;subst h;exact⟨rfl,Z HG⟩
end Go.Proofs.YtbghmldggahjiaaGreatDoor
