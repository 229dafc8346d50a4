/-.-/
import Derived.Test.YtkofhemdefffpaaGreatDoorPq33
import Derived.Test.YtkofhemdefffpaaGreatDoorPq34
import Derived.Test.YtkofhemdefffpaaGreatDoorPq35
import Derived.MapKept
set_option linter.unusedVariables false
set_option maxHeartbeats 6400000
set_option maxRecDepth 100000
namespace Go.Proofs.YtkofhemdefffpaaGreatDoor
open Go.RowKit
def fnK (k:Int):FuncId:=if k=1 then 93 else if k=2 then 94 else if k=3 then 95 else if k=4 then 96 else if k=5 then 97 else if k=6 then 98 else if k=7 then 99 else if k=8 then 100 else if k=9 then 101 else(0:Nat)
theorem chk_any {G B r:Nat}{vq:Value}{g:Gr}(e:Ev)(w:World)(h:GS G B r w vq g)(hi:GI g)(he:okE e=true)(F:e.cmd.g.size<=maxLen):Calls Tryz.prog (fnK e.kind) #[h3 G 0,evV e] w fun x w'=>Chk G B r vq g e w x w':=by
 have E:=fh he;rcases(show e.kind=1\/e.kind=2\/e.kind=3\/e.kind=4\/e.kind=5\/e.kind=6\/e.kind=7\/e.kind=8\/e.kind=9 by omega) with k|k|k|k|k|k|k|k|k
 ·rw[show fnK e.kind = 93 by simp[fnK,k]];exact accept_chk e w h hi he k F
 ·rw[show fnK e.kind = 94 by simp[fnK,k]];exact refuse_chk e w h hi he k F
 ·rw[show fnK e.kind = 95 by simp[fnK,k]];exact trade_chk e w h hi he k F
 ·rw[show fnK e.kind = 96 by simp[fnK,k]];exact rest_chk e w h hi he k F
 ·rw[show fnK e.kind = 97 by simp[fnK,k]];exact drop_chk e w h hi he k F
 ·rw[show fnK e.kind = 98 by simp[fnK,k]];exact cancel_chk e w h hi he k F
 ·rw[show fnK e.kind = 99 by simp[fnK,k]];exact reduce_chk e w h hi he k F
 ·rw[show fnK e.kind = 100 by simp[fnK,k]];exact endDay_chk e w h hi he k F
 ·rw[show fnK e.kind = 101 by simp[fnK,k]];exact expire_chk e w h hi he k F
theorem lookI_run {W:World}{r:Nat}(k:Int)(E:1<=k/\k<=9)(K:W.heap[r]? = some (.map chkM 9)) :
  (Instr.lookup 140 (.map (some r)) (H k) false).run Tryz.prog W = .ok (.func (.func (fnK k)) #[] #[]) W:=by
 have hu:=Tryz.underlying3;have hc:∀e,(Instr.checkKey e 10000 3 (H k)).run Tryz.prog W = .ok () W:=fun e=>MapKept.run_checkKey (k:=H k) hu (by simp[MapKept.IsKey]) e 9999
 have hf:∃i,Instr.findNow (TypeDesc.int .i64) (H k) chkM.toList 0=some (some (i,.func (.func (fnK k)) #[] #[])):=by
  rcases(show k=1\/k=2\/k=3\/k=4\/k=5\/k=6\/k=7\/k=8\/k=9 by omega) with rfl|rfl|rfl|rfl|rfl|rfl|rfl|rfl|rfl
  all_goals exact⟨_,rfl⟩
 obtain⟨i,hf⟩:=hf;simp[Instr.lookup,run_underlying Tryz.underlying140,MapKept.run_getObj_map K,hc,MapKept.run_findKey hu hf,Result.andThen]
theorem ta_br (k:Int)(w:World):(Instr.typeAssert (.iface 163 (H k)) 20 163 true).run Tryz.prog w = .ok (.tuple #[H k,.bool true]) w:=by kernel_rfl
theorem ta_brn (w:World):(Instr.typeAssert .nilIface 20 163 true).run Tryz.prog w = .ok (.tuple #[H 0,.bool false]) w:=by kernel_rfl
theorem catchA_panicking (p:Addr)(x:Value)(k:Int)(older:List PanicEntry)(w:World)(hc:w.cell? p=some x)(hz:w.frozen? p=false) :
  CallsD Tryz.prog 105 #[.pointer (some p)] (.panicking ({ v:=brV k,recovered:=false } :: older)) w fun e u' w' =>
   e = .returned (.tuple #[])/\u' = .panicking ({ v:=brV k,recovered:=true } :: older)/\w'=w.setCell p (H k):=by
 refine callsD_of_wpS Tryz.func105 rfl fun c₀ cs hu=>?_;simp only[brV] at hu |-;apply wpS_seq;apply wpS_region;simp[wpOpsS,go_sem,recoverD,hu,Tryz.ntmps105,Exit.thenS,ta_br];apply wpS_seq;apply wpS_region;simp[wpOpsS,go_sem,Exit.thenS];refine wpS_cond (t:=true) (by simp[Act.eval,Array.replicate]) ?_;simp only[if_true];apply wpS_region;simp[wpOpsS,go_sem,hc,hz,bodyPostS,results,Tryz.results105]
theorem catchA_idle (p:Addr)(w:World) :
  CallsD Tryz.prog 105 #[.pointer (some p)] .returning w fun e u' w'=>e = .returned (.tuple #[])/\u' = .returning/\w'=w:=by
 refine callsD_of_wpS Tryz.func105 rfl fun c₀ cs hu=>?_;apply wpS_seq;apply wpS_region;simp[wpOpsS,go_sem,recoverD,hu,Tryz.ntmps105,Exit.thenS,ta_brn];apply wpS_seq;apply wpS_region;simp[wpOpsS,go_sem,Exit.thenS];refine wpS_cond (t:=false) (by simp[Act.eval,Array.replicate]) ?_;simp only[Bool.false_eq_true,if_false];refine wpS_of_wp (wp_skip ?_);cases c₀
 simp_all [bodyPostS,results,Tryz.results105]
theorem gs_far {G B r b:Nat}{W:World}{vq:Value}{g:Gr}{u:Value}(h:GS G B r W vq g)(K:b≠G)(ht:∃xt,W.heap[b]? = some (.cells xt 3 (0,0))):GS G B r (W.setCell (Y b 0) u) vq g:=by
 have hr:r≠b:=by
  rintro rfl;obtain⟨xt,hc⟩:=ht;rw[h.mp] at hc;cases hc
 obtain⟨xt,hc⟩:=h.typ;exact⟨fO h.box (Ne.symm K),zX h.row (zF h.row ht (by decide)) 0 u,⟨xt,(yT _ _ _ _ (Ne.symm K)).trans hc⟩,(yT _ _ _ _ hr).trans h.mp,h.hG,h.hr⟩
theorem step_bg {g:Gr}{e:Ev}:dG g e = { takG g e with bg:=begG g e }:=by
 unfold takG dG
 repeat' split
 all_goals rfl
def AddE (G B r:Nat)(g:Gr)(e:Ev)(w:World)(x:Ending)(w':World):Prop:=x = .returned (H (zK g e))/\Below B w w'/\(zK g e=0->∃uB,GS G B r w' uB (dG g e))
def AddK (G B r:Nat)(vq:Value)(g:Gr)(e:Ev)(w:World)(x:Ending)(w':World):Prop:=x = .returned (H (zK g e))/\Kp G vq w w'/\(zK g e=0->∃uB,GS G B r w' uB (dG g e))
theorem kp_kp {G:Nat}{vq:Value}{w W W':World}(h:Kp G vq w W)(k:Kp G vq W W'):Kp G vq w W':=
 ⟨k.os.trans h.os,k.tape.trans h.tape,k.output.trans h.output,yO h.size k.size,fun i hi Z Q=>(k.block i (yK hi h.size) Z Q).trans (h.block i hi Z Q)⟩
theorem kp_far {G b:Nat}{vq u:Value}{w W:World}(h:Kp G vq w W)(K:w.heap.size<=b):Kp G vq w (W.setCell (Y b 0) u):=
 ⟨h.os,h.tape,h.output,by have:=h.size;simpa[World.setCell] using this,fun i hi Z Q=>(yT _ _ _ _ (by show i≠b;omega)).trans (h.block i hi Z Q)⟩
theorem add_kp {G B r:Nat}{vq:Value}{g:Gr}(e:Ev)(w:World)(h:GS G B r w vq g)(hi:GI g)(he:okE e=true)(F:e.cmd.g.size<=maxLen):Calls Tryz.prog 79 #[h3 G 0,evV e] w fun x w'=>AddK G B r vq g e w x w':=by
 have hsf:=sfl;have hmf:∀(fn:Fn) (first cap:Array Value) (w:World),(Instr.makeFunc fn first cap).run Tryz.prog w = .ok (.func fn first cap) w:=fun _ _ _ _=>rfl;have hG:=h.lt;have kA:=h.base;have HCH:=U (fun W (hW:GS G B r W vq g)=>chk_any e W hW hi he F);have bw:=U (fun W hW=>lookI_run (W:=W) (r:=r) e.kind (fh he) hW)
 have HFK:Hid (fnK e.kind = 93 \/ fnK e.kind = 94 \/ fnK e.kind = 95 \/ fnK e.kind = 96 \/ fnK e.kind = 97 \/ fnK e.kind = 98 \/ fnK e.kind = 99 \/ fnK e.kind = 100 \/ fnK e.kind = 101):=by
  have E:=fh he;rcases(show e.kind=1\/e.kind=2\/e.kind=3\/e.kind=4\/e.kind=5\/e.kind=6\/e.kind=7\/e.kind=8\/e.kind=9 by omega) with k|k|k|k|k|k|k|k|k <;> (show _ \/ _;simp[fnK,k])
 have HKD:Hid (dG g e = { takG g e with bg:=if g.bg=0 then e.kind else g.bg }):=step_bg
 have HCE:Hid (∀x w',x = .returned (H (zK g e))->Kp G vq w w'->(zK g e=0->∃uB,GS G B r w' uB (dG g e))->AddK G B r vq g e w x w'):=fun x w' Z Q I=>⟨Z,Q,I⟩;have HTB:Hid ((takG g e).bg=g.bg):=rfl;unfold Chk at HCH;generalize AddK G B r vq g e w=C at HCE |-;generalize zK g e=ru at HCH HCE;generalize dG g e=g2 at HKD HCE;generalize takG g e=g1 at HCH HKD HTB;generalize fnK e.kind=fk at HCH bw HFK;obtain⟨xn,⟨ck,cs,ct,cl,cq,ci,cp,cg⟩,id,xj,qty,xk,xi⟩:=e;unfold evV at HCH |-;simp only at HCH bw HKD |-;have jo:(w.alloc (me (yw xn ck cs ct cl cq ci cp cg id xj qty xk xi).toArray 78)).heap.size=w.heap.size+1:=by simp
 have xS:=mc w (me (yw xn ck cs ct cl cq ci cp cg id xj qty xk xi).toArray 78);have ud:Below (w.heap.size+1) (w.alloc (me (yw xn ck cs ct cl cq ci cp cg id xj qty xk xi).toArray 78)) ((w.alloc (me (yw xn ck cs ct cl cq ci cp cg id xj qty xk xi).toArray 78)).alloc (me #[H 0] 3)):=(Below.refl _ _).alloc (by rw[jo];omega) _;have HS:Hid (((w.alloc (me (yw xn ck cs ct cl cq ci cp cg id xj qty xk xi).toArray 78)).alloc (me #[H 0] 3)).heap.size=w.heap.size+1+1):=by show _ = _;simp
 have HX:=U (zl (zo w (yw xn ck cs ct cl cq ci cp cg id xj qty xk xi) 78) ud (by omega))
 have HY:Hid (Bx ((w.alloc (me (yw xn ck cs ct cl cq ci cp cg id xj qty xk xi).toArray 78)).alloc (me #[H 0] 3)) (w.heap.size+1) [H 0]):=by
  have:=zo (w.alloc (me (yw xn ck cs ct cl cq ci cp cg id xj qty xk xi).toArray 78)) [H 0] 3;rwa[jo] at this
 have HYT:Hid (∃xt,((w.alloc (me (yw xn ck cs ct cl cq ci cp cg id xj qty xk xi).toArray 78)).alloc (me #[H 0] 3)).heap[w.heap.size+1]? = some (.cells xt 3 (0,0))):=by
  have:=heap_alloc_new (w.alloc (me (yw xn ck cs ct cl cq ci cp cg id xj qty xk xi).toArray 78)) (me #[H 0] 3);rw[jo] at this;exact⟨_,this⟩
 have vf:Hid (yp w ((w.alloc (me (yw xn ck cs ct cl cq ci cp cg id xj qty xk xi).toArray 78)).alloc (me #[H 0] 3))):=xS.trans (ud.mono (by omega));have HB:Hid (Kp G vq w ((w.alloc (me (yw xn ck cs ct cl cq ci cp cg id xj qty xk xi).toArray 78)).alloc (me #[H 0] 3))):=kp_of (O vf);have HG:=U (zw h (O vf));have HGW:=U h;clear h xS hi ud jo he F vf
 go_enter_defers Tryz.func79,Tryz.ntmps79
 go_wp2_with fail;generalize ((w.alloc (me (yw xn ck cs ct cl cq ci cp cg id xj qty xk xi).toArray 78)).alloc (me #[H 0] 3))=xh at HS HX HY HYT HG HB |-;have vT:Hid (Bx xh.drew w.heap.size (yw xn ck cs ct cl cq ci cp cg id xj qty xk xi)):=dK (O HX);have HYD:Hid (Bx xh.drew (w.heap.size+1) [H 0]):=dK (O HY);have qf:Hid (GS G B r xh.drew vq g):=zw (O HG) ⟨rfl,rfl,rfl,Nat.le_refl _,fun _ _=>rfl⟩;have kJ:Hid (Kp G vq w xh.drew):=ip (O HB);have hSD:w.heap.size+1<xh.drew.heap.size:=by show w.heap.size+1<xh.heap.size;have:=O HS;omega
 clear HX HY HG HB HS;obtain⟨e0,e1,e2,e3,e4,e5,e6,e7,e8,e9,vQ,vY,qq,qF⟩:=yz (O vT);have c0:xh.drew.cell? (Y G 0)=some (.map (some r)):=J (O qf).box 0 rfl;have oC:=O bw xh.drew (O qf).mp;have oE:vq.ownBlock≠some (w.heap.size+1):=fun e=>by have:=((O HGW).row.lt _ e).2;omega
 have HNR2:vq.ownBlock≠some w.heap.size:=fun e=>by have:=((O HGW).row.lt _ e).2;omega
 refine ff 9 (by kernel_rfl) (by kernel_rfl) ?_;simp only[yU,List.take_zero,yV,List.drop_zero]
 repeat still_step
 refine wpStill_nil ?_;clear oC c0 e0 e1 e2 e3 e4 e5 e6 e7 e8 e9 vQ vY qq qF;go_wp2_with fail;rcases O HFK with rfl|rfl|rfl|rfl|rfl|rfl|rfl|rfl|rfl
 all_goals
  clear HFK bw;go_wp2_with fail;refine(O HCH xh.drew (O qf)).mono ?_;clear HCH;rintro x w2 ⟨hx,hk2,ug⟩;have xz:=U (kp_kp (O kJ) hk2);have xN:=(O qf).row;have hY2:Bx w2 (w.heap.size+1) [H 0]:=dm (O HYD) (hk2.block (w.heap.size+1) hSD (by omega) (fun e=>oE e.symm));have hX2:Bx w2 w.heap.size (yw xn ck cs ct cl cq ci cp cg id xj qty xk xi):=dm (O vT) (hk2.block w.heap.size (by omega) (by omega) (fun e=>HNR2 e.symm));have HY2:=U hY2
  have HYT2:Hid (∃xt,w2.heap[w.heap.size+1]? = some (.cells xt 3 (0,0))):=by
   obtain⟨xt,hc⟩:=O HYT;exact⟨xt,(hk2.block (w.heap.size+1) hSD (by omega) (fun e=>oE e.symm)).trans hc⟩
  have xR:=U hX2;have xZ:=U ug;clear hk2 ug xN hX2 hY2
  by_cases hr:ru=0
  case neg =>
   rw[outR_no hr] at hx;subst hx;have z0:=J (O HY2) 0 rfl;have f0:=zg (O HY2) 0 (by decide);have HR:=U hr;clear hr;go_wp2_with fail;refine leaves_cons (f:=105) (args:=#[h3 (w.heap.size+1) 0]) (by simp) (by simp[go_sem]) ?_;refine(catchA_panicking (Y (w.heap.size+1) 0) (H 0) ru [] _ z0 f0).mono ?_;rintro e u' w'' ⟨rfl,rfl,rfl⟩;simp[Leaves,settle,results,Tryz.results79,go_sem,yN _ _ (H ru) z0];exact O HCE _ _ rfl (kp_far (O xz) (by omega)) (fun h=>absurd h (O HR))
  rw[outR_ok hr] at hx;subst hx;obtain⟨uB,qv⟩:=O xZ hr;have uL:=U qv;have HR:=U hr
  have c3:w2.cell? (Y G 3)=some (H g.bg):=by
   have:=J (O uL).box 3 rfl;rw[<- O HTB];exact this
  have q3:=zg (O uL).box 3 (by show 3<16;decide);have x0:=J (O xR) 0 rfl
  by_cases h0:g.bg=0
  ·have b0:(g.bg==0)=true:=by simpa using h0
   have kL:=U (O HKD);rw[if_pos h0] at kL;have HY3:Hid (Bx (w2.setCell (Y G 3) (H xn)) (w.heap.size+1) [H 0]):=fO (O HY2) (by omega);have uX:Hid (GS G B r (w2.setCell (Y G 3) (H xn)) uB { g1 with bg:=xn }):=gs_set (O uL) 3 _ (by decide) rfl rfl
   have HYT4:Hid (∃xt,(w2.setCell (Y G 3) (H xn)).heap[w.heap.size+1]? = some (.cells xt 3 (0,0))):=by
    obtain⟨xt,hc⟩:=O HYT2;exact⟨xt,(yT _ _ _ _ (by show w.heap.size+1≠G;omega)).trans hc⟩
   have xQ:=U (kp_set (O xz) 3 (H xn));have z0:=J (O HY3) 0 rfl;have f0:=zg (O HY3) 0 (by decide);clear h0 hr;go_wp2_with fail;refine leaves_cons (f:=105) (args:=#[h3 (w.heap.size+1) 0]) (by simp) (by simp[go_sem]) ?_;refine(catchA_idle (Y (w.heap.size+1) 0) _).mono ?_;rintro e u' w'' ⟨rfl,rfl,rfl⟩;simp[Leaves,settle,results,Tryz.results79,go_sem,yN _ _ (H 0) z0];exact O HCE _ _ (by rw[O HR]) (kp_far (O xQ) (by omega)) (fun _=>⟨uB,by rw[O kL];exact gs_far (O uX) (by omega) (O HYT4)⟩)
  ·have b0:(g.bg==0)=false:=by simpa using h0
   have kL:Hid (g2=g1):=by
    show _ = _;rw[O HKD,if_neg h0,<- O HTB]
   have z0:=J (O HY2) 0 rfl;have f0:=zg (O HY2) 0 (by decide);clear h0 hr;go_wp2_with fail;refine leaves_cons (f:=105) (args:=#[h3 (w.heap.size+1) 0]) (by simp) (by simp[go_sem]) ?_;refine(catchA_idle (Y (w.heap.size+1) 0) _).mono ?_;rintro e u' w'' ⟨rfl,rfl,rfl⟩;simp[Leaves,settle,results,Tryz.results79,go_sem,yN _ _ (H 0) z0];exact O HCE _ _ (by rw[O HR]) (kp_far (O xz) (by omega)) (fun _=>⟨uB,by rw[O kL];exact gs_far (O uL) (by omega) (O HYT2)⟩)
end Go.Proofs.YtkofhemdefffpaaGreatDoor
