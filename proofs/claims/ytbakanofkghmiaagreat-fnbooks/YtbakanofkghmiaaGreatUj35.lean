/-
  The totals of groups and a book, by the model: proved by walking the function.
-/
import Derived.Test.YtbakanofkghmiaaGreatUj34
set_option linter.unusedVariables false
set_option maxHeartbeats 6400000
set_option maxRecDepth 100000
namespace Go.Proofs.YtbakanofkghmiaaGreat
open Go.RowKit
def RdG (W:World) (v:Value) (gl:List (List Ev)):Prop :=
 ∃ (a:Option Addr) (A:Nat),v = .slice a gl.length A∧gl.length ≤ 1073741824 ∧
  (gl ≠ []→∃ b off,a = some (J b off)∧b < W.heap.size∧∀ i es,gl[i]? = some es→∃ g,W.cell? (J b (off + i)) = some g∧RdR Ev.vs 14 W g es)
theorem cU {C:Nat} {W W':World} {v:Value} {gl:List (List Ev)} (h:RdG W v gl) (O:Below C W W') (hC:W.heap.size ≤ C):RdG W' v gl:=by
 obtain ⟨a,A,e,hl,hc⟩:=h
 refine ⟨a,A,e,hl,fun xA=>?_⟩
 obtain ⟨b,off,G,D,h3⟩:=hc xA
 refine ⟨b,off,G,yH D O.size,fun i es hi=>?_⟩
 obtain ⟨g,h4,h5⟩:=h3 i es hi
 exact ⟨g,(O.cell (p:=(J b (off + i))) (yH D hC)).trans h4,zh h5 O hC⟩
def totG (t:Tot) (gl:List (List Ev)):Tot:=gl.foldl (fun t es=>es.foldl cntM t) t
def totM (gl:List (List Ev)) (l:List Od):Tot:={ totG { tot0 with gr:=gl.length } gl with li:=l.length,le:=livS l }
theorem totG_step (t:Tot) (gl:List (List Ev)) {k:Nat} {es:List Ev} (h:gl[k]? = some es):totG t (gl.take (k + 1)) = es.foldl cntM (totG t (gl.take k)):=by
 unfold totG
 rw [List.take_add_one,h,List.foldl_append]; rfl
theorem cntM_step (t:Tot) (es:List Ev) {k:Nat} {e:Ev} (h:es[k]? = some e):(es.take (k + 1)).foldl cntM t = cntM ((es.take k).foldl cntM t) e:=by
 rw [List.take_add_one,h,List.foldl_append]; rfl
structure JT (w:World) (bk:List Value) (W:World) (T:Tot):Prop where
 r:W.rangeAt (w.heap.size + 1 + 1) 0 T.vs
 t:W.there (w.heap.size + 1 + 1) 0 8
 o:W.there (w.heap.size + 1) 0 8
 k:W.rangeAt w.heap.size 0 bk
 b:Below w.heap.size w W
 z:w.heap.size + 1 + 1 + 1 ≤ W.heap.size
theorem jt_step {w W V:World} {bk:List Value} {T T':Tot} (h:JT w bk W T) (O:ym W V):JT w bk (V.setCells (w.heap.size + 1 + 1) 0 T'.vs) T':=by
 have hz:=h.z
 have hk:∀ b,b < w.heap.size + 1 + 1→(V.setCells (w.heap.size + 1 + 1) 0 T'.vs).heap[b]? = W.heap[b]?:=fun b ko=>(de _ b (by omega) _ 0 V).trans (O.block b (by omega))
 have js:=ze h.t O (by omega)
 refine ⟨yV V _ 0 _ (fun j K=>js j (by simpa [Tot.vs] using K)),fun j K=>⟨?_,?_⟩,dP h.o (hk _ (by omega)),fun j u K=>?_,zm (w.heap.size + 1 + 1) (by omega) _ 0 V (h.b.trans (O.mono h.b.size)),by rw [bK]; exact yL hz O.size⟩
 ·have:=yV V (w.heap.size + 1 + 1) 0 T'.vs (fun j K=>js j (by simpa [Tot.vs] using K)) j (T'.vs[j]'(by simpa [Tot.vs] using K)) (yF _)
  rw [this]; rfl
 ·rw [dZ]; exact (js j K).2
 ·rw [yO (a:=(yp w (0 + j))) (hk w.heap.size (by omega))]; exact h.k j u K
theorem jt_below {w W V:World} {bk:List Value} {T:Tot} (h:JT w bk W T) (O:ym W V):JT w bk V T:=by
 have hz:=h.z
 exact ⟨zb h.r O (by omega),ze h.t O (by omega),ze h.o O (by omega),zb h.k O (by omega),h.b.trans (O.mono h.b.size),yL hz O.size⟩
theorem jt_set {w W:World} {bk:List Value} {T:Tot} (h:JT w bk W T) (x y:Int):JT w bk ((W.setCell (J (w.heap.size + 1 + 1) 6) (H x)).setCell (J (w.heap.size + 1 + 1) 7) (H y)) { T with li:=x,le:=y }:=by
 have r1:=bZ (j:=6) (u:=H x) h.r (by simp [Tot.vs])
 have r2:=bZ (j:=7) (u:=H y) r1 (by simp [Tot.vs])
 refine ⟨r2,zD (zD h.t),zD (zD h.o),fun j u K=>?_,(h.b.setCell (p:=(J (w.heap.size + 1 + 1) 6)) (show w.heap.size ≤ w.heap.size + 1 + 1 by omega) _).setCell (p:=(J (w.heap.size + 1 + 1) 7)) (show w.heap.size ≤ w.heap.size + 1 + 1 by omega) _,by simp only [World.setCell,Array.size_modify]; exact h.z⟩
 have xA:∀ q:Nat,((J (w.heap.size + 1 + 1) q):Addr) ≠ (yp w (0 + j)):=fun q e=>by have:=congrArg Addr.block e; simp at this; omega
 exact (yJ _ _ _ _ (xA 7)).trans ((yJ _ _ _ _ (xA 6)).trans (h.k j u K))
def CV (vs:List Value) (W:World) (j:Nat) (v:Value):Prop:=vs[j]? = some v
theorem l04Totals_any (v:Value) (gl:List (List Ev)) (next:Int) (vq:Value) (l:List Od) (w:World) (hg:RdG w v gl) (hr:RdR Od.vs 6 w vq l) :
  Calls Tryz.prog 71 #[v,.agg #[H next,vq]] w fun r w'=>r = yl (.agg #[H (totM gl l).gr,H (totM gl l).ac,H (totM gl l).rf,H (totM gl l).tr,H (totM gl l).vo,H (totM gl l).no,H (totM gl l).li,H (totM gl l).le])∧ym w w':=by
 have HR:=Y hr
 obtain ⟨aq,cq,rfl,hlq,hcq⟩:=hr
 clear hcq hlq
 obtain ⟨a,A,rfl,xC,hc⟩:=hg
 have xo:∀ (k:Nat) (es:List Ev),gl[k]? = some es→∃ b off,a = some (J b off)∧b < w.heap.size∧∃ ae ce,es.length ≤ 1073741824∧w.cell? (J b (off + k)) = some (.slice ae es.length ce)∧∀ (j:Nat) (e:Ev),es[j]? = some e→∃ b' ux,ae = some (J b' ux)∧b' < w.heap.size∧w.rangeAt b' (ux + j * 14) e.vs:=by
  intro k es hk
  obtain ⟨b,off,G,D,h3⟩:=hc (by intro h; rw [h] at hk; simp at hk)
  obtain ⟨g,h4,ae,ce,rfl,hel,h5⟩:=h3 k es hk
  refine ⟨b,off,G,D,ae,ce,hel,h4,fun j e K=>?_⟩
  obtain ⟨b',ux,k1,k2,k3⟩:=h5 (by intro h; rw [h] at K; simp at K)
  exact ⟨b',ux,k1,k2,k3 j e K⟩
 have HC:=Y xo
 clear xo hc
 have hsf:=sfl
 have HTM:Hid (totM gl l = { totG { tot0 with gr:=gl.length } gl with li:=l.length,le:=livS l }):=rfl
 generalize totM gl l = TM at HTM ⊢
 have xz:=zf w (N #[H next,.slice aq l.length cq] 28)
 have xZ:((w.alloc (N #[H next,.slice aq l.length cq] 28)).alloc (N #[H 0,H 0,H 0,H 0,H 0,H 0,H 0,H 0] 30)).heap.size = w.heap.size + 1 + 1:=by rw [zf,xz]
 have r1:=zg w [H next,.slice aq l.length cq] 28
 have t2:=zt (w.alloc (N #[H next,.slice aq l.length cq] 28)) [H 0,H 0,H 0,H 0,H 0,H 0,H 0,H 0] 30
 rw [xz] at t2
 have b1:=eB w (N #[H next,.slice aq l.length cq] 28)
 have b2:Below (w.heap.size + 1) (w.alloc (N #[H next,.slice aq l.length cq] 28)) ((w.alloc (N #[H next,.slice aq l.length cq] 28)).alloc (N #[H 0,H 0,H 0,H 0,H 0,H 0,H 0,H 0] 30)):=(Below.refl _ _).alloc (by omega) _
 have HX:Hid (_∧_∧_∧_):=⟨zb r1 b2 (by omega),t2,b1.trans (b2.mono (by omega)),xZ⟩
 clear xz xZ r1 t2 b1 b2
 go_enter Tryz.func71,Tryz.ntmps71
 refine eF fun hj xq=>?_
 go_wp2_with fail
 refine U xq _ _ ?_
 clear xq
 generalize ((w.alloc (N #[H next,.slice aq l.length cq] 28)).alloc (N #[H 0,H 0,H 0,H 0,H 0,H 0,H 0,H 0] 30)) = xm at HX ⊢
 have HX:Hid (xm.rangeAt w.heap.size 0 [H next,.slice aq l.length cq]∧xm.there (w.heap.size + 1) 0 8∧ym w xm∧xm.heap.size = w.heap.size + 1 + 1):=U HX
 have hXs:=(U HX).2.2.2
 have HJ:Hid (JT w [H next,.slice aq l.length cq] (xm.alloc (N #[H gl.length,H 0,H 0,H 0,H 0,H 0,H 0,H 0] 30)) (totG { tot0 with gr:=gl.length } (gl.take 0))):=by
  have b3:=eB xm (N #[H gl.length,H 0,H 0,H 0,H 0,H 0,H 0,H 0] 30)
  have r3:=zg xm [H gl.length,H 0,H 0,H 0,H 0,H 0,H 0,H 0] 30
  have t3:=zt xm [H gl.length,H 0,H 0,H 0,H 0,H 0,H 0,H 0] 30
  rw [hXs] at r3 t3
  exact ⟨r3,t3,ze (U HX).2.1 b3 (by omega),zb (U HX).1 b3 (by omega),(U HX).2.2.1.trans (b3.mono (by omega)),by rw [zf]; omega⟩
 refine eF fun hj xq=>?_
 go_wp2_with fail
 refine U xq _ _ ?_
 clear xq
 generalize (xm.alloc (N #[H gl.length,H 0,H 0,H 0,H 0,H 0,H 0,H 0] 30)) = yb at HJ ⊢
 clear hXs HX
 refine eF fun hj xq=>?_
 go_wp2_with fail
 go_loopw [6] (fun iv wr=>∃ (k:Nat),k ≤ gl.length∧iv = H k∧Hid (JT w [H next,.slice aq l.length cq] wr (totG { tot0 with gr:=gl.length } (gl.take k)))) (fun iv _=>gl.length - (intOf iv).toNat)
 case atStart=>exact ⟨0,Nat.zero_le _,rfl,U HJ⟩
 case round =>
  obtain ⟨k,hk,rfl,ur⟩:=hrel
  by_cases xI:k < gl.length
  ·obtain ⟨es,je⟩:∃ es,gl[k]? = some es:=⟨_,yF xI⟩
   obtain ⟨b,off,rfl,O,ae,ce,hel,hcg,hev⟩:=U HC k es je
   have qE:=Y (totG_step { tot0 with gr:=gl.length } gl je)
   have uu:(k:Int) < gl.length:=by omega
   have HCG:=Y hcg
   have vK:=Y hev
   generalize totG { tot0 with gr:=gl.length } (gl.take k) = T0 at qE ur
   have HJ1:Hid (JT w [H next,.slice aq l.length cq] wr ((es.take 0).foldl cntM T0)):=U ur
   clear je hcg hev ur
   go_wp2_with fail
   go_loopw [7] (fun jv wq=>∃ (j:Nat),j ≤ es.length∧jv = H j∧Hid (JT w [H next,.slice aq l.length cq] wq ((es.take j).foldl cntM T0))) (fun jv _=>es.length - (intOf jv).toNat)
   case atStart=>exact ⟨0,Nat.zero_le _,rfl,U HJ1⟩
   case round =>
    obtain ⟨j,K,rfl,ur⟩:=hrel
    have jL:=Y (U ur)
    clear ur
    have gc:wr.cell? (J b (off + k)) = some (.slice ae es.length ce):=((U jL).b.cell (p:=(J b (off + k))) O).trans (U HCG)
    by_cases hjl:j < es.length
    ·obtain ⟨e,hje⟩:∃ e,es[j]? = some e:=⟨_,yF hjl⟩
     obtain ⟨b',ux,rfl,ko,hre⟩:=U vK j e hje
     have HNE:=Y (cntM_step T0 es hje)
     have hjl':(j:Int) < es.length:=by omega
     have vH:=Y (zb hre (U jL).b ko)
     have hbw:b' < wr.heap.size:=yH ko (U jL).b.size
     have hbg:b < wr.heap.size:=yH O (U jL).b.size
     have qV:=(U jL).z
     generalize (es.take j).foldl cntM T0 = T at HNE jL
     clear hje hre
     go_wp2_with fail
     refine zi (RYA (fun f=>{ tmps:=#[.slice (some (J b off)) gl.length A,.agg #[H next,.slice aq l.length cq],M,yn w 0,I (w.heap.size + 1) 0,I (w.heap.size + 1 + 1) 0,H k,H j,.slice (some (J b off)) gl.length A,H gl.length,.agg #[H gl.length,H 0,H 0,H 0,H 0,H 0,H 0,H 0],H k,.slice (some (J b off)) gl.length A,H gl.length,.bool true,u15,u16,H j,.slice (some (J b off)) gl.length A,H k,I b (off + k),.slice (some (J b' ux)) es.length ce,H es.length,.bool true,u24,u25,f 0,f 1,f 2,f 3,f 4,f 5,f 6,f 7,f 8,M,M,M,M,M,M,M,M],defers:=[] }) (CV [.agg #[H T.gr,H T.ac,H T.rf,H T.tr,H T.vo,H T.no,H T.li,H T.le],.slice (some (J b off)) gl.length A,H k,I b (off + k),.slice (some (J b' ux)) es.length ce,H j,I b' (ux + j * 14),.agg (yt e.kind e.cmd.k e.cmd.s e.cmd.t e.cmd.l e.cmd.q e.cmd.i e.cmd.p e.cmd.g e.id e.other e.qty e.price e.reason).toArray,.agg #[H (cntM T e).gr,H (cntM T e).ac,H (cntM T e).rf,H (cntM T e).tr,H (cntM T e).vo,H (cntM T e).no,H (cntM T e).li,H (cntM T e).le]]) 9 (fun _ W=>∃ V,ym wr V∧W = V.setCells (w.heap.size + 1 + 1) 0 (cntM T e).vs) wr) (by kernel_rfl) ?_ ?_ ?_
     ·exact ⟨fun j=>([u26,u27,u28,u29,u30,u31,u32,u33,u34]:List Value)[j]?.getD M,rfl,ry_start (by decide)⟩
     ·rintro x xj V ⟨f,rfl,E⟩ hx xL
      have xn:=zW xL hx (acyc _ (by kernel_rfl))
      obtain ⟨V2,xS,eV⟩:=E.m (xn 9 (by simp))
      dsimp only
      generalize f 0 = v0,f 1 = v1,f 2 = v2,f 3 = v3,f 4 = v4,f 5 = v5,f 6 = v6,f 7 = v7,f 8 = v8
      have HJ3:Hid (JT w [H next,.slice aq l.length cq] V (cntM T e)):=by rw [eV]; exact jt_step (U jL) xS
      clear eV xS E xn xL hx vH gc
      go_wp2_with fail
      dsimp only [H,I,J,M,yi,yj,yt,yu,yv,yn,yp,N]
      go_roundw
      case rel=>exact ⟨j + 1,by omega,by go_num,by rw [U HNE]; exact U HJ3⟩
      case measure=>simp [intOf]; omega
     ·rintro x xj V i op ⟨f,rfl,E⟩ X hx Z xu Q
      have xw:=Y E
      match i,Z with
      | 0,Z =>
       obtain rfl:=ya Z
       have hn:x[9]? = some false:=zy X 12 0 9 (by kernel_rfl) hx (by simp) xu
       have xV:=E.b hn
       have y0:=zb (U jL).r xV (by omega) 0 _ rfl
       have y1:=zb (U jL).r xV (by omega) 1 _ rfl
       have y2:=zb (U jL).r xV (by omega) 2 _ rfl
       have y3:=zb (U jL).r xV (by omega) 3 _ rfl
       have y4:=zb (U jL).r xV (by omega) 4 _ rfl
       have y5:=zb (U jL).r xV (by omega) 5 _ rfl
       have y6:=zb (U jL).r xV (by omega) 6 _ rfl
       have y7:=zb (U jL).r xV (by omega) 7 _ rfl
       clear Q E X
       rw [if_pos (by rfl)];unfold Oper.wp;go_simp
       exact ⟨upd f 0 (.agg #[H T.gr,H T.ac,H T.rf,H T.tr,H T.vo,H T.no,H T.li,H T.le]),by simp [upd],zZ (U xw) 0 _ hn (by decide) rfl⟩
      | 1,Z =>
       obtain rfl:=ya Z
       have hn:x[9]? = some false:=zy X 12 1 9 (by kernel_rfl) hx (by simp) xu
       clear Q E X
       rw [if_pos (by rfl)];unfold Oper.wp;go_simp
       exact ⟨upd f 1 (.slice (some (J b off)) gl.length A),by simp [upd],zZ (U xw) 1 _ hn (by decide) rfl⟩
      | 2,Z =>
       obtain rfl:=ya Z
       have hn:x[9]? = some false:=zy X 12 2 9 (by kernel_rfl) hx (by simp) xu
       clear Q E X
       rw [if_pos (by rfl)];unfold Oper.wp;go_simp
       exact ⟨upd f 2 (H k),by simp [upd],zZ (U xw) 2 _ hn (by decide) rfl⟩
      | 3,Z =>
       obtain rfl:=ya Z
       have hn:x[9]? = some false:=zy X 12 3 9 (by kernel_rfl) hx (by simp) xu
       have g1:f 1 = .slice (some (J b off)) gl.length A:=(Option.some.inj (E.c hn 1 (yd Q 1 rfl))).symm
       have g2:f 2 = H k:=(Option.some.inj (E.c hn 2 (yd Q 2 rfl))).symm
       clear Q E X
       rw [if_pos (by rfl)];unfold Oper.wp;go_simp
       exact ⟨upd f 3 (I b (off + k)),by simp [upd,g1,g2],zZ (U xw) 3 _ hn (by decide) rfl⟩
      | 4,Z =>
       obtain rfl:=ya Z
       have hn:x[9]? = some false:=zy X 12 4 9 (by kernel_rfl) hx (by simp) xu
       have g3:f 3 = I b (off + k):=(Option.some.inj (E.c hn 3 (yd Q 3 rfl))).symm
       have xV:=E.b hn
       have y0:=(xV.cell (p:=(J b (off + k))) hbg).trans gc
       clear Q E X
       rw [if_pos (by rfl)];unfold Oper.wp;go_simp
       exact ⟨upd f 4 (.slice (some (J b' ux)) es.length ce),by simp [upd,g3],zZ (U xw) 4 _ hn (by decide) rfl⟩
      | 5,Z =>
       obtain rfl:=ya Z
       have hn:x[9]? = some false:=zy X 12 5 9 (by kernel_rfl) hx (by simp) xu
       clear Q E X
       rw [if_pos (by rfl)];unfold Oper.wp;go_simp
       exact ⟨upd f 5 (H j),by simp [upd],zZ (U xw) 5 _ hn (by decide) rfl⟩
      | 6,Z =>
       obtain rfl:=ya Z
       have hn:x[9]? = some false:=zy X 12 6 9 (by kernel_rfl) hx (by simp) xu
       have g4:f 4 = .slice (some (J b' ux)) es.length ce:=(Option.some.inj (E.c hn 4 (yd Q 4 rfl))).symm
       have g5:f 5 = H j:=(Option.some.inj (E.c hn 5 (yd Q 5 rfl))).symm
       clear Q E X
       rw [if_pos (by rfl)];unfold Oper.wp;go_simp
       exact ⟨upd f 6 (I b' (ux + j * 14)),by simp [upd,g4,g5],zZ (U xw) 6 _ hn (by decide) rfl⟩
      | 7,Z =>
       obtain rfl:=ya Z
       have hn:x[9]? = some false:=zy X 12 7 9 (by kernel_rfl) hx (by simp) xu
       have g6:f 6 = I b' (ux + j * 14):=(Option.some.inj (E.c hn 6 (yd Q 6 rfl))).symm
       have xV:=E.b hn
       obtain ⟨e0,e1,e2,e3,e4,e5,e6,e7,e8,e9,jR,e11,ak,e13⟩:=dq (zb (U vH) xV hbw)
       clear Q E X
       rw [if_pos (by rfl)];unfold Oper.wp;go_simp
       exact ⟨upd f 7 (.agg (yt e.kind e.cmd.k e.cmd.s e.cmd.t e.cmd.l e.cmd.q e.cmd.i e.cmd.p e.cmd.g e.id e.other e.qty e.price e.reason).toArray),by simp [upd,g6],zZ (U xw) 7 _ hn (by decide) rfl⟩
      | 8,Z =>
       obtain rfl:=ya Z
       have hn:x[9]? = some false:=zy X 12 8 9 (by kernel_rfl) hx (by simp) xu
       have g0:f 0 = .agg #[H T.gr,H T.ac,H T.rf,H T.tr,H T.vo,H T.no,H T.li,H T.le]:=(Option.some.inj (E.c hn 0 (yd Q 0 rfl))).symm
       have g7:f 7 = .agg (yt e.kind e.cmd.k e.cmd.s e.cmd.t e.cmd.l e.cmd.q e.cmd.i e.cmd.p e.cmd.g e.id e.other e.qty e.price e.reason).toArray:=(Option.some.inj (E.c hn 7 (yd Q 7 rfl))).symm
       have xV:=E.b hn
       clear Q E X
       rw [if_pos (by rfl)];unfold Oper.wp;go_simp
       refine (l04Count_any T e V).mono ?_
       rintro r w4 ⟨rfl,xy⟩
       exact ⟨upd f 8 (.agg #[H (cntM T e).gr,H (cntM T e).ac,H (cntM T e).rf,H (cntM T e).tr,H (cntM T e).vo,H (cntM T e).no,H (cntM T e).li,H (cntM T e).le]),by simp [upd,g0,g7],zZ (ry_grow (fun _ _ _ _ _ h=>h) (U xw) hn xy) 8 _ hn (by decide) rfl⟩
      | 9,Z =>
       obtain rfl:=ya Z
       have hn:x[9]? = some false:=xu
       have g8:f 8 = .agg #[H (cntM T e).gr,H (cntM T e).ac,H (cntM T e).rf,H (cntM T e).tr,H (cntM T e).vo,H (cntM T e).no,H (cntM T e).li,H (cntM T e).le]:=(Option.some.inj (E.c hn 8 (yd Q 8 rfl))).symm
       have xV:=E.b hn
       have xE:=ze (U jL).t xV (by omega)
       obtain ⟨y0,z0,q0⟩:=zc xE (j:=0) (by omega)
       obtain ⟨y1,z1,q1⟩:=zc xE (j:=1) (by omega)
       obtain ⟨y2,z2,q2⟩:=zc xE (j:=2) (by omega)
       obtain ⟨y3,z3,q3⟩:=zc xE (j:=3) (by omega)
       obtain ⟨y4,z4,q4⟩:=zc xE (j:=4) (by omega)
       obtain ⟨y5,z5,q5⟩:=zc xE (j:=5) (by omega)
       obtain ⟨y6,z6,q6⟩:=zc xE (j:=6) (by omega)
       obtain ⟨y7,z7,q7⟩:=zc xE (j:=7) (by omega)
       clear xE
       clear Q E X
       rw [if_pos (by rfl)];unfold Oper.wp;go_simp
       exact ⟨f,by simp [g8],ry_writeN (U xw) hn ⟨V,xV,rfl⟩⟩
      | i + 10,Z=>simp at Z
    ·have hjl':¬ (j:Int) < es.length:=by omega
     rw [yX (by omega)] at jL
     go_wp2_with fail
     dsimp only [H,I,J,M,yi,yj,yt,yu,yv,yn,yp,N]
     go_roundw
     case rel=>exact ⟨k + 1,by omega,by go_num,by rw [U qE]; exact U jL⟩
     case measure=>simp [intOf]; omega
  ·have uu:¬ (k:Int) < gl.length:=by omega
   rw [yX (by omega)] at ur
   go_wp2_with fail
   refine U xq _ _ ?_
   clear xq xI uu
   generalize totG { tot0 with gr:=gl.length } gl = T at HTM ur
   have jL:=Y (U ur)
   clear ur
   have k0:wr.cell? (yp w 0) = some (H next):=(U jL).k 0 _ rfl
   have k1:wr.cell? (yp w 1) = some (.slice aq l.length cq):=(U jL).k 1 _ rfl
   have jO:=Y (l04Live_any next (.slice aq l.length cq) l wr (zh (U HR) (U jL).b hb))
   generalize livS l = LV at jO HTM
   refine eF fun hj xq=>?_
   go_wp2_with fail
   refine (U jO).mono ?_
   rintro r w4 ⟨rfl,xy⟩
   clear k0 k1
   have HJ4:=Y (jt_below (U jL) xy)
   clear xy
   obtain ⟨y6,z6,q6⟩:=zc (U HJ4).t (j:=6) (by omega)
   obtain ⟨y7,z7,q7⟩:=zc (U HJ4).t (j:=7) (by omega)
   go_wp2_with fail
   refine U xq _ _ ?_
   clear xq z6 q6 z7 q7
   have ky:=Y (jt_set (U HJ4) l.length LV)
   generalize (w4.setCell (J (w.heap.size + 1 + 1) 6) (H l.length)).setCell (J (w.heap.size + 1 + 1) 7) (H LV) = V at ky ⊢
   obtain ⟨uf,ue,uh,ui,uj,ug,uq,uo⟩:=T
   simp only at HTM ky
   have c0:V.cell? (J (w.heap.size + 1 + 1) 0) = some (H uf):=(U ky).r 0 _ rfl
   obtain ⟨y0,z0,q0⟩:=zc (U ky).o (j:=0) (by omega)
   have c1:V.cell? (J (w.heap.size + 1 + 1) 1) = some (H ue):=(U ky).r 1 _ rfl
   obtain ⟨y1,z1,q1⟩:=zc (U ky).o (j:=1) (by omega)
   have c2:V.cell? (J (w.heap.size + 1 + 1) 2) = some (H uh):=(U ky).r 2 _ rfl
   obtain ⟨y2,z2,q2⟩:=zc (U ky).o (j:=2) (by omega)
   have c3:V.cell? (J (w.heap.size + 1 + 1) 3) = some (H ui):=(U ky).r 3 _ rfl
   obtain ⟨y3,z3,q3⟩:=zc (U ky).o (j:=3) (by omega)
   have c4:V.cell? (J (w.heap.size + 1 + 1) 4) = some (H uj):=(U ky).r 4 _ rfl
   obtain ⟨y4,z4,q4⟩:=zc (U ky).o (j:=4) (by omega)
   have c5:V.cell? (J (w.heap.size + 1 + 1) 5) = some (H ug):=(U ky).r 5 _ rfl
   obtain ⟨y5,z5,q5⟩:=zc (U ky).o (j:=5) (by omega)
   have c6:V.cell? (J (w.heap.size + 1 + 1) 6) = some (H l.length):=(U ky).r 6 _ rfl
   obtain ⟨y6,z6,q6⟩:=zc (U ky).o (j:=6) (by omega)
   have c7:V.cell? (J (w.heap.size + 1 + 1) 7) = some (H LV):=(U ky).r 7 _ rfl
   obtain ⟨y7,z7,q7⟩:=zc (U ky).o (j:=7) (by omega)
   have xO:=Y (yV V (w.heap.size + 1) 0 [H uf,H ue,H uh,H ui,H uj,H ug,H l.length,H LV] (fun j K=>(U ky).o j K))
   have vG:=Y (zm (w.heap.size + 1) (by omega) [H uf,H ue,H uh,H ui,H uj,H ug,H l.length,H LV] 0 V (U ky).b)
   go_wp2_with fail
   change bodyPost _ _ _ _ _ (V.setCells (w.heap.size + 1) 0 [H uf,H ue,H uh,H ui,H uj,H ug,H l.length,H LV])
   generalize V.setCells (w.heap.size + 1) 0 [H uf,H ue,H uh,H ui,H uj,H ug,H l.length,H LV] = WE at xO vG ⊢
   obtain ⟨d0,d1,d2,d3,d4,d5,d6,d7⟩:=yB (U xO)
   refine bodyPost_ret (by simp [results,Tryz.results71,go_sem,d0,d1,d2,d3,d4,d5,d6,d7]; try rfl) rfl ?_
   exact ⟨by rw [U HTM],U vG⟩
theorem run_fold:∀ (cs:List Cm) (s:RunSt),s.t = s.g.foldl wgT tot0→(cs.foldl rstep s).t = (cs.foldl rstep s).g.foldl wgT tot0
 | [],s,h=>h
 | c :: cs,s,h=>by
  rw [List.foldl_cons]
  refine run_fold cs _ ?_
  show wgT s.t (stE s.n s.l c) = (s.g ++ [stE s.n s.l c]).foldl wgT tot0
  rw [List.foldl_append,← h]; rfl
structure Al (t u:Tot):Prop where
 ac:t.ac = u.ac
 rf:t.rf = u.rf
 tr:t.tr = u.tr
 vo:t.vo = u.vo
 no:t.no = u.no
theorem al_cnt {t u:Tot} (e:Ev) (h:Al t u):Al (cntE t e) (cntM u e):=by
 obtain ⟨G,D,h3,h4,h5⟩:=h
 unfold cntE cntM
 split
 ·exact ⟨by simp only [G],D,h3,h4,h5⟩
 ·split
  ·exact ⟨G,by simp only [D],h3,h4,h5⟩
  ·split
   ·exact ⟨G,D,by simp only [h3],by simp only [h4],by simp only [h5]⟩
   ·split
    ·exact ⟨G,D,h3,h4,h5⟩
    ·exact ⟨G,D,h3,h4,h5⟩
theorem al_fold:∀ (es:List Ev) {t u:Tot},Al t u→Al (es.foldl cntE t) (es.foldl cntM u)
 | [],_,_,h=>h
 | e :: es,_,_,h=>al_fold es (al_cnt e h)
theorem cntE_rest (t:Tot) (e:Ev):(cntE t e).gr = t.gr∧(cntE t e).li = t.li∧(cntE t e).le = t.le:=by
 unfold cntE
 split
 ·exact ⟨rfl,rfl,rfl⟩
 ·split
  ·exact ⟨rfl,rfl,rfl⟩
  ·split <;> exact ⟨rfl,rfl,rfl⟩
theorem cntE_fold:∀ (es:List Ev) (t:Tot),(es.foldl cntE t).gr = t.gr∧(es.foldl cntE t).li = t.li∧(es.foldl cntE t).le = t.le
 | [],_=>⟨rfl,rfl,rfl⟩
 | e :: es,t=>by
  have G:=cntE_fold es (cntE t e)
  have D:=cntE_rest t e
  exact ⟨G.1.trans D.1,G.2.1.trans D.2.1,G.2.2.trans D.2.2⟩
theorem cntM_gr:∀ (es:List Ev) (t:Tot),(es.foldl cntM t).gr = t.gr
 | [],_=>rfl
 | e :: es,t=>by
  refine (cntM_gr es (cntM t e)).trans ?_
  unfold cntM
  split
  ·rfl
  ·split
   ·rfl
   ·split
    ·rfl
    ·split <;> rfl
theorem totG_gr:∀ (gl:List (List Ev)) (t:Tot),(totG t gl).gr = t.gr
 | [],_=>rfl
 | es :: gl,t=>(totG_gr gl (es.foldl cntM t)).trans (cntM_gr es t)
theorem wrap_small {x:Int} (h0:0 ≤ x) (G:x ≤ 1000000):wrap64 x = x:=by unfold wrap64; omega
theorem wg_al:∀ (gl:List (List Ev)) {t u:Tot},Al t u→0 ≤ t.gr→t.gr + gl.length ≤ 1000000→Al (gl.foldl wgT t) (totG u gl)∧(gl.foldl wgT t).gr = t.gr + gl.length∧(gl.foldl wgT t).li = t.li∧(gl.foldl wgT t).le = t.le
 | [],t,u,h,_,_=>⟨h,by simp,rfl,rfl⟩
 | es :: gl,t,u,h,h0,G=>by
  rw [List.length_cons] at G
  have hf:=cntE_fold es { t with gr:=wrap64 (t.gr + 1) }
  have hw:wrap64 (t.gr + 1) = t.gr + 1:=wrap_small (by omega) (by omega)
  have hg:(wgT t es).gr = t.gr + 1:=hf.1.trans hw
  have ha:Al (wgT t es) (es.foldl cntM u):=al_fold es ⟨h.ac,h.rf,h.tr,h.vo,h.no⟩
  have ih:=wg_al gl ha (by omega) (by omega)
  refine ⟨ih.1,?_,ih.2.2.1.trans hf.2.1,ih.2.2.2.trans hf.2.2⟩
  have:=ih.2.1
  rw [List.foldl_cons,this,List.length_cons]; omega
theorem wb_fold:∀ (l:List Od) (t:Tot) (n:Int),0 ≤ t.li→t.li + l.length ≤ 1000000→l.foldl cntO { t with le:=n } = { t with li:=t.li + l.length,le:=l.foldl (fun n o=>wrap64 (n + o.left)) n }
 | [],t,n,_,_=>by simp
 | o :: l,t,n,h0,G=>by
  rw [List.length_cons] at G
  have hw:wrap64 (t.li + 1) = t.li + 1:=wrap_small (by omega) (by omega)
  rw [List.foldl_cons,List.foldl_cons]
  have:=wb_fold l { t with li:=t.li + 1 } (wrap64 (n + o.left)) (by show 0 ≤ t.li + 1; omega) (by show t.li + 1 + _ ≤ _; omega)
  simp only at this
  unfold cntO
  simp only [hw]
  refine this.trans ?_
  congr 1
  rw [List.length_cons]; omega
theorem tot_eq (cs:List Cm) (h:cs.length ≤ 200):wbT (runS cs).t (runS cs).l = totM (runS cs).g (runS cs).l:=by
 have hI:=run_inv cs h
 have hl:=hI.1.good.len
 have hf:(runS cs).t = (runS cs).g.foldl wgT tot0:=run_fold cs _ rfl
 generalize runS cs = s at hI hl hf ⊢
 obtain ⟨ha,hg,hli,jb⟩:=wg_al s.g (t:=tot0) (u:={ tot0 with gr:=s.g.length }) ⟨rfl,rfl,rfl,rfl,rfl⟩ (by show (0:Int) ≤ 0; omega) (by show (0:Int) + _ ≤ _; omega)
 have uc:=totG_gr s.g { tot0 with gr:=s.g.length }
 rw [← hf] at ha hg hli jb
 unfold totM wbT
 generalize totG { tot0 with gr:=s.g.length } s.g = za at ha uc ⊢
 have hw:=wb_fold s.l s.t 0 (by rw [hli]; show (0:Int) ≤ 0; omega) (by rw [hli]; show (0:Int) + _ ≤ _; omega)
 have ht:{ s.t with le:=0 } = s.t:=by rw [show (0:Int) = s.t.le from jb.symm]
 rw [ht] at hw
 rw [hw]
 obtain ⟨u1,u2,u3,u4,u5,u6,u7,u8⟩:=za
 generalize s.t = T at *
 obtain ⟨t1,t2,t3,t4,t5,t6,t7,t8⟩:=T
 obtain ⟨a1,a2,a3,a4,a5⟩:=ha
 simp only [tot0] at *
 simp only [Tot.mk.injEq]
 exact ⟨by omega,a1,a2,a3,a4,a5,by omega,rfl⟩
theorem dm (n a b:Int) (w:World) :
  Calls Tryz.prog 80 #[H n,H a,H b] w fun e w'=>e = .returned (.bool (betB n a b))∧w' = w:=by
 go_enter Tryz.func80,Tryz.ntmps80
 go_wp2
 all_goals go_ret
 all_goals exact ⟨zq (by rw [Bool.eq_iff_iff]; simp [betB]; omega),rfl⟩
theorem l03Tag_any (s:ByteArray) (w:World) (hs:s.size ≤ maxLen) :
  Calls Tryz.prog 130 #[yj s] w fun e w'=>e = .returned (.bool (tagB s))∧w' = w:=by
 unfold maxLen at hs
 by_cases hl:s.size ≤ 12
 ·have hl':¬ ((12:Int) < s.size):=by omega
  go_enter Tryz.func130,Tryz.ntmps130
  go_wp2_with fail
  go_loop [3] (fun i=>∃ k:Nat,k ≤ s.size∧i = H k∧Hid (s.data.toList.all tagC = (s.data.toList.drop k).all tagC)) (fun i=>s.size - (intOf i).toNat)
  case atStart=>exact ⟨0,Nat.zero_le _,rfl,by simp [Hid]⟩
  case round =>
   obtain ⟨k,hk,rfl,Q⟩:=hrel
   by_cases xI:k < s.size
   ·have uu:(k:Int) < s.size:=by omega
    have pA:=drop_cons s k xI
    have hw:betB (s[k].toNat:Int) 32 126 = tagC s[k]:=rfl
    cases ht:tagC s[k]
    ·have HT:Hid (s.data.toList.all tagC = false):=by
      have:=U Q
      rw [pA,List.all_cons,ht,Bool.false_and] at this
      exact this
     rw [ht] at hw
     have oW:(s[k].toNat:Int) < 32 ∨ (32 ≤ (s[k].toNat:Int)∧(126:Int) < s[k].toNat):=by
      simp [betB] at hw; omega
     clear pA ht hw
     rcases oW with h32 | ⟨h32,h126⟩
     ·have hd:decide ((s[k].toNat:Int) < 32) = true:=by simpa using h32
      go_wp2_with fail
      go_ret
      exact ⟨zq (tag_no s (U HT)).symm,rfl⟩
     ·have hd:decide ((s[k].toNat:Int) < 32) = false:=by simpa using h32
      go_wp2_with fail
      go_ret
      exact ⟨zq (tag_no s (U HT)).symm,rfl⟩
    ·have HN:Hid (s.data.toList.all tagC = (s.data.toList.drop (k + 1)).all tagC):=by
      have:=U Q
      rw [pA,List.all_cons,ht,Bool.true_and] at this
      exact this
     rw [ht] at hw
     have oW:32 ≤ (s[k].toNat:Int)∧(s[k].toNat:Int) ≤ 126:=by
      simp [betB] at hw; omega
     obtain ⟨h32,h126⟩:=oW
     have hd:decide ((s[k].toNat:Int) < 32) = false:=by simpa using h32
     have hd2:¬ ((126:Int) < s[k].toNat):=by omega
     clear pA ht hw
     go_wp2_with fail
     go_round
     case rel=>exact ⟨k + 1,by omega,by go_num,U HN⟩
     case measure=>simp [intOf]; omega
   ·go_wp2_with fail
    go_ret
    have h:=U Q
    rw [yY (by rw [data_len]; omega)] at h
    exact ⟨zq (tag_yes s hl (by rw [h]; rfl)).symm,rfl⟩
 ·have hl':(12:Int) < s.size:=by omega
  go_enter Tryz.func130,Tryz.ntmps130
  go_wp2_with fail
  go_ret
  exact ⟨zq (tag_long s hl).symm,rfl⟩
end Go.Proofs.YtbakanofkghmiaaGreat
