/-
  The totals of groups and a book, by the model: proved by walking the function.
-/
import Derived.Test.YtbakanofkghmiaaGreatTj35
set_option linter.unusedVariables false
set_option maxHeartbeats 6400000
set_option maxRecDepth 100000
namespace Go.Proofs.YtbakanofkghmiaaGreat
open Go.RowKit
def RdG (W:World) (v:Value) (gl:List (List Ev)):Prop :=
 ∃ (a:Option Addr) (E:Nat),v = .slice a gl.length E∧gl.length ≤ 1073741824 ∧
  (gl ≠ []→∃ b off,a = some (J b off)∧b < W.heap.size∧∀ i es,gl[i]? = some es→∃ g,W.cell? (J b (off + i)) = some g∧RdR Ev.vs 14 W g es)
theorem rdG_below {C:Nat} {W W':World} {v:Value} {gl:List (List Ev)} (h:RdG W v gl) (F:Below C W W') (hC:W.heap.size ≤ C):RdG W' v gl:=by
 obtain ⟨a,E,e,hl,hc⟩:=h
 refine ⟨a,E,e,hl,fun xA=>?_⟩
 obtain ⟨b,off,Q,N,h3⟩:=hc xA
 refine ⟨b,off,Q,yH N F.size,fun i es hi=>?_⟩
 obtain ⟨g,h4,h5⟩:=h3 i es hi
 exact ⟨g,(F.cell (p:=(J b (off + i))) (yH N hC)).trans h4,zl h5 F hC⟩
def totG (t:Tot) (gl:List (List Ev)):Tot:=gl.foldl (fun t es=>es.foldl cntM t) t
def totM (gl:List (List Ev)) (l:List Od):Tot:={ totG { tot0 with gr:=gl.length } gl with li:=l.length,le:=livS l }
theorem totG_step (t:Tot) (gl:List (List Ev)) {k:Nat} {es:List Ev} (h:gl[k]? = some es):totG t (gl.take (k + 1)) = es.foldl cntM (totG t (gl.take k)):=by
 unfold totG
 rw [List.take_add_one,h,List.foldl_append]; rfl
theorem cntM_step (t:Tot) (es:List Ev) {k:Nat} {e:Ev} (h:es[k]? = some e):(es.take (k + 1)).foldl cntM t = cntM ((es.take k).foldl cntM t) e:=by
 rw [List.take_add_one,h,List.foldl_append]; rfl
structure JT (w:World) (bk:List Value) (W:World) (T:Tot):Prop where
 r:W.rangeAt (w.heap.size + 1 + 1) 0 T.vs
 t:W.there (w.heap.size + 1 + 1) 0 8
 o:W.there (w.heap.size + 1) 0 8
 k:W.rangeAt w.heap.size 0 bk
 b:Below w.heap.size w W
 z:w.heap.size + 1 + 1 + 1 ≤ W.heap.size
theorem jt_step {w W V:World} {bk:List Value} {T T':Tot} (h:JT w bk W T) (F:ym W V):JT w bk (V.setCells (w.heap.size + 1 + 1) 0 T'.vs) T':=by
 have hz:=h.z
 have hk:∀ b,b < w.heap.size + 1 + 1→(V.setCells (w.heap.size + 1 + 1) 0 T'.vs).heap[b]? = W.heap[b]?:=fun b ob=>(bT _ b (by omega) _ 0 V).trans (F.block b (by omega))
 have jh:=ze h.t F (by omega)
 refine ⟨yV V _ 0 _ (fun j R=>jh j (by simpa [Tot.vs] using R)),fun j R=>⟨?_,?_⟩,there_blk h.o (hk _ (by omega)),fun j u R=>?_,zm (w.heap.size + 1 + 1) (by omega) _ 0 V (h.b.trans (F.mono h.b.size)),by rw [zZ]; exact yL hz F.size⟩
 ·have:=yV V (w.heap.size + 1 + 1) 0 T'.vs (fun j R=>jh j (by simpa [Tot.vs] using R)) j (T'.vs[j]'(by simpa [Tot.vs] using R)) (yF _)
  rw [this]; rfl
 ·rw [cY]; exact (jh j R).2
 ·rw [yO (a:=(yp w (0 + j))) (hk w.heap.size (by omega))]; exact h.k j u R
theorem jt_below {w W V:World} {bk:List Value} {T:Tot} (h:JT w bk W T) (F:ym W V):JT w bk V T:=by
 have hz:=h.z
 exact ⟨zb h.r F (by omega),ze h.t F (by omega),ze h.o F (by omega),zb h.k F (by omega),h.b.trans (F.mono h.b.size),yL hz F.size⟩
theorem jt_set {w W:World} {bk:List Value} {T:Tot} (h:JT w bk W T) (x y:Int):JT w bk ((W.setCell (J (w.heap.size + 1 + 1) 6) (H x)).setCell (J (w.heap.size + 1 + 1) 7) (H y)) { T with li:=x,le:=y }:=by
 have r1:=bc (j:=6) (u:=H x) h.r (by simp [Tot.vs])
 have r2:=bc (j:=7) (u:=H y) r1 (by simp [Tot.vs])
 refine ⟨r2,zB (zB h.t),zB (zB h.o),fun j u R=>?_,(h.b.setCell (p:=(J (w.heap.size + 1 + 1) 6)) (show w.heap.size ≤ w.heap.size + 1 + 1 by omega) _).setCell (p:=(J (w.heap.size + 1 + 1) 7)) (show w.heap.size ≤ w.heap.size + 1 + 1 by omega) _,by simp only [World.setCell,Array.size_modify]; exact h.z⟩
 have xA:∀ q:Nat,((J (w.heap.size + 1 + 1) q):Addr) ≠ (yp w (0 + j)):=fun q e=>by have:=congrArg Addr.block e; simp at this; omega
 exact (yJ _ _ _ _ (xA 7)).trans ((yJ _ _ _ _ (xA 6)).trans (h.k j u R))
def CV (vs:List Value) (W:World) (j:Nat) (v:Value):Prop:=vs[j]? = some v
theorem l04Totals_any (v:Value) (gl:List (List Ev)) (next:Int) (vq:Value) (l:List Od) (w:World) (hg:RdG w v gl) (hr:RdR Od.vs 6 w vq l) :
  Calls Tryz.prog 71 #[v,.agg #[H next,vq]] w fun r w'=>r = yl (.agg #[H (totM gl l).gr,H (totM gl l).ac,H (totM gl l).rf,H (totM gl l).tr,H (totM gl l).vo,H (totM gl l).no,H (totM gl l).li,H (totM gl l).le])∧ym w w':=by
 have HR:=Y hr
 obtain ⟨aq,cq,rfl,hlq,hcq⟩:=hr
 clear hcq hlq
 obtain ⟨a,E,rfl,xB,hc⟩:=hg
 have xo:∀ (k:Nat) (es:List Ev),gl[k]? = some es→∃ b off,a = some (J b off)∧b < w.heap.size∧∃ ae ce,es.length ≤ 1073741824∧w.cell? (J b (off + k)) = some (.slice ae es.length ce)∧∀ (j:Nat) (e:Ev),es[j]? = some e→∃ b' uG,ae = some (J b' uG)∧b' < w.heap.size∧w.rangeAt b' (uG + j * 14) e.vs:=by
  intro k es hk
  obtain ⟨b,off,Q,N,h3⟩:=hc (by intro h; rw [h] at hk; simp at hk)
  obtain ⟨g,h4,ae,ce,rfl,hel,h5⟩:=h3 k es hk
  refine ⟨b,off,Q,N,ae,ce,hel,h4,fun j e R=>?_⟩
  obtain ⟨b',uG,k1,k2,k3⟩:=h5 (by intro h; rw [h] at R; simp at R)
  exact ⟨b',uG,k1,k2,k3 j e R⟩
 have HC:=Y xo
 clear xo hc
 have hsf:=sfl
 have HTM:Hid (totM gl l = { totG { tot0 with gr:=gl.length } gl with li:=l.length,le:=livS l }):=rfl
 generalize totM gl l = TM at HTM ⊢
 have xy:=zf w (D #[H next,.slice aq l.length cq] 28)
 have xY:((w.alloc (D #[H next,.slice aq l.length cq] 28)).alloc (D #[H 0,H 0,H 0,H 0,H 0,H 0,H 0,H 0] 30)).heap.size = w.heap.size + 1 + 1:=by rw [zf,xy]
 have r1:=zg w [H next,.slice aq l.length cq] 28
 have t2:=zt (w.alloc (D #[H next,.slice aq l.length cq] 28)) [H 0,H 0,H 0,H 0,H 0,H 0,H 0,H 0] 30
 rw [xy] at t2
 have b1:=dm w (D #[H next,.slice aq l.length cq] 28)
 have b2:Below (w.heap.size + 1) (w.alloc (D #[H next,.slice aq l.length cq] 28)) ((w.alloc (D #[H next,.slice aq l.length cq] 28)).alloc (D #[H 0,H 0,H 0,H 0,H 0,H 0,H 0,H 0] 30)):=(Below.refl _ _).alloc (by omega) _
 have HX:Hid (_∧_∧_∧_):=⟨zb r1 b2 (by omega),t2,b1.trans (b2.mono (by omega)),xY⟩
 clear xy xY r1 t2 b1 b2
 go_enter Tryz.func71,Tryz.ntmps71
 refine ds fun tg xq=>?_
 go_wp2_with fail
 refine U xq _ _ ?_
 clear xq
 generalize ((w.alloc (D #[H next,.slice aq l.length cq] 28)).alloc (D #[H 0,H 0,H 0,H 0,H 0,H 0,H 0,H 0] 30)) = hD at HX ⊢
 have HX:Hid (hD.rangeAt w.heap.size 0 [H next,.slice aq l.length cq]∧hD.there (w.heap.size + 1) 0 8∧ym w hD∧hD.heap.size = w.heap.size + 1 + 1):=U HX
 have hXs:=(U HX).2.2.2
 have HJ:Hid (JT w [H next,.slice aq l.length cq] (hD.alloc (D #[H gl.length,H 0,H 0,H 0,H 0,H 0,H 0,H 0] 30)) (totG { tot0 with gr:=gl.length } (gl.take 0))):=by
  have b3:=dm hD (D #[H gl.length,H 0,H 0,H 0,H 0,H 0,H 0,H 0] 30)
  have r3:=zg hD [H gl.length,H 0,H 0,H 0,H 0,H 0,H 0,H 0] 30
  have t3:=zt hD [H gl.length,H 0,H 0,H 0,H 0,H 0,H 0,H 0] 30
  rw [hXs] at r3 t3
  exact ⟨r3,t3,ze (U HX).2.1 b3 (by omega),zb (U HX).1 b3 (by omega),(U HX).2.2.1.trans (b3.mono (by omega)),by rw [zf]; omega⟩
 refine ds fun tg xq=>?_
 go_wp2_with fail
 refine U xq _ _ ?_
 clear xq
 generalize (hD.alloc (D #[H gl.length,H 0,H 0,H 0,H 0,H 0,H 0,H 0] 30)) = yb at HJ ⊢
 clear hXs HX
 refine ds fun tg xq=>?_
 go_wp2_with fail
 go_loopw [6] (fun iv wr=>∃ (k:Nat),k ≤ gl.length∧iv = H k∧Hid (JT w [H next,.slice aq l.length cq] wr (totG { tot0 with gr:=gl.length } (gl.take k)))) (fun iv _=>gl.length - (intOf iv).toNat)
 case atStart=>exact ⟨0,Nat.zero_le _,rfl,U HJ⟩
 case round =>
  obtain ⟨k,hk,rfl,uq⟩:=hrel
  by_cases xH:k < gl.length
  ·obtain ⟨es,qV⟩:∃ es,gl[k]? = some es:=⟨_,yF xH⟩
   obtain ⟨b,off,rfl,F,ae,ce,hel,hcg,hev⟩:=U HC k es qV
   have qv:=Y (totG_step { tot0 with gr:=gl.length } gl qV)
   have uu:(k:Int) < gl.length:=by omega
   have HCG:=Y hcg
   have vv:=Y hev
   generalize totG { tot0 with gr:=gl.length } (gl.take k) = T0 at qv uq
   have HJ1:Hid (JT w [H next,.slice aq l.length cq] wr ((es.take 0).foldl cntM T0)):=U uq
   clear qV hcg hev uq
   go_wp2_with fail
   go_loopw [7] (fun jv wq=>∃ (j:Nat),j ≤ es.length∧jv = H j∧Hid (JT w [H next,.slice aq l.length cq] wq ((es.take j).foldl cntM T0))) (fun jv _=>es.length - (intOf jv).toNat)
   case atStart=>exact ⟨0,Nat.zero_le _,rfl,U HJ1⟩
   case round =>
    obtain ⟨j,R,rfl,uq⟩:=hrel
    have jC:=Y (U uq)
    clear uq
    have gc:wr.cell? (J b (off + k)) = some (.slice ae es.length ce):=((U jC).b.cell (p:=(J b (off + k))) F).trans (U HCG)
    by_cases hjl:j < es.length
    ·obtain ⟨e,hje⟩:∃ e,es[j]? = some e:=⟨_,yF hjl⟩
     obtain ⟨b',uG,rfl,ob,hre⟩:=U vv j e hje
     have HNE:=Y (cntM_step T0 es hje)
     have hjl':(j:Int) < es.length:=by omega
     have vM:=Y (zb hre (U jC).b ob)
     have hbw:b' < wr.heap.size:=yH ob (U jC).b.size
     have hbg:b < wr.heap.size:=yH F (U jC).b.size
     have qM:=(U jC).z
     generalize (es.take j).foldl cntM T0 = T at HNE jC
     clear hje hre
     go_wp2_with fail
     refine zh (RYA (fun f=>{ tmps:=#[.slice (some (J b off)) gl.length E,.agg #[H next,.slice aq l.length cq],M,yn w 0,I (w.heap.size + 1) 0,I (w.heap.size + 1 + 1) 0,H k,H j,.slice (some (J b off)) gl.length E,H gl.length,.agg #[H gl.length,H 0,H 0,H 0,H 0,H 0,H 0,H 0],H k,.slice (some (J b off)) gl.length E,H gl.length,.bool true,u15,u16,H j,.slice (some (J b off)) gl.length E,H k,I b (off + k),.slice (some (J b' uG)) es.length ce,H es.length,.bool true,u24,u25,f 0,f 1,f 2,f 3,f 4,f 5,f 6,f 7,f 8,M,M,M,M,M,M,M,M],defers:=[] }) (CV [.agg #[H T.gr,H T.ac,H T.rf,H T.tr,H T.vo,H T.no,H T.li,H T.le],.slice (some (J b off)) gl.length E,H k,I b (off + k),.slice (some (J b' uG)) es.length ce,H j,I b' (uG + j * 14),.agg (yt e.kind e.cmd.k e.cmd.s e.cmd.t e.cmd.l e.cmd.q e.cmd.i e.cmd.p e.cmd.g e.id e.other e.qty e.price e.reason).toArray,.agg #[H (cntM T e).gr,H (cntM T e).ac,H (cntM T e).rf,H (cntM T e).tr,H (cntM T e).vo,H (cntM T e).no,H (cntM T e).li,H (cntM T e).le]]) 9 (fun _ W=>∃ V,ym wr V∧W = V.setCells (w.heap.size + 1 + 1) 0 (cntM T e).vs) wr) (by kernel_rfl) ?_ ?_ ?_
     ·exact ⟨fun j=>([u26,u27,u28,u29,u30,u31,u32,u33,u34]:List Value)[j]?.getD M,rfl,ry_start (by decide)⟩
     ·rintro x hR V ⟨f,rfl,A⟩ hx xM
      have xn:=zS xM hx (acyc _ (by kernel_rfl))
      obtain ⟨V2,xU,eV⟩:=A.m (xn 9 (by simp))
      dsimp only
      generalize f 0 = v0,f 1 = v1,f 2 = v2,f 3 = v3,f 4 = v4,f 5 = v5,f 6 = v6,f 7 = v7,f 8 = v8
      have HJ3:Hid (JT w [H next,.slice aq l.length cq] V (cntM T e)):=by rw [eV]; exact jt_step (U jC) xU
      clear eV xU A xn xM hx vM gc
      go_wp2_with fail
      dsimp only [H,I,J,M,yi,yj,yt,yu,yv,yn,yp,D]
      go_roundw
      case rel=>exact ⟨j + 1,by omega,by go_num,by rw [U HNE]; exact U HJ3⟩
      case measure=>simp [intOf]; omega
     ·rintro x hR V i op ⟨f,rfl,A⟩ L hx Z xu G
      have xw:=Y A
      match i,Z with
      | 0,Z =>
       obtain rfl:=ya Z
       have hn:x[9]? = some false:=zv L 12 0 9 (by kernel_rfl) hx (by simp) xu
       have xR:=A.b hn
       have y0:=zb (U jC).r xR (by omega) 0 _ rfl
       have y1:=zb (U jC).r xR (by omega) 1 _ rfl
       have y2:=zb (U jC).r xR (by omega) 2 _ rfl
       have y3:=zb (U jC).r xR (by omega) 3 _ rfl
       have y4:=zb (U jC).r xR (by omega) 4 _ rfl
       have y5:=zb (U jC).r xR (by omega) 5 _ rfl
       have y6:=zb (U jC).r xR (by omega) 6 _ rfl
       have y7:=zb (U jC).r xR (by omega) 7 _ rfl
       clear G A L
       rw [if_pos (by rfl)];unfold Oper.wp;go_simp
       exact ⟨upd f 0 (.agg #[H T.gr,H T.ac,H T.rf,H T.tr,H T.vo,H T.no,H T.li,H T.le]),by simp [upd],zU (U xw) 0 _ hn (by decide) rfl⟩
      | 1,Z =>
       obtain rfl:=ya Z
       have hn:x[9]? = some false:=zv L 12 1 9 (by kernel_rfl) hx (by simp) xu
       clear G A L
       rw [if_pos (by rfl)];unfold Oper.wp;go_simp
       exact ⟨upd f 1 (.slice (some (J b off)) gl.length E),by simp [upd],zU (U xw) 1 _ hn (by decide) rfl⟩
      | 2,Z =>
       obtain rfl:=ya Z
       have hn:x[9]? = some false:=zv L 12 2 9 (by kernel_rfl) hx (by simp) xu
       clear G A L
       rw [if_pos (by rfl)];unfold Oper.wp;go_simp
       exact ⟨upd f 2 (H k),by simp [upd],zU (U xw) 2 _ hn (by decide) rfl⟩
      | 3,Z =>
       obtain rfl:=ya Z
       have hn:x[9]? = some false:=zv L 12 3 9 (by kernel_rfl) hx (by simp) xu
       have g1:f 1 = .slice (some (J b off)) gl.length E:=(Option.some.inj (A.c hn 1 (yd G 1 rfl))).symm
       have g2:f 2 = H k:=(Option.some.inj (A.c hn 2 (yd G 2 rfl))).symm
       clear G A L
       rw [if_pos (by rfl)];unfold Oper.wp;go_simp
       exact ⟨upd f 3 (I b (off + k)),by simp [upd,g1,g2],zU (U xw) 3 _ hn (by decide) rfl⟩
      | 4,Z =>
       obtain rfl:=ya Z
       have hn:x[9]? = some false:=zv L 12 4 9 (by kernel_rfl) hx (by simp) xu
       have g3:f 3 = I b (off + k):=(Option.some.inj (A.c hn 3 (yd G 3 rfl))).symm
       have xR:=A.b hn
       have y0:=(xR.cell (p:=(J b (off + k))) hbg).trans gc
       clear G A L
       rw [if_pos (by rfl)];unfold Oper.wp;go_simp
       exact ⟨upd f 4 (.slice (some (J b' uG)) es.length ce),by simp [upd,g3],zU (U xw) 4 _ hn (by decide) rfl⟩
      | 5,Z =>
       obtain rfl:=ya Z
       have hn:x[9]? = some false:=zv L 12 5 9 (by kernel_rfl) hx (by simp) xu
       clear G A L
       rw [if_pos (by rfl)];unfold Oper.wp;go_simp
       exact ⟨upd f 5 (H j),by simp [upd],zU (U xw) 5 _ hn (by decide) rfl⟩
      | 6,Z =>
       obtain rfl:=ya Z
       have hn:x[9]? = some false:=zv L 12 6 9 (by kernel_rfl) hx (by simp) xu
       have g4:f 4 = .slice (some (J b' uG)) es.length ce:=(Option.some.inj (A.c hn 4 (yd G 4 rfl))).symm
       have g5:f 5 = H j:=(Option.some.inj (A.c hn 5 (yd G 5 rfl))).symm
       clear G A L
       rw [if_pos (by rfl)];unfold Oper.wp;go_simp
       exact ⟨upd f 6 (I b' (uG + j * 14)),by simp [upd,g4,g5],zU (U xw) 6 _ hn (by decide) rfl⟩
      | 7,Z =>
       obtain rfl:=ya Z
       have hn:x[9]? = some false:=zv L 12 7 9 (by kernel_rfl) hx (by simp) xu
       have g6:f 6 = I b' (uG + j * 14):=(Option.some.inj (A.c hn 6 (yd G 6 rfl))).symm
       have xR:=A.b hn
       obtain ⟨e0,e1,e2,e3,e4,e5,e6,e7,e8,e9,kY,e11,e12,e13⟩:=bM (zb (U vM) xR hbw)
       clear G A L
       rw [if_pos (by rfl)];unfold Oper.wp;go_simp
       exact ⟨upd f 7 (.agg (yt e.kind e.cmd.k e.cmd.s e.cmd.t e.cmd.l e.cmd.q e.cmd.i e.cmd.p e.cmd.g e.id e.other e.qty e.price e.reason).toArray),by simp [upd,g6],zU (U xw) 7 _ hn (by decide) rfl⟩
      | 8,Z =>
       obtain rfl:=ya Z
       have hn:x[9]? = some false:=zv L 12 8 9 (by kernel_rfl) hx (by simp) xu
       have g0:f 0 = .agg #[H T.gr,H T.ac,H T.rf,H T.tr,H T.vo,H T.no,H T.li,H T.le]:=(Option.some.inj (A.c hn 0 (yd G 0 rfl))).symm
       have g7:f 7 = .agg (yt e.kind e.cmd.k e.cmd.s e.cmd.t e.cmd.l e.cmd.q e.cmd.i e.cmd.p e.cmd.g e.id e.other e.qty e.price e.reason).toArray:=(Option.some.inj (A.c hn 7 (yd G 7 rfl))).symm
       have xR:=A.b hn
       clear G A L
       rw [if_pos (by rfl)];unfold Oper.wp;go_simp
       refine (l04Count_any T e V).mono ?_
       rintro r w4 ⟨rfl,xz⟩
       exact ⟨upd f 8 (.agg #[H (cntM T e).gr,H (cntM T e).ac,H (cntM T e).rf,H (cntM T e).tr,H (cntM T e).vo,H (cntM T e).no,H (cntM T e).li,H (cntM T e).le]),by simp [upd,g0,g7],zU (ry_grow (fun _ _ _ _ _ h=>h) (U xw) hn xz) 8 _ hn (by decide) rfl⟩
      | 9,Z =>
       obtain rfl:=ya Z
       have hn:x[9]? = some false:=xu
       have g8:f 8 = .agg #[H (cntM T e).gr,H (cntM T e).ac,H (cntM T e).rf,H (cntM T e).tr,H (cntM T e).vo,H (cntM T e).no,H (cntM T e).li,H (cntM T e).le]:=(Option.some.inj (A.c hn 8 (yd G 8 rfl))).symm
       have xR:=A.b hn
       have xD:=ze (U jC).t xR (by omega)
       obtain ⟨y0,z0,q0⟩:=zc xD (j:=0) (by omega)
       obtain ⟨y1,z1,q1⟩:=zc xD (j:=1) (by omega)
       obtain ⟨y2,z2,q2⟩:=zc xD (j:=2) (by omega)
       obtain ⟨y3,z3,q3⟩:=zc xD (j:=3) (by omega)
       obtain ⟨y4,z4,q4⟩:=zc xD (j:=4) (by omega)
       obtain ⟨y5,z5,q5⟩:=zc xD (j:=5) (by omega)
       obtain ⟨y6,z6,q6⟩:=zc xD (j:=6) (by omega)
       obtain ⟨y7,z7,q7⟩:=zc xD (j:=7) (by omega)
       clear xD
       clear G A L
       rw [if_pos (by rfl)];unfold Oper.wp;go_simp
       exact ⟨f,by simp [g8],ry_writeN (U xw) hn ⟨V,xR,rfl⟩⟩
      | i + 10,Z=>simp at Z
    ·have hjl':¬ (j:Int) < es.length:=by omega
     rw [yX (by omega)] at jC
     go_wp2_with fail
     dsimp only [H,I,J,M,yi,yj,yt,yu,yv,yn,yp,D]
     go_roundw
     case rel=>exact ⟨k + 1,by omega,by go_num,by rw [U qv]; exact U jC⟩
     case measure=>simp [intOf]; omega
  ·have uu:¬ (k:Int) < gl.length:=by omega
   rw [yX (by omega)] at uq
   go_wp2_with fail
   refine U xq _ _ ?_
   clear xq xH uu
   generalize totG { tot0 with gr:=gl.length } gl = T at HTM uq
   have jC:=Y (U uq)
   clear uq
   have k0:wr.cell? (yp w 0) = some (H next):=(U jC).k 0 _ rfl
   have k1:wr.cell? (yp w 1) = some (.slice aq l.length cq):=(U jC).k 1 _ rfl
   have jF:=Y (l04Live_any next (.slice aq l.length cq) l wr (zl (U HR) (U jC).b qt))
   generalize livS l = LV at jF HTM
   refine ds fun tg xq=>?_
   go_wp2_with fail
   refine (U jF).mono ?_
   rintro r w4 ⟨rfl,xz⟩
   clear k0 k1
   have HJ4:=Y (jt_below (U jC) xz)
   clear xz
   obtain ⟨y6,z6,q6⟩:=zc (U HJ4).t (j:=6) (by omega)
   obtain ⟨y7,z7,q7⟩:=zc (U HJ4).t (j:=7) (by omega)
   go_wp2_with fail
   refine U xq _ _ ?_
   clear xq z6 q6 z7 q7
   have kl:=Y (jt_set (U HJ4) l.length LV)
   generalize (w4.setCell (J (w.heap.size + 1 + 1) 6) (H l.length)).setCell (J (w.heap.size + 1 + 1) 7) (H LV) = V at kl ⊢
   obtain ⟨ua,xZ,uc,ud,ue,ub,uo,un⟩:=T
   simp only at HTM kl
   have c0:V.cell? (J (w.heap.size + 1 + 1) 0) = some (H ua):=(U kl).r 0 _ rfl
   obtain ⟨y0,z0,q0⟩:=zc (U kl).o (j:=0) (by omega)
   have c1:V.cell? (J (w.heap.size + 1 + 1) 1) = some (H xZ):=(U kl).r 1 _ rfl
   obtain ⟨y1,z1,q1⟩:=zc (U kl).o (j:=1) (by omega)
   have c2:V.cell? (J (w.heap.size + 1 + 1) 2) = some (H uc):=(U kl).r 2 _ rfl
   obtain ⟨y2,z2,q2⟩:=zc (U kl).o (j:=2) (by omega)
   have c3:V.cell? (J (w.heap.size + 1 + 1) 3) = some (H ud):=(U kl).r 3 _ rfl
   obtain ⟨y3,z3,q3⟩:=zc (U kl).o (j:=3) (by omega)
   have c4:V.cell? (J (w.heap.size + 1 + 1) 4) = some (H ue):=(U kl).r 4 _ rfl
   obtain ⟨y4,z4,q4⟩:=zc (U kl).o (j:=4) (by omega)
   have c5:V.cell? (J (w.heap.size + 1 + 1) 5) = some (H ub):=(U kl).r 5 _ rfl
   obtain ⟨y5,z5,q5⟩:=zc (U kl).o (j:=5) (by omega)
   have c6:V.cell? (J (w.heap.size + 1 + 1) 6) = some (H l.length):=(U kl).r 6 _ rfl
   obtain ⟨y6,z6,q6⟩:=zc (U kl).o (j:=6) (by omega)
   have c7:V.cell? (J (w.heap.size + 1 + 1) 7) = some (H LV):=(U kl).r 7 _ rfl
   obtain ⟨y7,z7,q7⟩:=zc (U kl).o (j:=7) (by omega)
   have xN:=Y (yV V (w.heap.size + 1) 0 [H ua,H xZ,H uc,H ud,H ue,H ub,H l.length,H LV] (fun j R=>(U kl).o j R))
   have vX:=Y (zm (w.heap.size + 1) (by omega) [H ua,H xZ,H uc,H ud,H ue,H ub,H l.length,H LV] 0 V (U kl).b)
   go_wp2_with fail
   change bodyPost _ _ _ _ _ (V.setCells (w.heap.size + 1) 0 [H ua,H xZ,H uc,H ud,H ue,H ub,H l.length,H LV])
   generalize V.setCells (w.heap.size + 1) 0 [H ua,H xZ,H uc,H ud,H ue,H ub,H l.length,H LV] = WE at xN vX ⊢
   obtain ⟨d0,d1,d2,d3,d4,d5,d6,d7⟩:=yB (U xN)
   refine bodyPost_ret (by simp [results,Tryz.results71,go_sem,d0,d1,d2,d3,d4,d5,d6,d7]; try rfl) rfl ?_
   exact ⟨by rw [U HTM],U vX⟩
theorem run_fold:∀ (cs:List Cm) (s:RunSt),s.t = s.g.foldl wgT tot0→(cs.foldl rstep s).t = (cs.foldl rstep s).g.foldl wgT tot0
 | [],s,h=>h
 | c :: cs,s,h=>by
  rw [List.foldl_cons]
  refine run_fold cs _ ?_
  show wgT s.t (stE s.n s.l c) = (s.g ++ [stE s.n s.l c]).foldl wgT tot0
  rw [List.foldl_append,← h]; rfl
structure Al (t u:Tot):Prop where
 ac:t.ac = u.ac
 rf:t.rf = u.rf
 tr:t.tr = u.tr
 vo:t.vo = u.vo
 no:t.no = u.no
theorem al_cnt {t u:Tot} (e:Ev) (h:Al t u):Al (cntE t e) (cntM u e):=by
 obtain ⟨Q,N,h3,h4,h5⟩:=h
 unfold cntE cntM
 split
 ·exact ⟨by simp only [Q],N,h3,h4,h5⟩
 ·split
  ·exact ⟨Q,by simp only [N],h3,h4,h5⟩
  ·split
   ·exact ⟨Q,N,by simp only [h3],by simp only [h4],by simp only [h5]⟩
   ·split
    ·exact ⟨Q,N,h3,h4,h5⟩
    ·exact ⟨Q,N,h3,h4,h5⟩
theorem al_fold:∀ (es:List Ev) {t u:Tot},Al t u→Al (es.foldl cntE t) (es.foldl cntM u)
 | [],_,_,h=>h
 | e :: es,_,_,h=>al_fold es (al_cnt e h)
theorem cntE_rest (t:Tot) (e:Ev):(cntE t e).gr = t.gr∧(cntE t e).li = t.li∧(cntE t e).le = t.le:=by
 unfold cntE
 split
 ·exact ⟨rfl,rfl,rfl⟩
 ·split
  ·exact ⟨rfl,rfl,rfl⟩
  ·split <;> exact ⟨rfl,rfl,rfl⟩
theorem cntE_fold:∀ (es:List Ev) (t:Tot),(es.foldl cntE t).gr = t.gr∧(es.foldl cntE t).li = t.li∧(es.foldl cntE t).le = t.le
 | [],_=>⟨rfl,rfl,rfl⟩
 | e :: es,t=>by
  have Q:=cntE_fold es (cntE t e)
  have N:=cntE_rest t e
  exact ⟨Q.1.trans N.1,Q.2.1.trans N.2.1,Q.2.2.trans N.2.2⟩
theorem cntM_gr:∀ (es:List Ev) (t:Tot),(es.foldl cntM t).gr = t.gr
 | [],_=>rfl
 | e :: es,t=>by
  refine (cntM_gr es (cntM t e)).trans ?_
  unfold cntM
  split
  ·rfl
  ·split
   ·rfl
   ·split
    ·rfl
    ·split <;> rfl
theorem totG_gr:∀ (gl:List (List Ev)) (t:Tot),(totG t gl).gr = t.gr
 | [],_=>rfl
 | es :: gl,t=>(totG_gr gl (es.foldl cntM t)).trans (cntM_gr es t)
theorem wrap_small {x:Int} (h0:0 ≤ x) (Q:x ≤ 1000000):wrap64 x = x:=by unfold wrap64; omega
theorem wg_al:∀ (gl:List (List Ev)) {t u:Tot},Al t u→0 ≤ t.gr→t.gr + gl.length ≤ 1000000→Al (gl.foldl wgT t) (totG u gl)∧(gl.foldl wgT t).gr = t.gr + gl.length∧(gl.foldl wgT t).li = t.li∧(gl.foldl wgT t).le = t.le
 | [],t,u,h,_,_=>⟨h,by simp,rfl,rfl⟩
 | es :: gl,t,u,h,h0,Q=>by
  rw [List.length_cons] at Q
  have hf:=cntE_fold es { t with gr:=wrap64 (t.gr + 1) }
  have hw:wrap64 (t.gr + 1) = t.gr + 1:=wrap_small (by omega) (by omega)
  have hg:(wgT t es).gr = t.gr + 1:=hf.1.trans hw
  have ha:Al (wgT t es) (es.foldl cntM u):=al_fold es ⟨h.ac,h.rf,h.tr,h.vo,h.no⟩
  have ih:=wg_al gl ha (by omega) (by omega)
  refine ⟨ih.1,?_,ih.2.2.1.trans hf.2.1,ih.2.2.2.trans hf.2.2⟩
  have:=ih.2.1
  rw [List.foldl_cons,this,List.length_cons]; omega
theorem wb_fold:∀ (l:List Od) (t:Tot) (n:Int),0 ≤ t.li→t.li + l.length ≤ 1000000→l.foldl cntO { t with le:=n } = { t with li:=t.li + l.length,le:=l.foldl (fun n o=>wrap64 (n + o.left)) n }
 | [],t,n,_,_=>by simp
 | o :: l,t,n,h0,Q=>by
  rw [List.length_cons] at Q
  have hw:wrap64 (t.li + 1) = t.li + 1:=wrap_small (by omega) (by omega)
  rw [List.foldl_cons,List.foldl_cons]
  have:=wb_fold l { t with li:=t.li + 1 } (wrap64 (n + o.left)) (by show 0 ≤ t.li + 1; omega) (by show t.li + 1 + _ ≤ _; omega)
  simp only at this
  unfold cntO
  simp only [hw]
  refine this.trans ?_
  congr 1
  rw [List.length_cons]; omega
theorem tot_eq (cs:List Cm) (h:cs.length ≤ 200):wbT (runS cs).t (runS cs).l = totM (runS cs).g (runS cs).l:=by
 have hI:=run_inv cs h
 have hl:=hI.1.good.len
 have hf:(runS cs).t = (runS cs).g.foldl wgT tot0:=run_fold cs _ rfl
 generalize runS cs = s at hI hl hf ⊢
 obtain ⟨ha,hg,hli,jo⟩:=wg_al s.g (t:=tot0) (u:={ tot0 with gr:=s.g.length }) ⟨rfl,rfl,rfl,rfl,rfl⟩ (by show (0:Int) ≤ 0; omega) (by show (0:Int) + _ ≤ _; omega)
 have uh:=totG_gr s.g { tot0 with gr:=s.g.length }
 rw [← hf] at ha hg hli jo
 unfold totM wbT
 generalize totG { tot0 with gr:=s.g.length } s.g = za at ha uh ⊢
 have hw:=wb_fold s.l s.t 0 (by rw [hli]; show (0:Int) ≤ 0; omega) (by rw [hli]; show (0:Int) + _ ≤ _; omega)
 have ht:{ s.t with le:=0 } = s.t:=by rw [show (0:Int) = s.t.le from jo.symm]
 rw [ht] at hw
 rw [hw]
 obtain ⟨u1,u2,u3,u4,u5,u6,u7,u8⟩:=za
 generalize s.t = T at *
 obtain ⟨t1,t2,t3,t4,t5,t6,t7,t8⟩:=T
 obtain ⟨a1,a2,a3,a4,a5⟩:=ha
 simp only [tot0] at *
 simp only [Tot.mk.injEq]
 exact ⟨by omega,a1,a2,a3,a4,a5,by omega,rfl⟩
theorem bZ (n a b:Int) (w:World) :
  Calls Tryz.prog 80 #[H n,H a,H b] w fun e w'=>e = .returned (.bool (betB n a b))∧w' = w:=by
 go_enter Tryz.func80,Tryz.ntmps80
 go_wp2
 all_goals go_ret
 all_goals exact ⟨zy (by rw [Bool.eq_iff_iff]; simp [betB]; omega),rfl⟩
theorem l03Tag_any (s:ByteArray) (w:World) (hs:s.size ≤ maxLen) :
  Calls Tryz.prog 130 #[yj s] w fun e w'=>e = .returned (.bool (tagB s))∧w' = w:=by
 unfold maxLen at hs
 by_cases hl:s.size ≤ 12
 ·have hl':¬ ((12:Int) < s.size):=by omega
  go_enter Tryz.func130,Tryz.ntmps130
  go_wp2_with fail
  go_loop [3] (fun i=>∃ k:Nat,k ≤ s.size∧i = H k∧Hid (s.data.toList.all tagC = (s.data.toList.drop k).all tagC)) (fun i=>s.size - (intOf i).toNat)
  case atStart=>exact ⟨0,Nat.zero_le _,rfl,by simp [Hid]⟩
  case round =>
   obtain ⟨k,hk,rfl,G⟩:=hrel
   by_cases xH:k < s.size
   ·have uu:(k:Int) < s.size:=by omega
    have hdr:=drop_cons s k xH
    have hw:betB (s[k].toNat:Int) 32 126 = tagC s[k]:=rfl
    cases ht:tagC s[k]
    ·have HT:Hid (s.data.toList.all tagC = false):=by
      have:=U G
      rw [hdr,List.all_cons,ht,Bool.false_and] at this
      exact this
     rw [ht] at hw
     have ow:(s[k].toNat:Int) < 32 ∨ (32 ≤ (s[k].toNat:Int)∧(126:Int) < s[k].toNat):=by
      simp [betB] at hw; omega
     clear hdr ht hw
     rcases ow with h32 | ⟨h32,h126⟩
     ·have hd:decide ((s[k].toNat:Int) < 32) = true:=by simpa using h32
      go_wp2_with fail
      go_ret
      exact ⟨zy (tag_no s (U HT)).symm,rfl⟩
     ·have hd:decide ((s[k].toNat:Int) < 32) = false:=by simpa using h32
      go_wp2_with fail
      go_ret
      exact ⟨zy (tag_no s (U HT)).symm,rfl⟩
    ·have HN:Hid (s.data.toList.all tagC = (s.data.toList.drop (k + 1)).all tagC):=by
      have:=U G
      rw [hdr,List.all_cons,ht,Bool.true_and] at this
      exact this
     rw [ht] at hw
     have ow:32 ≤ (s[k].toNat:Int)∧(s[k].toNat:Int) ≤ 126:=by
      simp [betB] at hw; omega
     obtain ⟨h32,h126⟩:=ow
     have hd:decide ((s[k].toNat:Int) < 32) = false:=by simpa using h32
     have hd2:¬ ((126:Int) < s[k].toNat):=by omega
     clear hdr ht hw
     go_wp2_with fail
     go_round
     case rel=>exact ⟨k + 1,by omega,by go_num,U HN⟩
     case measure=>simp [intOf]; omega
   ·go_wp2_with fail
    go_ret
    have h:=U G
    rw [yY (by rw [data_len]; omega)] at h
    exact ⟨zy (tag_yes s hl (by rw [h]; rfl)).symm,rfl⟩
 ·have hl':(12:Int) < s.size:=by omega
  go_enter Tryz.func130,Tryz.ntmps130
  go_wp2_with fail
  go_ret
  exact ⟨zy (tag_long s hl).symm,rfl⟩
end Go.Proofs.YtbakanofkghmiaaGreat
