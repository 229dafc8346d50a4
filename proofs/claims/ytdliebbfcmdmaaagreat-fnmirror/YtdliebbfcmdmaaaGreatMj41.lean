/-
  The totals of groups and a book, by the model: proved by walking the function.
-/
import Derived.Test.YtdliebbfcmdmaaaGreatMj40
set_option linter.unusedVariables false
set_option maxHeartbeats 6400000
set_option maxRecDepth 100000
namespace Go.Proofs.YtdliebbfcmdmaaaGreat
open Go.RowKit
def RdG (W:World) (v:Value) (gl:List (List Ev)):Prop :=
 ∃ (a:Option Addr) (A:Nat),v = .slice a gl.length A∧gl.length ≤ 1073741824 ∧
  (gl ≠ []→∃ b off,a = some (J b off)∧b < W.heap.size∧∀ i es,gl[i]? = some es→∃ g,W.cell? (J b (off + i)) = some g∧RdR Ev.vs 14 W g es)
theorem cx {C:Nat} {W W':World} {v:Value} {gl:List (List Ev)} (h:RdG W v gl) (L:Below C W W') (hC:W.heap.size ≤ C):RdG W' v gl:=by
 obtain ⟨a,A,e,hl,hc⟩:=h
 refine ⟨a,A,e,hl,fun xB=>?_⟩
 obtain ⟨b,off,Q,N,h3⟩:=hc xB
 refine ⟨b,off,Q,yJ N L.size,fun i es hi=>?_⟩
 obtain ⟨g,h4,h5⟩:=h3 i es hi
 exact ⟨g,(L.cell (p:=(J b (off + i))) (yJ N hC)).trans h4,zl h5 L hC⟩
def totG (t:Tot) (gl:List (List Ev)):Tot:=gl.foldl (fun t es=>es.foldl cntM t) t
def totM (gl:List (List Ev)) (l:List Od):Tot:={ totG { tot0 with gr:=gl.length } gl with li:=l.length,le:=livS l }
theorem totG_step (t:Tot) (gl:List (List Ev)) {k:Nat} {es:List Ev} (h:gl[k]? = some es):totG t (gl.take (k + 1)) = es.foldl cntM (totG t (gl.take k)):=by
 unfold totG
 rw [List.take_add_one,h,List.foldl_append]; rfl
theorem cntM_step (t:Tot) (es:List Ev) {k:Nat} {e:Ev} (h:es[k]? = some e):(es.take (k + 1)).foldl cntM t = cntM ((es.take k).foldl cntM t) e:=by
 rw [List.take_add_one,h,List.foldl_append]; rfl
structure JT (w:World) (bk:List Value) (W:World) (T:Tot):Prop where
 r:W.rangeAt (w.heap.size + 1 + 1) 0 T.vs
 t:W.there (w.heap.size + 1 + 1) 0 8
 o:W.there (w.heap.size + 1) 0 8
 k:W.rangeAt w.heap.size 0 bk
 b:Below w.heap.size w W
 z:w.heap.size + 1 + 1 + 1 ≤ W.heap.size
theorem jt_step {w W V:World} {bk:List Value} {T T':Tot} (h:JT w bk W T) (L:yn W V):JT w bk (V.setCells (w.heap.size + 1 + 1) 0 T'.vs) T':=by
 have hz:=h.z
 have hk:∀ b,b < w.heap.size + 1 + 1→(V.setCells (w.heap.size + 1 + 1) 0 T'.vs).heap[b]? = W.heap[b]?:=fun b kL=>(cU _ b (by omega) _ 0 V).trans (L.block b (by omega))
 have jo:=zf h.t L (by omega)
 refine ⟨yX V _ 0 _ (fun j R=>jo j (by simpa [Tot.vs] using R)),fun j R=>⟨?_,?_⟩,there_blk h.o (hk _ (by omega)),fun j u R=>?_,zm (w.heap.size + 1 + 1) (by omega) _ 0 V (h.b.trans (L.mono h.b.size)),by rw [bM]; exact yN hz L.size⟩
 ·have:=yX V (w.heap.size + 1 + 1) 0 T'.vs (fun j R=>jo j (by simpa [Tot.vs] using R)) j (T'.vs[j]'(by simpa [Tot.vs] using R)) (yH _)
  rw [this]; rfl
 ·rw [dN]; exact (jo j R).2
 ·rw [yQ (a:=(yq w (0 + j))) (hk w.heap.size (by omega))]; exact h.k j u R
theorem jt_below {w W V:World} {bk:List Value} {T:Tot} (h:JT w bk W T) (L:yn W V):JT w bk V T:=by
 have hz:=h.z
 exact ⟨zb h.r L (by omega),zf h.t L (by omega),zf h.o L (by omega),zb h.k L (by omega),h.b.trans (L.mono h.b.size),yN hz L.size⟩
theorem jt_set {w W:World} {bk:List Value} {T:Tot} (h:JT w bk W T) (x y:Int):JT w bk ((W.setCell (J (w.heap.size + 1 + 1) 6) (H x)).setCell (J (w.heap.size + 1 + 1) 7) (H y)) { T with li:=x,le:=y }:=by
 have r1:=bW (j:=6) (u:=H x) h.r (by simp [Tot.vs])
 have r2:=bW (j:=7) (u:=H y) r1 (by simp [Tot.vs])
 refine ⟨r2,zB (zB h.t),zB (zB h.o),fun j u R=>?_,(h.b.setCell (p:=(J (w.heap.size + 1 + 1) 6)) (show w.heap.size ≤ w.heap.size + 1 + 1 by omega) _).setCell (p:=(J (w.heap.size + 1 + 1) 7)) (show w.heap.size ≤ w.heap.size + 1 + 1 by omega) _,by simp only [World.setCell,Array.size_modify]; exact h.z⟩
 have xB:∀ q:Nat,((J (w.heap.size + 1 + 1) q):Addr) ≠ (yq w (0 + j)):=fun q e=>by have:=congrArg Addr.block e; simp at this; omega
 exact (yL _ _ _ _ (xB 7)).trans ((yL _ _ _ _ (xB 6)).trans (h.k j u R))
def CV (vs:List Value) (W:World) (j:Nat) (v:Value):Prop:=vs[j]? = some v
theorem l04Totals_any (v:Value) (gl:List (List Ev)) (next:Int) (vq:Value) (l:List Od) (w:World) (hg:RdG w v gl) (hr:RdR Od.vs 6 w vq l) :
  Calls Tryz.prog 37 #[v,.agg #[H next,vq]] w fun r w'=>r = ym (.agg #[H (totM gl l).gr,H (totM gl l).ac,H (totM gl l).rf,H (totM gl l).tr,H (totM gl l).vo,H (totM gl l).no,H (totM gl l).li,H (totM gl l).le])∧yn w w':=by
 have HR:=Y hr
 obtain ⟨aq,cq,rfl,hlq,hcq⟩:=hr
 clear hcq hlq
 obtain ⟨a,A,rfl,xD,hc⟩:=hg
 have xq:∀ (k:Nat) (es:List Ev),gl[k]? = some es→∃ b off,a = some (J b off)∧b < w.heap.size∧∃ ae ce,es.length ≤ 1073741824∧w.cell? (J b (off + k)) = some (.slice ae es.length ce)∧∀ (j:Nat) (e:Ev),es[j]? = some e→∃ b' uJ,ae = some (J b' uJ)∧b' < w.heap.size∧w.rangeAt b' (uJ + j * 14) e.vs:=by
  intro k es hk
  obtain ⟨b,off,Q,N,h3⟩:=hc (by intro h; rw [h] at hk; simp at hk)
  obtain ⟨g,h4,ae,ce,rfl,hel,h5⟩:=h3 k es hk
  refine ⟨b,off,Q,N,ae,ce,hel,h4,fun j e R=>?_⟩
  obtain ⟨b',uJ,k1,k2,k3⟩:=h5 (by intro h; rw [h] at R; simp at R)
  exact ⟨b',uJ,k1,k2,k3 j e R⟩
 have HC:=Y xq
 clear xq hc
 have hsf:=sfl
 have HTM:Hid (totM gl l = { totG { tot0 with gr:=gl.length } gl with li:=l.length,le:=livS l }):=rfl
 generalize totM gl l = TM at HTM ⊢
 have xA:=ze w (E #[H next,.slice aq l.length cq] 31)
 have uc:((w.alloc (E #[H next,.slice aq l.length cq] 31)).alloc (E #[H 0,H 0,H 0,H 0,H 0,H 0,H 0,H 0] 33)).heap.size = w.heap.size + 1 + 1:=by rw [ze,xA]
 have r1:=zg w [H next,.slice aq l.length cq] 31
 have t2:=zu (w.alloc (E #[H next,.slice aq l.length cq] 31)) [H 0,H 0,H 0,H 0,H 0,H 0,H 0,H 0] 33
 rw [xA] at t2
 have b1:=ed w (E #[H next,.slice aq l.length cq] 31)
 have b2:Below (w.heap.size + 1) (w.alloc (E #[H next,.slice aq l.length cq] 31)) ((w.alloc (E #[H next,.slice aq l.length cq] 31)).alloc (E #[H 0,H 0,H 0,H 0,H 0,H 0,H 0,H 0] 33)):=(Below.refl _ _).alloc (by omega) _
 have HX:Hid (_∧_∧_∧_):=⟨zb r1 b2 (by omega),t2,b1.trans (b2.mono (by omega)),uc⟩
 clear xA uc r1 t2 b1 b2
 go_enter Tryz.func37,Tryz.ntmps37
 refine ei fun hR xu=>?_
 go_wp2_with fail
 refine U xu _ _ ?_
 clear xu
 generalize ((w.alloc (E #[H next,.slice aq l.length cq] 31)).alloc (E #[H 0,H 0,H 0,H 0,H 0,H 0,H 0,H 0] 33)) = ty at HX ⊢
 have HX:Hid (ty.rangeAt w.heap.size 0 [H next,.slice aq l.length cq]∧ty.there (w.heap.size + 1) 0 8∧yn w ty∧ty.heap.size = w.heap.size + 1 + 1):=U HX
 have hXs:=(U HX).2.2.2
 have HJ:Hid (JT w [H next,.slice aq l.length cq] (ty.alloc (E #[H gl.length,H 0,H 0,H 0,H 0,H 0,H 0,H 0] 33)) (totG { tot0 with gr:=gl.length } (gl.take 0))):=by
  have b3:=ed ty (E #[H gl.length,H 0,H 0,H 0,H 0,H 0,H 0,H 0] 33)
  have r3:=zg ty [H gl.length,H 0,H 0,H 0,H 0,H 0,H 0,H 0] 33
  have t3:=zu ty [H gl.length,H 0,H 0,H 0,H 0,H 0,H 0,H 0] 33
  rw [hXs] at r3 t3
  exact ⟨r3,t3,zf (U HX).2.1 b3 (by omega),zb (U HX).1 b3 (by omega),(U HX).2.2.1.trans (b3.mono (by omega)),by rw [ze]; omega⟩
 refine ei fun hR xu=>?_
 go_wp2_with fail
 refine U xu _ _ ?_
 clear xu
 generalize (ty.alloc (E #[H gl.length,H 0,H 0,H 0,H 0,H 0,H 0,H 0] 33)) = yb at HJ ⊢
 clear hXs HX
 refine ei fun hR xu=>?_
 go_wp2_with fail
 go_loopw [6] (fun iv wr=>∃ (k:Nat),k ≤ gl.length∧iv = H k∧Hid (JT w [H next,.slice aq l.length cq] wr (totG { tot0 with gr:=gl.length } (gl.take k)))) (fun iv _=>gl.length - (intOf iv).toNat)
 case atStart=>exact ⟨0,Nat.zero_le _,rfl,U HJ⟩
 case round =>
  obtain ⟨k,hk,rfl,uu⟩:=hrel
  by_cases xK:k < gl.length
  ·obtain ⟨es,je⟩:∃ es,gl[k]? = some es:=⟨_,yH xK⟩
   obtain ⟨b,off,rfl,L,ae,ce,hel,hcg,hev⟩:=U HC k es je
   have qf:=Y (totG_step { tot0 with gr:=gl.length } gl je)
   have uv:(k:Int) < gl.length:=by omega
   have HCG:=Y hcg
   have vJ:=Y hev
   generalize totG { tot0 with gr:=gl.length } (gl.take k) = T0 at qf uu
   have HJ1:Hid (JT w [H next,.slice aq l.length cq] wr ((es.take 0).foldl cntM T0)):=U uu
   clear je hcg hev uu
   go_wp2_with fail
   go_loopw [7] (fun jv wq=>∃ (j:Nat),j ≤ es.length∧jv = H j∧Hid (JT w [H next,.slice aq l.length cq] wq ((es.take j).foldl cntM T0))) (fun jv _=>es.length - (intOf jv).toNat)
   case atStart=>exact ⟨0,Nat.zero_le _,rfl,U HJ1⟩
   case round =>
    obtain ⟨j,R,rfl,uu⟩:=hrel
    have jO:=Y (U uu)
    clear uu
    have gc:wr.cell? (J b (off + k)) = some (.slice ae es.length ce):=((U jO).b.cell (p:=(J b (off + k))) L).trans (U HCG)
    by_cases hjl:j < es.length
    ·obtain ⟨e,hje⟩:∃ e,es[j]? = some e:=⟨_,yH hjl⟩
     obtain ⟨b',uJ,rfl,kL,hre⟩:=U vJ j e hje
     have HNE:=Y (cntM_step T0 es hje)
     have hjl':(j:Int) < es.length:=by omega
     have vp:=Y (zb hre (U jO).b kL)
     have qr:b' < wr.heap.size:=yJ kL (U jO).b.size
     have hbg:b < wr.heap.size:=yJ L (U jO).b.size
     have jJ:=(U jO).z
     generalize (es.take j).foldl cntM T0 = T at HNE jO
     clear hje hre
     go_wp2_with fail
     refine zh (RYA (fun f=>{ tmps:=#[.slice (some (J b off)) gl.length A,.agg #[H next,.slice aq l.length cq],M,yp w 0,I (w.heap.size + 1) 0,I (w.heap.size + 1 + 1) 0,H k,H j,.slice (some (J b off)) gl.length A,H gl.length,.agg #[H gl.length,H 0,H 0,H 0,H 0,H 0,H 0,H 0],H k,.slice (some (J b off)) gl.length A,H gl.length,.bool true,u15,u16,H j,.slice (some (J b off)) gl.length A,H k,I b (off + k),.slice (some (J b' uJ)) es.length ce,H es.length,.bool true,u24,u25,f 0,f 1,f 2,f 3,f 4,f 5,f 6,f 7,f 8,M,M,M,M,M,M,M,M],defers:=[] }) (CV [.agg #[H T.gr,H T.ac,H T.rf,H T.tr,H T.vo,H T.no,H T.li,H T.le],.slice (some (J b off)) gl.length A,H k,I b (off + k),.slice (some (J b' uJ)) es.length ce,H j,I b' (uJ + j * 14),.agg (yu e.kind e.cmd.k e.cmd.s e.cmd.t e.cmd.l e.cmd.q e.cmd.i e.cmd.p e.cmd.g e.id e.other e.qty e.price e.reason).toArray,.agg #[H (cntM T e).gr,H (cntM T e).ac,H (cntM T e).rf,H (cntM T e).tr,H (cntM T e).vo,H (cntM T e).no,H (cntM T e).li,H (cntM T e).le]]) 9 (fun _ W=>∃ V,yn wr V∧W = V.setCells (w.heap.size + 1 + 1) 0 (cntM T e).vs) wr) (by kernel_rfl) ?_ ?_ ?_
     ·exact ⟨fun j=>([u26,u27,u28,u29,u30,u31,u32,u33,u34]:List Value)[j]?.getD M,rfl,ry_start (by decide)⟩
     ·rintro x xm V ⟨f,rfl,K⟩ hx xP
      have xp:=zT xP hx (acyc _ (by kernel_rfl))
      obtain ⟨V2,xZ,eV⟩:=K.m (xp 9 (by simp))
      dsimp only
      generalize f 0 = v0,f 1 = v1,f 2 = v2,f 3 = v3,f 4 = v4,f 5 = v5,f 6 = v6,f 7 = v7,f 8 = v8
      have HJ3:Hid (JT w [H next,.slice aq l.length cq] V (cntM T e)):=by rw [eV]; exact jt_step (U jO) xZ
      clear eV xZ K xp xP hx vp gc
      go_wp2_with fail
      try dsimp only [H,I,J,M,yj,yk,yu,yv,yw,yp,yq,E]
      go_roundw
      case rel=>exact ⟨j + 1,by omega,by go_num,by rw [U HNE]; exact U HJ3⟩
      case measure=>simp [intOf]; omega
     ·rintro x xm V i op ⟨f,rfl,K⟩ xo hx Z xy D
      have xz:=Y K
      match i,Z with
      | 0,Z =>
       obtain rfl:=ya Z
       have hn:x[9]? = some false:=zw xo 12 0 9 (by kernel_rfl) hx (by simp) xy
       have xV:=K.b hn
       have y0:=zb (U jO).r xV (by omega) 0 _ rfl
       have y1:=zb (U jO).r xV (by omega) 1 _ rfl
       have y2:=zb (U jO).r xV (by omega) 2 _ rfl
       have y3:=zb (U jO).r xV (by omega) 3 _ rfl
       have y4:=zb (U jO).r xV (by omega) 4 _ rfl
       have y5:=zb (U jO).r xV (by omega) 5 _ rfl
       have y6:=zb (U jO).r xV (by omega) 6 _ rfl
       have y7:=zb (U jO).r xV (by omega) 7 _ rfl
       clear D K xo
       rw [if_pos (by rfl)];unfold Oper.wp;go_simp
       exact ⟨upd f 0 (.agg #[H T.gr,H T.ac,H T.rf,H T.tr,H T.vo,H T.no,H T.li,H T.le]),by simp [upd],zV (U xz) 0 _ hn (by decide) rfl⟩
      | 1,Z =>
       obtain rfl:=ya Z
       have hn:x[9]? = some false:=zw xo 12 1 9 (by kernel_rfl) hx (by simp) xy
       clear D K xo
       rw [if_pos (by rfl)];unfold Oper.wp;go_simp
       exact ⟨upd f 1 (.slice (some (J b off)) gl.length A),by simp [upd],zV (U xz) 1 _ hn (by decide) rfl⟩
      | 2,Z =>
       obtain rfl:=ya Z
       have hn:x[9]? = some false:=zw xo 12 2 9 (by kernel_rfl) hx (by simp) xy
       clear D K xo
       rw [if_pos (by rfl)];unfold Oper.wp;go_simp
       exact ⟨upd f 2 (H k),by simp [upd],zV (U xz) 2 _ hn (by decide) rfl⟩
      | 3,Z =>
       obtain rfl:=ya Z
       have hn:x[9]? = some false:=zw xo 12 3 9 (by kernel_rfl) hx (by simp) xy
       have g1:f 1 = .slice (some (J b off)) gl.length A:=(Option.some.inj (K.c hn 1 (ye D 1 rfl))).symm
       have g2:f 2 = H k:=(Option.some.inj (K.c hn 2 (ye D 2 rfl))).symm
       clear D K xo
       rw [if_pos (by rfl)];unfold Oper.wp;go_simp
       exact ⟨upd f 3 (I b (off + k)),by simp [upd,g1,g2],zV (U xz) 3 _ hn (by decide) rfl⟩
      | 4,Z =>
       obtain rfl:=ya Z
       have hn:x[9]? = some false:=zw xo 12 4 9 (by kernel_rfl) hx (by simp) xy
       have g3:f 3 = I b (off + k):=(Option.some.inj (K.c hn 3 (ye D 3 rfl))).symm
       have xV:=K.b hn
       have y0:=(xV.cell (p:=(J b (off + k))) hbg).trans gc
       clear D K xo
       rw [if_pos (by rfl)];unfold Oper.wp;go_simp
       exact ⟨upd f 4 (.slice (some (J b' uJ)) es.length ce),by simp [upd,g3],zV (U xz) 4 _ hn (by decide) rfl⟩
      | 5,Z =>
       obtain rfl:=ya Z
       have hn:x[9]? = some false:=zw xo 12 5 9 (by kernel_rfl) hx (by simp) xy
       clear D K xo
       rw [if_pos (by rfl)];unfold Oper.wp;go_simp
       exact ⟨upd f 5 (H j),by simp [upd],zV (U xz) 5 _ hn (by decide) rfl⟩
      | 6,Z =>
       obtain rfl:=ya Z
       have hn:x[9]? = some false:=zw xo 12 6 9 (by kernel_rfl) hx (by simp) xy
       have g4:f 4 = .slice (some (J b' uJ)) es.length ce:=(Option.some.inj (K.c hn 4 (ye D 4 rfl))).symm
       have g5:f 5 = H j:=(Option.some.inj (K.c hn 5 (ye D 5 rfl))).symm
       clear D K xo
       rw [if_pos (by rfl)];unfold Oper.wp;go_simp
       exact ⟨upd f 6 (I b' (uJ + j * 14)),by simp [upd,g4,g5],zV (U xz) 6 _ hn (by decide) rfl⟩
      | 7,Z =>
       obtain rfl:=ya Z
       have hn:x[9]? = some false:=zw xo 12 7 9 (by kernel_rfl) hx (by simp) xy
       have g6:f 6 = I b' (uJ + j * 14):=(Option.some.inj (K.c hn 6 (ye D 6 rfl))).symm
       have xV:=K.b hn
       obtain ⟨e0,e1,e2,e3,e4,e5,e6,e7,e8,e9,oD,e11,e12,e13⟩:=cz (zb (U vp) xV qr)
       clear D K xo
       rw [if_pos (by rfl)];unfold Oper.wp;go_simp
       exact ⟨upd f 7 (.agg (yu e.kind e.cmd.k e.cmd.s e.cmd.t e.cmd.l e.cmd.q e.cmd.i e.cmd.p e.cmd.g e.id e.other e.qty e.price e.reason).toArray),by simp [upd,g6],zV (U xz) 7 _ hn (by decide) rfl⟩
      | 8,Z =>
       obtain rfl:=ya Z
       have hn:x[9]? = some false:=zw xo 12 8 9 (by kernel_rfl) hx (by simp) xy
       have g0:f 0 = .agg #[H T.gr,H T.ac,H T.rf,H T.tr,H T.vo,H T.no,H T.li,H T.le]:=(Option.some.inj (K.c hn 0 (ye D 0 rfl))).symm
       have g7:f 7 = .agg (yu e.kind e.cmd.k e.cmd.s e.cmd.t e.cmd.l e.cmd.q e.cmd.i e.cmd.p e.cmd.g e.id e.other e.qty e.price e.reason).toArray:=(Option.some.inj (K.c hn 7 (ye D 7 rfl))).symm
       have xV:=K.b hn
       clear D K xo
       rw [if_pos (by rfl)];unfold Oper.wp;go_simp
       refine (l04Count_any T e V).mono ?_
       rintro r w4 ⟨rfl,xC⟩
       exact ⟨upd f 8 (.agg #[H (cntM T e).gr,H (cntM T e).ac,H (cntM T e).rf,H (cntM T e).tr,H (cntM T e).vo,H (cntM T e).no,H (cntM T e).li,H (cntM T e).le]),by simp [upd,g0,g7],zV (ry_grow (fun _ _ _ _ _ h=>h) (U xz) hn xC) 8 _ hn (by decide) rfl⟩
      | 9,Z =>
       obtain rfl:=ya Z
       have hn:x[9]? = some false:=xy
       have g8:f 8 = .agg #[H (cntM T e).gr,H (cntM T e).ac,H (cntM T e).rf,H (cntM T e).tr,H (cntM T e).vo,H (cntM T e).no,H (cntM T e).li,H (cntM T e).le]:=(Option.some.inj (K.c hn 8 (ye D 8 rfl))).symm
       have xV:=K.b hn
       have xG:=zf (U jO).t xV (by omega)
       obtain ⟨y0,z0,q0⟩:=zc xG (j:=0) (by omega)
       obtain ⟨y1,z1,q1⟩:=zc xG (j:=1) (by omega)
       obtain ⟨y2,z2,q2⟩:=zc xG (j:=2) (by omega)
       obtain ⟨y3,z3,q3⟩:=zc xG (j:=3) (by omega)
       obtain ⟨y4,z4,q4⟩:=zc xG (j:=4) (by omega)
       obtain ⟨y5,z5,q5⟩:=zc xG (j:=5) (by omega)
       obtain ⟨y6,z6,q6⟩:=zc xG (j:=6) (by omega)
       obtain ⟨y7,z7,q7⟩:=zc xG (j:=7) (by omega)
       clear xG
       clear D K xo
       rw [if_pos (by rfl)];unfold Oper.wp;go_simp
       exact ⟨f,by simp [g8],ry_writeN (U xz) hn ⟨V,xV,rfl⟩⟩
      | i + 10,Z=>simp at Z
    ·have hjl':¬ (j:Int) < es.length:=by omega
     rw [yZ (by omega)] at jO
     go_wp2_with fail
     try dsimp only [H,I,J,M,yj,yk,yu,yv,yw,yp,yq,E]
     go_roundw
     case rel=>exact ⟨k + 1,by omega,by go_num,by rw [U qf]; exact U jO⟩
     case measure=>simp [intOf]; omega
  ·have uv:¬ (k:Int) < gl.length:=by omega
   rw [yZ (by omega)] at uu
   go_wp2_with fail
   refine U xu _ _ ?_
   clear xu xK uv
   generalize totG { tot0 with gr:=gl.length } gl = T at HTM uu
   have jO:=Y (U uu)
   clear uu
   have k0:wr.cell? (yq w 0) = some (H next):=(U jO).k 0 _ rfl
   have k1:wr.cell? (yq w 1) = some (.slice aq l.length cq):=(U jO).k 1 _ rfl
   have jS:=Y (l04Live_any next (.slice aq l.length cq) l wr (zl (U HR) (U jO).b tg))
   generalize livS l = LV at jS HTM
   refine ei fun hR xu=>?_
   go_wp2_with fail
   refine (U jS).mono ?_
   rintro r w4 ⟨rfl,xC⟩
   clear k0 k1
   have HJ4:=Y (jt_below (U jO) xC)
   clear xC
   obtain ⟨y6,z6,q6⟩:=zc (U HJ4).t (j:=6) (by omega)
   obtain ⟨y7,z7,q7⟩:=zc (U HJ4).t (j:=7) (by omega)
   go_wp2_with fail
   refine U xu _ _ ?_
   clear xu z6 q6 z7 q7
   have kC:=Y (jt_set (U HJ4) l.length LV)
   generalize (w4.setCell (J (w.heap.size + 1 + 1) 6) (H l.length)).setCell (J (w.heap.size + 1 + 1) 7) (H LV) = V at kC ⊢
   obtain ⟨ue,ud,ug,uh,ui,uf,ut,ur⟩:=T
   simp only at HTM kC
   have c0:V.cell? (J (w.heap.size + 1 + 1) 0) = some (H ue):=(U kC).r 0 _ rfl
   obtain ⟨y0,z0,q0⟩:=zc (U kC).o (j:=0) (by omega)
   have c1:V.cell? (J (w.heap.size + 1 + 1) 1) = some (H ud):=(U kC).r 1 _ rfl
   obtain ⟨y1,z1,q1⟩:=zc (U kC).o (j:=1) (by omega)
   have c2:V.cell? (J (w.heap.size + 1 + 1) 2) = some (H ug):=(U kC).r 2 _ rfl
   obtain ⟨y2,z2,q2⟩:=zc (U kC).o (j:=2) (by omega)
   have c3:V.cell? (J (w.heap.size + 1 + 1) 3) = some (H uh):=(U kC).r 3 _ rfl
   obtain ⟨y3,z3,q3⟩:=zc (U kC).o (j:=3) (by omega)
   have c4:V.cell? (J (w.heap.size + 1 + 1) 4) = some (H ui):=(U kC).r 4 _ rfl
   obtain ⟨y4,z4,q4⟩:=zc (U kC).o (j:=4) (by omega)
   have c5:V.cell? (J (w.heap.size + 1 + 1) 5) = some (H uf):=(U kC).r 5 _ rfl
   obtain ⟨y5,z5,q5⟩:=zc (U kC).o (j:=5) (by omega)
   have c6:V.cell? (J (w.heap.size + 1 + 1) 6) = some (H l.length):=(U kC).r 6 _ rfl
   obtain ⟨y6,z6,q6⟩:=zc (U kC).o (j:=6) (by omega)
   have c7:V.cell? (J (w.heap.size + 1 + 1) 7) = some (H LV):=(U kC).r 7 _ rfl
   obtain ⟨y7,z7,q7⟩:=zc (U kC).o (j:=7) (by omega)
   have xQ:=Y (yX V (w.heap.size + 1) 0 [H ue,H ud,H ug,H uh,H ui,H uf,H l.length,H LV] (fun j R=>(U kC).o j R))
   have vQ:=Y (zm (w.heap.size + 1) (by omega) [H ue,H ud,H ug,H uh,H ui,H uf,H l.length,H LV] 0 V (U kC).b)
   go_wp2_with fail
   change bodyPost _ _ _ _ _ (V.setCells (w.heap.size + 1) 0 [H ue,H ud,H ug,H uh,H ui,H uf,H l.length,H LV])
   generalize V.setCells (w.heap.size + 1) 0 [H ue,H ud,H ug,H uh,H ui,H uf,H l.length,H LV] = WE at xQ vQ ⊢
   obtain ⟨d0,d1,d2,d3,d4,d5,d6,d7⟩:=yD (U xQ)
   refine bodyPost_ret (by simp [results,Tryz.results37,go_sem,d0,d1,d2,d3,d4,d5,d6,d7]; try rfl) rfl ?_
   exact ⟨by rw [U HTM],U vQ⟩
theorem run_fold:∀ (cs:List Cm) (s:RunSt),s.t = s.g.foldl wgT tot0→(cs.foldl rstep s).t = (cs.foldl rstep s).g.foldl wgT tot0
 | [],s,h=>h
 | c :: cs,s,h=>by
  rw [List.foldl_cons]
  refine run_fold cs _ ?_
  show wgT s.t (stE s.n s.l c) = (s.g ++ [stE s.n s.l c]).foldl wgT tot0
  rw [List.foldl_append,← h]; rfl
structure Al (t u:Tot):Prop where
 ac:t.ac = u.ac
 rf:t.rf = u.rf
 tr:t.tr = u.tr
 vo:t.vo = u.vo
 no:t.no = u.no
theorem al_cnt {t u:Tot} (e:Ev) (h:Al t u):Al (cntE t e) (cntM u e):=by
 obtain ⟨Q,N,h3,h4,h5⟩:=h
 unfold cntE cntM
 split
 ·exact ⟨by simp only [Q],N,h3,h4,h5⟩
 ·split
  ·exact ⟨Q,by simp only [N],h3,h4,h5⟩
  ·split
   ·exact ⟨Q,N,by simp only [h3],by simp only [h4],by simp only [h5]⟩
   ·split
    ·exact ⟨Q,N,h3,h4,h5⟩
    ·exact ⟨Q,N,h3,h4,h5⟩
theorem al_fold:∀ (es:List Ev) {t u:Tot},Al t u→Al (es.foldl cntE t) (es.foldl cntM u)
 | [],_,_,h=>h
 | e :: es,_,_,h=>al_fold es (al_cnt e h)
theorem cntE_rest (t:Tot) (e:Ev):(cntE t e).gr = t.gr∧(cntE t e).li = t.li∧(cntE t e).le = t.le:=by
 unfold cntE
 split
 ·exact ⟨rfl,rfl,rfl⟩
 ·split
  ·exact ⟨rfl,rfl,rfl⟩
  ·split <;> exact ⟨rfl,rfl,rfl⟩
theorem cntE_fold:∀ (es:List Ev) (t:Tot),(es.foldl cntE t).gr = t.gr∧(es.foldl cntE t).li = t.li∧(es.foldl cntE t).le = t.le
 | [],_=>⟨rfl,rfl,rfl⟩
 | e :: es,t=>by
  have Q:=cntE_fold es (cntE t e)
  have N:=cntE_rest t e
  exact ⟨Q.1.trans N.1,Q.2.1.trans N.2.1,Q.2.2.trans N.2.2⟩
theorem cntM_gr:∀ (es:List Ev) (t:Tot),(es.foldl cntM t).gr = t.gr
 | [],_=>rfl
 | e :: es,t=>by
  refine (cntM_gr es (cntM t e)).trans ?_
  unfold cntM
  split
  ·rfl
  ·split
   ·rfl
   ·split
    ·rfl
    ·split <;> rfl
theorem totG_gr:∀ (gl:List (List Ev)) (t:Tot),(totG t gl).gr = t.gr
 | [],_=>rfl
 | es :: gl,t=>(totG_gr gl (es.foldl cntM t)).trans (cntM_gr es t)
theorem wrap_few {x:Int} (h0:0 ≤ x) (Q:x ≤ 1000000):wrap64 x = x:=by unfold wrap64; omega
theorem wg_al:∀ (gl:List (List Ev)) {t u:Tot},Al t u→0 ≤ t.gr→t.gr + gl.length ≤ 1000000→Al (gl.foldl wgT t) (totG u gl)∧(gl.foldl wgT t).gr = t.gr + gl.length∧(gl.foldl wgT t).li = t.li∧(gl.foldl wgT t).le = t.le
 | [],t,u,h,_,_=>⟨h,by simp,rfl,rfl⟩
 | es :: gl,t,u,h,h0,Q=>by
  rw [List.length_cons] at Q
  have hf:=cntE_fold es { t with gr:=wrap64 (t.gr + 1) }
  have hw:wrap64 (t.gr + 1) = t.gr + 1:=wrap_few (by omega) (by omega)
  have hg:(wgT t es).gr = t.gr + 1:=hf.1.trans hw
  have ha:Al (wgT t es) (es.foldl cntM u):=al_fold es ⟨h.ac,h.rf,h.tr,h.vo,h.no⟩
  have ih:=wg_al gl ha (by omega) (by omega)
  refine ⟨ih.1,?_,ih.2.2.1.trans hf.2.1,ih.2.2.2.trans hf.2.2⟩
  have:=ih.2.1
  rw [List.foldl_cons,this,List.length_cons]; omega
theorem wb_fold:∀ (l:List Od) (t:Tot) (n:Int),0 ≤ t.li→t.li + l.length ≤ 1000000→l.foldl cntO { t with le:=n } = { t with li:=t.li + l.length,le:=l.foldl (fun n o=>wrap64 (n + o.left)) n }
 | [],t,n,_,_=>by simp
 | o :: l,t,n,h0,Q=>by
  rw [List.length_cons] at Q
  have hw:wrap64 (t.li + 1) = t.li + 1:=wrap_few (by omega) (by omega)
  rw [List.foldl_cons,List.foldl_cons]
  have:=wb_fold l { t with li:=t.li + 1 } (wrap64 (n + o.left)) (by show 0 ≤ t.li + 1; omega) (by show t.li + 1 + _ ≤ _; omega)
  simp only at this
  unfold cntO
  simp only [hw]
  refine this.trans ?_
  congr 1
  rw [List.length_cons]; omega
theorem tot_eq (cs:List Cm) (h:cs.length ≤ 200):wbT (runS cs).t (runS cs).l = totM (runS cs).g (runS cs).l:=by
 have hI:=run_inv cs h
 have hl:=hI.1.good.len
 have hf:(runS cs).t = (runS cs).g.foldl wgT tot0:=run_fold cs _ rfl
 generalize runS cs = s at hI hl hf ⊢
 obtain ⟨ha,hg,hli,kl⟩:=wg_al s.g (t:=tot0) (u:={ tot0 with gr:=s.g.length }) ⟨rfl,rfl,rfl,rfl,rfl⟩ (by show (0:Int) ≤ 0; omega) (by show (0:Int) + _ ≤ _; omega)
 have ub:=totG_gr s.g { tot0 with gr:=s.g.length }
 rw [← hf] at ha hg hli kl
 unfold totM wbT
 generalize totG { tot0 with gr:=s.g.length } s.g = za at ha ub ⊢
 have hw:=wb_fold s.l s.t 0 (by rw [hli]; show (0:Int) ≤ 0; omega) (by rw [hli]; show (0:Int) + _ ≤ _; omega)
 have ht:{ s.t with le:=0 } = s.t:=by rw [show (0:Int) = s.t.le from kl.symm]
 rw [ht] at hw
 rw [hw]
 obtain ⟨u1,u2,u3,u4,u5,u6,u7,u8⟩:=za
 generalize s.t = T at *
 obtain ⟨t1,t2,t3,t4,t5,t6,t7,t8⟩:=T
 obtain ⟨a1,a2,a3,a4,a5⟩:=ha
 simp only [tot0] at *
 simp only [Tot.mk.injEq]
 exact ⟨by omega,a1,a2,a3,a4,a5,by omega,rfl⟩

end Go.Proofs.YtdliebbfcmdmaaaGreat
