/-
  A new order accepted by the engine: proved by walking the method.
-/
import Derived.Test.YtbakanofkghmiaaGreatUj27
import Derived.Test.YtbakanofkghmiaaGreatUj28
set_option linter.unusedVariables false
set_option maxHeartbeats 6400000
set_option maxRecDepth 100000
namespace Go.Proofs.YtbakanofkghmiaaGreat
open Go.RowKit
def accL (c:Cm) (next:Int) (qt:List Od × Int × List Ev):List Od:=if 0 < qt.2.1∧aC c.t = true then qt.1 ++ [⟨next,c.s,tk c.p,qt.2.1,c.l,c.g⟩] else qt.1
def accE (c:Cm) (next:Int) (qt:List Od × Int × List Ev):List Ev:=⟨1,⟨1,c.s,c.t,c.l,c.q,0,c.p,c.g⟩,next,0,0,0,0⟩ :: qt.2.2 ++ (if 0 < qt.2.1 then [⟨if aC c.t = true then 4 else 5,zCm,next,0,qt.2.1,0,0⟩] else [])
theorem zE {B C e sz n:Nat} {v:Value} {xs:List Value} {W:World} (h:W.ownsRow B e sz v n xs) (hC:C ≤ B):W.ownsRow C e sz v n xs:=by
 refine ⟨h.1,?_⟩
 rcases h.2 with hn | ⟨g,A,xp,rfl,hg,rest⟩
 ·exact .inl hn
 ·exact .inr ⟨g,A,xp,rfl,yL hC hg,rest⟩
theorem ens_raise {mb B Bo C:Nat} {W:World} {gv:Value} {gs:List Value} {gl:List (List Ev)} {next:Int} {vq:Value} {l:List Od} {t:Tot} (h:EnS mb B Bo W gv gs gl next vq l t (.slice none 0 0) []) (G:Bo ≤ C) (D:C ≤ W.heap.size):EnS mb B C W gv gs gl next vq l t (.slice none 0 0) [] :=
 ⟨h.cells,h.there,h.grow,h.glen,h.geach,⟨fun g hg b O=>yH (h.glt.1 g hg b O) G,h.glt.2⟩,h.orow,World.ownsRow_nil _ _ _ _,h.box,yL h.bo G,D⟩
theorem ens_next {mb B Bo:Nat} {W:World} {gv:Value} {gs:List Value} {gl:List (List Ev)} {next:Int} {vq:Value} {l:List Od} {t:Tot} {vo:Value} {ts:List Ev} (h:EnS mb B Bo W gv gs gl next vq l t vo ts) (m:Int):EnS mb B Bo (W.setCell (J mb 1) (H m)) gv gs gl m vq l t vo ts:=by
 refine ⟨?_,zD h.there,zw h.grow (zl h.grow h.box (by decide)) _ _,h.glen,fun i g es hg vQ=>zw (h.geach i g es hg vQ) (zl (h.geach i g es hg vQ) h.box (by decide)) _ _,h.glt,zw h.orow (zl h.orow h.box (by decide)) _ _,zw h.erow (zl h.erow h.box (by decide)) _ _,?_,h.bo,by simp only [World.setCell,Array.size_modify]; exact h.le⟩
 ·have:=bZ (j:=1) (u:=H m) h.cells (by simp)
  exact this
 ·obtain ⟨xp,hc⟩:=h.box
  exact zS W mb 1 _ hc
theorem dr {c:Cm} {id:Int}:∀ (n:Nat) (l:List Od) (left:Int) (ts:List Ev),(matL c id n l left ts).2.2.length ≤ ts.length + n
 | 0,_,_,_=>Nat.le_refl _
 | n + 1,l,left,ts=>by
  rw [matL]
  split
  ·split
   ·simp
   ·split
    ·refine yL (dr n _ _ _) ?_
     rw [yN]; simp; omega
    ·simp
  ·simp
theorem matS_kept {mb b S:Nat} {W W':World} {next:Int} {vq vt:Value} {l:List Od} {t:Od} {ts:List Ev} (h:MatS b S W next vq l t vt ts) (hk:KeptBut mb W.heap.size W W') (hm:mb < S) (O:S ≤ b):MatS b S W' next vq l t vt ts:=by
 have oz:=hk.block b h.lt (by omega)
 refine ⟨fun j u K=>(yO (a:=(J b (0 + j))) oz).trans (h.cells j u K),fun j K=>⟨?_,?_⟩,bX h.orow hk hm,bX h.erow hk hm,?_,yL h.le hk.size⟩
 ·rw [yO (a:=(J b (0 + j))) oz]; exact (h.there j K).1
 ·rw [World.frozen?_of_block (a:=(J b (0 + j))) oz]; exact (h.there j K).2
 ·obtain ⟨xp,hc⟩:=h.box
  exact ⟨xp,oz.trans hc⟩
theorem kept_less {mb B C:Nat} {w w':World} (h:KeptBut mb C w w') (hB:B ≤ C):KeptBut mb B w w':=⟨h.os,h.tape,h.output,h.size,fun k hk hm=>h.block k (by omega) hm⟩
theorem ens_far {mb B Bo b S:Nat} {W W':World} {gv:Value} {gs:List Value} {gl:List (List Ev)} {next n2:Int} {vq:Value} {l:List Od} {t:Tot} {vo:Value} {ts:List Ev} {vm vt:Value} {lm:List Od} {tm:Od} {tt:List Ev} (h:EnS mb B Bo W gv gs gl next vq l t vo ts) (hM:MatS b S W n2 vm lm tm vt tt) (ht:TookAt b 0 vm.ownBlock W W') (hq:∀ g,vq.ownBlock = some g→g < S) (hm:mb < S) (O:S ≤ b):EnS mb B Bo W' gv gs gl next vq l t vo ts:=by
 have oz:W'.heap[mb]? = W.heap[mb]?:=ht.block mb h.lt (by omega) (zl hM.orow h.box (by decide))
 refine ⟨fun j u K=>(yO (a:=(J mb (0 + j))) oz).trans (h.cells j u K),fun j K=>⟨?_,?_⟩,aW h.grow ht (zl h.grow hM.box (by decide)) (zC h.grow hM.orow (by decide)),h.glen,fun i g es hg vQ=>aW (h.geach i g es hg vQ) ht (zl (h.geach i g es hg vQ) hM.box (by decide)) (zC (h.geach i g es hg vQ) hM.orow (by decide)),h.glt,aW h.orow ht (zl h.orow hM.box (by decide)) ?_,aW h.erow ht (zl h.erow hM.box (by decide)) (zC h.erow hM.orow (by decide)),?_,h.bo,yL h.le ht.size⟩
 ·rw [yO (a:=(J mb (0 + j))) oz]; exact (h.there j K).1
 ·rw [World.frozen?_of_block (a:=(J mb (0 + j))) oz]; exact (h.there j K).2
 ·cases e:vq.ownBlock with
  | none=>exact .inl rfl
  | some g=>exact .inr fun e'=>by have:=hq g e; have:=(hM.orow.lt g e'.symm).1; omega
 ·obtain ⟨xp,hc⟩:=h.box
  exact ⟨xp,oz.trans hc⟩
theorem zL {B e sz n:Nat} {v:Value} {xs:List Value} {W:World} (h:W.ownsRow B e sz v n xs):∃ a c,v = .slice a n c:=by
 rcases h.2 with ⟨e,e2⟩ | ⟨g,A,xp,e,_⟩
 ·exact ⟨none,0,by rw [e,e2]⟩
 ·exact ⟨_,_,e⟩
theorem matS_told {mb b S Bo:Nat} {W W':World} {next:Int} {vq vt vo:Value} {l:List Od} {t:Od} {ts es:List Ev} (h:MatS b S W next vq l t vt ts) (ht:TookAt mb 10 vo.ownBlock W W') (Z:ERow W Bo vo es) (hm:mb < S) (O:S ≤ b) (hvt:∀ g,vt.ownBlock = some g→vo.ownBlock ≠ some g):MatS b S W' next vq l t vt ts:=by
 have oz:W'.heap[b]? = W.heap[b]?:=ht.block b h.lt (by omega) (zl Z h.box (by decide))
 refine ⟨fun j u K=>(yO (a:=(J b (0 + j))) oz).trans (h.cells j u K),fun j K=>⟨?_,?_⟩,aW h.orow ht (fun e=>by have:=(h.orow.lt mb e.symm).1; omega) (zC h.orow Z (by decide)),aW h.erow ht (fun e=>by have:=(h.erow.lt mb e.symm).1; omega) ?_,?_,yL h.le ht.size⟩
 ·rw [yO (a:=(J b (0 + j))) oz]; exact (h.there j K).1
 ·rw [World.frozen?_of_block (a:=(J b (0 + j))) oz]; exact (h.there j K).2
 ·cases e:vt.ownBlock with
  | none=>exact .inl rfl
  | some g=>exact .inr fun e'=>hvt g e e'.symm
 ·obtain ⟨xp,hc⟩:=h.box
  exact ⟨xp,oz.trans hc⟩
theorem ens_book {mb B Bo:Nat} {W:World} {gv:Value} {gs:List Value} {gl:List (List Ev)} {next:Int} {vq vw:Value} {l l':List Od} {t:Tot} {vo:Value} {ts:List Ev} (h:EnS mb B Bo W gv gs gl next vq l t vo ts) (m:Int) (Z:ORow W B vw l'):EnS mb B Bo ((W.setCell (J mb 1) (H m)).setCell (J mb 2) vw) gv gs gl m vw l' t vo ts:=by
 have G:=ens_next h m
 have hn:some mb ≠ vw.ownBlock:=zl Z h.box (by decide)
 have vZ:=zw Z hn 1 (H m)
 have ho2:=zw vZ hn 2 vw
 exact ens_took G (yK _ _ _ (G.cells 2 _ rfl)) ho2 (cZ (o:=1) _ _)
def CAx1 (mb S n A:Nat) (a:Option Addr) (next s ty li F tk0 Fl:Int) (pr:Nat) (L:ByteArray) (FL:List Od) (Ft:List Ev) (W:World):Nat→Value→Prop
 | 0,v=>v = I mb 0
 | 1,v=>v = I mb 0
 | 2,v=>v = I mb 0
 | 3,v=>v = I mb 1
 | 4,v=>v = .agg #[H next,.slice a n A]
 | 5,v=>v = .agg #[H s,H ty,H li,H F,yi pr,yj L]
 | 6,v=>∃ aq cq av cv,v = .agg #[H (next + 1),.slice aq FL.length cq,H next,H s,H tk0,H Fl,H li,yj L,.slice av Ft.length cv]∧ORow W S (.slice aq FL.length cq) FL∧ERow W S (.slice av Ft.length cv) Ft
 | 7,v=>∃ b,v = I b 0∧S ≤ b∧b < W.heap.size∧W.there b 0 9∧∃ xp,W.heap[b]? = some (.cells xp 157 (0,0))
 | _,_=>True
theorem ca1_mono {mb S n A:Nat} {a:Option Addr} {next s ty li F tk0 Fl:Int} {pr:Nat} {L:ByteArray} {FL:List Od} {Ft:List Ev}:∀ W W' j v,ym W W'→CAx1 mb S n A a next s ty li F tk0 Fl pr L FL Ft W j v→CAx1 mb S n A a next s ty li F tk0 Fl pr L FL Ft W' j v:=by
 intro W W' j v O h
 match j with
 | 0 | 1 | 2 | 3 | 4 | 5=>exact h
 | 6=>obtain ⟨aq,cq,av,cv,G,D,h3⟩:=h; exact ⟨aq,cq,av,cv,G,zj D O,zI h3 O⟩
 | 7=>obtain ⟨b,G,D,h3,h4,xp,h5⟩:=h; exact ⟨b,G,D,yH h3 O.size,ze h4 O h3,xp,(O.block b h3).trans h5⟩
 | j + 8=>trivial
def CQ1 (xm:World) (next s tk0 Fl li:Int) (L:ByteArray) (FL:List Od) (Ft:List Ev) (f:Nat→Value) (W:World):Prop:=∃ b vq vt,f 7 = I b 0∧xm.heap.size ≤ b∧MatS b xm.heap.size W (next + 1) vq FL ⟨next,s,tk0,Fl,li,L⟩ vt Ft∧ym xm W
def CA2 (mb b:Nat) (next s ty li F:Int) (pr:Nat) (L:ByteArray) (W:World):Nat→Value→Prop
 | 0,v=>v = I mb 0
 | 1,v=>v = .agg #[H s,H ty,H li,H F,yi pr,yj L]
 | 2,v=>v = .agg (yv 1 s ty li F 0 pr L).toArray
 | 3,v=>v = I b 2
 | 4,v=>v = I b 2
 | 5,v=>v = H next
 | 6,v=>v = .agg (yt 1 1 s ty li F 0 pr L next 0 0 0 0).toArray
 | _,_=>True
theorem ca2_mono {mb b:Nat} {next s ty li F:Int} {pr:Nat} {L:ByteArray}:∀ W W' j v,ym W W'→CA2 mb b next s ty li F pr L W j v→CA2 mb b next s ty li F pr L W' j v:=by
 intro W W' j v O h
 match j with
 | 0 | 1 | 2 | 3 | 4 | 5 | 6=>exact h
 | j + 7=>trivial
theorem acceptE_any {mb B Bo:Nat} {gv:Value} {gs:List Value} {gl:List (List Ev)} {next:Int} {vq:Value} {l:List Od} {t:Tot} (c:Cm) (w:World) (h:EnS mb B Bo w gv gs gl next vq l t (.slice none 0 0) []) (hg:GoodL l) (h0:0 ≤ next) (G:next ≤ 1000000) (jq:0 ≤ c.q) (qU:c.q ≤ 1000000) :
  Calls Tryz.prog 67 #[I mb 0,noV c] w fun r w'=>r = yl (.tuple #[])∧(∃ Bo' vw qr,EnS mb B Bo' w' gv gs gl (next + 1) vw (accL c next (matL c next 21 l c.q [])) t qr (accE c next (matL c next 21 l c.q [])))∧KeptBut mb B w w':=by
 have qB:=h.lt
 have px:B ≤ w.heap.size:=yL h.bo h.le
 have vR:=hg.len
 obtain ⟨a,A,rfl,vF,hc⟩:=zR h.orow (by omega)
 have HRD0:=Y (zR h.orow (by omega))
 have HOR:=Y h.orow
 have kH:=Y (bR (c:=c) (id:=next) 21 l c.q [] hg jq qU)
 have HMF:=Y (dr (c:=c) (id:=next) 21 l c.q [])
 obtain ⟨kk,s,ty,li,F,ii,pr,L⟩:=c
 have vC:Hid (SlOk (.slice a l.length A)):=oRow_sl h.orow
 have HCA:Hid (∀ W:World,RdR Od.vs 6 W (.slice a l.length A) l→Calls Tryz.prog 112 #[.agg #[H next,.slice a l.length A],.agg #[H s,H ty,H li,H F,yi pr,yj L]] W _):=fun W hW=>match_any next _ l ⟨kk,s,ty,li,F,ii,pr,L⟩ W hW (U vC) hg h0 G jq qU
 have HTO:Hid (∀ W:World,Calls Tryz.prog 113 #[.agg #[H s,H ty,H li,H F,yi pr,yj L]] W _):=fun W=>toldNew_any ⟨kk,s,ty,li,F,ii,pr,L⟩ W
 have HRS:Hid (∀ W:World,Calls Tryz.prog 114 #[.agg #[H s,H ty,H li,H F,yi pr,yj L]] W _):=fun W=>dN ⟨kk,s,ty,li,F,ii,pr,L⟩ W
 generalize hmat:matL ⟨kk,s,ty,li,F,ii,pr,L⟩ next 21 l F [] = qt at kH HCA HMF ⊢
 obtain ⟨FL,Fl,Ft⟩:=qt
 unfold noV
 simp only at HCA kH HTO HRS HMF ⊢
 have xU:=eB w (N #[H s,H ty,H li,H F,yi pr,yj L] 112)
 have HE:=Y (zT h xU)
 have xW:=Y xU
 have xz:w.heap.size < (w.alloc (N #[H s,H ty,H li,H F,yi pr,yj L] 112)).heap.size:=by rw [zf]; omega
 have ja:Hid (World.rangeAt (w.alloc (N #[H s,H ty,H li,H F,yi pr,yj L] 112)) w.heap.size 0 [H s,H ty,H li,H F,yi pr,yj L]):=zg w [H s,H ty,H li,H F,yi pr,yj L] _
 have qM:=Y (zh (U HRD0) xU hb)
 have uG:Hid (0 ≤ next∧next ≤ 1000000):=⟨h0,G⟩
 clear h xU hc vF hg h0 G jq qU hmat HRD0
 go_enter Tryz.func67,Tryz.ntmps67
 refine eF fun hj xq=>?_
 go_wp2_with fail
 refine U xq _ _ ?_
 clear xq
 generalize (w.alloc (N #[H s,H ty,H li,H F,yi pr,yj L] 112)) = xm at HE xW xz ja qM ⊢
 have vS:Hid (xm.cell? (J mb 1) = some (H next)):=(U HE).cells 1 _ rfl
 have vx:Hid (xm.cell? (J mb 2) = some (.slice a l.length A)):=(U HE).cells 2 _ rfl
 refine eF fun hj xq=>?_
 refine zi (RYA (fun f=>{ tmps:=#[I mb 0,.agg #[H s,H ty,H li,H F,yi pr,yj L],M,yn w 0,f 7,M,M,M,M,f 0,f 1,f 2,f 3,f 4,f 5,f 6,M,M,M,M,M,M,M,M,M,M,M,M,M,M,M,M,M,M,M,M,M,M,M,M,M,M,M,M,M,M,M,M,M,M,M,M,M,M,M,M,M],defers:=[] }) (CAx1 mb xm.heap.size l.length A a next s ty li F (tk pr) Fl pr L FL Ft) 8 (CQ1 xm next s (tk pr) Fl li L FL Ft) xm) (by kernel_rfl) ?_ ?_ ?_
 ·exact ⟨fun _=>M,rfl,ry_start (by decide)⟩
 rotate_left
 ·rintro x xj V i op ⟨f,rfl,E⟩ X hx Z xu Q
  have xw:=Y E
  have xk:x[8]? = some false→∀ (p:Addr) u,xm.cell? p = some u→V.cell? p = some u:=fun hn p u hu=>((E.b hn).cell (yI xm _ hu)).trans hu
  match i,Z with
  | 0,Z =>
   obtain rfl:=ya Z
   have hn:x[8]? = some false:=zy X 12 0 8 (by kernel_rfl) hx (by simp) xu
   clear Q E X
   rw [if_pos (by rfl)];unfold Oper.wp;go_simp
   exact ⟨upd f 0 (I mb 0),by simp [upd],zZ (U xw) 0 _ hn (by decide) rfl⟩
  | 1,Z =>
   obtain rfl:=ya Z
   have hn:x[8]? = some false:=zy X 12 1 8 (by kernel_rfl) hx (by simp) xu
   have g0:f 0 = I mb 0:=E.c hn 0 (yd Q 0 rfl)
   clear Q E X
   rw [if_pos (by rfl)];unfold Oper.wp;go_simp
   exact ⟨upd f 1 (I mb 0),by simp [upd,g0],zZ (U xw) 1 _ hn (by decide) rfl⟩
  | 2,Z =>
   obtain rfl:=ya Z
   have hn:x[8]? = some false:=zy X 12 2 8 (by kernel_rfl) hx (by simp) xu
   have g1:f 1 = I mb 0:=E.c hn 1 (yd Q 1 rfl)
   clear Q E X
   rw [if_pos (by rfl)];unfold Oper.wp;go_simp
   exact ⟨upd f 2 (I mb 0),by simp [upd,g1],zZ (U xw) 2 _ hn (by decide) rfl⟩
  | 3,Z =>
   obtain rfl:=ya Z
   have hn:x[8]? = some false:=zy X 12 3 8 (by kernel_rfl) hx (by simp) xu
   have g2:f 2 = I mb 0:=E.c hn 2 (yd Q 2 rfl)
   clear Q E X
   rw [if_pos (by rfl)];unfold Oper.wp;go_simp
   exact ⟨upd f 3 (I mb 1),by simp [upd,g2],zZ (U xw) 3 _ hn (by decide) rfl⟩
  | 4,Z =>
   obtain rfl:=ya Z
   have hn:x[8]? = some false:=zy X 12 4 8 (by kernel_rfl) hx (by simp) xu
   have g3:f 3 = I mb 1:=E.c hn 3 (yd Q 3 rfl)
   have z1:=xk hn (J mb 1) _ (U vS)
   have z2:=xk hn (J mb 2) _ (U vx)
   clear Q E X
   rw [if_pos (by rfl)];unfold Oper.wp;go_simp
   exact ⟨upd f 4 (.agg #[H next,.slice a l.length A]),by simp [upd,g3],zZ (U xw) 4 _ hn (by decide) rfl⟩
  | 5,Z =>
   obtain rfl:=ya Z
   have hn:x[8]? = some false:=zy X 12 5 8 (by kernel_rfl) hx (by simp) xu
   have y0:=xk hn (yp w 0) _ (U ja 0 _ rfl)
   have y1:=xk hn (yp w 1) _ (U ja 1 _ rfl)
   have y2:=xk hn (yp w 2) _ (U ja 2 _ rfl)
   have y3:=xk hn (yp w 3) _ (U ja 3 _ rfl)
   have y4:=xk hn (yp w 4) _ (U ja 4 _ rfl)
   have y5:=xk hn (yp w 5) _ (U ja 5 _ rfl)
   clear Q E X
   rw [if_pos (by rfl)];unfold Oper.wp;go_simp
   exact ⟨upd f 5 (.agg #[H s,H ty,H li,H F,yi pr,yj L]),by simp [upd],zZ (U xw) 5 _ hn (by decide) rfl⟩
  | 6,Z =>
   obtain rfl:=ya Z
   have hn:x[8]? = some false:=zy X 12 6 8 (by kernel_rfl) hx (by simp) xu
   have g4:f 4 = .agg #[H next,.slice a l.length A]:=E.c hn 4 (yd Q 4 rfl)
   have g5:f 5 = .agg #[H s,H ty,H li,H F,yi pr,yj L]:=E.c hn 5 (yd Q 5 rfl)
   have af:=Y (zh (U qM) (E.b hn) hb)
   have qW:=(E.b hn).size
   clear Q E X
   rw [if_pos (by rfl)];unfold Oper.wp;go_simp
   refine (U HCA V (U af)).mono ?_
   rintro e w4 ⟨vq4,vt4,rfl,hoq,het,xy⟩
   obtain ⟨av,cv,rfl⟩:∃ a c,vt4 = .slice a Ft.length c:=by
    rcases het.2 with ⟨e,e2⟩ | ⟨g,A,xp,e,_⟩
    ·exact ⟨none,0,by rw [e,e2]⟩
    ·exact ⟨_,_,e⟩
   obtain ⟨aq,cq,rfl⟩:∃ a c,vq4 = .slice a FL.length c:=by
    rcases hoq.2 with ⟨e,e2⟩ | ⟨g,A,xp,e,_⟩
    ·exact ⟨none,0,by rw [e,e2]⟩
    ·exact ⟨_,_,e⟩
   exact ⟨upd f 6 (.agg #[H (next + 1),.slice aq FL.length cq,H next,H s,H (tk pr),H Fl,H li,yj L,.slice av Ft.length cv]),by simp [upd,g4,g5],zZ (ry_grow ca1_mono (U xw) hn xy) 6 _ hn (by decide) ⟨aq,cq,av,cv,rfl,zE hoq qW,zE het qW⟩⟩
  | 7,Z =>
   obtain rfl:=ya Z
   have hn:x[8]? = some false:=zy X 12 7 8 (by kernel_rfl) hx (by simp) xu
   have qW:=(E.b hn).size
   clear Q E X
   rw [if_pos (by rfl)];unfold Oper.wp;go_simp
   exact ⟨upd f 7 (yn V 0),by simp [upd],zZ (ry_grow ca1_mono (U xw) hn (eB _ _)) 7 _ hn (by decide) ⟨V.heap.size,rfl,qW,by rw [zf]; omega,zt V [H 0,.slice none 0 0,H 0,H 0,H 0,H 0,H 0,yj ⟨#[]⟩,.slice none 0 0] _,_,heap_alloc_new V _⟩⟩
  | 8,Z =>
   obtain rfl:=ya Z
   have hn:x[8]? = some false:=xu
   obtain ⟨aq,cq,av,cv,g6,hoq,het⟩:=E.c hn 6 (yd Q 6 rfl)
   obtain ⟨b,g7,ar,xV,xE,hbox⟩:=E.c hn 7 (yd Q 7 rfl)
   have HQ:Hid (CQ1 xm next s (tk pr) Fl li L FL Ft f (V.setCells b 0 [H (next + 1),.slice aq FL.length cq,H next,H s,H (tk pr),H Fl,H li,yj L,.slice av Ft.length cv])):=⟨b,_,_,g7,ar,matS_put (t:=⟨next,s,tk pr,Fl,li,L⟩) xE hbox hoq het (E.b hn).size,zm b ar _ _ _ (E.b hn)⟩
   obtain ⟨y0,z0,q0⟩:=zc xE (j:=0) (by omega)
   obtain ⟨y1,z1,q1⟩:=zc xE (j:=1) (by omega)
   obtain ⟨y2,z2,q2⟩:=zc xE (j:=2) (by omega)
   obtain ⟨y3,z3,q3⟩:=zc xE (j:=3) (by omega)
   obtain ⟨y4,z4,q4⟩:=zc xE (j:=4) (by omega)
   obtain ⟨y5,z5,q5⟩:=zc xE (j:=5) (by omega)
   obtain ⟨y6,z6,q6⟩:=zc xE (j:=6) (by omega)
   obtain ⟨y7,z7,q7⟩:=zc xE (j:=7) (by omega)
   obtain ⟨y8,z8,q8⟩:=zc xE (j:=8) (by omega)
   clear Q E X xE hoq het hbox
   rw [if_pos (by rfl)];unfold Oper.wp;go_simp
   exact ⟨f,by simp [g6,g7],ry_writeN (U xw) hn (U HQ)⟩
  | n + 9,Z=>simp at Z
 ·rintro x xj V ⟨f,rfl,E⟩ hx xL
  have xn:=zO xL hx (by kernel_rfl)
  obtain ⟨b,vqm,vtm,e7,ar,hMS,hBX⟩:=E.m (xn 8 (by simp))
  refine U xq _ _ ?_
  clear xq
  simp only [e7]
  generalize f 0 = v0,f 1 = v1,f 2 = v2,f 3 = v3,f 4 = v4,f 5 = v5,f 6 = v6
  have ob:=Y hMS
  have uy:=Y hBX
  clear E xn xL hx hMS hBX e7 qM vS vx HCA
  have hSV:xm.heap.size ≤ V.heap.size:=(U uy).size
  have qe:=Y (ens_raise (zT (U HE) ((U uy))) (yL (U HE).le hSV) hb)
  have HN6:=Y (zb (U ja) (U uy) xz)
  have HMC:=Y (U ob).cells
  have xV:=(U ob).lt
  have pV:Hid (KeptBut mb B w V):=zk (zB (U xW) px) (zB (U uy) (by omega))
  clear HE ja
  generalize V = W6 at ob qe HN6 HMC xV pV hSV uy ⊢
  refine eF fun hj xq=>?_
  refine zi (RYA (fun f=>{ tmps:=#[I mb 0,.agg #[H s,H ty,H li,H F,yi pr,yj L],M,yn w 0,I b 0,M,M,M,M,v0,v1,v2,v3,v4,v5,v6,f 0,f 1,f 2,f 3,f 4,f 5,f 6,f 7,M,M,M,M,M,M,M,M,M,M,M,M,M,M,M,M,M,M,M,M,M,M,M,M,M,M,M,M,M,M,M,M,M],defers:=[] }) (CA2 mb b next s ty li F pr L) 7 (fun f W=>(∃ qr,EnS mb B W6.heap.size W gv gs gl next (.slice a l.length A) l t qr [⟨1,⟨1,s,ty,li,F,0,pr,L⟩,next,0,0,0,0⟩])∧KeptBut mb W6.heap.size W6 W) W6) (by kernel_rfl) ?_ ?_ ?_
  ·exact ⟨fun _=>M,rfl,ry_start (by decide)⟩
  rotate_left
  ·rintro x xj V2 i op ⟨f,rfl,E⟩ X hx Z xu Q
   have xw:=Y E
   have xk:x[7]? = some false→∀ (p:Addr) u,W6.cell? p = some u→V2.cell? p = some u:=fun hn p u hu=>((E.b hn).cell (yI W6 _ hu)).trans hu
   match i,Z with
   | 0,Z =>
    obtain rfl:=ya Z
    have hn:x[7]? = some false:=zy X 12 0 7 (by kernel_rfl) hx (by simp) xu
    clear Q E X
    rw [if_pos (by rfl)];unfold Oper.wp;go_simp
    exact ⟨upd f 0 (I mb 0),by simp [upd],zZ (U xw) 0 _ hn (by decide) rfl⟩
   | 1,Z =>
    obtain rfl:=ya Z
    have hn:x[7]? = some false:=zy X 12 1 7 (by kernel_rfl) hx (by simp) xu
    have y0:=xk hn (yp w 0) _ (U HN6 0 _ rfl)
    have y1:=xk hn (yp w 1) _ (U HN6 1 _ rfl)
    have y2:=xk hn (yp w 2) _ (U HN6 2 _ rfl)
    have y3:=xk hn (yp w 3) _ (U HN6 3 _ rfl)
    have y4:=xk hn (yp w 4) _ (U HN6 4 _ rfl)
    have y5:=xk hn (yp w 5) _ (U HN6 5 _ rfl)
    clear Q E X
    rw [if_pos (by rfl)];unfold Oper.wp;go_simp
    exact ⟨upd f 1 (.agg #[H s,H ty,H li,H F,yi pr,yj L]),by simp [upd],zZ (U xw) 1 _ hn (by decide) rfl⟩
   | 2,Z =>
    obtain rfl:=ya Z
    have hn:x[7]? = some false:=zy X 12 2 7 (by kernel_rfl) hx (by simp) xu
    have g1:f 1 = .agg #[H s,H ty,H li,H F,yi pr,yj L]:=E.c hn 1 (yd Q 1 rfl)
    clear Q E X
    rw [if_pos (by rfl)];unfold Oper.wp;go_simp
    refine (U HTO V2).mono ?_
    rintro e w4 ⟨rfl,xy⟩
    exact ⟨upd f 2 (.agg (yv 1 s ty li F 0 pr L).toArray),by simp [upd,g1],zZ (ry_grow ca2_mono (U xw) hn xy) 2 _ hn (by decide) rfl⟩
   | 3,Z =>
    obtain rfl:=ya Z
    have hn:x[7]? = some false:=zy X 12 3 7 (by kernel_rfl) hx (by simp) xu
    clear Q E X
    rw [if_pos (by rfl)];unfold Oper.wp;go_simp
    exact ⟨upd f 3 (I b 2),by simp [upd],zZ (U xw) 3 _ hn (by decide) rfl⟩
   | 4,Z =>
    obtain rfl:=ya Z
    have hn:x[7]? = some false:=zy X 12 4 7 (by kernel_rfl) hx (by simp) xu
    have g3:f 3 = I b 2:=E.c hn 3 (yd Q 3 rfl)
    clear Q E X
    rw [if_pos (by rfl)];unfold Oper.wp;go_simp
    exact ⟨upd f 4 (I b 2),by simp [upd,g3],zZ (U xw) 4 _ hn (by decide) rfl⟩
   | 5,Z =>
    obtain rfl:=ya Z
    have hn:x[7]? = some false:=zy X 12 5 7 (by kernel_rfl) hx (by simp) xu
    have g4:f 4 = I b 2:=E.c hn 4 (yd Q 4 rfl)
    have z2:=xk hn (J b 2) _ (U HMC 2 _ rfl)
    clear Q E X
    rw [if_pos (by rfl)];unfold Oper.wp;go_simp
    exact ⟨upd f 5 (H next),by simp [upd,g4],zZ (U xw) 5 _ hn (by decide) rfl⟩
   | 6,Z =>
    obtain rfl:=ya Z
    have hn:x[7]? = some false:=zy X 12 6 7 (by kernel_rfl) hx (by simp) xu
    have g2:f 2 = .agg (yv 1 s ty li F 0 pr L).toArray:=E.c hn 2 (yd Q 2 rfl)
    have g5:f 5 = H next:=E.c hn 5 (yd Q 5 rfl)
    clear Q E X
    rw [if_pos (by rfl)];unfold Oper.wp;go_simp
    exact ⟨upd f 6 (.agg (yt 1 1 s ty li F 0 pr L next 0 0 0 0).toArray),by simp [upd,g2,g5],zZ (U xw) 6 _ hn (by decide) rfl⟩
   | 7,Z =>
    obtain rfl:=ya Z
    have hn:x[7]? = some false:=xu
    have g0:f 0 = I mb 0:=E.c hn 0 (yd Q 0 rfl)
    have g6:f 6 = .agg (yt 1 1 s ty li F 0 pr L next 0 0 0 0).toArray:=E.c hn 6 (yd Q 6 rfl)
    have vK:=Y (zT (U qe) (E.b hn))
    have xV:=E.b hn
    have HKV:Hid (KeptBut mb W6.heap.size W6 V2):=zB xV hb
    have qW:=xV.size
    clear Q E X xV
    rw [if_pos (by rfl)];unfold Oper.wp;go_simp
    refine (cj ⟨1,⟨1,s,ty,li,F,0,pr,L⟩,next,0,0,0,0⟩ V2 (U vK) (by simp)).mono ?_
    rintro e w5 ⟨rfl,⟨vo5,qg⟩,-,ht5⟩
    exact ⟨upd f 7 (.tuple #[]),by simp [upd,g0,g6],ry_write (U xw) hn _ ⟨⟨vo5,qg⟩,zk (U HKV) (cD ht5 qW (fun g hg=>by simp [Value.ownBlock] at hg))⟩⟩
   | n + 8,Z=>simp at Z
  ·rintro x xj V2 ⟨f,rfl,E⟩ hx xL
   have xn:=zO xL hx (by kernel_rfl)
   obtain ⟨hE7,hK7⟩:=E.m (xn 7 (by simp))
   refine U xq _ _ ?_
   clear xq
   dsimp only
   generalize f 0 = u0,f 1 = u1,f 2 = u2,f 3 = u3,f 4 = u4,f 5 = u5,f 6 = u6,f 7 = u7
   have uI:Hid ((∃ qr,EnS mb B W6.heap.size V2 gv gs gl next (.slice a l.length A) l t qr (⟨1,⟨1,s,ty,li,F,0,pr,L⟩,next,0,0,0,0⟩ :: Ft.take 0))∧KeptBut mb W6.heap.size W6 V2):=⟨by simpa using hE7,hK7⟩
   clear E xn xL hx hE7 hK7 qe
   obtain ⟨av,cv,hvt⟩:=zL (U ob).erow
   subst hvt
   have hmS:mb < xm.heap.size:=yH qB (U xW).size
   have hBS:B ≤ xm.heap.size:=by omega
   have HMK:Hid (∀ wr:World,KeptBut mb W6.heap.size W6 wr→MatS b xm.heap.size wr (next + 1) vqm FL ⟨next,s,tk pr,Fl,li,L⟩ (.slice av Ft.length cv) Ft):=fun wr hk=>matS_kept (U ob) hk hmS ar
   have HNK:Hid (∀ wr:World,KeptBut mb W6.heap.size W6 wr→wr.rangeAt w.heap.size 0 [H s,H ty,H li,H F,yi pr,yj L]):=fun wr hk=>kb_range hk (U HN6) (by omega)
   have hF20:Ft.length ≤ 21:=by simpa using U HMF
   have hq6:Hid (∀ g,(Value.slice a l.length A).ownBlock = some g→g < xm.heap.size):=fun g hg=>yH ((U HOR).lt g hg).2 (U xW).size
   have HVT:Hid (∀ g,(Value.slice av Ft.length cv).ownBlock = some g→g < W6.heap.size):=fun g hg=>((U ob).erow.lt g hg).2
   clear ob HN6 HMC HMF HOR uy
   have z8:V2.cell? (J b 8) = some (.slice av Ft.length cv):=(U HMK V2 (U uI).2).cells 8 _ rfl
   refine eF fun hj xq=>?_
   go_wp2_with fail
   clear z8
   go_loopw [27] (fun iv wr=>∃ (k:Nat),k ≤ Ft.length∧iv = H k∧Hid ((∃ qr,EnS mb B W6.heap.size wr gv gs gl next (.slice a l.length A) l t qr (⟨1,⟨1,s,ty,li,F,0,pr,L⟩,next,0,0,0,0⟩ :: Ft.take k))∧KeptBut mb W6.heap.size W6 wr)) (fun iv _=>Ft.length - (intOf iv).toNat)
   case atStart=>exact ⟨0,Nat.zero_le _,rfl,U uI⟩
   case round =>
    obtain ⟨k,hk,rfl,ur⟩:=hrel
    by_cases xI:k < Ft.length
    ·obtain ⟨e,je⟩:∃ e,Ft[k]? = some e:=⟨_,yF xI⟩
     obtain ⟨a',c',e1,_,X⟩:=cw (bB Ev.len (by omega) (U HMK wr (U ur).2).erow)
     obtain ⟨b',off,e2,ko,X⟩:=X (by rintro rfl; simp at je)
     simp only [Value.slice.injEq] at e1
     obtain ⟨e1,-,-⟩:=e1
     rw [e2] at e1
     subst e1
     obtain ⟨g0,g1,g2,g3,g4,g5,g6,g7,g8,g9,qy,vI,ub,kO⟩:=dq (X k e je)
     have uu:(k:Int) < Ft.length:=by omega
     have hk0:(0:Int) ≤ k:=by omega
     obtain ⟨⟨vo6,kf⟩,kE⟩:=U ur
     have vn:=eB wr (N (yt e.kind e.cmd.k e.cmd.s e.cmd.t e.cmd.l e.cmd.q e.cmd.i e.cmd.p e.cmd.g e.id e.other e.qty e.price e.reason).toArray 46)
     have hszW:W6.heap.size ≤ wr.heap.size:=kE.size
     have HEY:=Y (zT kf vn)
     have HKY:=Y (zk kE (zB vn hszW))
     have qE:Hid (Ft.take (k + 1) = Ft.take k ++ [e]):=by show _ = _; rw [List.take_add_one,je]; rfl
     have HLN:Hid ((⟨1,⟨1,s,ty,li,F,0,pr,L⟩,next,0,0,0,0⟩ :: Ft.take k:List Ev).length ≤ 1000):=by show _ ≤ _; simp [List.length_take]; omega
     have hszY:W6.heap.size ≤ (wr.alloc (N (yt e.kind e.cmd.k e.cmd.s e.cmd.t e.cmd.l e.cmd.q e.cmd.i e.cmd.p e.cmd.g e.id e.other e.qty e.price e.reason).toArray 46)).heap.size:=yL hszW vn.size
     clear ur kf kE X vn je e2 ko
     have hsf:=sfl
     go_wp2_with fail
     generalize (wr.alloc (N (yt e.kind e.cmd.k e.cmd.s e.cmd.t e.cmd.l e.cmd.q e.cmd.i e.cmd.p e.cmd.g e.id e.other e.qty e.price e.reason).toArray 46)) = yb at HEY HKY hszY ⊢
     refine (cj e yb (U HEY) (U HLN)).mono ?_
     rintro e w6 ⟨rfl,⟨vo7,hE7⟩,-,ht7⟩
     have HN:Hid ((∃ qr,EnS mb B W6.heap.size w6 gv gs gl next (.slice a l.length A) l t qr (⟨1,⟨1,s,ty,li,F,0,pr,L⟩,next,0,0,0,0⟩ :: Ft.take (k + 1)))∧KeptBut mb W6.heap.size W6 w6):=⟨⟨vo7,by rw [U qE]; exact hE7⟩,zk (U HKY) (cD ht7 hszY (fun g hg=>((U HEY).erow.lt g hg).1))⟩
     clear hE7 ht7
     go_wp2_with fail
     go_roundw
     case rel=>exact ⟨k + 1,by omega,by go_num,U HN⟩
     case measure=>simp [intOf]; omega
    ·obtain rfl:k = Ft.length:=by omega
     rw [yX hb] at ur
     have uu:¬ (Ft.length:Int) < Ft.length:=by omega
     have HE8:=Y (U ur).1
     have HK8:=Y (U ur).2
     have pW:=Y (U HMK wr (U ur).2)
     have HN8:=Y (U HNK wr (U ur).2)
     have HKw8:Hid (KeptBut mb B w wr):=zk (U pV) (kept_less (U ur).2 (by omega))
     clear ur uI HMK HNK
     go_wp2_with fail
     refine U xq _ _ ?_
     clear xq
     have y5:wr.cell? (J b 5) = some (H Fl):=(U pW).cells 5 _ rfl
     refine eF fun hj xq=>?_
     by_cases hFl:0 < Fl
     ·have y0:wr.cell? (yp w 0) = some (H s):=U HN8 0 _ rfl
      have y1:wr.cell? (yp w 1) = some (H ty):=U HN8 1 _ rfl
      have y2:wr.cell? (yp w 2) = some (H li):=U HN8 2 _ rfl
      have y3:wr.cell? (yp w 3) = some (H F):=U HN8 3 _ rfl
      have y4:wr.cell? (yp w 4) = some (yi pr):=U HN8 4 _ rfl
      have y6:wr.cell? (yp w 5) = some (yj L):=U HN8 5 _ rfl
      go_wp2_with fail
      refine (U HRS wr).mono ?_
      rintro e w9 ⟨rfl,hb9⟩
      obtain ⟨vo8,hE8⟩:=U HE8
      have HE9:=Y (zT hE8 hb9)
      have HM9:=Y (dk (U pW) hb9)
      have HKw9:Hid (KeptBut mb B w w9):=zk (U HKw8) (zB hb9 (yL px (yL (U HKw8).size hb)))
      have hl22:(⟨1,⟨1,s,ty,li,F,0,pr,L⟩,next,0,0,0,0⟩ :: Ft:List Ev).length ≤ 1000:=by simp; omega
      clear hb9 hE8 y0 y1 y2 y3 y4 y5 y6 HE8 pW HN8 HK8
      cases qI:aC ty
      ·have HAL:Hid (accL ⟨kk,s,ty,li,F,ii,pr,L⟩ next (FL,Fl,Ft) = FL∧accE ⟨kk,s,ty,li,F,ii,pr,L⟩ next (FL,Fl,Ft) = ⟨1,⟨1,s,ty,li,F,0,pr,L⟩,next,0,0,0,0⟩ :: Ft ++ [⟨5,zCm,next,0,Fl,0,0⟩]):=⟨by simp [accL,qI],by simp [accE,hFl,qI]⟩
       have x2:w9.cell? (J b 2) = some (H next):=(U HM9).cells 2 _ rfl
       go_wp2_with fail
       refine (cj ⟨5,zCm,next,0,Fl,0,0⟩ w9 (U HE9) hl22).mono ?_
       rintro e oZ ⟨rfl,hE10,hk10,ht10⟩
       have HEA:=Y hE10
       have HMA:Hid (MatS b xm.heap.size oZ (next + 1) vqm FL ⟨next,s,tk pr,Fl,li,L⟩ (.slice av Ft.length cv) Ft):=matS_told (U HM9) ht10 (U HE9).erow hmS ar (fun g hg e=>by have:=U HVT g hg; have:=((U HE9).erow.lt g e).1; omega)
       have HKA:=Y (zk (U HKw9) hk10)
       clear hE10 hk10 ht10 x2
       go_wp2_with fail
       refine U xq _ _ ?_
       clear xq
       have zf0:oZ.cell? (J b 0) = some (H (next + 1)):=(U HMA).cells 0 _ rfl
       obtain ⟨aF,cF,hF⟩:=zL (U HMA).orow
       have zf1:oZ.cell? (J b 1) = some (.slice aF (FL).length cF):=by rw [← hF]; exact (U HMA).cells 1 _ rfl
       obtain ⟨voF,kB⟩:=U HEA
       have zm1:oZ.cell? (J mb 1) = some (H next):=kB.cells 1 _ rfl
       have zm2:oZ.cell? (J mb 2) = some (.slice a l.length A):=kB.cells 2 _ rfl
       have fm1:oZ.frozen? (J mb 1) = false:=(kB.there 1 (by omega)).2
       have fm2:oZ.frozen? (J mb 2) = false:=(kB.there 2 (by omega)).2
       have pU:=Y (ens_book kB (next + 1) (zE (hF ▸ (U HMA).orow) hBS))
       have kZ:Hid (KeptBut mb B w _):=zk (U HKA) (zk (cH oZ 1 (H (next + 1))) (cH _ 2 (.slice aF (FL).length cF)))
       generalize (FL).length = nF at pU kZ zf1
       clear kB
       go_wp2_with fail
       go_end0
       exact ⟨rfl,⟨_,_,voF,by rw [(U HAL).1,(U HAL).2]; exact U pU⟩,U kZ⟩
      ·have HAL:Hid (accL ⟨kk,s,ty,li,F,ii,pr,L⟩ next (FL,Fl,Ft) = FL ++ [(⟨next,s,tk pr,Fl,li,L⟩:Od)]∧accE ⟨kk,s,ty,li,F,ii,pr,L⟩ next (FL,Fl,Ft) = ⟨1,⟨1,s,ty,li,F,0,pr,L⟩,next,0,0,0,0⟩ :: Ft ++ [⟨4,zCm,next,0,Fl,0,0⟩]):=⟨by simp [accL,qI,hFl],by simp [accE,hFl,qI]⟩
       go_wp2_with fail
       refine (rest_took b xm.heap.size (next + 1) vqm FL ⟨next,s,tk pr,Fl,li,L⟩ _ Ft w9 (U HM9) (by have:=(U kH).1.len; omega)).mono ?_
       rintro e oZ ⟨vqr,rfl,hMr,kW⟩
       have HE10:=Y (ens_far (U HE9) (U HM9) kW (U hq6) hmS ar)
       have HMr:=Y hMr
       have HKw10:Hid (KeptBut mb B w oZ):=zk (U HKw9) ⟨kW.os,kW.tape,kW.output,kW.size,fun k hk _=>kW.block k (by have:=(U HM9).le; omega) (by omega) (fun e=>by have:=((U HM9).orow.lt k e.symm).1; omega)⟩
       have x2:oZ.cell? (J b 2) = some (H next):=hMr.cells 2 _ rfl
       clear hMr kW HE9 HM9
       go_wp2_with fail
       refine (cj ⟨4,zCm,next,0,Fl,0,0⟩ oZ (U HE10) hl22).mono ?_
       rintro e w11 ⟨rfl,hE11,hk11,ht11⟩
       have HEA:=Y hE11
       have HMA:Hid (MatS b xm.heap.size w11 (next + 1) vqr (FL ++ [(⟨next,s,tk pr,Fl,li,L⟩:Od)]) ⟨next,s,tk pr,Fl,li,L⟩ (.slice av Ft.length cv) Ft):=matS_told (U HMr) ht11 (U HE10).erow hmS ar (fun g hg e=>by have:=U HVT g hg; have:=((U HE10).erow.lt g e).1; omega)
       have HKA:=Y (zk (U HKw10) hk11)
       clear hE11 hk11 ht11 x2
       go_wp2_with fail
       refine U xq _ _ ?_
       clear xq
       have zf0:w11.cell? (J b 0) = some (H (next + 1)):=(U HMA).cells 0 _ rfl
       obtain ⟨aF,cF,hF⟩:=zL (U HMA).orow
       have zf1:w11.cell? (J b 1) = some (.slice aF (FL ++ [(⟨next,s,tk pr,Fl,li,L⟩:Od)]).length cF):=by rw [← hF]; exact (U HMA).cells 1 _ rfl
       obtain ⟨voF,kB⟩:=U HEA
       have zm1:w11.cell? (J mb 1) = some (H next):=kB.cells 1 _ rfl
       have zm2:w11.cell? (J mb 2) = some (.slice a l.length A):=kB.cells 2 _ rfl
       have fm1:w11.frozen? (J mb 1) = false:=(kB.there 1 (by omega)).2
       have fm2:w11.frozen? (J mb 2) = false:=(kB.there 2 (by omega)).2
       have pU:=Y (ens_book kB (next + 1) (zE (hF ▸ (U HMA).orow) hBS))
       have kZ:Hid (KeptBut mb B w _):=zk (U HKA) (zk (cH w11 1 (H (next + 1))) (cH _ 2 (.slice aF (FL ++ [(⟨next,s,tk pr,Fl,li,L⟩:Od)]).length cF)))
       generalize (FL ++ [(⟨next,s,tk pr,Fl,li,L⟩:Od)]).length = nF at pU kZ zf1
       clear kB
       go_wp2_with fail
       go_end0
       exact ⟨rfl,⟨_,_,voF,by rw [(U HAL).1,(U HAL).2]; exact U pU⟩,U kZ⟩
     ·have HAL:Hid (accL ⟨kk,s,ty,li,F,ii,pr,L⟩ next (FL,Fl,Ft) = FL∧accE ⟨kk,s,ty,li,F,ii,pr,L⟩ next (FL,Fl,Ft) = ⟨1,⟨1,s,ty,li,F,0,pr,L⟩,next,0,0,0,0⟩ :: Ft):=⟨by simp [accL,hFl],by simp [accE,hFl]⟩
      go_wp2_with fail
      refine U xq _ _ ?_
      clear xq
      have zf0:wr.cell? (J b 0) = some (H (next + 1)):=(U pW).cells 0 _ rfl
      obtain ⟨aF,cF,hF⟩:=zL (U pW).orow
      have zf1:wr.cell? (J b 1) = some (.slice aF (FL).length cF):=by rw [← hF]; exact (U pW).cells 1 _ rfl
      obtain ⟨voF,kB⟩:=U HE8
      have zm1:wr.cell? (J mb 1) = some (H next):=kB.cells 1 _ rfl
      have zm2:wr.cell? (J mb 2) = some (.slice a l.length A):=kB.cells 2 _ rfl
      have fm1:wr.frozen? (J mb 1) = false:=(kB.there 1 (by omega)).2
      have fm2:wr.frozen? (J mb 2) = false:=(kB.there 2 (by omega)).2
      have pU:=Y (ens_book kB (next + 1) (zE (hF ▸ (U pW).orow) hBS))
      have kZ:Hid (KeptBut mb B w _):=zk (U HKw8) (zk (cH wr 1 (H (next + 1))) (cH _ 2 (.slice aF (FL).length cF)))
      generalize (FL).length = nF at pU kZ zf1
      clear kB
      go_wp2_with fail
      go_end0
      exact ⟨rfl,⟨_,_,voF,by rw [(U HAL).1,(U HAL).2]; exact U pU⟩,U kZ⟩
end Go.Proofs.YtbakanofkghmiaaGreat
