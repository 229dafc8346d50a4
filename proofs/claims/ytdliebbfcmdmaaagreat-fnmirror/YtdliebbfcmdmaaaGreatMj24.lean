/-
  A new order accepted by the engine: proved by walking the method.
-/
import Derived.Test.YtdliebbfcmdmaaaGreatMj23
set_option linter.unusedVariables false
set_option maxHeartbeats 6400000
set_option maxRecDepth 100000
namespace Go.Proofs.YtdliebbfcmdmaaaGreat
open Go.RowKit
def accL (c:Cm) (next:Int) (qt:List Od × Int × List Ev):List Od:=if 0 < qt.2.1∧aA c.t = true then qt.1 ++ [⟨next,c.s,tk c.p,qt.2.1,c.l,c.g⟩] else qt.1
def accE (c:Cm) (next:Int) (qt:List Od × Int × List Ev):List Ev:=⟨1,⟨1,c.s,c.t,c.l,c.q,0,c.p,c.g⟩,next,0,0,0,0⟩ :: qt.2.2 ++ (if 0 < qt.2.1 then [⟨if aA c.t = true then 4 else 5,zCm,next,0,qt.2.1,0,0⟩] else [])
theorem zF {B C e sz n:Nat} {v:Value} {xs:List Value} {W:World} (h:W.ownsRow B e sz v n xs) (hC:C ≤ B):W.ownsRow C e sz v n xs:=by
 refine ⟨h.1,?_⟩
 rcases h.2 with hn | ⟨g,A,xr,rfl,hg,rest⟩
 ·exact .inl hn
 ·exact .inr ⟨g,A,xr,rfl,yN hC hg,rest⟩
theorem ens_raise {mb B Bo C:Nat} {W:World} {gv:Value} {gs:List Value} {gl:List (List Ev)} {next:Int} {vq:Value} {l:List Od} {t:Tot} (h:EnS mb B Bo W gv gs gl next vq l t (.slice none 0 0) []) (Q:Bo ≤ C) (N:C ≤ W.heap.size):EnS mb B C W gv gs gl next vq l t (.slice none 0 0) [] :=
 ⟨h.cells,h.there,h.grow,h.glen,h.geach,⟨fun g hg b L=>yJ (h.glt.1 g hg b L) Q,h.glt.2⟩,h.orow,World.ownsRow_nil _ _ _ _,h.box,yN h.bo Q,N⟩
theorem ens_next {mb B Bo:Nat} {W:World} {gv:Value} {gs:List Value} {gl:List (List Ev)} {next:Int} {vq:Value} {l:List Od} {t:Tot} {vo:Value} {ts:List Ev} (h:EnS mb B Bo W gv gs gl next vq l t vo ts) (m:Int):EnS mb B Bo (W.setCell (J mb 1) (H m)) gv gs gl m vq l t vo ts:=by
 refine ⟨?_,zB h.there,zr h.grow (zj h.grow h.box (by decide)) _ _,h.glen,fun i g es hg vi=>zr (h.geach i g es hg vi) (zj (h.geach i g es hg vi) h.box (by decide)) _ _,h.glt,zr h.orow (zj h.orow h.box (by decide)) _ _,zr h.erow (zj h.erow h.box (by decide)) _ _,?_,h.bo,by simp only [World.setCell,Array.size_modify]; exact h.le⟩
 ·have:=bW (j:=1) (u:=H m) h.cells (by simp)
  exact this
 ·obtain ⟨xr,hc⟩:=h.box
  exact zM W mb 1 _ hc
theorem dh {c:Cm} {id:Int}:∀ (n:Nat) (l:List Od) (left:Int) (ts:List Ev),(matL c id n l left ts).2.2.length ≤ ts.length + n
 | 0,_,_,_=>Nat.le_refl _
 | n + 1,l,left,ts=>by
  rw [matL]
  split
  ·split
   ·simp
   ·split
    ·refine yN (dh n _ _ _) ?_
     rw [yP]; simp; omega
    ·simp
  ·simp
theorem matS_kept {mb b S:Nat} {W W':World} {next:Int} {vq vt:Value} {l:List Od} {t:Od} {ts:List Ev} (h:MatS b S W next vq l t vt ts) (hk:KeptBut mb W.heap.size W W') (hm:mb < S) (L:S ≤ b):MatS b S W' next vq l t vt ts:=by
 have aj:=hk.block b h.lt (by omega)
 refine ⟨fun j u R=>(yQ (a:=(J b (0 + j))) aj).trans (h.cells j u R),fun j R=>⟨?_,?_⟩,kb_row h.orow hk hm,kb_row h.erow hk hm,?_,yN h.le hk.size⟩
 ·rw [yQ (a:=(J b (0 + j))) aj]; exact (h.there j R).1
 ·rw [World.frozen?_of_block (a:=(J b (0 + j))) aj]; exact (h.there j R).2
 ·obtain ⟨xr,hc⟩:=h.box
  exact ⟨xr,aj.trans hc⟩
theorem kept_less {mb B C:Nat} {w w':World} (h:KeptBut mb C w w') (hB:B ≤ C):KeptBut mb B w w':=⟨h.os,h.tape,h.output,h.size,fun k hk hm=>h.block k (by omega) hm⟩
theorem ens_far {mb B Bo b S:Nat} {W W':World} {gv:Value} {gs:List Value} {gl:List (List Ev)} {next n2:Int} {vq:Value} {l:List Od} {t:Tot} {vo:Value} {ts:List Ev} {vm vt:Value} {lm:List Od} {tm:Od} {tt:List Ev} (h:EnS mb B Bo W gv gs gl next vq l t vo ts) (hM:MatS b S W n2 vm lm tm vt tt) (ht:TookAt b 0 vm.ownBlock W W') (hq:∀ g,vq.ownBlock = some g→g < S) (hm:mb < S) (L:S ≤ b):EnS mb B Bo W' gv gs gl next vq l t vo ts:=by
 have aj:W'.heap[mb]? = W.heap[mb]?:=ht.block mb h.lt (by omega) (zj hM.orow h.box (by decide))
 refine ⟨fun j u R=>(yQ (a:=(J mb (0 + j))) aj).trans (h.cells j u R),fun j R=>⟨?_,?_⟩,aV h.grow ht (zj h.grow hM.box (by decide)) (zA h.grow hM.orow (by decide)),h.glen,fun i g es hg vi=>aV (h.geach i g es hg vi) ht (zj (h.geach i g es hg vi) hM.box (by decide)) (zA (h.geach i g es hg vi) hM.orow (by decide)),h.glt,aV h.orow ht (zj h.orow hM.box (by decide)) ?_,aV h.erow ht (zj h.erow hM.box (by decide)) (zA h.erow hM.orow (by decide)),?_,h.bo,yN h.le ht.size⟩
 ·rw [yQ (a:=(J mb (0 + j))) aj]; exact (h.there j R).1
 ·rw [World.frozen?_of_block (a:=(J mb (0 + j))) aj]; exact (h.there j R).2
 ·cases e:vq.ownBlock with
  | none=>exact .inl rfl
  | some g=>exact .inr fun e'=>by have:=hq g e; have:=(hM.orow.lt g e'.symm).1; omega
 ·obtain ⟨xr,hc⟩:=h.box
  exact ⟨xr,aj.trans hc⟩
theorem zR {B e sz n:Nat} {v:Value} {xs:List Value} {W:World} (h:W.ownsRow B e sz v n xs):∃ a c,v = .slice a n c:=by
 rcases h.2 with ⟨e,e2⟩ | ⟨g,A,xr,e,_⟩
 ·exact ⟨none,0,by rw [e,e2]⟩
 ·exact ⟨_,_,e⟩
theorem matS_told {mb b S Bo:Nat} {W W':World} {next:Int} {vq vt vo:Value} {l:List Od} {t:Od} {ts es:List Ev} (h:MatS b S W next vq l t vt ts) (ht:TookAt mb 10 vo.ownBlock W W') (Z:ERow W Bo vo es) (hm:mb < S) (L:S ≤ b) (hvt:∀ g,vt.ownBlock = some g→vo.ownBlock ≠ some g):MatS b S W' next vq l t vt ts:=by
 have aj:W'.heap[b]? = W.heap[b]?:=ht.block b h.lt (by omega) (zj Z h.box (by decide))
 refine ⟨fun j u R=>(yQ (a:=(J b (0 + j))) aj).trans (h.cells j u R),fun j R=>⟨?_,?_⟩,aV h.orow ht (fun e=>by have:=(h.orow.lt mb e.symm).1; omega) (zA h.orow Z (by decide)),aV h.erow ht (fun e=>by have:=(h.erow.lt mb e.symm).1; omega) ?_,?_,yN h.le ht.size⟩
 ·rw [yQ (a:=(J b (0 + j))) aj]; exact (h.there j R).1
 ·rw [World.frozen?_of_block (a:=(J b (0 + j))) aj]; exact (h.there j R).2
 ·cases e:vt.ownBlock with
  | none=>exact .inl rfl
  | some g=>exact .inr fun e'=>hvt g e e'.symm
 ·obtain ⟨xr,hc⟩:=h.box
  exact ⟨xr,aj.trans hc⟩
theorem ens_book {mb B Bo:Nat} {W:World} {gv:Value} {gs:List Value} {gl:List (List Ev)} {next:Int} {vq vw:Value} {l l':List Od} {t:Tot} {vo:Value} {ts:List Ev} (h:EnS mb B Bo W gv gs gl next vq l t vo ts) (m:Int) (Z:ORow W B vw l'):EnS mb B Bo ((W.setCell (J mb 1) (H m)).setCell (J mb 2) vw) gv gs gl m vw l' t vo ts:=by
 have Q:=ens_next h m
 have hn:some mb ≠ vw.ownBlock:=zj Z h.box (by decide)
 have qb:=zr Z hn 1 (H m)
 have ho2:=zr qb hn 2 vw
 exact ens_took Q (yM _ _ _ (Q.cells 2 _ rfl)) ho2 (cP (o:=1) _ _)
def CAx1 (mb S n A:Nat) (a:Option Addr) (next s X li F tk0 Fl:Int) (pr:Nat) (O:ByteArray) (FL:List Od) (Ft:List Ev) (W:World):Nat→Value→Prop
 | 0,v=>v = I mb 0
 | 1,v=>v = I mb 0
 | 2,v=>v = I mb 0
 | 3,v=>v = I mb 1
 | 4,v=>v = .agg #[H next,.slice a n A]
 | 5,v=>v = .agg #[H s,H X,H li,H F,yj pr,yk O]
 | 6,v=>∃ aq cq av cv,v = .agg #[H (next + 1),.slice aq FL.length cq,H next,H s,H tk0,H Fl,H li,yk O,.slice av Ft.length cv]∧ORow W S (.slice aq FL.length cq) FL∧ERow W S (.slice av Ft.length cv) Ft
 | 7,v=>∃ b,v = I b 0∧S ≤ b∧b < W.heap.size∧W.there b 0 9∧∃ xr,W.heap[b]? = some (.cells xr 105 (0,0))
 | _,_=>True
theorem ca1_mono {mb S n A:Nat} {a:Option Addr} {next s X li F tk0 Fl:Int} {pr:Nat} {O:ByteArray} {FL:List Od} {Ft:List Ev}:∀ W W' j v,yn W W'→CAx1 mb S n A a next s X li F tk0 Fl pr O FL Ft W j v→CAx1 mb S n A a next s X li F tk0 Fl pr O FL Ft W' j v:=by
 intro W W' j v L h
 match j with
 | 0 | 1 | 2 | 3 | 4 | 5=>exact h
 | 6=>obtain ⟨aq,cq,av,cv,Q,N,h3⟩:=h; exact ⟨aq,cq,av,cv,Q,zk N L,zG h3 L⟩
 | 7=>obtain ⟨b,Q,N,h3,h4,xr,h5⟩:=h; exact ⟨b,Q,N,yJ h3 L.size,zf h4 L h3,xr,(L.block b h3).trans h5⟩
 | j + 8=>trivial
def CQ1 (ty:World) (next s tk0 Fl li:Int) (O:ByteArray) (FL:List Od) (Ft:List Ev) (f:Nat→Value) (W:World):Prop:=∃ b vq vt,f 7 = I b 0∧ty.heap.size ≤ b∧MatS b ty.heap.size W (next + 1) vq FL ⟨next,s,tk0,Fl,li,O⟩ vt Ft∧yn ty W
def CA2 (mb b:Nat) (next s X li F:Int) (pr:Nat) (O:ByteArray) (W:World):Nat→Value→Prop
 | 0,v=>v = I mb 0
 | 1,v=>v = .agg #[H s,H X,H li,H F,yj pr,yk O]
 | 2,v=>v = .agg (yw 1 s X li F 0 pr O).toArray
 | 3,v=>v = I b 2
 | 4,v=>v = I b 2
 | 5,v=>v = H next
 | 6,v=>v = .agg (yu 1 1 s X li F 0 pr O next 0 0 0 0).toArray
 | _,_=>True
theorem ca2_mono {mb b:Nat} {next s X li F:Int} {pr:Nat} {O:ByteArray}:∀ W W' j v,yn W W'→CA2 mb b next s X li F pr O W j v→CA2 mb b next s X li F pr O W' j v:=by
 intro W W' j v L h
 match j with
 | 0 | 1 | 2 | 3 | 4 | 5 | 6=>exact h
 | j + 7=>trivial
theorem acceptE_any {mb B Bo:Nat} {gv:Value} {gs:List Value} {gl:List (List Ev)} {next:Int} {vq:Value} {l:List Od} {t:Tot} (c:Cm) (w:World) (h:EnS mb B Bo w gv gs gl next vq l t (.slice none 0 0) []) (hg:GoodL l) (h0:0 ≤ next) (Q:next ≤ 1000000) (jm:0 ≤ c.q) (jn:c.q ≤ 1000000) :
  Calls Tryz.prog 32 #[I mb 0,noV c] w fun r w'=>r = ym (.tuple #[])∧(∃ Bo' vw qp,EnS mb B Bo' w' gv gs gl (next + 1) vw (accL c next (matL c next 21 l c.q [])) t qp (accE c next (matL c next 21 l c.q [])))∧KeptBut mb B w w':=by
 have qz:=h.lt
 have pA:B ≤ w.heap.size:=yN h.bo h.le
 have vO:=hg.len
 obtain ⟨a,A,rfl,vI,hc⟩:=zK h.orow (by omega)
 have HRD0:=Y (zK h.orow (by omega))
 have HOR:=Y h.orow
 have oU:=Y (bV (c:=c) (id:=next) 21 l c.q [] hg jm jn)
 have HMF:=Y (dh (c:=c) (id:=next) 21 l c.q [])
 obtain ⟨kk,s,X,li,F,ii,pr,O⟩:=c
 have vR:Hid (SlOk (.slice a l.length A)):=oRow_sl h.orow
 have HCA:Hid (∀ W:World,RdR Od.vs 6 W (.slice a l.length A) l→Calls Tryz.prog 54 #[.agg #[H next,.slice a l.length A],.agg #[H s,H X,H li,H F,yj pr,yk O]] W _):=fun W hW=>match_any next _ l ⟨kk,s,X,li,F,ii,pr,O⟩ W hW (U vR) hg h0 Q jm jn
 have HTO:Hid (∀ W:World,Calls Tryz.prog 55 #[.agg #[H s,H X,H li,H F,yj pr,yk O]] W _):=fun W=>toldNew_any ⟨kk,s,X,li,F,ii,pr,O⟩ W
 have HRS:Hid (∀ W:World,Calls Tryz.prog 56 #[.agg #[H s,H X,H li,H F,yj pr,yk O]] W _):=fun W=>dv ⟨kk,s,X,li,F,ii,pr,O⟩ W
 generalize hmat:matL ⟨kk,s,X,li,F,ii,pr,O⟩ next 21 l F [] = qt at oU HCA HMF ⊢
 obtain ⟨FL,Fl,Ft⟩:=qt
 unfold noV
 simp only at HCA oU HTO HRS HMF ⊢
 have xX:=ed w (E #[H s,H X,H li,H F,yj pr,yk O] 74)
 have HE:=Y (zN h xX)
 have xW:=Y xX
 have xA:w.heap.size < (w.alloc (E #[H s,H X,H li,H F,yj pr,yk O] 74)).heap.size:=by rw [ze]; omega
 have qX:Hid (World.rangeAt (w.alloc (E #[H s,H X,H li,H F,yj pr,yk O] 74)) w.heap.size 0 [H s,H X,H li,H F,yj pr,yk O]):=zg w [H s,H X,H li,H F,yj pr,yk O] _
 have jf:=Y (zl (U HRD0) xX tg)
 have uG:Hid (0 ≤ next∧next ≤ 1000000):=⟨h0,Q⟩
 clear h xX hc vI hg h0 Q jm jn hmat HRD0
 go_enter Tryz.func32,Tryz.ntmps32
 refine ei fun hR xu=>?_
 go_wp2_with fail
 refine U xu _ _ ?_
 clear xu
 generalize (w.alloc (E #[H s,H X,H li,H F,yj pr,yk O] 74)) = ty at HE xW xA qX jf ⊢
 have qe:Hid (ty.cell? (J mb 1) = some (H next)):=(U HE).cells 1 _ rfl
 have vD:Hid (ty.cell? (J mb 2) = some (.slice a l.length A)):=(U HE).cells 2 _ rfl
 refine ei fun hR xu=>?_
 refine zh (RYA (fun f=>{ tmps:=#[I mb 0,.agg #[H s,H X,H li,H F,yj pr,yk O],M,yp w 0,f 7,M,M,M,M,f 0,f 1,f 2,f 3,f 4,f 5,f 6,M,M,M,M,M,M,M,M,M,M,M,M,M,M,M,M,M,M,M,M,M,M,M,M,M,M,M,M,M,M,M,M,M,M,M,M,M,M,M,M,M],defers:=[] }) (CAx1 mb ty.heap.size l.length A a next s X li F (tk pr) Fl pr O FL Ft) 8 (CQ1 ty next s (tk pr) Fl li O FL Ft) ty) (by kernel_rfl) ?_ ?_ ?_
 ·exact ⟨fun _=>M,rfl,ry_start (by decide)⟩
 rotate_left
 ·rintro x xm V i op ⟨f,rfl,K⟩ xo hx Z xy D
  have xz:=Y K
  have xn:x[8]? = some false→∀ (p:Addr) u,ty.cell? p = some u→V.cell? p = some u:=fun hn p u hu=>((K.b hn).cell (yK ty _ hu)).trans hu
  match i,Z with
  | 0,Z =>
   obtain rfl:=ya Z
   have hn:x[8]? = some false:=zw xo 12 0 8 (by kernel_rfl) hx (by simp) xy
   clear D K xo
   rw [if_pos (by rfl)];unfold Oper.wp;go_simp
   exact ⟨upd f 0 (I mb 0),by simp [upd],zV (U xz) 0 _ hn (by decide) rfl⟩
  | 1,Z =>
   obtain rfl:=ya Z
   have hn:x[8]? = some false:=zw xo 12 1 8 (by kernel_rfl) hx (by simp) xy
   have g0:f 0 = I mb 0:=K.c hn 0 (ye D 0 rfl)
   clear D K xo
   rw [if_pos (by rfl)];unfold Oper.wp;go_simp
   exact ⟨upd f 1 (I mb 0),by simp [upd,g0],zV (U xz) 1 _ hn (by decide) rfl⟩
  | 2,Z =>
   obtain rfl:=ya Z
   have hn:x[8]? = some false:=zw xo 12 2 8 (by kernel_rfl) hx (by simp) xy
   have g1:f 1 = I mb 0:=K.c hn 1 (ye D 1 rfl)
   clear D K xo
   rw [if_pos (by rfl)];unfold Oper.wp;go_simp
   exact ⟨upd f 2 (I mb 0),by simp [upd,g1],zV (U xz) 2 _ hn (by decide) rfl⟩
  | 3,Z =>
   obtain rfl:=ya Z
   have hn:x[8]? = some false:=zw xo 12 3 8 (by kernel_rfl) hx (by simp) xy
   have g2:f 2 = I mb 0:=K.c hn 2 (ye D 2 rfl)
   clear D K xo
   rw [if_pos (by rfl)];unfold Oper.wp;go_simp
   exact ⟨upd f 3 (I mb 1),by simp [upd,g2],zV (U xz) 3 _ hn (by decide) rfl⟩
  | 4,Z =>
   obtain rfl:=ya Z
   have hn:x[8]? = some false:=zw xo 12 4 8 (by kernel_rfl) hx (by simp) xy
   have g3:f 3 = I mb 1:=K.c hn 3 (ye D 3 rfl)
   have z1:=xn hn (J mb 1) _ (U qe)
   have z2:=xn hn (J mb 2) _ (U vD)
   clear D K xo
   rw [if_pos (by rfl)];unfold Oper.wp;go_simp
   exact ⟨upd f 4 (.agg #[H next,.slice a l.length A]),by simp [upd,g3],zV (U xz) 4 _ hn (by decide) rfl⟩
  | 5,Z =>
   obtain rfl:=ya Z
   have hn:x[8]? = some false:=zw xo 12 5 8 (by kernel_rfl) hx (by simp) xy
   have y0:=xn hn (yq w 0) _ (U qX 0 _ rfl)
   have y1:=xn hn (yq w 1) _ (U qX 1 _ rfl)
   have y2:=xn hn (yq w 2) _ (U qX 2 _ rfl)
   have y3:=xn hn (yq w 3) _ (U qX 3 _ rfl)
   have y4:=xn hn (yq w 4) _ (U qX 4 _ rfl)
   have y5:=xn hn (yq w 5) _ (U qX 5 _ rfl)
   clear D K xo
   rw [if_pos (by rfl)];unfold Oper.wp;go_simp
   exact ⟨upd f 5 (.agg #[H s,H X,H li,H F,yj pr,yk O]),by simp [upd],zV (U xz) 5 _ hn (by decide) rfl⟩
  | 6,Z =>
   obtain rfl:=ya Z
   have hn:x[8]? = some false:=zw xo 12 6 8 (by kernel_rfl) hx (by simp) xy
   have g4:f 4 = .agg #[H next,.slice a l.length A]:=K.c hn 4 (ye D 4 rfl)
   have g5:f 5 = .agg #[H s,H X,H li,H F,yj pr,yk O]:=K.c hn 5 (ye D 5 rfl)
   have HRV:=Y (zl (U jf) (K.b hn) tg)
   have qT:=(K.b hn).size
   clear D K xo
   rw [if_pos (by rfl)];unfold Oper.wp;go_simp
   refine (U HCA V (U HRV)).mono ?_
   rintro e w4 ⟨vq4,vt4,rfl,hoq,het,xC⟩
   obtain ⟨av,cv,rfl⟩:∃ a c,vt4 = .slice a Ft.length c:=by
    rcases het.2 with ⟨e,e2⟩ | ⟨g,A,xr,e,_⟩
    ·exact ⟨none,0,by rw [e,e2]⟩
    ·exact ⟨_,_,e⟩
   obtain ⟨aq,cq,rfl⟩:∃ a c,vq4 = .slice a FL.length c:=by
    rcases hoq.2 with ⟨e,e2⟩ | ⟨g,A,xr,e,_⟩
    ·exact ⟨none,0,by rw [e,e2]⟩
    ·exact ⟨_,_,e⟩
   exact ⟨upd f 6 (.agg #[H (next + 1),.slice aq FL.length cq,H next,H s,H (tk pr),H Fl,H li,yk O,.slice av Ft.length cv]),by simp [upd,g4,g5],zV (ry_grow ca1_mono (U xz) hn xC) 6 _ hn (by decide) ⟨aq,cq,av,cv,rfl,zF hoq qT,zF het qT⟩⟩
  | 7,Z =>
   obtain rfl:=ya Z
   have hn:x[8]? = some false:=zw xo 12 7 8 (by kernel_rfl) hx (by simp) xy
   have qT:=(K.b hn).size
   clear D K xo
   rw [if_pos (by rfl)];unfold Oper.wp;go_simp
   exact ⟨upd f 7 (yp V 0),by simp [upd],zV (ry_grow ca1_mono (U xz) hn (ed _ _)) 7 _ hn (by decide) ⟨V.heap.size,rfl,qT,by rw [ze]; omega,zu V [H 0,.slice none 0 0,H 0,H 0,H 0,H 0,H 0,yk ⟨#[]⟩,.slice none 0 0] _,_,heap_alloc_new V _⟩⟩
  | 8,Z =>
   obtain rfl:=ya Z
   have hn:x[8]? = some false:=xy
   obtain ⟨aq,cq,av,cv,g6,hoq,het⟩:=K.c hn 6 (ye D 6 rfl)
   obtain ⟨b,g7,hSb,xV,xG,hbox⟩:=K.c hn 7 (ye D 7 rfl)
   have HQ:Hid (CQ1 ty next s (tk pr) Fl li O FL Ft f (V.setCells b 0 [H (next + 1),.slice aq FL.length cq,H next,H s,H (tk pr),H Fl,H li,yk O,.slice av Ft.length cv])):=⟨b,_,_,g7,hSb,matS_put (t:=⟨next,s,tk pr,Fl,li,O⟩) xG hbox hoq het (K.b hn).size,zm b hSb _ _ _ (K.b hn)⟩
   obtain ⟨y0,z0,q0⟩:=zc xG (j:=0) (by omega)
   obtain ⟨y1,z1,q1⟩:=zc xG (j:=1) (by omega)
   obtain ⟨y2,z2,q2⟩:=zc xG (j:=2) (by omega)
   obtain ⟨y3,z3,q3⟩:=zc xG (j:=3) (by omega)
   obtain ⟨y4,z4,q4⟩:=zc xG (j:=4) (by omega)
   obtain ⟨y5,z5,q5⟩:=zc xG (j:=5) (by omega)
   obtain ⟨y6,z6,q6⟩:=zc xG (j:=6) (by omega)
   obtain ⟨y7,z7,q7⟩:=zc xG (j:=7) (by omega)
   obtain ⟨y8,z8,q8⟩:=zc xG (j:=8) (by omega)
   clear D K xo xG hoq het hbox
   rw [if_pos (by rfl)];unfold Oper.wp;go_simp
   exact ⟨f,by simp [g6,g7],ry_writeN (U xz) hn (U HQ)⟩
  | n + 9,Z=>simp at Z
 ·rintro x xm V ⟨f,rfl,K⟩ hx xP
  have xp:=zP xP hx (by kernel_rfl)
  obtain ⟨b,vqm,vtm,e7,hSb,hMS,hBX⟩:=K.m (xp 8 (by simp))
  refine U xu _ _ ?_
  clear xu
  simp only [e7]
  generalize f 0 = v0,f 1 = v1,f 2 = v2,f 3 = v3,f 4 = v4,f 5 = v5,f 6 = v6
  have oh:=Y hMS
  have uB:=Y hBX
  clear K xp xP hx hMS hBX e7 jf qe vD HCA
  have hSV:ty.heap.size ≤ V.heap.size:=(U uB).size
  have qg:=Y (ens_raise (zN (U HE) ((U uB))) (yN (U HE).le hSV) tg)
  have HN6:=Y (zb (U qX) (U uB) xA)
  have HMC:=Y (U oh).cells
  have xV:=(U oh).lt
  have pZ:Hid (KeptBut mb B w V):=zi (zz (U xW) pA) (zz (U uB) (by omega))
  clear HE qX
  generalize V = W6 at oh qg HN6 HMC xV pZ hSV uB ⊢
  refine ei fun hR xu=>?_
  refine zh (RYA (fun f=>{ tmps:=#[I mb 0,.agg #[H s,H X,H li,H F,yj pr,yk O],M,yp w 0,I b 0,M,M,M,M,v0,v1,v2,v3,v4,v5,v6,f 0,f 1,f 2,f 3,f 4,f 5,f 6,f 7,M,M,M,M,M,M,M,M,M,M,M,M,M,M,M,M,M,M,M,M,M,M,M,M,M,M,M,M,M,M,M,M,M],defers:=[] }) (CA2 mb b next s X li F pr O) 7 (fun f W=>(∃ qp,EnS mb B W6.heap.size W gv gs gl next (.slice a l.length A) l t qp [⟨1,⟨1,s,X,li,F,0,pr,O⟩,next,0,0,0,0⟩])∧KeptBut mb W6.heap.size W6 W) W6) (by kernel_rfl) ?_ ?_ ?_
  ·exact ⟨fun _=>M,rfl,ry_start (by decide)⟩
  rotate_left
  ·rintro x xm V2 i op ⟨f,rfl,K⟩ xo hx Z xy D
   have xz:=Y K
   have xn:x[7]? = some false→∀ (p:Addr) u,W6.cell? p = some u→V2.cell? p = some u:=fun hn p u hu=>((K.b hn).cell (yK W6 _ hu)).trans hu
   match i,Z with
   | 0,Z =>
    obtain rfl:=ya Z
    have hn:x[7]? = some false:=zw xo 12 0 7 (by kernel_rfl) hx (by simp) xy
    clear D K xo
    rw [if_pos (by rfl)];unfold Oper.wp;go_simp
    exact ⟨upd f 0 (I mb 0),by simp [upd],zV (U xz) 0 _ hn (by decide) rfl⟩
   | 1,Z =>
    obtain rfl:=ya Z
    have hn:x[7]? = some false:=zw xo 12 1 7 (by kernel_rfl) hx (by simp) xy
    have y0:=xn hn (yq w 0) _ (U HN6 0 _ rfl)
    have y1:=xn hn (yq w 1) _ (U HN6 1 _ rfl)
    have y2:=xn hn (yq w 2) _ (U HN6 2 _ rfl)
    have y3:=xn hn (yq w 3) _ (U HN6 3 _ rfl)
    have y4:=xn hn (yq w 4) _ (U HN6 4 _ rfl)
    have y5:=xn hn (yq w 5) _ (U HN6 5 _ rfl)
    clear D K xo
    rw [if_pos (by rfl)];unfold Oper.wp;go_simp
    exact ⟨upd f 1 (.agg #[H s,H X,H li,H F,yj pr,yk O]),by simp [upd],zV (U xz) 1 _ hn (by decide) rfl⟩
   | 2,Z =>
    obtain rfl:=ya Z
    have hn:x[7]? = some false:=zw xo 12 2 7 (by kernel_rfl) hx (by simp) xy
    have g1:f 1 = .agg #[H s,H X,H li,H F,yj pr,yk O]:=K.c hn 1 (ye D 1 rfl)
    clear D K xo
    rw [if_pos (by rfl)];unfold Oper.wp;go_simp
    refine (U HTO V2).mono ?_
    rintro e w4 ⟨rfl,xC⟩
    exact ⟨upd f 2 (.agg (yw 1 s X li F 0 pr O).toArray),by simp [upd,g1],zV (ry_grow ca2_mono (U xz) hn xC) 2 _ hn (by decide) rfl⟩
   | 3,Z =>
    obtain rfl:=ya Z
    have hn:x[7]? = some false:=zw xo 12 3 7 (by kernel_rfl) hx (by simp) xy
    clear D K xo
    rw [if_pos (by rfl)];unfold Oper.wp;go_simp
    exact ⟨upd f 3 (I b 2),by simp [upd],zV (U xz) 3 _ hn (by decide) rfl⟩
   | 4,Z =>
    obtain rfl:=ya Z
    have hn:x[7]? = some false:=zw xo 12 4 7 (by kernel_rfl) hx (by simp) xy
    have g3:f 3 = I b 2:=K.c hn 3 (ye D 3 rfl)
    clear D K xo
    rw [if_pos (by rfl)];unfold Oper.wp;go_simp
    exact ⟨upd f 4 (I b 2),by simp [upd,g3],zV (U xz) 4 _ hn (by decide) rfl⟩
   | 5,Z =>
    obtain rfl:=ya Z
    have hn:x[7]? = some false:=zw xo 12 5 7 (by kernel_rfl) hx (by simp) xy
    have g4:f 4 = I b 2:=K.c hn 4 (ye D 4 rfl)
    have z2:=xn hn (J b 2) _ (U HMC 2 _ rfl)
    clear D K xo
    rw [if_pos (by rfl)];unfold Oper.wp;go_simp
    exact ⟨upd f 5 (H next),by simp [upd,g4],zV (U xz) 5 _ hn (by decide) rfl⟩
   | 6,Z =>
    obtain rfl:=ya Z
    have hn:x[7]? = some false:=zw xo 12 6 7 (by kernel_rfl) hx (by simp) xy
    have g2:f 2 = .agg (yw 1 s X li F 0 pr O).toArray:=K.c hn 2 (ye D 2 rfl)
    have g5:f 5 = H next:=K.c hn 5 (ye D 5 rfl)
    clear D K xo
    rw [if_pos (by rfl)];unfold Oper.wp;go_simp
    exact ⟨upd f 6 (.agg (yu 1 1 s X li F 0 pr O next 0 0 0 0).toArray),by simp [upd,g2,g5],zV (U xz) 6 _ hn (by decide) rfl⟩
   | 7,Z =>
    obtain rfl:=ya Z
    have hn:x[7]? = some false:=xy
    have g0:f 0 = I mb 0:=K.c hn 0 (ye D 0 rfl)
    have g6:f 6 = .agg (yu 1 1 s X li F 0 pr O next 0 0 0 0).toArray:=K.c hn 6 (ye D 6 rfl)
    have vJ:=Y (zN (U qg) (K.b hn))
    have xV:=K.b hn
    have HKV:Hid (KeptBut mb W6.heap.size W6 V2):=zz xV tg
    have qT:=xV.size
    clear D K xo xV
    rw [if_pos (by rfl)];unfold Oper.wp;go_simp
    refine (bX ⟨1,⟨1,s,X,li,F,0,pr,O⟩,next,0,0,0,0⟩ V2 (U vJ) (by simp)).mono ?_
    rintro e w5 ⟨rfl,⟨vo5,qN⟩,-,ht5⟩
    exact ⟨upd f 7 (.tuple #[]),by simp [upd,g0,g6],ry_write (U xz) hn _ ⟨⟨vo5,qN⟩,zi (U HKV) (cw ht5 qT (fun g hg=>by simp [Value.ownBlock] at hg))⟩⟩
   | n + 8,Z=>simp at Z
  ·rintro x xm V2 ⟨f,rfl,K⟩ hx xP
   have xp:=zP xP hx (by kernel_rfl)
   obtain ⟨hE7,hK7⟩:=K.m (xp 7 (by simp))
   refine U xu _ _ ?_
   clear xu
   dsimp only
   generalize f 0 = u0,f 1 = u1,f 2 = u2,f 3 = u3,f 4 = u4,f 5 = u5,f 6 = u6,f 7 = u7
   have uI:Hid ((∃ qp,EnS mb B W6.heap.size V2 gv gs gl next (.slice a l.length A) l t qp (⟨1,⟨1,s,X,li,F,0,pr,O⟩,next,0,0,0,0⟩ :: Ft.take 0))∧KeptBut mb W6.heap.size W6 V2):=⟨by simpa using hE7,hK7⟩
   clear K xp xP hx hE7 hK7 qg
   obtain ⟨av,cv,hvt⟩:=zR (U oh).erow
   subst hvt
   have hmS:mb < ty.heap.size:=yJ qz (U xW).size
   have hBS:B ≤ ty.heap.size:=by omega
   have HMK:Hid (∀ wr:World,KeptBut mb W6.heap.size W6 wr→MatS b ty.heap.size wr (next + 1) vqm FL ⟨next,s,tk pr,Fl,li,O⟩ (.slice av Ft.length cv) Ft):=fun wr hk=>matS_kept (U oh) hk hmS hSb
   have HNK:Hid (∀ wr:World,KeptBut mb W6.heap.size W6 wr→wr.rangeAt w.heap.size 0 [H s,H X,H li,H F,yj pr,yk O]):=fun wr hk=>kb_range hk (U HN6) (by omega)
   have hF20:Ft.length ≤ 21:=by simpa using U HMF
   have hq6:Hid (∀ g,(Value.slice a l.length A).ownBlock = some g→g < ty.heap.size):=fun g hg=>yJ ((U HOR).lt g hg).2 (U xW).size
   have HVT:Hid (∀ g,(Value.slice av Ft.length cv).ownBlock = some g→g < W6.heap.size):=fun g hg=>((U oh).erow.lt g hg).2
   clear oh HN6 HMC HMF HOR uB
   have z8:V2.cell? (J b 8) = some (.slice av Ft.length cv):=(U HMK V2 (U uI).2).cells 8 _ rfl
   refine ei fun hR xu=>?_
   go_wp2_with fail
   clear z8
   go_loopw [27] (fun iv wr=>∃ (k:Nat),k ≤ Ft.length∧iv = H k∧Hid ((∃ qp,EnS mb B W6.heap.size wr gv gs gl next (.slice a l.length A) l t qp (⟨1,⟨1,s,X,li,F,0,pr,O⟩,next,0,0,0,0⟩ :: Ft.take k))∧KeptBut mb W6.heap.size W6 wr)) (fun iv _=>Ft.length - (intOf iv).toNat)
   case atStart=>exact ⟨0,Nat.zero_le _,rfl,U uI⟩
   case round =>
    obtain ⟨k,hk,rfl,uu⟩:=hrel
    by_cases xK:k < Ft.length
    ·obtain ⟨e,je⟩:∃ e,Ft[k]? = some e:=⟨_,yH xK⟩
     obtain ⟨a',c',e1,_,xo⟩:=ownR_rd (bS Ev.len (by omega) (U HMK wr (U uu).2).erow)
     obtain ⟨b',off,e2,kL,xo⟩:=xo (by rintro rfl; simp at je)
     simp only [Value.slice.injEq] at e1
     obtain ⟨e1,-,-⟩:=e1
     rw [e2] at e1
     subst e1
     obtain ⟨g0,g1,g2,g3,g4,g5,g6,g7,g8,g9,qC,vF,ua,ku⟩:=cz (xo k e je)
     have uv:(k:Int) < Ft.length:=by omega
     have hk0:(0:Int) ≤ k:=by omega
     obtain ⟨⟨vo6,kj⟩,kN⟩:=U uu
     have vr:=ed wr (E (yu e.kind e.cmd.k e.cmd.s e.cmd.t e.cmd.l e.cmd.q e.cmd.i e.cmd.p e.cmd.g e.id e.other e.qty e.price e.reason).toArray 41)
     have hszW:W6.heap.size ≤ wr.heap.size:=kN.size
     have HEY:=Y (zN kj vr)
     have HKY:=Y (zi kN (zz vr hszW))
     have qf:Hid (Ft.take (k + 1) = Ft.take k ++ [e]):=by show _ = _; rw [List.take_add_one,je]; rfl
     have HLN:Hid ((⟨1,⟨1,s,X,li,F,0,pr,O⟩,next,0,0,0,0⟩ :: Ft.take k:List Ev).length ≤ 1000):=by show _ ≤ _; simp [List.length_take]; omega
     have hszY:W6.heap.size ≤ (wr.alloc (E (yu e.kind e.cmd.k e.cmd.s e.cmd.t e.cmd.l e.cmd.q e.cmd.i e.cmd.p e.cmd.g e.id e.other e.qty e.price e.reason).toArray 41)).heap.size:=yN hszW vr.size
     clear uu kj kN xo vr je e2 kL
     have hsf:=sfl
     go_wp2_with fail
     generalize (wr.alloc (E (yu e.kind e.cmd.k e.cmd.s e.cmd.t e.cmd.l e.cmd.q e.cmd.i e.cmd.p e.cmd.g e.id e.other e.qty e.price e.reason).toArray 41)) = yb at HEY HKY hszY ⊢
     refine (bX e yb (U HEY) (U HLN)).mono ?_
     rintro e w6 ⟨rfl,⟨vo7,hE7⟩,-,ht7⟩
     have HN:Hid ((∃ qp,EnS mb B W6.heap.size w6 gv gs gl next (.slice a l.length A) l t qp (⟨1,⟨1,s,X,li,F,0,pr,O⟩,next,0,0,0,0⟩ :: Ft.take (k + 1)))∧KeptBut mb W6.heap.size W6 w6):=⟨⟨vo7,by rw [U qf]; exact hE7⟩,zi (U HKY) (cw ht7 hszY (fun g hg=>((U HEY).erow.lt g hg).1))⟩
     clear hE7 ht7
     go_wp2_with fail
     go_roundw
     case rel=>exact ⟨k + 1,by omega,by go_num,U HN⟩
     case measure=>simp [intOf]; omega
    ·obtain rfl:k = Ft.length:=by omega
     rw [yZ tg] at uu
     have uv:¬ (Ft.length:Int) < Ft.length:=by omega
     have HE8:=Y (U uu).1
     have HK8:=Y (U uu).2
     have af:=Y (U HMK wr (U uu).2)
     have HN8:=Y (U HNK wr (U uu).2)
     have HKw8:Hid (KeptBut mb B w wr):=zi (U pZ) (kept_less (U uu).2 (by omega))
     clear uu uI HMK HNK
     go_wp2_with fail
     refine U xu _ _ ?_
     clear xu
     have y5:wr.cell? (J b 5) = some (H Fl):=(U af).cells 5 _ rfl
     refine ei fun hR xu=>?_
     by_cases hFl:0 < Fl
     ·have y0:wr.cell? (yq w 0) = some (H s):=U HN8 0 _ rfl
      have y1:wr.cell? (yq w 1) = some (H X):=U HN8 1 _ rfl
      have y2:wr.cell? (yq w 2) = some (H li):=U HN8 2 _ rfl
      have y3:wr.cell? (yq w 3) = some (H F):=U HN8 3 _ rfl
      have y4:wr.cell? (yq w 4) = some (yj pr):=U HN8 4 _ rfl
      have y6:wr.cell? (yq w 5) = some (yk O):=U HN8 5 _ rfl
      go_wp2_with fail
      refine (U HRS wr).mono ?_
      rintro e w9 ⟨rfl,hb9⟩
      obtain ⟨vo8,hE8⟩:=U HE8
      have HE9:=Y (zN hE8 hb9)
      have HM9:=Y (da (U af) hb9)
      have HKw9:Hid (KeptBut mb B w w9):=zi (U HKw8) (zz hb9 (yN pA (yN (U HKw8).size tg)))
      have hl22:(⟨1,⟨1,s,X,li,F,0,pr,O⟩,next,0,0,0,0⟩ :: Ft:List Ev).length ≤ 1000:=by simp; omega
      clear hb9 hE8 y0 y1 y2 y3 y4 y5 y6 HE8 af HN8 HK8
      cases qA:aA X
      ·have HAL:Hid (accL ⟨kk,s,X,li,F,ii,pr,O⟩ next (FL,Fl,Ft) = FL∧accE ⟨kk,s,X,li,F,ii,pr,O⟩ next (FL,Fl,Ft) = ⟨1,⟨1,s,X,li,F,0,pr,O⟩,next,0,0,0,0⟩ :: Ft ++ [⟨5,zCm,next,0,Fl,0,0⟩]):=⟨by simp [accL,qA],by simp [accE,hFl,qA]⟩
       have x2:w9.cell? (J b 2) = some (H next):=(U HM9).cells 2 _ rfl
       go_wp2_with fail
       refine (bX ⟨5,zCm,next,0,Fl,0,0⟩ w9 (U HE9) hl22).mono ?_
       rintro e ph ⟨rfl,hE10,hk10,ht10⟩
       have HEA:=Y hE10
       have HMA:Hid (MatS b ty.heap.size ph (next + 1) vqm FL ⟨next,s,tk pr,Fl,li,O⟩ (.slice av Ft.length cv) Ft):=matS_told (U HM9) ht10 (U HE9).erow hmS hSb (fun g hg e=>by have:=U HVT g hg; have:=((U HE9).erow.lt g e).1; omega)
       have HKA:=Y (zi (U HKw9) hk10)
       clear hE10 hk10 ht10 x2
       go_wp2_with fail
       refine U xu _ _ ?_
       clear xu
       have zf0:ph.cell? (J b 0) = some (H (next + 1)):=(U HMA).cells 0 _ rfl
       obtain ⟨aF,cF,hF⟩:=zR (U HMA).orow
       have zf1:ph.cell? (J b 1) = some (.slice aF (FL).length cF):=by rw [← hF]; exact (U HMA).cells 1 _ rfl
       obtain ⟨voF,kJ⟩:=U HEA
       have zm1:ph.cell? (J mb 1) = some (H next):=kJ.cells 1 _ rfl
       have zm2:ph.cell? (J mb 2) = some (.slice a l.length A):=kJ.cells 2 _ rfl
       have fm1:ph.frozen? (J mb 1) = false:=(kJ.there 1 (by omega)).2
       have fm2:ph.frozen? (J mb 2) = false:=(kJ.there 2 (by omega)).2
       have pX:=Y (ens_book kJ (next + 1) (zF (hF ▸ (U HMA).orow) hBS))
       have pY:Hid (KeptBut mb B w _):=zi (U HKA) (zi (cA ph 1 (H (next + 1))) (cA _ 2 (.slice aF (FL).length cF)))
       generalize (FL).length = nF at pX pY zf1
       clear kJ
       go_wp2_with fail
       go_end0
       exact ⟨rfl,⟨_,_,voF,by rw [(U HAL).1,(U HAL).2]; exact U pX⟩,U pY⟩
      ·have HAL:Hid (accL ⟨kk,s,X,li,F,ii,pr,O⟩ next (FL,Fl,Ft) = FL ++ [(⟨next,s,tk pr,Fl,li,O⟩:Od)]∧accE ⟨kk,s,X,li,F,ii,pr,O⟩ next (FL,Fl,Ft) = ⟨1,⟨1,s,X,li,F,0,pr,O⟩,next,0,0,0,0⟩ :: Ft ++ [⟨4,zCm,next,0,Fl,0,0⟩]):=⟨by simp [accL,qA,hFl],by simp [accE,hFl,qA]⟩
       go_wp2_with fail
       refine (rest_took b ty.heap.size (next + 1) vqm FL ⟨next,s,tk pr,Fl,li,O⟩ _ Ft w9 (U HM9) (by have:=(U oU).1.len; omega)).mono ?_
       rintro e ph ⟨vqr,rfl,hMr,ob⟩
       have HE10:=Y (ens_far (U HE9) (U HM9) ob (U hq6) hmS hSb)
       have HMr:=Y hMr
       have HKw10:Hid (KeptBut mb B w ph):=zi (U HKw9) ⟨ob.os,ob.tape,ob.output,ob.size,fun k hk _=>ob.block k (by have:=(U HM9).le; omega) (by omega) (fun e=>by have:=((U HM9).orow.lt k e.symm).1; omega)⟩
       have x2:ph.cell? (J b 2) = some (H next):=hMr.cells 2 _ rfl
       clear hMr ob HE9 HM9
       go_wp2_with fail
       refine (bX ⟨4,zCm,next,0,Fl,0,0⟩ ph (U HE10) hl22).mono ?_
       rintro e w11 ⟨rfl,hE11,hk11,ht11⟩
       have HEA:=Y hE11
       have HMA:Hid (MatS b ty.heap.size w11 (next + 1) vqr (FL ++ [(⟨next,s,tk pr,Fl,li,O⟩:Od)]) ⟨next,s,tk pr,Fl,li,O⟩ (.slice av Ft.length cv) Ft):=matS_told (U HMr) ht11 (U HE10).erow hmS hSb (fun g hg e=>by have:=U HVT g hg; have:=((U HE10).erow.lt g e).1; omega)
       have HKA:=Y (zi (U HKw10) hk11)
       clear hE11 hk11 ht11 x2
       go_wp2_with fail
       refine U xu _ _ ?_
       clear xu
       have zf0:w11.cell? (J b 0) = some (H (next + 1)):=(U HMA).cells 0 _ rfl
       obtain ⟨aF,cF,hF⟩:=zR (U HMA).orow
       have zf1:w11.cell? (J b 1) = some (.slice aF (FL ++ [(⟨next,s,tk pr,Fl,li,O⟩:Od)]).length cF):=by rw [← hF]; exact (U HMA).cells 1 _ rfl
       obtain ⟨voF,kJ⟩:=U HEA
       have zm1:w11.cell? (J mb 1) = some (H next):=kJ.cells 1 _ rfl
       have zm2:w11.cell? (J mb 2) = some (.slice a l.length A):=kJ.cells 2 _ rfl
       have fm1:w11.frozen? (J mb 1) = false:=(kJ.there 1 (by omega)).2
       have fm2:w11.frozen? (J mb 2) = false:=(kJ.there 2 (by omega)).2
       have pX:=Y (ens_book kJ (next + 1) (zF (hF ▸ (U HMA).orow) hBS))
       have pY:Hid (KeptBut mb B w _):=zi (U HKA) (zi (cA w11 1 (H (next + 1))) (cA _ 2 (.slice aF (FL ++ [(⟨next,s,tk pr,Fl,li,O⟩:Od)]).length cF)))
       generalize (FL ++ [(⟨next,s,tk pr,Fl,li,O⟩:Od)]).length = nF at pX pY zf1
       clear kJ
       go_wp2_with fail
       go_end0
       exact ⟨rfl,⟨_,_,voF,by rw [(U HAL).1,(U HAL).2]; exact U pX⟩,U pY⟩
     ·have HAL:Hid (accL ⟨kk,s,X,li,F,ii,pr,O⟩ next (FL,Fl,Ft) = FL∧accE ⟨kk,s,X,li,F,ii,pr,O⟩ next (FL,Fl,Ft) = ⟨1,⟨1,s,X,li,F,0,pr,O⟩,next,0,0,0,0⟩ :: Ft):=⟨by simp [accL,hFl],by simp [accE,hFl]⟩
      go_wp2_with fail
      refine U xu _ _ ?_
      clear xu
      have zf0:wr.cell? (J b 0) = some (H (next + 1)):=(U af).cells 0 _ rfl
      obtain ⟨aF,cF,hF⟩:=zR (U af).orow
      have zf1:wr.cell? (J b 1) = some (.slice aF (FL).length cF):=by rw [← hF]; exact (U af).cells 1 _ rfl
      obtain ⟨voF,kJ⟩:=U HE8
      have zm1:wr.cell? (J mb 1) = some (H next):=kJ.cells 1 _ rfl
      have zm2:wr.cell? (J mb 2) = some (.slice a l.length A):=kJ.cells 2 _ rfl
      have fm1:wr.frozen? (J mb 1) = false:=(kJ.there 1 (by omega)).2
      have fm2:wr.frozen? (J mb 2) = false:=(kJ.there 2 (by omega)).2
      have pX:=Y (ens_book kJ (next + 1) (zF (hF ▸ (U af).orow) hBS))
      have pY:Hid (KeptBut mb B w _):=zi (U HKw8) (zi (cA wr 1 (H (next + 1))) (cA _ 2 (.slice aF (FL).length cF)))
      generalize (FL).length = nF at pX pY zf1
      clear kJ
      go_wp2_with fail
      go_end0
      exact ⟨rfl,⟨_,_,voF,by rw [(U HAL).1,(U HAL).2]; exact U pX⟩,U pY⟩
end Go.Proofs.YtdliebbfcmdmaaaGreat
