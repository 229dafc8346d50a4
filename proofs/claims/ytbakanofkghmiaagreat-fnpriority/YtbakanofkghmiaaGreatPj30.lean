/-
  A new order accepted by the engine: proved by walking the method.
-/
import Derived.Test.YtbakanofkghmiaaGreatPj29
set_option linter.unusedVariables false
set_option maxHeartbeats 6400000
set_option maxRecDepth 100000
namespace Go.Proofs.YtbakanofkghmiaaGreat
open Go.RowKit
def accL (c:Cm) (next:Int) (xh:List Od × Int × List Ev):List Od:=if 0 < xh.2.1∧ay c.t = true then xh.1 ++ [⟨next,c.s,tk c.p,xh.2.1,c.l,c.g⟩] else xh.1
def accE (c:Cm) (next:Int) (xh:List Od × Int × List Ev):List Ev:=⟨1,⟨1,c.s,c.t,c.l,c.q,0,c.p,c.g⟩,next,0,0,0,0⟩ :: xh.2.2 ++ (if 0 < xh.2.1 then [⟨if ay c.t = true then 4 else 5,zCm,next,0,xh.2.1,0,0⟩] else [])
theorem zA {B C e sz n:Nat} {v:Value} {xs:List Value} {W:World} (h:W.ownsRow B e sz v n xs) (hC:C ≤ B):W.ownsRow C e sz v n xs:=by
 refine ⟨h.1,?_⟩
 rcases h.2 with hn | ⟨g,F,xp,rfl,hg,rest⟩
 ·exact .inl hn
 ·exact .inr ⟨g,F,xp,rfl,yK hC hg,rest⟩
theorem ens_raise {N B Bo C:Nat} {W:World} {gv:Value} {gs:List Value} {gl:List (List Ev)} {next:Int} {vq:Value} {l:List Od} {t:Tot} (h:EnS N B Bo W gv gs gl next vq l t (.slice none 0 0) []) (z:Bo ≤ C) (K:C ≤ W.heap.size):EnS N B C W gv gs gl next vq l t (.slice none 0 0) [] :=
 ⟨h.cells,h.there,h.grow,h.glen,h.geach,⟨fun g hg b hb=>yG (h.glt.1 g hg b hb) z,h.glt.2⟩,h.orow,World.ownsRow_nil _ _ _ _,h.box,yK h.bo z,K⟩
theorem ens_next {N B Bo:Nat} {W:World} {gv:Value} {gs:List Value} {gl:List (List Ev)} {next:Int} {vq:Value} {l:List Od} {t:Tot} {vo:Value} {ts:List Ev} (h:EnS N B Bo W gv gs gl next vq l t vo ts) (m:Int):EnS N B Bo (W.setCell (J N 1) (H m)) gv gs gl m vq l t vo ts:=by
 refine ⟨?_,bj h.there,zw h.grow (zo h.grow h.box (by decide)) _ _,h.glen,fun i g es hg jX=>zw (h.geach i g es hg jX) (zo (h.geach i g es hg jX) h.box (by decide)) _ _,h.glt,zw h.orow (zo h.orow h.box (by decide)) _ _,zw h.erow (zo h.erow h.box (by decide)) _ _,?_,h.bo,by simp only [World.setCell,Array.size_modify]; exact h.le⟩
 ·have:=range_set (j:=1) (u:=H m) h.cells (by simp)
  exact this
 ·obtain ⟨xp,hc⟩:=h.box
  exact zY W N 1 _ hc
theorem matL_few {c:Cm} {id:Int}:∀ (n:Nat) (l:List Od) (left:Int) (ts:List Ev),(matL c id n l left ts).2.2.length ≤ ts.length + n
 | 0,_,_,_=>Nat.le_refl _
 | n + 1,l,left,ts=>by
  rw [matL]
  split
  ·split
   ·simp
   ·split
    ·refine yK (matL_few n _ _ _) ?_
     rw [yM]; simp; omega
    ·simp
  ·simp
theorem matS_kept {N b S:Nat} {W W':World} {next:Int} {vq vt:Value} {l:List Od} {t:Od} {ts:List Ev} (h:MatS b S W next vq l t vt ts) (hk:KeptBut N W.heap.size W W') (hm:N < S) (hb:S ≤ b):MatS b S W' next vq l t vt ts:=by
 have jp:=hk.block b h.lt (by omega)
 refine ⟨fun j u L=>(yN (a:=(J b (0 + j))) jp).trans (h.cells j u L),fun j L=>⟨?_,?_⟩,cw h.orow hk hm,cw h.erow hk hm,?_,yK h.le hk.size⟩
 ·rw [yN (a:=(J b (0 + j))) jp]; exact (h.there j L).1
 ·rw [World.frozen?_of_block (a:=(J b (0 + j))) jp]; exact (h.there j L).2
 ·obtain ⟨xp,hc⟩:=h.box
  exact ⟨xp,jp.trans hc⟩
theorem kept_less {N B C:Nat} {w w':World} (h:KeptBut N C w w') (hB:B ≤ C):KeptBut N B w w':=⟨h.os,h.tape,h.output,h.size,fun k hk hm=>h.block k (by omega) hm⟩
theorem ens_far {N B Bo b S:Nat} {W W':World} {gv:Value} {gs:List Value} {gl:List (List Ev)} {next n2:Int} {vq:Value} {l:List Od} {t:Tot} {vo:Value} {ts:List Ev} {vm vt:Value} {lm:List Od} {tm:Od} {tt:List Ev} (h:EnS N B Bo W gv gs gl next vq l t vo ts) (hM:MatS b S W n2 vm lm tm vt tt) (ht:TookAt b 0 vm.ownBlock W W') (hq:∀ g,vq.ownBlock = some g→g < S) (hm:N < S) (hb:S ≤ b):EnS N B Bo W' gv gs gl next vq l t vo ts:=by
 have jp:W'.heap[N]? = W.heap[N]?:=ht.block N h.lt (by omega) (zo hM.orow h.box (by decide))
 refine ⟨fun j u L=>(yN (a:=(J N (0 + j))) jp).trans (h.cells j u L),fun j L=>⟨?_,?_⟩,aR h.grow ht (zo h.grow hM.box (by decide)) (zD h.grow hM.orow (by decide)),h.glen,fun i g es hg jX=>aR (h.geach i g es hg jX) ht (zo (h.geach i g es hg jX) hM.box (by decide)) (zD (h.geach i g es hg jX) hM.orow (by decide)),h.glt,aR h.orow ht (zo h.orow hM.box (by decide)) ?_,aR h.erow ht (zo h.erow hM.box (by decide)) (zD h.erow hM.orow (by decide)),?_,h.bo,yK h.le ht.size⟩
 ·rw [yN (a:=(J N (0 + j))) jp]; exact (h.there j L).1
 ·rw [World.frozen?_of_block (a:=(J N (0 + j))) jp]; exact (h.there j L).2
 ·cases e:vq.ownBlock with
  | none=>exact .inl rfl
  | some g=>exact .inr fun e'=>by have:=hq g e; have:=(hM.orow.lt g e'.symm).1; omega
 ·obtain ⟨xp,hc⟩:=h.box
  exact ⟨xp,jp.trans hc⟩
theorem zO {B e sz n:Nat} {v:Value} {xs:List Value} {W:World} (h:W.ownsRow B e sz v n xs):∃ a c,v = .slice a n c:=by
 rcases h.2 with ⟨e,e2⟩ | ⟨g,F,xp,e,_⟩
 ·exact ⟨none,0,by rw [e,e2]⟩
 ·exact ⟨_,_,e⟩
theorem matS_told {N b S Bo:Nat} {W W':World} {next:Int} {vq vt vo:Value} {l:List Od} {t:Od} {ts es:List Ev} (h:MatS b S W next vq l t vt ts) (ht:TookAt N 10 vo.ownBlock W W') (Y:ERow W Bo vo es) (hm:N < S) (hb:S ≤ b) (hvt:∀ g,vt.ownBlock = some g→vo.ownBlock ≠ some g):MatS b S W' next vq l t vt ts:=by
 have jp:W'.heap[b]? = W.heap[b]?:=ht.block b h.lt (by omega) (zo Y h.box (by decide))
 refine ⟨fun j u L=>(yN (a:=(J b (0 + j))) jp).trans (h.cells j u L),fun j L=>⟨?_,?_⟩,aR h.orow ht (fun e=>by have:=(h.orow.lt N e.symm).1; omega) (zD h.orow Y (by decide)),aR h.erow ht (fun e=>by have:=(h.erow.lt N e.symm).1; omega) ?_,?_,yK h.le ht.size⟩
 ·rw [yN (a:=(J b (0 + j))) jp]; exact (h.there j L).1
 ·rw [World.frozen?_of_block (a:=(J b (0 + j))) jp]; exact (h.there j L).2
 ·cases e:vt.ownBlock with
  | none=>exact .inl rfl
  | some g=>exact .inr fun e'=>hvt g e e'.symm
 ·obtain ⟨xp,hc⟩:=h.box
  exact ⟨xp,jp.trans hc⟩
theorem ens_book {N B Bo:Nat} {W:World} {gv:Value} {gs:List Value} {gl:List (List Ev)} {next:Int} {vq uV:Value} {l l':List Od} {t:Tot} {vo:Value} {ts:List Ev} (h:EnS N B Bo W gv gs gl next vq l t vo ts) (m:Int) (Y:ORow W B uV l'):EnS N B Bo ((W.setCell (J N 1) (H m)).setCell (J N 2) uV) gv gs gl m uV l' t vo ts:=by
 have z:=ens_next h m
 have hn:some N ≠ uV.ownBlock:=zo Y h.box (by decide)
 have vV:=zw Y hn 1 (H m)
 have ho2:=zw vV hn 2 uV
 exact ens_took z (yJ _ _ _ (z.cells 2 _ rfl)) ho2 (df (o:=1) _ _)
def CAx1 (N S n F:Nat) (a:Option Addr) (next s ty li X tk0 Fl:Int) (pr:Nat) (O:ByteArray) (FL:List Od) (Ft:List Ev) (W:World):Nat→Value→Prop
 | 0,v=>v = I N 0
 | 1,v=>v = I N 0
 | 2,v=>v = I N 0
 | 3,v=>v = I N 1
 | 4,v=>v = .agg #[H next,.slice a n F]
 | 5,v=>v = .agg #[H s,H ty,H li,H X,yh pr,yi O]
 | 6,v=>∃ aq cq av cv,v = .agg #[H (next + 1),.slice aq FL.length cq,H next,H s,H tk0,H Fl,H li,yi O,.slice av Ft.length cv]∧ORow W S (.slice aq FL.length cq) FL∧ERow W S (.slice av Ft.length cv) Ft
 | 7,v=>∃ b,v = I b 0∧S ≤ b∧b < W.heap.size∧W.there b 0 9∧∃ xp,W.heap[b]? = some (.cells xp 157 (0,0))
 | _,_=>True
theorem ca1_mono {N S n F:Nat} {a:Option Addr} {next s ty li X tk0 Fl:Int} {pr:Nat} {O:ByteArray} {FL:List Od} {Ft:List Ev}:∀ W W' j v,yl W W'→CAx1 N S n F a next s ty li X tk0 Fl pr O FL Ft W j v→CAx1 N S n F a next s ty li X tk0 Fl pr O FL Ft W' j v:=by
 intro W W' j v hb h
 match j with
 | 0 | 1 | 2 | 3 | 4 | 5=>exact h
 | 6=>obtain ⟨aq,cq,av,cv,z,K,h3⟩:=h; exact ⟨aq,cq,av,cv,z,zj K hb,zK h3 hb⟩
 | 7=>obtain ⟨b,z,K,h3,h4,xp,h5⟩:=h; exact ⟨b,z,K,yG h3 hb.size,zf h4 hb h3,xp,(hb.block b h3).trans h5⟩
 | j + 8=>trivial
def CQ1 (qt:World) (next s tk0 Fl li:Int) (O:ByteArray) (FL:List Od) (Ft:List Ev) (f:Nat→Value) (W:World):Prop:=∃ b vq vt,f 7 = I b 0∧qt.heap.size ≤ b∧MatS b qt.heap.size W (next + 1) vq FL ⟨next,s,tk0,Fl,li,O⟩ vt Ft∧yl qt W
def CA2 (N b:Nat) (next s ty li X:Int) (pr:Nat) (O:ByteArray) (W:World):Nat→Value→Prop
 | 0,v=>v = I N 0
 | 1,v=>v = .agg #[H s,H ty,H li,H X,yh pr,yi O]
 | 2,v=>v = .agg (yu 1 s ty li X 0 pr O).toArray
 | 3,v=>v = I b 2
 | 4,v=>v = I b 2
 | 5,v=>v = H next
 | 6,v=>v = .agg (ys 1 1 s ty li X 0 pr O next 0 0 0 0).toArray
 | _,_=>True
theorem ca2_mono {N b:Nat} {next s ty li X:Int} {pr:Nat} {O:ByteArray}:∀ W W' j v,yl W W'→CA2 N b next s ty li X pr O W j v→CA2 N b next s ty li X pr O W' j v:=by
 intro W W' j v hb h
 match j with
 | 0 | 1 | 2 | 3 | 4 | 5 | 6=>exact h
 | j + 7=>trivial
theorem acceptE_any {N B Bo:Nat} {gv:Value} {gs:List Value} {gl:List (List Ev)} {next:Int} {vq:Value} {l:List Od} {t:Tot} (c:Cm) (w:World) (h:EnS N B Bo w gv gs gl next vq l t (.slice none 0 0) []) (hg:GoodL l) (h0:0 ≤ next) (z:next ≤ 1000000) (je:0 ≤ c.q) (qy:c.q ≤ 1000000) :
  Calls Tryz.prog 67 #[I N 0,noV c] w fun r w'=>r = yk (.tuple #[])∧(∃ Bo' uV qh,EnS N B Bo' w' gv gs gl (next + 1) uV (accL c next (matL c next 21 l c.q [])) t qh (accE c next (matL c next 21 l c.q [])))∧KeptBut N B w w':=by
 have qr:=h.lt
 have oL:B ≤ w.heap.size:=yK h.bo h.le
 have vG:=hg.len
 obtain ⟨a,F,rfl,vy,hc⟩:=zT h.orow (by omega)
 have HRD0:=Q (zT h.orow (by omega))
 have HOR:=Q h.orow
 have oG:=Q (cM (c:=c) (id:=next) 21 l c.q [] hg je qy)
 have HMF:=Q (matL_few (c:=c) (id:=next) 21 l c.q [])
 obtain ⟨kk,s,ty,li,X,ii,pr,O⟩:=c
 have uW:Hid (SlOk (.slice a l.length F)):=cD h.orow
 have HCA:Hid (∀ W:World,RdR Od.vs 6 W (.slice a l.length F) l→Calls Tryz.prog 112 #[.agg #[H next,.slice a l.length F],.agg #[H s,H ty,H li,H X,yh pr,yi O]] W _):=fun W hW=>match_any next _ l ⟨kk,s,ty,li,X,ii,pr,O⟩ W hW (M uW) hg h0 z je qy
 have HTO:Hid (∀ W:World,Calls Tryz.prog 113 #[.agg #[H s,H ty,H li,H X,yh pr,yi O]] W _):=fun W=>toldNew_any ⟨kk,s,ty,li,X,ii,pr,O⟩ W
 have HRS:Hid (∀ W:World,Calls Tryz.prog 114 #[.agg #[H s,H ty,H li,H X,yh pr,yi O]] W _):=fun W=>dS ⟨kk,s,ty,li,X,ii,pr,O⟩ W
 generalize hmat:matL ⟨kk,s,ty,li,X,ii,pr,O⟩ next 21 l X [] = xh at oG HCA HMF ⊢
 obtain ⟨FL,Fl,Ft⟩:=xh
 unfold noV
 simp only at HCA oG HTO HRS HMF ⊢
 have xR:=eD w (E #[H s,H ty,H li,H X,yh pr,yi O] 112)
 have HE:=Q (zS h xR)
 have xT:=Q xR
 have xz:w.heap.size < (w.alloc (E #[H s,H ty,H li,H X,yh pr,yi O] 112)).heap.size:=by rw [ze]; omega
 have qR:Hid (World.rangeAt (w.alloc (E #[H s,H ty,H li,H X,yh pr,yi O] 112)) w.heap.size 0 [H s,H ty,H li,H X,yh pr,yi O]):=zg w [H s,H ty,H li,H X,yh pr,yi O] _
 have qC:=Q (zh (M HRD0) xR tg)
 have ur:Hid (0 ≤ next∧next ≤ 1000000):=⟨h0,z⟩
 clear h xR hc vy hg h0 z je qy hmat HRD0
 go_enter Tryz.func67,Tryz.ntmps67
 refine eH fun h2 xu=>?_
 go_wp2_with fail
 refine M xu _ _ ?_
 clear xu
 generalize (w.alloc (E #[H s,H ty,H li,H X,yh pr,yi O] 112)) = qt at HE xT xz qR qC ⊢
 have qa:Hid (qt.cell? (J N 1) = some (H next)):=(M HE).cells 1 _ rfl
 have vv:Hid (qt.cell? (J N 2) = some (.slice a l.length F)):=(M HE).cells 2 _ rfl
 refine eH fun h2 xu=>?_
 refine zi (RYA (fun f=>{ tmps:=#[I N 0,.agg #[H s,H ty,H li,H X,yh pr,yi O],Z,ym w 0,f 7,Z,Z,Z,Z,f 0,f 1,f 2,f 3,f 4,f 5,f 6,Z,Z,Z,Z,Z,Z,Z,Z,Z,Z,Z,Z,Z,Z,Z,Z,Z,Z,Z,Z,Z,Z,Z,Z,Z,Z,Z,Z,Z,Z,Z,Z,Z,Z,Z,Z,Z,Z,Z,Z,Z],defers:=[] }) (CAx1 N qt.heap.size l.length F a next s ty li X (tk pr) Fl pr O FL Ft) 8 (CQ1 qt next s (tk pr) Fl li O FL Ft) qt) (by kernel_rfl) ?_ ?_ ?_
 ·exact ⟨fun _=>Z,rfl,ry_start (by decide)⟩
 rotate_left
 ·rintro x hR V i op ⟨f,rfl,A⟩ xk hx Y xq D
  have xv:=Q A
  have xj:x[8]? = some false→∀ (p:Addr) u,qt.cell? p = some u→V.cell? p = some u:=fun hn p u hu=>((A.b hn).cell (yH qt _ hu)).trans hu
  match i,Y with
  | 0,Y =>
   obtain rfl:=hD Y
   have hn:x[8]? = some false:=zB xk 12 0 8 (by kernel_rfl) hx (by simp) xq
   clear D A xk
   rw [if_pos (by rfl)];unfold Oper.wp;go_simp
   exact ⟨upd f 0 (I N 0),by simp [upd],az (M xv) 0 _ hn (by decide) rfl⟩
  | 1,Y =>
   obtain rfl:=hD Y
   have hn:x[8]? = some false:=zB xk 12 1 8 (by kernel_rfl) hx (by simp) xq
   have g0:f 0 = I N 0:=A.c hn 0 (yc D 0 rfl)
   clear D A xk
   rw [if_pos (by rfl)];unfold Oper.wp;go_simp
   exact ⟨upd f 1 (I N 0),by simp [upd,g0],az (M xv) 1 _ hn (by decide) rfl⟩
  | 2,Y =>
   obtain rfl:=hD Y
   have hn:x[8]? = some false:=zB xk 12 2 8 (by kernel_rfl) hx (by simp) xq
   have g1:f 1 = I N 0:=A.c hn 1 (yc D 1 rfl)
   clear D A xk
   rw [if_pos (by rfl)];unfold Oper.wp;go_simp
   exact ⟨upd f 2 (I N 0),by simp [upd,g1],az (M xv) 2 _ hn (by decide) rfl⟩
  | 3,Y =>
   obtain rfl:=hD Y
   have hn:x[8]? = some false:=zB xk 12 3 8 (by kernel_rfl) hx (by simp) xq
   have g2:f 2 = I N 0:=A.c hn 2 (yc D 2 rfl)
   clear D A xk
   rw [if_pos (by rfl)];unfold Oper.wp;go_simp
   exact ⟨upd f 3 (I N 1),by simp [upd,g2],az (M xv) 3 _ hn (by decide) rfl⟩
  | 4,Y =>
   obtain rfl:=hD Y
   have hn:x[8]? = some false:=zB xk 12 4 8 (by kernel_rfl) hx (by simp) xq
   have g3:f 3 = I N 1:=A.c hn 3 (yc D 3 rfl)
   have z1:=xj hn (J N 1) _ (M qa)
   have z2:=xj hn (J N 2) _ (M vv)
   clear D A xk
   rw [if_pos (by rfl)];unfold Oper.wp;go_simp
   exact ⟨upd f 4 (.agg #[H next,.slice a l.length F]),by simp [upd,g3],az (M xv) 4 _ hn (by decide) rfl⟩
  | 5,Y =>
   obtain rfl:=hD Y
   have hn:x[8]? = some false:=zB xk 12 5 8 (by kernel_rfl) hx (by simp) xq
   have y0:=xj hn (yn w 0) _ (M qR 0 _ rfl)
   have y1:=xj hn (yn w 1) _ (M qR 1 _ rfl)
   have y2:=xj hn (yn w 2) _ (M qR 2 _ rfl)
   have y3:=xj hn (yn w 3) _ (M qR 3 _ rfl)
   have y4:=xj hn (yn w 4) _ (M qR 4 _ rfl)
   have y5:=xj hn (yn w 5) _ (M qR 5 _ rfl)
   clear D A xk
   rw [if_pos (by rfl)];unfold Oper.wp;go_simp
   exact ⟨upd f 5 (.agg #[H s,H ty,H li,H X,yh pr,yi O]),by simp [upd],az (M xv) 5 _ hn (by decide) rfl⟩
  | 6,Y =>
   obtain rfl:=hD Y
   have hn:x[8]? = some false:=zB xk 12 6 8 (by kernel_rfl) hx (by simp) xq
   have g4:f 4 = .agg #[H next,.slice a l.length F]:=A.c hn 4 (yc D 4 rfl)
   have g5:f 5 = .agg #[H s,H ty,H li,H X,yh pr,yi O]:=A.c hn 5 (yc D 5 rfl)
   have oJ:=Q (zh (M qC) (A.b hn) tg)
   have qO:=(A.b hn).size
   clear D A xk
   rw [if_pos (by rfl)];unfold Oper.wp;go_simp
   refine (M HCA V (M oJ)).mono ?_
   rintro e w4 ⟨vq4,vt4,rfl,hoq,het,xy⟩
   obtain ⟨av,cv,rfl⟩:∃ a c,vt4 = .slice a Ft.length c:=by
    rcases het.2 with ⟨e,e2⟩ | ⟨g,F,xp,e,_⟩
    ·exact ⟨none,0,by rw [e,e2]⟩
    ·exact ⟨_,_,e⟩
   obtain ⟨aq,cq,rfl⟩:∃ a c,vq4 = .slice a FL.length c:=by
    rcases hoq.2 with ⟨e,e2⟩ | ⟨g,F,xp,e,_⟩
    ·exact ⟨none,0,by rw [e,e2]⟩
    ·exact ⟨_,_,e⟩
   exact ⟨upd f 6 (.agg #[H (next + 1),.slice aq FL.length cq,H next,H s,H (tk pr),H Fl,H li,yi O,.slice av Ft.length cv]),by simp [upd,g4,g5],az (ry_grow ca1_mono (M xv) hn xy) 6 _ hn (by decide) ⟨aq,cq,av,cv,rfl,zA hoq qO,zA het qO⟩⟩
  | 7,Y =>
   obtain rfl:=hD Y
   have hn:x[8]? = some false:=zB xk 12 7 8 (by kernel_rfl) hx (by simp) xq
   have qO:=(A.b hn).size
   clear D A xk
   rw [if_pos (by rfl)];unfold Oper.wp;go_simp
   exact ⟨upd f 7 (ym V 0),by simp [upd],az (ry_grow ca1_mono (M xv) hn (eD _ _)) 7 _ hn (by decide) ⟨V.heap.size,rfl,qO,by rw [ze]; omega,zH V [H 0,.slice none 0 0,H 0,H 0,H 0,H 0,H 0,yi ⟨#[]⟩,.slice none 0 0] _,_,heap_alloc_new V _⟩⟩
  | 8,Y =>
   obtain rfl:=hD Y
   have hn:x[8]? = some false:=xq
   obtain ⟨aq,cq,av,cv,g6,hoq,het⟩:=A.c hn 6 (yc D 6 rfl)
   obtain ⟨b,g7,oM,xZ,xG,kG⟩:=A.c hn 7 (yc D 7 rfl)
   have HQ:Hid (CQ1 qt next s (tk pr) Fl li O FL Ft f (V.setCells b 0 [H (next + 1),.slice aq FL.length cq,H next,H s,H (tk pr),H Fl,H li,yi O,.slice av Ft.length cv])):=⟨b,_,_,g7,oM,matS_put (t:=⟨next,s,tk pr,Fl,li,O⟩) xG kG hoq het (A.b hn).size,zu b oM _ _ _ (A.b hn)⟩
   obtain ⟨y0,z0,q0⟩:=zd xG (j:=0) (by omega)
   obtain ⟨y1,z1,q1⟩:=zd xG (j:=1) (by omega)
   obtain ⟨y2,z2,q2⟩:=zd xG (j:=2) (by omega)
   obtain ⟨y3,z3,q3⟩:=zd xG (j:=3) (by omega)
   obtain ⟨y4,z4,q4⟩:=zd xG (j:=4) (by omega)
   obtain ⟨y5,z5,q5⟩:=zd xG (j:=5) (by omega)
   obtain ⟨y6,z6,q6⟩:=zd xG (j:=6) (by omega)
   obtain ⟨y7,z7,q7⟩:=zd xG (j:=7) (by omega)
   obtain ⟨y8,z8,q8⟩:=zd xG (j:=8) (by omega)
   clear D A xk xG hoq het kG
   rw [if_pos (by rfl)];unfold Oper.wp;go_simp
   exact ⟨f,by simp [g6,g7],ry_writeN (M xv) hn (M HQ)⟩
  | n + 9,Y=>simp at Y
 ·rintro x hR V ⟨f,rfl,A⟩ hx xK
  have xm:=zL xK hx (by kernel_rfl)
  obtain ⟨b,vqm,vtm,e7,oM,hMS,hBX⟩:=A.m (xm 8 (by simp))
  refine M xu _ _ ?_
  clear xu
  simp only [e7]
  generalize f 0 = v0,f 1 = v1,f 2 = v2,f 3 = v3,f 4 = v4,f 5 = v5,f 6 = v6
  have kP:=Q hMS
  have uE:=Q hBX
  clear A xm xK hx hMS hBX e7 qC qa vv HCA
  have hSV:qt.heap.size ≤ V.heap.size:=(M uE).size
  have vZ:=Q (ens_raise (zS (M HE) ((M uE))) (yK (M HE).le hSV) tg)
  have HN6:=Q (zb (M qR) (M uE) xz)
  have HMC:=Q (M kP).cells
  have xZ:=(M kP).lt
  have pR:Hid (KeptBut N B w V):=zk (zC (M xT) oL) (zC (M uE) (by omega))
  clear HE qR
  generalize V = W6 at kP vZ HN6 HMC xZ pR hSV uE ⊢
  refine eH fun h2 xu=>?_
  refine zi (RYA (fun f=>{ tmps:=#[I N 0,.agg #[H s,H ty,H li,H X,yh pr,yi O],Z,ym w 0,I b 0,Z,Z,Z,Z,v0,v1,v2,v3,v4,v5,v6,f 0,f 1,f 2,f 3,f 4,f 5,f 6,f 7,Z,Z,Z,Z,Z,Z,Z,Z,Z,Z,Z,Z,Z,Z,Z,Z,Z,Z,Z,Z,Z,Z,Z,Z,Z,Z,Z,Z,Z,Z,Z,Z,Z],defers:=[] }) (CA2 N b next s ty li X pr O) 7 (fun f W=>(∃ qh,EnS N B W6.heap.size W gv gs gl next (.slice a l.length F) l t qh [⟨1,⟨1,s,ty,li,X,0,pr,O⟩,next,0,0,0,0⟩])∧KeptBut N W6.heap.size W6 W) W6) (by kernel_rfl) ?_ ?_ ?_
  ·exact ⟨fun _=>Z,rfl,ry_start (by decide)⟩
  rotate_left
  ·rintro x hR V2 i op ⟨f,rfl,A⟩ xk hx Y xq D
   have xv:=Q A
   have xj:x[7]? = some false→∀ (p:Addr) u,W6.cell? p = some u→V2.cell? p = some u:=fun hn p u hu=>((A.b hn).cell (yH W6 _ hu)).trans hu
   match i,Y with
   | 0,Y =>
    obtain rfl:=hD Y
    have hn:x[7]? = some false:=zB xk 12 0 7 (by kernel_rfl) hx (by simp) xq
    clear D A xk
    rw [if_pos (by rfl)];unfold Oper.wp;go_simp
    exact ⟨upd f 0 (I N 0),by simp [upd],az (M xv) 0 _ hn (by decide) rfl⟩
   | 1,Y =>
    obtain rfl:=hD Y
    have hn:x[7]? = some false:=zB xk 12 1 7 (by kernel_rfl) hx (by simp) xq
    have y0:=xj hn (yn w 0) _ (M HN6 0 _ rfl)
    have y1:=xj hn (yn w 1) _ (M HN6 1 _ rfl)
    have y2:=xj hn (yn w 2) _ (M HN6 2 _ rfl)
    have y3:=xj hn (yn w 3) _ (M HN6 3 _ rfl)
    have y4:=xj hn (yn w 4) _ (M HN6 4 _ rfl)
    have y5:=xj hn (yn w 5) _ (M HN6 5 _ rfl)
    clear D A xk
    rw [if_pos (by rfl)];unfold Oper.wp;go_simp
    exact ⟨upd f 1 (.agg #[H s,H ty,H li,H X,yh pr,yi O]),by simp [upd],az (M xv) 1 _ hn (by decide) rfl⟩
   | 2,Y =>
    obtain rfl:=hD Y
    have hn:x[7]? = some false:=zB xk 12 2 7 (by kernel_rfl) hx (by simp) xq
    have g1:f 1 = .agg #[H s,H ty,H li,H X,yh pr,yi O]:=A.c hn 1 (yc D 1 rfl)
    clear D A xk
    rw [if_pos (by rfl)];unfold Oper.wp;go_simp
    refine (M HTO V2).mono ?_
    rintro e w4 ⟨rfl,xy⟩
    exact ⟨upd f 2 (.agg (yu 1 s ty li X 0 pr O).toArray),by simp [upd,g1],az (ry_grow ca2_mono (M xv) hn xy) 2 _ hn (by decide) rfl⟩
   | 3,Y =>
    obtain rfl:=hD Y
    have hn:x[7]? = some false:=zB xk 12 3 7 (by kernel_rfl) hx (by simp) xq
    clear D A xk
    rw [if_pos (by rfl)];unfold Oper.wp;go_simp
    exact ⟨upd f 3 (I b 2),by simp [upd],az (M xv) 3 _ hn (by decide) rfl⟩
   | 4,Y =>
    obtain rfl:=hD Y
    have hn:x[7]? = some false:=zB xk 12 4 7 (by kernel_rfl) hx (by simp) xq
    have g3:f 3 = I b 2:=A.c hn 3 (yc D 3 rfl)
    clear D A xk
    rw [if_pos (by rfl)];unfold Oper.wp;go_simp
    exact ⟨upd f 4 (I b 2),by simp [upd,g3],az (M xv) 4 _ hn (by decide) rfl⟩
   | 5,Y =>
    obtain rfl:=hD Y
    have hn:x[7]? = some false:=zB xk 12 5 7 (by kernel_rfl) hx (by simp) xq
    have g4:f 4 = I b 2:=A.c hn 4 (yc D 4 rfl)
    have z2:=xj hn (J b 2) _ (M HMC 2 _ rfl)
    clear D A xk
    rw [if_pos (by rfl)];unfold Oper.wp;go_simp
    exact ⟨upd f 5 (H next),by simp [upd,g4],az (M xv) 5 _ hn (by decide) rfl⟩
   | 6,Y =>
    obtain rfl:=hD Y
    have hn:x[7]? = some false:=zB xk 12 6 7 (by kernel_rfl) hx (by simp) xq
    have g2:f 2 = .agg (yu 1 s ty li X 0 pr O).toArray:=A.c hn 2 (yc D 2 rfl)
    have g5:f 5 = H next:=A.c hn 5 (yc D 5 rfl)
    clear D A xk
    rw [if_pos (by rfl)];unfold Oper.wp;go_simp
    exact ⟨upd f 6 (.agg (ys 1 1 s ty li X 0 pr O next 0 0 0 0).toArray),by simp [upd,g2,g5],az (M xv) 6 _ hn (by decide) rfl⟩
   | 7,Y =>
    obtain rfl:=hD Y
    have hn:x[7]? = some false:=xq
    have g0:f 0 = I N 0:=A.c hn 0 (yc D 0 rfl)
    have g6:f 6 = .agg (ys 1 1 s ty li X 0 pr O next 0 0 0 0).toArray:=A.c hn 6 (yc D 6 rfl)
    have qV:=Q (zS (M vZ) (A.b hn))
    have xZ:=A.b hn
    have HKV:Hid (KeptBut N W6.heap.size W6 V2):=zC xZ tg
    have qO:=xZ.size
    clear D A xk xZ
    rw [if_pos (by rfl)];unfold Oper.wp;go_simp
    refine (cB ⟨1,⟨1,s,ty,li,X,0,pr,O⟩,next,0,0,0,0⟩ V2 (M qV) (by simp)).mono ?_
    rintro e w5 ⟨rfl,⟨vo5,qq⟩,-,ht5⟩
    exact ⟨upd f 7 (.tuple #[]),by simp [upd,g0,g6],ry_write (M xv) hn _ ⟨⟨vo5,qq⟩,zk (M HKV) (cK ht5 qO (fun g hg=>by simp [Value.ownBlock] at hg))⟩⟩
   | n + 8,Y=>simp at Y
  ·rintro x hR V2 ⟨f,rfl,A⟩ hx xK
   have xm:=zL xK hx (by kernel_rfl)
   obtain ⟨hE7,hK7⟩:=A.m (xm 7 (by simp))
   refine M xu _ _ ?_
   clear xu
   dsimp only
   generalize f 0 = u0,f 1 = u1,f 2 = u2,f 3 = u3,f 4 = u4,f 5 = u5,f 6 = u6,f 7 = u7
   have ux:Hid ((∃ qh,EnS N B W6.heap.size V2 gv gs gl next (.slice a l.length F) l t qh (⟨1,⟨1,s,ty,li,X,0,pr,O⟩,next,0,0,0,0⟩ :: Ft.take 0))∧KeptBut N W6.heap.size W6 V2):=⟨by simpa using hE7,hK7⟩
   clear A xm xK hx hE7 hK7 vZ
   obtain ⟨av,cv,hvt⟩:=zO (M kP).erow
   subst hvt
   have hmS:N < qt.heap.size:=yG qr (M xT).size
   have hBS:B ≤ qt.heap.size:=by omega
   have HMK:Hid (∀ wr:World,KeptBut N W6.heap.size W6 wr→MatS b qt.heap.size wr (next + 1) vqm FL ⟨next,s,tk pr,Fl,li,O⟩ (.slice av Ft.length cv) Ft):=fun wr hk=>matS_kept (M kP) hk hmS oM
   have HNK:Hid (∀ wr:World,KeptBut N W6.heap.size W6 wr→wr.rangeAt w.heap.size 0 [H s,H ty,H li,H X,yh pr,yi O]):=fun wr hk=>kb_range hk (M HN6) (by omega)
   have hF20:Ft.length ≤ 21:=by simpa using M HMF
   have hq6:Hid (∀ g,(Value.slice a l.length F).ownBlock = some g→g < qt.heap.size):=fun g hg=>yG ((M HOR).lt g hg).2 (M xT).size
   have HVT:Hid (∀ g,(Value.slice av Ft.length cv).ownBlock = some g→g < W6.heap.size):=fun g hg=>((M kP).erow.lt g hg).2
   clear kP HN6 HMC HMF HOR uE
   have z8:V2.cell? (J b 8) = some (.slice av Ft.length cv):=(M HMK V2 (M ux).2).cells 8 _ rfl
   refine eH fun h2 xu=>?_
   go_wp2_with fail
   clear z8
   go_loopw [27] (fun iv wr=>∃ (k:Nat),k ≤ Ft.length∧iv = H k∧Hid ((∃ qh,EnS N B W6.heap.size wr gv gs gl next (.slice a l.length F) l t qh (⟨1,⟨1,s,ty,li,X,0,pr,O⟩,next,0,0,0,0⟩ :: Ft.take k))∧KeptBut N W6.heap.size W6 wr)) (fun iv _=>Ft.length - (intOf iv).toNat)
   case atStart=>exact ⟨0,Nat.zero_le _,rfl,M ux⟩
   case round =>
    obtain ⟨k,hk,rfl,uT⟩:=hrel
    by_cases xL:k < Ft.length
    ·obtain ⟨e,hke⟩:∃ e,Ft[k]? = some e:=⟨_,yE xL⟩
     obtain ⟨a',c',e1,_,xk⟩:=bO (bc Ev.len (by omega) (M HMK wr (M uT).2).erow)
     obtain ⟨b',off,e2,oP,xk⟩:=xk (by rintro rfl; simp at hke)
     simp only [Value.slice.injEq] at e1
     obtain ⟨e1,-,-⟩:=e1
     rw [e2] at e1
     subst e1
     obtain ⟨g0,g1,g2,g3,g4,g5,g6,g7,g8,g9,vP,vr,xX,kE⟩:=ev_cells (xk k e hke)
     have uO:(k:Int) < Ft.length:=by omega
     have hk0:(0:Int) ≤ k:=by omega
     obtain ⟨⟨vo6,jM⟩,ko⟩:=M uT
     have qd:=eD wr (E (ys e.kind e.cmd.k e.cmd.s e.cmd.t e.cmd.l e.cmd.q e.cmd.i e.cmd.p e.cmd.g e.id e.other e.qty e.price e.reason).toArray 46)
     have hszW:W6.heap.size ≤ wr.heap.size:=ko.size
     have HEY:=Q (zS jM qd)
     have HKY:=Q (zk ko (zC qd hszW))
     have HNX:Hid (Ft.take (k + 1) = Ft.take k ++ [e]):=by show _ = _; rw [List.take_add_one,hke]; rfl
     have HLN:Hid ((⟨1,⟨1,s,ty,li,X,0,pr,O⟩,next,0,0,0,0⟩ :: Ft.take k:List Ev).length ≤ 1000):=by show _ ≤ _; simp [List.length_take]; omega
     have hszY:W6.heap.size ≤ (wr.alloc (E (ys e.kind e.cmd.k e.cmd.s e.cmd.t e.cmd.l e.cmd.q e.cmd.i e.cmd.p e.cmd.g e.id e.other e.qty e.price e.reason).toArray 46)).heap.size:=yK hszW qd.size
     clear uT jM ko xk qd hke e2 oP
     have hsf:=sfl
     go_wp2_with fail
     generalize (wr.alloc (E (ys e.kind e.cmd.k e.cmd.s e.cmd.t e.cmd.l e.cmd.q e.cmd.i e.cmd.p e.cmd.g e.id e.other e.qty e.price e.reason).toArray 46)) = ho at HEY HKY hszY ⊢
     refine (cB e ho (M HEY) (M HLN)).mono ?_
     rintro e w6 ⟨rfl,⟨vo7,hE7⟩,-,ht7⟩
     have HN:Hid ((∃ qh,EnS N B W6.heap.size w6 gv gs gl next (.slice a l.length F) l t qh (⟨1,⟨1,s,ty,li,X,0,pr,O⟩,next,0,0,0,0⟩ :: Ft.take (k + 1)))∧KeptBut N W6.heap.size W6 w6):=⟨⟨vo7,by rw [M HNX]; exact hE7⟩,zk (M HKY) (cK ht7 hszY (fun g hg=>((M HEY).erow.lt g hg).1))⟩
     clear hE7 ht7
     go_wp2_with fail
     go_roundw
     case rel=>exact ⟨k + 1,by omega,by go_num,M HN⟩
     case measure=>simp [intOf]; omega
    ·obtain rfl:k = Ft.length:=by omega
     rw [yW tg] at uT
     have uO:¬ (Ft.length:Int) < Ft.length:=by omega
     have HE8:=Q (M uT).1
     have HK8:=Q (M uT).2
     have pS:=Q (M HMK wr (M uT).2)
     have HN8:=Q (M HNK wr (M uT).2)
     have HKw8:Hid (KeptBut N B w wr):=zk (M pR) (kept_less (M uT).2 (by omega))
     clear uT ux HMK HNK
     go_wp2_with fail
     refine M xu _ _ ?_
     clear xu
     have y5:wr.cell? (J b 5) = some (H Fl):=(M pS).cells 5 _ rfl
     refine eH fun h2 xu=>?_
     by_cases hFl:0 < Fl
     ·have y0:wr.cell? (yn w 0) = some (H s):=M HN8 0 _ rfl
      have y1:wr.cell? (yn w 1) = some (H ty):=M HN8 1 _ rfl
      have y2:wr.cell? (yn w 2) = some (H li):=M HN8 2 _ rfl
      have y3:wr.cell? (yn w 3) = some (H X):=M HN8 3 _ rfl
      have y4:wr.cell? (yn w 4) = some (yh pr):=M HN8 4 _ rfl
      have y6:wr.cell? (yn w 5) = some (yi O):=M HN8 5 _ rfl
      go_wp2_with fail
      refine (M HRS wr).mono ?_
      rintro e w9 ⟨rfl,hb9⟩
      obtain ⟨vo8,hE8⟩:=M HE8
      have HE9:=Q (zS hE8 hb9)
      have HM9:=Q (dr (M pS) hb9)
      have HKw9:Hid (KeptBut N B w w9):=zk (M HKw8) (zC hb9 (yK oL (yK (M HKw8).size tg)))
      have hl22:(⟨1,⟨1,s,ty,li,X,0,pr,O⟩,next,0,0,0,0⟩ :: Ft:List Ev).length ≤ 1000:=by simp; omega
      clear hb9 hE8 y0 y1 y2 y3 y4 y5 y6 HE8 pS HN8 HK8
      cases qz:ay ty
      ·have HAL:Hid (accL ⟨kk,s,ty,li,X,ii,pr,O⟩ next (FL,Fl,Ft) = FL∧accE ⟨kk,s,ty,li,X,ii,pr,O⟩ next (FL,Fl,Ft) = ⟨1,⟨1,s,ty,li,X,0,pr,O⟩,next,0,0,0,0⟩ :: Ft ++ [⟨5,zCm,next,0,Fl,0,0⟩]):=⟨by simp [accL,qz],by simp [accE,hFl,qz]⟩
       have x2:w9.cell? (J b 2) = some (H next):=(M HM9).cells 2 _ rfl
       go_wp2_with fail
       refine (cB ⟨5,zCm,next,0,Fl,0,0⟩ w9 (M HE9) hl22).mono ?_
       rintro e oX ⟨rfl,hE10,hk10,ht10⟩
       have kN:=Q hE10
       have HMA:Hid (MatS b qt.heap.size oX (next + 1) vqm FL ⟨next,s,tk pr,Fl,li,O⟩ (.slice av Ft.length cv) Ft):=matS_told (M HM9) ht10 (M HE9).erow hmS oM (fun g hg e=>by have:=M HVT g hg; have:=((M HE9).erow.lt g e).1; omega)
       have HKA:=Q (zk (M HKw9) hk10)
       clear hE10 hk10 ht10 x2
       go_wp2_with fail
       refine M xu _ _ ?_
       clear xu
       have zf0:oX.cell? (J b 0) = some (H (next + 1)):=(M HMA).cells 0 _ rfl
       obtain ⟨aF,cF,hF⟩:=zO (M HMA).orow
       have zf1:oX.cell? (J b 1) = some (.slice aF (FL).length cF):=by rw [← hF]; exact (M HMA).cells 1 _ rfl
       obtain ⟨voF,kl⟩:=M kN
       have zm1:oX.cell? (J N 1) = some (H next):=kl.cells 1 _ rfl
       have zm2:oX.cell? (J N 2) = some (.slice a l.length F):=kl.cells 2 _ rfl
       have fm1:oX.frozen? (J N 1) = false:=(kl.there 1 (by omega)).2
       have fm2:oX.frozen? (J N 2) = false:=(kl.there 2 (by omega)).2
       have pO:=Q (ens_book kl (next + 1) (zA (hF ▸ (M HMA).orow) hBS))
       have pP:Hid (KeptBut N B w _):=zk (M HKA) (zk (cO oX 1 (H (next + 1))) (cO _ 2 (.slice aF (FL).length cF)))
       generalize (FL).length = nF at pO pP zf1
       clear kl
       go_wp2_with fail
       go_end0
       exact ⟨rfl,⟨_,_,voF,by rw [(M HAL).1,(M HAL).2]; exact M pO⟩,M pP⟩
      ·have HAL:Hid (accL ⟨kk,s,ty,li,X,ii,pr,O⟩ next (FL,Fl,Ft) = FL ++ [(⟨next,s,tk pr,Fl,li,O⟩:Od)]∧accE ⟨kk,s,ty,li,X,ii,pr,O⟩ next (FL,Fl,Ft) = ⟨1,⟨1,s,ty,li,X,0,pr,O⟩,next,0,0,0,0⟩ :: Ft ++ [⟨4,zCm,next,0,Fl,0,0⟩]):=⟨by simp [accL,qz,hFl],by simp [accE,hFl,qz]⟩
       go_wp2_with fail
       refine (rest_took b qt.heap.size (next + 1) vqm FL ⟨next,s,tk pr,Fl,li,O⟩ _ Ft w9 (M HM9) (by have:=(M oG).1.len; omega)).mono ?_
       rintro e oX ⟨vqr,rfl,hMr,kL⟩
       have HE10:=Q (ens_far (M HE9) (M HM9) kL (M hq6) hmS oM)
       have HMr:=Q hMr
       have HKw10:Hid (KeptBut N B w oX):=zk (M HKw9) ⟨kL.os,kL.tape,kL.output,kL.size,fun k hk _=>kL.block k (by have:=(M HM9).le; omega) (by omega) (fun e=>by have:=((M HM9).orow.lt k e.symm).1; omega)⟩
       have x2:oX.cell? (J b 2) = some (H next):=hMr.cells 2 _ rfl
       clear hMr kL HE9 HM9
       go_wp2_with fail
       refine (cB ⟨4,zCm,next,0,Fl,0,0⟩ oX (M HE10) hl22).mono ?_
       rintro e w11 ⟨rfl,hE11,hk11,ht11⟩
       have kN:=Q hE11
       have HMA:Hid (MatS b qt.heap.size w11 (next + 1) vqr (FL ++ [(⟨next,s,tk pr,Fl,li,O⟩:Od)]) ⟨next,s,tk pr,Fl,li,O⟩ (.slice av Ft.length cv) Ft):=matS_told (M HMr) ht11 (M HE10).erow hmS oM (fun g hg e=>by have:=M HVT g hg; have:=((M HE10).erow.lt g e).1; omega)
       have HKA:=Q (zk (M HKw10) hk11)
       clear hE11 hk11 ht11 x2
       go_wp2_with fail
       refine M xu _ _ ?_
       clear xu
       have zf0:w11.cell? (J b 0) = some (H (next + 1)):=(M HMA).cells 0 _ rfl
       obtain ⟨aF,cF,hF⟩:=zO (M HMA).orow
       have zf1:w11.cell? (J b 1) = some (.slice aF (FL ++ [(⟨next,s,tk pr,Fl,li,O⟩:Od)]).length cF):=by rw [← hF]; exact (M HMA).cells 1 _ rfl
       obtain ⟨voF,kl⟩:=M kN
       have zm1:w11.cell? (J N 1) = some (H next):=kl.cells 1 _ rfl
       have zm2:w11.cell? (J N 2) = some (.slice a l.length F):=kl.cells 2 _ rfl
       have fm1:w11.frozen? (J N 1) = false:=(kl.there 1 (by omega)).2
       have fm2:w11.frozen? (J N 2) = false:=(kl.there 2 (by omega)).2
       have pO:=Q (ens_book kl (next + 1) (zA (hF ▸ (M HMA).orow) hBS))
       have pP:Hid (KeptBut N B w _):=zk (M HKA) (zk (cO w11 1 (H (next + 1))) (cO _ 2 (.slice aF (FL ++ [(⟨next,s,tk pr,Fl,li,O⟩:Od)]).length cF)))
       generalize (FL ++ [(⟨next,s,tk pr,Fl,li,O⟩:Od)]).length = nF at pO pP zf1
       clear kl
       go_wp2_with fail
       go_end0
       exact ⟨rfl,⟨_,_,voF,by rw [(M HAL).1,(M HAL).2]; exact M pO⟩,M pP⟩
     ·have HAL:Hid (accL ⟨kk,s,ty,li,X,ii,pr,O⟩ next (FL,Fl,Ft) = FL∧accE ⟨kk,s,ty,li,X,ii,pr,O⟩ next (FL,Fl,Ft) = ⟨1,⟨1,s,ty,li,X,0,pr,O⟩,next,0,0,0,0⟩ :: Ft):=⟨by simp [accL,hFl],by simp [accE,hFl]⟩
      go_wp2_with fail
      refine M xu _ _ ?_
      clear xu
      have zf0:wr.cell? (J b 0) = some (H (next + 1)):=(M pS).cells 0 _ rfl
      obtain ⟨aF,cF,hF⟩:=zO (M pS).orow
      have zf1:wr.cell? (J b 1) = some (.slice aF (FL).length cF):=by rw [← hF]; exact (M pS).cells 1 _ rfl
      obtain ⟨voF,kl⟩:=M HE8
      have zm1:wr.cell? (J N 1) = some (H next):=kl.cells 1 _ rfl
      have zm2:wr.cell? (J N 2) = some (.slice a l.length F):=kl.cells 2 _ rfl
      have fm1:wr.frozen? (J N 1) = false:=(kl.there 1 (by omega)).2
      have fm2:wr.frozen? (J N 2) = false:=(kl.there 2 (by omega)).2
      have pO:=Q (ens_book kl (next + 1) (zA (hF ▸ (M pS).orow) hBS))
      have pP:Hid (KeptBut N B w _):=zk (M HKw8) (zk (cO wr 1 (H (next + 1))) (cO _ 2 (.slice aF (FL).length cF)))
      generalize (FL).length = nF at pO pP zf1
      clear kl
      go_wp2_with fail
      go_end0
      exact ⟨rfl,⟨_,_,voF,by rw [(M HAL).1,(M HAL).2]; exact M pO⟩,M pP⟩
end Go.Proofs.YtbakanofkghmiaaGreat
