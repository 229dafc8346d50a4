/-
  A new order accepted by the engine: proved by walking the method.
-/
import Derived.Test.YtbakanofkghmiaaGreatTj28
import Derived.Test.YtbakanofkghmiaaGreatTj29
set_option linter.unusedVariables false
set_option maxHeartbeats 6400000
set_option maxRecDepth 100000
namespace Go.Proofs.YtbakanofkghmiaaGreat
open Go.RowKit
def accL (c:Cm) (next:Int) (hb:List Od × Int × List Ev):List Od:=if 0 < hb.2.1∧pP c.t = true then hb.1 ++ [⟨next,c.s,tk c.p,hb.2.1,c.l,c.g⟩] else hb.1
def accE (c:Cm) (next:Int) (hb:List Od × Int × List Ev):List Ev:=⟨1,⟨1,c.s,c.t,c.l,c.q,0,c.p,c.g⟩,next,0,0,0,0⟩ :: hb.2.2 ++ (if 0 < hb.2.1 then [⟨if pP c.t = true then 4 else 5,zCm,next,0,hb.2.1,0,0⟩] else [])
theorem zF {B C e sz n:Nat} {v:Value} {xs:List Value} {W:World} (h:W.ownsRow B e sz v n xs) (hC:C ≤ B):W.ownsRow C e sz v n xs:=by
 refine ⟨h.1,?_⟩
 rcases h.2 with hn | ⟨g,E,xp,rfl,hg,rest⟩
 ·exact .inl hn
 ·exact .inr ⟨g,E,xp,rfl,yL hC hg,rest⟩
theorem ens_raise {mb B Bo C:Nat} {W:World} {gv:Value} {gs:List Value} {gl:List (List Ev)} {next:Int} {vq:Value} {l:List Od} {t:Tot} (h:EnS mb B Bo W gv gs gl next vq l t (.slice none 0 0) []) (Q:Bo ≤ C) (N:C ≤ W.heap.size):EnS mb B C W gv gs gl next vq l t (.slice none 0 0) [] :=
 ⟨h.cells,h.there,h.grow,h.glen,h.geach,⟨fun g hg b F=>yH (h.glt.1 g hg b F) Q,h.glt.2⟩,h.orow,World.ownsRow_nil _ _ _ _,h.box,yL h.bo Q,N⟩
theorem ens_next {mb B Bo:Nat} {W:World} {gv:Value} {gs:List Value} {gl:List (List Ev)} {next:Int} {vq:Value} {l:List Od} {t:Tot} {vo:Value} {ts:List Ev} (h:EnS mb B Bo W gv gs gl next vq l t vo ts) (m:Int):EnS mb B Bo (W.setCell (J mb 1) (H m)) gv gs gl m vq l t vo ts:=by
 refine ⟨?_,zB h.there,zr h.grow (zj h.grow h.box (by decide)) _ _,h.glen,fun i g es hg vk=>zr (h.geach i g es hg vk) (zj (h.geach i g es hg vk) h.box (by decide)) _ _,h.glt,zr h.orow (zj h.orow h.box (by decide)) _ _,zr h.erow (zj h.erow h.box (by decide)) _ _,?_,h.bo,by simp only [World.setCell,Array.size_modify]; exact h.le⟩
 ·have:=bc (j:=1) (u:=H m) h.cells (by simp)
  exact this
 ·obtain ⟨xp,hc⟩:=h.box
  exact zL W mb 1 _ hc
theorem cx {c:Cm} {id:Int}:∀ (n:Nat) (l:List Od) (left:Int) (ts:List Ev),(matL c id n l left ts).2.2.length ≤ ts.length + n
 | 0,_,_,_=>Nat.le_refl _
 | n + 1,l,left,ts=>by
  rw [matL]
  split
  ·split
   ·simp
   ·split
    ·refine yL (cx n _ _ _) ?_
     rw [yN]; simp; omega
    ·simp
  ·simp
theorem matS_kept {mb b S:Nat} {W W':World} {next:Int} {vq vt:Value} {l:List Od} {t:Od} {ts:List Ev} (h:MatS b S W next vq l t vt ts) (hk:KeptBut mb W.heap.size W W') (hm:mb < S) (F:S ≤ b):MatS b S W' next vq l t vt ts:=by
 have pI:=hk.block b h.lt (by omega)
 refine ⟨fun j u R=>(yO (a:=(J b (0 + j))) pI).trans (h.cells j u R),fun j R=>⟨?_,?_⟩,kb_row h.orow hk hm,kb_row h.erow hk hm,?_,yL h.le hk.size⟩
 ·rw [yO (a:=(J b (0 + j))) pI]; exact (h.there j R).1
 ·rw [World.frozen?_of_block (a:=(J b (0 + j))) pI]; exact (h.there j R).2
 ·obtain ⟨xp,hc⟩:=h.box
  exact ⟨xp,pI.trans hc⟩
theorem kept_less {mb B C:Nat} {w w':World} (h:KeptBut mb C w w') (hB:B ≤ C):KeptBut mb B w w':=⟨h.os,h.tape,h.output,h.size,fun k hk hm=>h.block k (by omega) hm⟩
theorem ens_far {mb B Bo b S:Nat} {W W':World} {gv:Value} {gs:List Value} {gl:List (List Ev)} {next n2:Int} {vq:Value} {l:List Od} {t:Tot} {vo:Value} {ts:List Ev} {vm vt:Value} {lm:List Od} {tm:Od} {tt:List Ev} (h:EnS mb B Bo W gv gs gl next vq l t vo ts) (hM:MatS b S W n2 vm lm tm vt tt) (ht:TookAt b 0 vm.ownBlock W W') (hq:∀ g,vq.ownBlock = some g→g < S) (hm:mb < S) (F:S ≤ b):EnS mb B Bo W' gv gs gl next vq l t vo ts:=by
 have pI:W'.heap[mb]? = W.heap[mb]?:=ht.block mb h.lt (by omega) (zj hM.orow h.box (by decide))
 refine ⟨fun j u R=>(yO (a:=(J mb (0 + j))) pI).trans (h.cells j u R),fun j R=>⟨?_,?_⟩,ak h.grow ht (zj h.grow hM.box (by decide)) (zA h.grow hM.orow (by decide)),h.glen,fun i g es hg vk=>ak (h.geach i g es hg vk) ht (zj (h.geach i g es hg vk) hM.box (by decide)) (zA (h.geach i g es hg vk) hM.orow (by decide)),h.glt,ak h.orow ht (zj h.orow hM.box (by decide)) ?_,ak h.erow ht (zj h.erow hM.box (by decide)) (zA h.erow hM.orow (by decide)),?_,h.bo,yL h.le ht.size⟩
 ·rw [yO (a:=(J mb (0 + j))) pI]; exact (h.there j R).1
 ·rw [World.frozen?_of_block (a:=(J mb (0 + j))) pI]; exact (h.there j R).2
 ·cases e:vq.ownBlock with
  | none=>exact .inl rfl
  | some g=>exact .inr fun e'=>by have:=hq g e; have:=(hM.orow.lt g e'.symm).1; omega
 ·obtain ⟨xp,hc⟩:=h.box
  exact ⟨xp,pI.trans hc⟩
theorem zQ {B e sz n:Nat} {v:Value} {xs:List Value} {W:World} (h:W.ownsRow B e sz v n xs):∃ a c,v = .slice a n c:=by
 rcases h.2 with ⟨e,e2⟩ | ⟨g,E,xp,e,_⟩
 ·exact ⟨none,0,by rw [e,e2]⟩
 ·exact ⟨_,_,e⟩
theorem matS_told {mb b S Bo:Nat} {W W':World} {next:Int} {vq vt vo:Value} {l:List Od} {t:Od} {ts es:List Ev} (h:MatS b S W next vq l t vt ts) (ht:TookAt mb 10 vo.ownBlock W W') (Z:ERow W Bo vo es) (hm:mb < S) (F:S ≤ b) (hvt:∀ g,vt.ownBlock = some g→vo.ownBlock ≠ some g):MatS b S W' next vq l t vt ts:=by
 have pI:W'.heap[b]? = W.heap[b]?:=ht.block b h.lt (by omega) (zj Z h.box (by decide))
 refine ⟨fun j u R=>(yO (a:=(J b (0 + j))) pI).trans (h.cells j u R),fun j R=>⟨?_,?_⟩,ak h.orow ht (fun e=>by have:=(h.orow.lt mb e.symm).1; omega) (zA h.orow Z (by decide)),ak h.erow ht (fun e=>by have:=(h.erow.lt mb e.symm).1; omega) ?_,?_,yL h.le ht.size⟩
 ·rw [yO (a:=(J b (0 + j))) pI]; exact (h.there j R).1
 ·rw [World.frozen?_of_block (a:=(J b (0 + j))) pI]; exact (h.there j R).2
 ·cases e:vt.ownBlock with
  | none=>exact .inl rfl
  | some g=>exact .inr fun e'=>hvt g e e'.symm
 ·obtain ⟨xp,hc⟩:=h.box
  exact ⟨xp,pI.trans hc⟩
theorem ens_book {mb B Bo:Nat} {W:World} {gv:Value} {gs:List Value} {gl:List (List Ev)} {next:Int} {vq vl:Value} {l l':List Od} {t:Tot} {vo:Value} {ts:List Ev} (h:EnS mb B Bo W gv gs gl next vq l t vo ts) (m:Int) (Z:ORow W B vl l'):EnS mb B Bo ((W.setCell (J mb 1) (H m)).setCell (J mb 2) vl) gv gs gl m vl l' t vo ts:=by
 have Q:=ens_next h m
 have hn:some mb ≠ vl.ownBlock:=zj Z h.box (by decide)
 have vR:=zr Z hn 1 (H m)
 have ho2:=zr vR hn 2 vl
 exact ens_took Q (yK _ _ _ (Q.cells 2 _ rfl)) ho2 (bO (o:=1) _ _)
def CAx1 (mb S n E:Nat) (a:Option Addr) (next s ty li O tk0 Fl:Int) (pr:Nat) (K:ByteArray) (FL:List Od) (Ft:List Ev) (W:World):Nat→Value→Prop
 | 0,v=>v = I mb 0
 | 1,v=>v = I mb 0
 | 2,v=>v = I mb 0
 | 3,v=>v = I mb 1
 | 4,v=>v = .agg #[H next,.slice a n E]
 | 5,v=>v = .agg #[H s,H ty,H li,H O,yi pr,yj K]
 | 6,v=>∃ aq cq av cv,v = .agg #[H (next + 1),.slice aq FL.length cq,H next,H s,H tk0,H Fl,H li,yj K,.slice av Ft.length cv]∧ORow W S (.slice aq FL.length cq) FL∧ERow W S (.slice av Ft.length cv) Ft
 | 7,v=>∃ b,v = I b 0∧S ≤ b∧b < W.heap.size∧W.there b 0 9∧∃ xp,W.heap[b]? = some (.cells xp 157 (0,0))
 | _,_=>True
theorem ca1_mono {mb S n E:Nat} {a:Option Addr} {next s ty li O tk0 Fl:Int} {pr:Nat} {K:ByteArray} {FL:List Od} {Ft:List Ev}:∀ W W' j v,ym W W'→CAx1 mb S n E a next s ty li O tk0 Fl pr K FL Ft W j v→CAx1 mb S n E a next s ty li O tk0 Fl pr K FL Ft W' j v:=by
 intro W W' j v F h
 match j with
 | 0 | 1 | 2 | 3 | 4 | 5=>exact h
 | 6=>obtain ⟨aq,cq,av,cv,Q,N,h3⟩:=h; exact ⟨aq,cq,av,cv,Q,zk N F,zG h3 F⟩
 | 7=>obtain ⟨b,Q,N,h3,h4,xp,h5⟩:=h; exact ⟨b,Q,N,yH h3 F.size,ze h4 F h3,xp,(F.block b h3).trans h5⟩
 | j + 8=>trivial
def CQ1 (hD:World) (next s tk0 Fl li:Int) (K:ByteArray) (FL:List Od) (Ft:List Ev) (f:Nat→Value) (W:World):Prop:=∃ b vq vt,f 7 = I b 0∧hD.heap.size ≤ b∧MatS b hD.heap.size W (next + 1) vq FL ⟨next,s,tk0,Fl,li,K⟩ vt Ft∧ym hD W
def CA2 (mb b:Nat) (next s ty li O:Int) (pr:Nat) (K:ByteArray) (W:World):Nat→Value→Prop
 | 0,v=>v = I mb 0
 | 1,v=>v = .agg #[H s,H ty,H li,H O,yi pr,yj K]
 | 2,v=>v = .agg (yv 1 s ty li O 0 pr K).toArray
 | 3,v=>v = I b 2
 | 4,v=>v = I b 2
 | 5,v=>v = H next
 | 6,v=>v = .agg (yt 1 1 s ty li O 0 pr K next 0 0 0 0).toArray
 | _,_=>True
theorem ca2_mono {mb b:Nat} {next s ty li O:Int} {pr:Nat} {K:ByteArray}:∀ W W' j v,ym W W'→CA2 mb b next s ty li O pr K W j v→CA2 mb b next s ty li O pr K W' j v:=by
 intro W W' j v F h
 match j with
 | 0 | 1 | 2 | 3 | 4 | 5 | 6=>exact h
 | j + 7=>trivial
theorem acceptE_any {mb B Bo:Nat} {gv:Value} {gs:List Value} {gl:List (List Ev)} {next:Int} {vq:Value} {l:List Od} {t:Tot} (c:Cm) (w:World) (h:EnS mb B Bo w gv gs gl next vq l t (.slice none 0 0) []) (hg:GoodL l) (h0:0 ≤ next) (Q:next ≤ 1000000) (jf:0 ≤ c.q) (qW:c.q ≤ 1000000) :
  Calls Tryz.prog 67 #[I mb 0,noV c] w fun r w'=>r = yl (.tuple #[])∧(∃ Bo' vl qi,EnS mb B Bo' w' gv gs gl (next + 1) vl (accL c next (matL c next 21 l c.q [])) t qi (accE c next (matL c next 21 l c.q [])))∧KeptBut mb B w w':=by
 have qr:=h.lt
 have pe:B ≤ w.heap.size:=yL h.bo h.le
 have vF:=hg.len
 obtain ⟨a,E,rfl,vA,hc⟩:=zK h.orow (by omega)
 have HRD0:=Y (zK h.orow (by omega))
 have HOR:=Y h.orow
 have oC:=Y (ba (c:=c) (id:=next) 21 l c.q [] hg jf qW)
 have HMF:=Y (cx (c:=c) (id:=next) 21 l c.q [])
 obtain ⟨kk,s,ty,li,O,ii,pr,K⟩:=c
 have vH:Hid (SlOk (.slice a l.length E)):=oRow_sl h.orow
 have HCA:Hid (∀ W:World,RdR Od.vs 6 W (.slice a l.length E) l→Calls Tryz.prog 112 #[.agg #[H next,.slice a l.length E],.agg #[H s,H ty,H li,H O,yi pr,yj K]] W _):=fun W hW=>match_any next _ l ⟨kk,s,ty,li,O,ii,pr,K⟩ W hW (U vH) hg h0 Q jf qW
 have HTO:Hid (∀ W:World,Calls Tryz.prog 113 #[.agg #[H s,H ty,H li,H O,yi pr,yj K]] W _):=fun W=>toldNew_any ⟨kk,s,ty,li,O,ii,pr,K⟩ W
 have HRS:Hid (∀ W:World,Calls Tryz.prog 114 #[.agg #[H s,H ty,H li,H O,yi pr,yj K]] W _):=fun W=>cO ⟨kk,s,ty,li,O,ii,pr,K⟩ W
 generalize hmat:matL ⟨kk,s,ty,li,O,ii,pr,K⟩ next 21 l O [] = hb at oC HCA HMF ⊢
 obtain ⟨FL,Fl,Ft⟩:=hb
 unfold noV
 simp only at HCA oC HTO HRS HMF ⊢
 have xS:=dm w (D #[H s,H ty,H li,H O,yi pr,yj K] 112)
 have HE:=Y (zM h xS)
 have xT:=Y xS
 have xy:w.heap.size < (w.alloc (D #[H s,H ty,H li,H O,yi pr,yj K] 112)).heap.size:=by rw [zf]; omega
 have qR:Hid (World.rangeAt (w.alloc (D #[H s,H ty,H li,H O,yi pr,yj K] 112)) w.heap.size 0 [H s,H ty,H li,H O,yi pr,yj K]):=zg w [H s,H ty,H li,H O,yi pr,yj K] _
 have qX:=Y (zl (U HRD0) xS qt)
 have uB:Hid (0 ≤ next∧next ≤ 1000000):=⟨h0,Q⟩
 clear h xS hc vA hg h0 Q jf qW hmat HRD0
 go_enter Tryz.func67,Tryz.ntmps67
 refine ds fun tg xq=>?_
 go_wp2_with fail
 refine U xq _ _ ?_
 clear xq
 generalize (w.alloc (D #[H s,H ty,H li,H O,yi pr,yj K] 112)) = hD at HE xT xy qR qX ⊢
 have vV:Hid (hD.cell? (J mb 1) = some (H next)):=(U HE).cells 1 _ rfl
 have vw:Hid (hD.cell? (J mb 2) = some (.slice a l.length E)):=(U HE).cells 2 _ rfl
 refine ds fun tg xq=>?_
 refine zh (RYA (fun f=>{ tmps:=#[I mb 0,.agg #[H s,H ty,H li,H O,yi pr,yj K],M,yn w 0,f 7,M,M,M,M,f 0,f 1,f 2,f 3,f 4,f 5,f 6,M,M,M,M,M,M,M,M,M,M,M,M,M,M,M,M,M,M,M,M,M,M,M,M,M,M,M,M,M,M,M,M,M,M,M,M,M,M,M,M,M],defers:=[] }) (CAx1 mb hD.heap.size l.length E a next s ty li O (tk pr) Fl pr K FL Ft) 8 (CQ1 hD next s (tk pr) Fl li K FL Ft) hD) (by kernel_rfl) ?_ ?_ ?_
 ·exact ⟨fun _=>M,rfl,ry_start (by decide)⟩
 rotate_left
 ·rintro x hR V i op ⟨f,rfl,A⟩ L hx Z xu G
  have xw:=Y A
  have xk:x[8]? = some false→∀ (p:Addr) u,hD.cell? p = some u→V.cell? p = some u:=fun hn p u hu=>((A.b hn).cell (yI hD _ hu)).trans hu
  match i,Z with
  | 0,Z =>
   obtain rfl:=ya Z
   have hn:x[8]? = some false:=zv L 12 0 8 (by kernel_rfl) hx (by simp) xu
   clear G A L
   rw [if_pos (by rfl)];unfold Oper.wp;go_simp
   exact ⟨upd f 0 (I mb 0),by simp [upd],zU (U xw) 0 _ hn (by decide) rfl⟩
  | 1,Z =>
   obtain rfl:=ya Z
   have hn:x[8]? = some false:=zv L 12 1 8 (by kernel_rfl) hx (by simp) xu
   have g0:f 0 = I mb 0:=A.c hn 0 (yd G 0 rfl)
   clear G A L
   rw [if_pos (by rfl)];unfold Oper.wp;go_simp
   exact ⟨upd f 1 (I mb 0),by simp [upd,g0],zU (U xw) 1 _ hn (by decide) rfl⟩
  | 2,Z =>
   obtain rfl:=ya Z
   have hn:x[8]? = some false:=zv L 12 2 8 (by kernel_rfl) hx (by simp) xu
   have g1:f 1 = I mb 0:=A.c hn 1 (yd G 1 rfl)
   clear G A L
   rw [if_pos (by rfl)];unfold Oper.wp;go_simp
   exact ⟨upd f 2 (I mb 0),by simp [upd,g1],zU (U xw) 2 _ hn (by decide) rfl⟩
  | 3,Z =>
   obtain rfl:=ya Z
   have hn:x[8]? = some false:=zv L 12 3 8 (by kernel_rfl) hx (by simp) xu
   have g2:f 2 = I mb 0:=A.c hn 2 (yd G 2 rfl)
   clear G A L
   rw [if_pos (by rfl)];unfold Oper.wp;go_simp
   exact ⟨upd f 3 (I mb 1),by simp [upd,g2],zU (U xw) 3 _ hn (by decide) rfl⟩
  | 4,Z =>
   obtain rfl:=ya Z
   have hn:x[8]? = some false:=zv L 12 4 8 (by kernel_rfl) hx (by simp) xu
   have g3:f 3 = I mb 1:=A.c hn 3 (yd G 3 rfl)
   have z1:=xk hn (J mb 1) _ (U vV)
   have z2:=xk hn (J mb 2) _ (U vw)
   clear G A L
   rw [if_pos (by rfl)];unfold Oper.wp;go_simp
   exact ⟨upd f 4 (.agg #[H next,.slice a l.length E]),by simp [upd,g3],zU (U xw) 4 _ hn (by decide) rfl⟩
  | 5,Z =>
   obtain rfl:=ya Z
   have hn:x[8]? = some false:=zv L 12 5 8 (by kernel_rfl) hx (by simp) xu
   have y0:=xk hn (yp w 0) _ (U qR 0 _ rfl)
   have y1:=xk hn (yp w 1) _ (U qR 1 _ rfl)
   have y2:=xk hn (yp w 2) _ (U qR 2 _ rfl)
   have y3:=xk hn (yp w 3) _ (U qR 3 _ rfl)
   have y4:=xk hn (yp w 4) _ (U qR 4 _ rfl)
   have y5:=xk hn (yp w 5) _ (U qR 5 _ rfl)
   clear G A L
   rw [if_pos (by rfl)];unfold Oper.wp;go_simp
   exact ⟨upd f 5 (.agg #[H s,H ty,H li,H O,yi pr,yj K]),by simp [upd],zU (U xw) 5 _ hn (by decide) rfl⟩
  | 6,Z =>
   obtain rfl:=ya Z
   have hn:x[8]? = some false:=zv L 12 6 8 (by kernel_rfl) hx (by simp) xu
   have g4:f 4 = .agg #[H next,.slice a l.length E]:=A.c hn 4 (yd G 4 rfl)
   have g5:f 5 = .agg #[H s,H ty,H li,H O,yi pr,yj K]:=A.c hn 5 (yd G 5 rfl)
   have HRV:=Y (zl (U qX) (A.b hn) qt)
   have qN:=(A.b hn).size
   clear G A L
   rw [if_pos (by rfl)];unfold Oper.wp;go_simp
   refine (U HCA V (U HRV)).mono ?_
   rintro e w4 ⟨vq4,vt4,rfl,hoq,het,xz⟩
   obtain ⟨av,cv,rfl⟩:∃ a c,vt4 = .slice a Ft.length c:=by
    rcases het.2 with ⟨e,e2⟩ | ⟨g,E,xp,e,_⟩
    ·exact ⟨none,0,by rw [e,e2]⟩
    ·exact ⟨_,_,e⟩
   obtain ⟨aq,cq,rfl⟩:∃ a c,vq4 = .slice a FL.length c:=by
    rcases hoq.2 with ⟨e,e2⟩ | ⟨g,E,xp,e,_⟩
    ·exact ⟨none,0,by rw [e,e2]⟩
    ·exact ⟨_,_,e⟩
   exact ⟨upd f 6 (.agg #[H (next + 1),.slice aq FL.length cq,H next,H s,H (tk pr),H Fl,H li,yj K,.slice av Ft.length cv]),by simp [upd,g4,g5],zU (ry_grow ca1_mono (U xw) hn xz) 6 _ hn (by decide) ⟨aq,cq,av,cv,rfl,zF hoq qN,zF het qN⟩⟩
  | 7,Z =>
   obtain rfl:=ya Z
   have hn:x[8]? = some false:=zv L 12 7 8 (by kernel_rfl) hx (by simp) xu
   have qN:=(A.b hn).size
   clear G A L
   rw [if_pos (by rfl)];unfold Oper.wp;go_simp
   exact ⟨upd f 7 (yn V 0),by simp [upd],zU (ry_grow ca1_mono (U xw) hn (dm _ _)) 7 _ hn (by decide) ⟨V.heap.size,rfl,qN,by rw [zf]; omega,zt V [H 0,.slice none 0 0,H 0,H 0,H 0,H 0,H 0,yj ⟨#[]⟩,.slice none 0 0] _,_,heap_alloc_new V _⟩⟩
  | 8,Z =>
   obtain rfl:=ya Z
   have hn:x[8]? = some false:=xu
   obtain ⟨aq,cq,av,cv,g6,hoq,het⟩:=A.c hn 6 (yd G 6 rfl)
   obtain ⟨b,g7,hSb,xR,xD,hbox⟩:=A.c hn 7 (yd G 7 rfl)
   have HQ:Hid (CQ1 hD next s (tk pr) Fl li K FL Ft f (V.setCells b 0 [H (next + 1),.slice aq FL.length cq,H next,H s,H (tk pr),H Fl,H li,yj K,.slice av Ft.length cv])):=⟨b,_,_,g7,hSb,matS_put (t:=⟨next,s,tk pr,Fl,li,K⟩) xD hbox hoq het (A.b hn).size,zm b hSb _ _ _ (A.b hn)⟩
   obtain ⟨y0,z0,q0⟩:=zc xD (j:=0) (by omega)
   obtain ⟨y1,z1,q1⟩:=zc xD (j:=1) (by omega)
   obtain ⟨y2,z2,q2⟩:=zc xD (j:=2) (by omega)
   obtain ⟨y3,z3,q3⟩:=zc xD (j:=3) (by omega)
   obtain ⟨y4,z4,q4⟩:=zc xD (j:=4) (by omega)
   obtain ⟨y5,z5,q5⟩:=zc xD (j:=5) (by omega)
   obtain ⟨y6,z6,q6⟩:=zc xD (j:=6) (by omega)
   obtain ⟨y7,z7,q7⟩:=zc xD (j:=7) (by omega)
   obtain ⟨y8,z8,q8⟩:=zc xD (j:=8) (by omega)
   clear G A L xD hoq het hbox
   rw [if_pos (by rfl)];unfold Oper.wp;go_simp
   exact ⟨f,by simp [g6,g7],ry_writeN (U xw) hn (U HQ)⟩
  | n + 9,Z=>simp at Z
 ·rintro x hR V ⟨f,rfl,A⟩ hx xM
  have xn:=zO xM hx (by kernel_rfl)
  obtain ⟨b,vqm,vtm,e7,hSb,hMS,hBX⟩:=A.m (xn 8 (by simp))
  refine U xq _ _ ?_
  clear xq
  simp only [e7]
  generalize f 0 = v0,f 1 = v1,f 2 = v2,f 3 = v3,f 4 = v4,f 5 = v5,f 6 = v6
  have kL:=Y hMS
  have uv:=Y hBX
  clear A xn xM hx hMS hBX e7 qX vV vw HCA
  have hSV:hD.heap.size ≤ V.heap.size:=(U uv).size
  have vY:=Y (ens_raise (zM (U HE) ((U uv))) (yL (U HE).le hSV) qt)
  have HN6:=Y (zb (U qR) (U uv) xy)
  have HMC:=Y (U kL).cells
  have xR:=(U kL).lt
  have pB:Hid (KeptBut mb B w V):=zi (zz (U xT) pe) (zz (U uv) (by omega))
  clear HE qR
  generalize V = W6 at kL vY HN6 HMC xR pB hSV uv ⊢
  refine ds fun tg xq=>?_
  refine zh (RYA (fun f=>{ tmps:=#[I mb 0,.agg #[H s,H ty,H li,H O,yi pr,yj K],M,yn w 0,I b 0,M,M,M,M,v0,v1,v2,v3,v4,v5,v6,f 0,f 1,f 2,f 3,f 4,f 5,f 6,f 7,M,M,M,M,M,M,M,M,M,M,M,M,M,M,M,M,M,M,M,M,M,M,M,M,M,M,M,M,M,M,M,M,M],defers:=[] }) (CA2 mb b next s ty li O pr K) 7 (fun f W=>(∃ qi,EnS mb B W6.heap.size W gv gs gl next (.slice a l.length E) l t qi [⟨1,⟨1,s,ty,li,O,0,pr,K⟩,next,0,0,0,0⟩])∧KeptBut mb W6.heap.size W6 W) W6) (by kernel_rfl) ?_ ?_ ?_
  ·exact ⟨fun _=>M,rfl,ry_start (by decide)⟩
  rotate_left
  ·rintro x hR V2 i op ⟨f,rfl,A⟩ L hx Z xu G
   have xw:=Y A
   have xk:x[7]? = some false→∀ (p:Addr) u,W6.cell? p = some u→V2.cell? p = some u:=fun hn p u hu=>((A.b hn).cell (yI W6 _ hu)).trans hu
   match i,Z with
   | 0,Z =>
    obtain rfl:=ya Z
    have hn:x[7]? = some false:=zv L 12 0 7 (by kernel_rfl) hx (by simp) xu
    clear G A L
    rw [if_pos (by rfl)];unfold Oper.wp;go_simp
    exact ⟨upd f 0 (I mb 0),by simp [upd],zU (U xw) 0 _ hn (by decide) rfl⟩
   | 1,Z =>
    obtain rfl:=ya Z
    have hn:x[7]? = some false:=zv L 12 1 7 (by kernel_rfl) hx (by simp) xu
    have y0:=xk hn (yp w 0) _ (U HN6 0 _ rfl)
    have y1:=xk hn (yp w 1) _ (U HN6 1 _ rfl)
    have y2:=xk hn (yp w 2) _ (U HN6 2 _ rfl)
    have y3:=xk hn (yp w 3) _ (U HN6 3 _ rfl)
    have y4:=xk hn (yp w 4) _ (U HN6 4 _ rfl)
    have y5:=xk hn (yp w 5) _ (U HN6 5 _ rfl)
    clear G A L
    rw [if_pos (by rfl)];unfold Oper.wp;go_simp
    exact ⟨upd f 1 (.agg #[H s,H ty,H li,H O,yi pr,yj K]),by simp [upd],zU (U xw) 1 _ hn (by decide) rfl⟩
   | 2,Z =>
    obtain rfl:=ya Z
    have hn:x[7]? = some false:=zv L 12 2 7 (by kernel_rfl) hx (by simp) xu
    have g1:f 1 = .agg #[H s,H ty,H li,H O,yi pr,yj K]:=A.c hn 1 (yd G 1 rfl)
    clear G A L
    rw [if_pos (by rfl)];unfold Oper.wp;go_simp
    refine (U HTO V2).mono ?_
    rintro e w4 ⟨rfl,xz⟩
    exact ⟨upd f 2 (.agg (yv 1 s ty li O 0 pr K).toArray),by simp [upd,g1],zU (ry_grow ca2_mono (U xw) hn xz) 2 _ hn (by decide) rfl⟩
   | 3,Z =>
    obtain rfl:=ya Z
    have hn:x[7]? = some false:=zv L 12 3 7 (by kernel_rfl) hx (by simp) xu
    clear G A L
    rw [if_pos (by rfl)];unfold Oper.wp;go_simp
    exact ⟨upd f 3 (I b 2),by simp [upd],zU (U xw) 3 _ hn (by decide) rfl⟩
   | 4,Z =>
    obtain rfl:=ya Z
    have hn:x[7]? = some false:=zv L 12 4 7 (by kernel_rfl) hx (by simp) xu
    have g3:f 3 = I b 2:=A.c hn 3 (yd G 3 rfl)
    clear G A L
    rw [if_pos (by rfl)];unfold Oper.wp;go_simp
    exact ⟨upd f 4 (I b 2),by simp [upd,g3],zU (U xw) 4 _ hn (by decide) rfl⟩
   | 5,Z =>
    obtain rfl:=ya Z
    have hn:x[7]? = some false:=zv L 12 5 7 (by kernel_rfl) hx (by simp) xu
    have g4:f 4 = I b 2:=A.c hn 4 (yd G 4 rfl)
    have z2:=xk hn (J b 2) _ (U HMC 2 _ rfl)
    clear G A L
    rw [if_pos (by rfl)];unfold Oper.wp;go_simp
    exact ⟨upd f 5 (H next),by simp [upd,g4],zU (U xw) 5 _ hn (by decide) rfl⟩
   | 6,Z =>
    obtain rfl:=ya Z
    have hn:x[7]? = some false:=zv L 12 6 7 (by kernel_rfl) hx (by simp) xu
    have g2:f 2 = .agg (yv 1 s ty li O 0 pr K).toArray:=A.c hn 2 (yd G 2 rfl)
    have g5:f 5 = H next:=A.c hn 5 (yd G 5 rfl)
    clear G A L
    rw [if_pos (by rfl)];unfold Oper.wp;go_simp
    exact ⟨upd f 6 (.agg (yt 1 1 s ty li O 0 pr K next 0 0 0 0).toArray),by simp [upd,g2,g5],zU (U xw) 6 _ hn (by decide) rfl⟩
   | 7,Z =>
    obtain rfl:=ya Z
    have hn:x[7]? = some false:=xu
    have g0:f 0 = I mb 0:=A.c hn 0 (yd G 0 rfl)
    have g6:f 6 = .agg (yt 1 1 s ty li O 0 pr K next 0 0 0 0).toArray:=A.c hn 6 (yd G 6 rfl)
    have vv:=Y (zM (U vY) (A.b hn))
    have xR:=A.b hn
    have HKV:Hid (KeptBut mb W6.heap.size W6 V2):=zz xR qt
    have qN:=xR.size
    clear G A L xR
    rw [if_pos (by rfl)];unfold Oper.wp;go_simp
    refine (bh ⟨1,⟨1,s,ty,li,O,0,pr,K⟩,next,0,0,0,0⟩ V2 (U vv) (by simp)).mono ?_
    rintro e w5 ⟨rfl,⟨vo5,jl⟩,-,ht5⟩
    exact ⟨upd f 7 (.tuple #[]),by simp [upd,g0,g6],ry_write (U xw) hn _ ⟨⟨vo5,jl⟩,zi (U HKV) (bw ht5 qN (fun g hg=>by simp [Value.ownBlock] at hg))⟩⟩
   | n + 8,Z=>simp at Z
  ·rintro x hR V2 ⟨f,rfl,A⟩ hx xM
   have xn:=zO xM hx (by kernel_rfl)
   obtain ⟨hE7,hK7⟩:=A.m (xn 7 (by simp))
   refine U xq _ _ ?_
   clear xq
   dsimp only
   generalize f 0 = u0,f 1 = u1,f 2 = u2,f 3 = u3,f 4 = u4,f 5 = u5,f 6 = u6,f 7 = u7
   have uE:Hid ((∃ qi,EnS mb B W6.heap.size V2 gv gs gl next (.slice a l.length E) l t qi (⟨1,⟨1,s,ty,li,O,0,pr,K⟩,next,0,0,0,0⟩ :: Ft.take 0))∧KeptBut mb W6.heap.size W6 V2):=⟨by simpa using hE7,hK7⟩
   clear A xn xM hx hE7 hK7 vY
   obtain ⟨av,cv,hvt⟩:=zQ (U kL).erow
   subst hvt
   have hmS:mb < hD.heap.size:=yH qr (U xT).size
   have hBS:B ≤ hD.heap.size:=by omega
   have HMK:Hid (∀ wr:World,KeptBut mb W6.heap.size W6 wr→MatS b hD.heap.size wr (next + 1) vqm FL ⟨next,s,tk pr,Fl,li,K⟩ (.slice av Ft.length cv) Ft):=fun wr hk=>matS_kept (U kL) hk hmS hSb
   have HNK:Hid (∀ wr:World,KeptBut mb W6.heap.size W6 wr→wr.rangeAt w.heap.size 0 [H s,H ty,H li,H O,yi pr,yj K]):=fun wr hk=>kb_range hk (U HN6) (by omega)
   have hF20:Ft.length ≤ 21:=by simpa using U HMF
   have hq6:Hid (∀ g,(Value.slice a l.length E).ownBlock = some g→g < hD.heap.size):=fun g hg=>yH ((U HOR).lt g hg).2 (U xT).size
   have HVT:Hid (∀ g,(Value.slice av Ft.length cv).ownBlock = some g→g < W6.heap.size):=fun g hg=>((U kL).erow.lt g hg).2
   clear kL HN6 HMC HMF HOR uv
   have z8:V2.cell? (J b 8) = some (.slice av Ft.length cv):=(U HMK V2 (U uE).2).cells 8 _ rfl
   refine ds fun tg xq=>?_
   go_wp2_with fail
   clear z8
   go_loopw [27] (fun iv wr=>∃ (k:Nat),k ≤ Ft.length∧iv = H k∧Hid ((∃ qi,EnS mb B W6.heap.size wr gv gs gl next (.slice a l.length E) l t qi (⟨1,⟨1,s,ty,li,O,0,pr,K⟩,next,0,0,0,0⟩ :: Ft.take k))∧KeptBut mb W6.heap.size W6 wr)) (fun iv _=>Ft.length - (intOf iv).toNat)
   case atStart=>exact ⟨0,Nat.zero_le _,rfl,U uE⟩
   case round =>
    obtain ⟨k,hk,rfl,uq⟩:=hrel
    by_cases xH:k < Ft.length
    ·obtain ⟨e,qV⟩:∃ e,Ft[k]? = some e:=⟨_,yF xH⟩
     obtain ⟨a',c',e1,_,L⟩:=ownR_rd (bj Ev.len (by omega) (U HMK wr (U uq).2).erow)
     obtain ⟨b',off,e2,ob,L⟩:=L (by rintro rfl; simp at qV)
     simp only [Value.slice.injEq] at e1
     obtain ⟨e1,-,-⟩:=e1
     rw [e2] at e1
     subst e1
     obtain ⟨g0,g1,g2,g3,g4,g5,g6,g7,g8,g9,qG,vB,xX,kC⟩:=bM (L k e qV)
     have uu:(k:Int) < Ft.length:=by omega
     have hk0:(0:Int) ≤ k:=by omega
     obtain ⟨⟨vo6,jU⟩,kr⟩:=U uq
     have vi:=dm wr (D (yt e.kind e.cmd.k e.cmd.s e.cmd.t e.cmd.l e.cmd.q e.cmd.i e.cmd.p e.cmd.g e.id e.other e.qty e.price e.reason).toArray 46)
     have hszW:W6.heap.size ≤ wr.heap.size:=kr.size
     have HEY:=Y (zM jU vi)
     have HKY:=Y (zi kr (zz vi hszW))
     have qv:Hid (Ft.take (k + 1) = Ft.take k ++ [e]):=by show _ = _; rw [List.take_add_one,qV]; rfl
     have HLN:Hid ((⟨1,⟨1,s,ty,li,O,0,pr,K⟩,next,0,0,0,0⟩ :: Ft.take k:List Ev).length ≤ 1000):=by show _ ≤ _; simp [List.length_take]; omega
     have hszY:W6.heap.size ≤ (wr.alloc (D (yt e.kind e.cmd.k e.cmd.s e.cmd.t e.cmd.l e.cmd.q e.cmd.i e.cmd.p e.cmd.g e.id e.other e.qty e.price e.reason).toArray 46)).heap.size:=yL hszW vi.size
     clear uq jU kr L vi qV e2 ob
     have hsf:=sfl
     go_wp2_with fail
     generalize (wr.alloc (D (yt e.kind e.cmd.k e.cmd.s e.cmd.t e.cmd.l e.cmd.q e.cmd.i e.cmd.p e.cmd.g e.id e.other e.qty e.price e.reason).toArray 46)) = yb at HEY HKY hszY ⊢
     refine (bh e yb (U HEY) (U HLN)).mono ?_
     rintro e w6 ⟨rfl,⟨vo7,hE7⟩,-,ht7⟩
     have HN:Hid ((∃ qi,EnS mb B W6.heap.size w6 gv gs gl next (.slice a l.length E) l t qi (⟨1,⟨1,s,ty,li,O,0,pr,K⟩,next,0,0,0,0⟩ :: Ft.take (k + 1)))∧KeptBut mb W6.heap.size W6 w6):=⟨⟨vo7,by rw [U qv]; exact hE7⟩,zi (U HKY) (bw ht7 hszY (fun g hg=>((U HEY).erow.lt g hg).1))⟩
     clear hE7 ht7
     go_wp2_with fail
     go_roundw
     case rel=>exact ⟨k + 1,by omega,by go_num,U HN⟩
     case measure=>simp [intOf]; omega
    ·obtain rfl:k = Ft.length:=by omega
     rw [yX qt] at uq
     have uu:¬ (Ft.length:Int) < Ft.length:=by omega
     have HE8:=Y (U uq).1
     have HK8:=Y (U uq).2
     have pC:=Y (U HMK wr (U uq).2)
     have HN8:=Y (U HNK wr (U uq).2)
     have HKw8:Hid (KeptBut mb B w wr):=zi (U pB) (kept_less (U uq).2 (by omega))
     clear uq uE HMK HNK
     go_wp2_with fail
     refine U xq _ _ ?_
     clear xq
     have y5:wr.cell? (J b 5) = some (H Fl):=(U pC).cells 5 _ rfl
     refine ds fun tg xq=>?_
     by_cases hFl:0 < Fl
     ·have y0:wr.cell? (yp w 0) = some (H s):=U HN8 0 _ rfl
      have y1:wr.cell? (yp w 1) = some (H ty):=U HN8 1 _ rfl
      have y2:wr.cell? (yp w 2) = some (H li):=U HN8 2 _ rfl
      have y3:wr.cell? (yp w 3) = some (H O):=U HN8 3 _ rfl
      have y4:wr.cell? (yp w 4) = some (yi pr):=U HN8 4 _ rfl
      have y6:wr.cell? (yp w 5) = some (yj K):=U HN8 5 _ rfl
      go_wp2_with fail
      refine (U HRS wr).mono ?_
      rintro e w9 ⟨rfl,hb9⟩
      obtain ⟨vo8,hE8⟩:=U HE8
      have HE9:=Y (zM hE8 hb9)
      have HM9:=Y (bY (U pC) hb9)
      have HKw9:Hid (KeptBut mb B w w9):=zi (U HKw8) (zz hb9 (yL pe (yL (U HKw8).size qt)))
      have hl22:(⟨1,⟨1,s,ty,li,O,0,pr,K⟩,next,0,0,0,0⟩ :: Ft:List Ev).length ≤ 1000:=by simp; omega
      clear hb9 hE8 y0 y1 y2 y3 y4 y5 y6 HE8 pC HN8 HK8
      cases qz:pP ty
      ·have HAL:Hid (accL ⟨kk,s,ty,li,O,ii,pr,K⟩ next (FL,Fl,Ft) = FL∧accE ⟨kk,s,ty,li,O,ii,pr,K⟩ next (FL,Fl,Ft) = ⟨1,⟨1,s,ty,li,O,0,pr,K⟩,next,0,0,0,0⟩ :: Ft ++ [⟨5,zCm,next,0,Fl,0,0⟩]):=⟨by simp [accL,qz],by simp [accE,hFl,qz]⟩
       have x2:w9.cell? (J b 2) = some (H next):=(U HM9).cells 2 _ rfl
       go_wp2_with fail
       refine (bh ⟨5,zCm,next,0,Fl,0,0⟩ w9 (U HE9) hl22).mono ?_
       rintro e oN ⟨rfl,hE10,hk10,ht10⟩
       have HEA:=Y hE10
       have HMA:Hid (MatS b hD.heap.size oN (next + 1) vqm FL ⟨next,s,tk pr,Fl,li,K⟩ (.slice av Ft.length cv) Ft):=matS_told (U HM9) ht10 (U HE9).erow hmS hSb (fun g hg e=>by have:=U HVT g hg; have:=((U HE9).erow.lt g e).1; omega)
       have HKA:=Y (zi (U HKw9) hk10)
       clear hE10 hk10 ht10 x2
       go_wp2_with fail
       refine U xq _ _ ?_
       clear xq
       have zf0:oN.cell? (J b 0) = some (H (next + 1)):=(U HMA).cells 0 _ rfl
       obtain ⟨aF,cF,hF⟩:=zQ (U HMA).orow
       have zf1:oN.cell? (J b 1) = some (.slice aF (FL).length cF):=by rw [← hF]; exact (U HMA).cells 1 _ rfl
       obtain ⟨voF,ko⟩:=U HEA
       have zm1:oN.cell? (J mb 1) = some (H next):=ko.cells 1 _ rfl
       have zm2:oN.cell? (J mb 2) = some (.slice a l.length E):=ko.cells 2 _ rfl
       have fm1:oN.frozen? (J mb 1) = false:=(ko.there 1 (by omega)).2
       have fm2:oN.frozen? (J mb 2) = false:=(ko.there 2 (by omega)).2
       have pz:=Y (ens_book ko (next + 1) (zF (hF ▸ (U HMA).orow) hBS))
       have pA:Hid (KeptBut mb B w _):=zi (U HKA) (zi (bB oN 1 (H (next + 1))) (bB _ 2 (.slice aF (FL).length cF)))
       generalize (FL).length = nF at pz pA zf1
       clear ko
       go_wp2_with fail
       go_end0
       exact ⟨rfl,⟨_,_,voF,by rw [(U HAL).1,(U HAL).2]; exact U pz⟩,U pA⟩
      ·have HAL:Hid (accL ⟨kk,s,ty,li,O,ii,pr,K⟩ next (FL,Fl,Ft) = FL ++ [(⟨next,s,tk pr,Fl,li,K⟩:Od)]∧accE ⟨kk,s,ty,li,O,ii,pr,K⟩ next (FL,Fl,Ft) = ⟨1,⟨1,s,ty,li,O,0,pr,K⟩,next,0,0,0,0⟩ :: Ft ++ [⟨4,zCm,next,0,Fl,0,0⟩]):=⟨by simp [accL,qz,hFl],by simp [accE,hFl,qz]⟩
       go_wp2_with fail
       refine (rest_took b hD.heap.size (next + 1) vqm FL ⟨next,s,tk pr,Fl,li,K⟩ _ Ft w9 (U HM9) (by have:=(U oC).1.len; omega)).mono ?_
       rintro e oN ⟨vqr,rfl,hMr,kI⟩
       have HE10:=Y (ens_far (U HE9) (U HM9) kI (U hq6) hmS hSb)
       have HMr:=Y hMr
       have HKw10:Hid (KeptBut mb B w oN):=zi (U HKw9) ⟨kI.os,kI.tape,kI.output,kI.size,fun k hk _=>kI.block k (by have:=(U HM9).le; omega) (by omega) (fun e=>by have:=((U HM9).orow.lt k e.symm).1; omega)⟩
       have x2:oN.cell? (J b 2) = some (H next):=hMr.cells 2 _ rfl
       clear hMr kI HE9 HM9
       go_wp2_with fail
       refine (bh ⟨4,zCm,next,0,Fl,0,0⟩ oN (U HE10) hl22).mono ?_
       rintro e w11 ⟨rfl,hE11,hk11,ht11⟩
       have HEA:=Y hE11
       have HMA:Hid (MatS b hD.heap.size w11 (next + 1) vqr (FL ++ [(⟨next,s,tk pr,Fl,li,K⟩:Od)]) ⟨next,s,tk pr,Fl,li,K⟩ (.slice av Ft.length cv) Ft):=matS_told (U HMr) ht11 (U HE10).erow hmS hSb (fun g hg e=>by have:=U HVT g hg; have:=((U HE10).erow.lt g e).1; omega)
       have HKA:=Y (zi (U HKw10) hk11)
       clear hE11 hk11 ht11 x2
       go_wp2_with fail
       refine U xq _ _ ?_
       clear xq
       have zf0:w11.cell? (J b 0) = some (H (next + 1)):=(U HMA).cells 0 _ rfl
       obtain ⟨aF,cF,hF⟩:=zQ (U HMA).orow
       have zf1:w11.cell? (J b 1) = some (.slice aF (FL ++ [(⟨next,s,tk pr,Fl,li,K⟩:Od)]).length cF):=by rw [← hF]; exact (U HMA).cells 1 _ rfl
       obtain ⟨voF,ko⟩:=U HEA
       have zm1:w11.cell? (J mb 1) = some (H next):=ko.cells 1 _ rfl
       have zm2:w11.cell? (J mb 2) = some (.slice a l.length E):=ko.cells 2 _ rfl
       have fm1:w11.frozen? (J mb 1) = false:=(ko.there 1 (by omega)).2
       have fm2:w11.frozen? (J mb 2) = false:=(ko.there 2 (by omega)).2
       have pz:=Y (ens_book ko (next + 1) (zF (hF ▸ (U HMA).orow) hBS))
       have pA:Hid (KeptBut mb B w _):=zi (U HKA) (zi (bB w11 1 (H (next + 1))) (bB _ 2 (.slice aF (FL ++ [(⟨next,s,tk pr,Fl,li,K⟩:Od)]).length cF)))
       generalize (FL ++ [(⟨next,s,tk pr,Fl,li,K⟩:Od)]).length = nF at pz pA zf1
       clear ko
       go_wp2_with fail
       go_end0
       exact ⟨rfl,⟨_,_,voF,by rw [(U HAL).1,(U HAL).2]; exact U pz⟩,U pA⟩
     ·have HAL:Hid (accL ⟨kk,s,ty,li,O,ii,pr,K⟩ next (FL,Fl,Ft) = FL∧accE ⟨kk,s,ty,li,O,ii,pr,K⟩ next (FL,Fl,Ft) = ⟨1,⟨1,s,ty,li,O,0,pr,K⟩,next,0,0,0,0⟩ :: Ft):=⟨by simp [accL,hFl],by simp [accE,hFl]⟩
      go_wp2_with fail
      refine U xq _ _ ?_
      clear xq
      have zf0:wr.cell? (J b 0) = some (H (next + 1)):=(U pC).cells 0 _ rfl
      obtain ⟨aF,cF,hF⟩:=zQ (U pC).orow
      have zf1:wr.cell? (J b 1) = some (.slice aF (FL).length cF):=by rw [← hF]; exact (U pC).cells 1 _ rfl
      obtain ⟨voF,ko⟩:=U HE8
      have zm1:wr.cell? (J mb 1) = some (H next):=ko.cells 1 _ rfl
      have zm2:wr.cell? (J mb 2) = some (.slice a l.length E):=ko.cells 2 _ rfl
      have fm1:wr.frozen? (J mb 1) = false:=(ko.there 1 (by omega)).2
      have fm2:wr.frozen? (J mb 2) = false:=(ko.there 2 (by omega)).2
      have pz:=Y (ens_book ko (next + 1) (zF (hF ▸ (U pC).orow) hBS))
      have pA:Hid (KeptBut mb B w _):=zi (U HKw8) (zi (bB wr 1 (H (next + 1))) (bB _ 2 (.slice aF (FL).length cF)))
      generalize (FL).length = nF at pz pA zf1
      clear ko
      go_wp2_with fail
      go_end0
      exact ⟨rfl,⟨_,_,voF,by rw [(U HAL).1,(U HAL).2]; exact U pz⟩,U pA⟩
end Go.Proofs.YtbakanofkghmiaaGreat
